/- DERIVED. Steps of a walk's tree; sectors, writes. -/
import Derived.Test.YtdhdpgdifphfkaaEcon
namespace Go.Proofs.Ytdhdpgdifphfkaa
open Go.Dx
set_option linter.unusedVariables false
set_option linter.unusedSimpArgs false
theorem res_con {C : List Con} {post : List DV → Prop} {i : Nat} {zs : List E} {k : T (List E)} {r : List DV} {d : Con} (hd : C[i]? = some d) (hp : d.pre (zs.map (E.top r))) (h : allB (resB d.res) fun ys => d.post (zs.map (E.top r)) ys → T.res C post k (r ++ ys)) : T.res C post (.con i zs k) r := by
  simp only [T.res, hd]; exact ⟨hp, h⟩
theorem res_ite {C : List Con} {post : List DV → Prop} {b : B} {t e : T (List E)} {r : List DV} (h : b.prop r → T.res C post t r) (k : ¬ b.prop r → T.res C post e r) : T.res C post (.ite b t e) r := ⟨h, k⟩
theorem res_both {C : List Con} {post : List DV → Prop} {t e : T (List E)} {r : List DV} (h : T.res C post t r) (k : T.res C post e r) : T.res C post (.both t e) r := ⟨h, k⟩
theorem res_ok {C : List Con} {post : List DV → Prop} {b : B} {t : T (List E)} {r : List DV} (h : b.prop r) (k : T.res C post t r) : T.res C post (.ite b t .fail) r := ⟨fun _ => k, fun q => absurd h q⟩
theorem res_chk {C : List Con} {post : List DV → Prop} {i o : Nat} {zs : List E} {r : List DV} {d : Con} (hd : C[i]? = some d) (h : d.pre (r.take o ++ zs.map (E.top r))) (k : d.mea (r.take o ++ zs.map (E.top r)) < d.mea (r.take (o + zs.length))) : T.res C post (.chk i o zs) r := by
  simp only [T.res, hd]; exact ⟨h, k⟩
theorem res_lop {C : List Con} {post : List DV → Prop} {i m : Nat} {zs : List E} {k : T (List E)} {r : List DV} {d : Con} (hd : C[i]? = some d) (h : d.pre (r ++ zs.map (E.top r))) (q : allB d.bnd fun ys => d.pre (r ++ ys) → T.res C post k (r ++ (ys ++ List.replicate m (.n 0)))) : T.res C post (.lop i zs m k) r := by
  simp only [T.res, hd]; exact ⟨h, q⟩
theorem res_dat {C : List Con} {post : List DV → Prop} {f : DOp} {xs : List E} {k : T (List E)} {r : List DV} (v : DV) (e : f.fn (xs.map (E.val r)) = v) (h : T.res C post k (r ++ [v])) : T.res C post (.dat f xs k) r := by subst e; exact h
theorem len_nn (d : DV) : 0 ≤ d.len := d.len_rng.1
theorem n_inj {x y : Int} (h : [DV.n x] = [DV.n y]) : x = y := by simpa using h
theorem wI {x : Int} (h : -9223372036854775808 ≤ x) (k : x ≤ 9223372036854775807) : IntKind.i64.wrap x = x :=
  wrap_in .i64 x (by simpa [kmin, IntKind.signed, IntKind.bits] using h) (by simpa [kmax, IntKind.signed, IntKind.bits] using k)
theorem clampB_i64 {x : Int} (h : -9223372036854775808 ≤ x) (k : x ≤ 9223372036854775807) : clampB x = x := by unfold clampB; rw [if_pos (by omega)]
theorem conv {a b : Prop} (e : a = b) (h : a) : b := e ▸ h
theorem res_lop_of {C : List Con} {post : List DV → Prop} {i m : Nat} {zs : List E} {k : T (List E)} {r : List DV} {d : Con} {P : Prop} {Q : Prop} (hd : C[i]? = some d) (e1 : P = d.pre (r ++ zs.map (E.top r))) (e2 : Q = allB d.bnd fun ys => d.pre (r ++ ys) → T.res C post k (r ++ (ys ++ List.replicate m (.n 0)))) (h : P) (q : Q) : T.res C post (.lop i zs m k) r :=
  res_lop hd (e1 ▸ h) (e2 ▸ q)
theorem res_chk_of {C : List Con} {post : List DV → Prop} {i o : Nat} {zs : List E} {r : List DV} {d : Con} {P : Prop} {a b : Nat} (hd : C[i]? = some d) (e1 : P = d.pre (r.take o ++ zs.map (E.top r))) (e2 : a = d.mea (r.take o ++ zs.map (E.top r))) (e3 : b = d.mea (r.take (o + zs.length))) (h : P) (k : a < b) : T.res C post (.chk i o zs) r :=
  res_chk hd (e1 ▸ h) (by rw [← e2, ← e3]; exact k)
theorem yes {p : Prop} (h : p) : [DV.n 1] = yn p := by unfold yn; rw [if_pos h]
theorem no {p : Prop} (h : ¬ p) : [DV.n 0] = yn p := by unfold yn; rw [if_neg h]
theorem yn_in {c : Prop} {x : Int} (h : [DV.n x] = yn c) : (x ≠ 0 ∧ c) ∨ (x = 0 ∧ ¬ c) := by
  unfold yn at h
  by_cases q : c
  · rw [if_pos q] at h; have := n_inj h; exact .inl ⟨by omega, q⟩
  · rw [if_neg q] at h; have := n_inj h; exact .inr ⟨this, q⟩
theorem yn_01 {c : Prop} {x : Int} (h : [DV.n x] = yn c) : (x = 1 ∧ c) ∨ (x = 0 ∧ ¬ c) := by
  unfold yn at h
  by_cases q : c
  · rw [if_pos q] at h; have := n_inj h; exact .inl ⟨this, q⟩
  · rw [if_neg q] at h; have := n_inj h; exact .inr ⟨this, q⟩
/-- One more of a list. -/
theorem take_next {α : Type} {l : List α} {i : Int} (d : α) (h0 : 0 ≤ i) (h1 : i < l.length) : l.take (i + 1).toNat = l.take i.toNat ++ [l.getD i.toNat d] := by
  have h2 : i.toNat < l.length := by omega
  rw [show (i + 1).toNat = i.toNat + 1 by omega, List.take_add_one, List.getElem?_eq_getElem h2, List.getD_eq_getElem?_getD, List.getElem?_eq_getElem h2]
  rfl
theorem drop_next {α : Type} {l : List α} {i : Int} (d : α) (h0 : 0 ≤ i) (h1 : i < l.length) : l.drop i.toNat = l.getD i.toNat d :: l.drop (i + 1).toNat := by
  have h2 : i.toNat < l.length := by omega
  rw [show (i + 1).toNat = i.toNat + 1 by omega, List.drop_eq_getElem_cons h2, List.getD_eq_getElem?_getD, List.getElem?_eq_getElem h2]
  rfl
theorem len_of {l : List (List DV)} {mx : Nat} {row : List Sh} (h : HasSh (.sl mx row) (.sl none 0 l)) (hm : mx ≤ 9223372036854775807) : (DV.sl none 0 l).len = l.length := by
  simp only [HasSh, DV.els] at h
  exact clampL_eq (Nat.le_trans h.1 hm)
theorem cv {a b : Prop} (h : a) (e : a = b) : b := e ▸ h
theorem hold {c : Prop} {x : Int} (h : [DV.n x] = yn c) (k : c) : x = 1 := ((yn_01 h).resolve_right fun m => m.2 k).1
theorem one_n {b : Int} (h : b = 1) : [DV.n b] = [DV.n 1] := by rw [h]
theorem getD_in {α : Type} {l : List α} {i : Nat} (d : α) (h : i < l.length) : l.getD i d ∈ l := by
  rw [List.getD_eq_getElem?_getD, List.getElem?_eq_getElem h]
  exact List.getElem_mem h
theorem take_eq_next {α : Type} {l m : List α} {i : Int} (d : α) (h0 : 0 ≤ i) (h1 : i < l.length) (h2 : i < m.length) (h : l.take i.toNat = m.take i.toNat) (e : l.getD i.toNat d = m.getD i.toNat d) : l.take (i + 1).toNat = m.take (i + 1).toNat := by
  rw [take_next d h0 h1, take_next d h0 h2, h, e]
theorem int_in {d : DV} (h : HasSh i64s d) : ∃ x, d = .n x ∧ -9223372036854775808 ≤ x ∧ x ≤ 9223372036854775807 := by
  simp only [HasSh] at h
  obtain ⟨x, h1, h2, _⟩ := h
  exact ⟨x, h1, h2⟩
theorem wr_in {e : List DV} (h : HasShs wr e) : ∃ x z, e = [.n x, z] ∧ (-9223372036854775808 ≤ x ∧ x ≤ 9223372036854775807) ∧ HasSh bytes z := by
  match e, h with
  | [a, b], h =>
    simp only [HasShs, and_true] at h
    obtain ⟨x, rfl, hx⟩ := int_in h.1
    exact ⟨x, b, rfl, hx, h.2⟩
  | [], h => simp [HasShs] at h
  | [_], h => simp [HasShs] at h
  | _ :: _ :: _ :: _, h => simp [HasShs] at h
theorem sec_in {e : List DV} (h : HasShs [bytes] e) : ∃ z, e = [z] ∧ HasSh bytes z := by
  match e, h with
  | [a], h => simp only [HasShs, and_true] at h; exact ⟨a, rfl, h⟩
  | [], h => simp [HasShs] at h
  | _ :: _ :: _, h => simp [HasShs] at h
theorem bytes_len {z : DV} (h : HasSh bytes z) : z.len = (bys z).length := by
  simp only [HasSh] at h
  show clampL z.els.length = _
  rw [clampL_eq h.1, bys, numsOf, List.length_map]
theorem bytes_in {z : DV} (h : HasSh bytes z) : ∀ x ∈ numsOf z.els, 0 ≤ x ∧ x ≤ 255 := fun x hx => by
  simp only [HasSh] at h
  obtain ⟨e, he, rfl⟩ := List.mem_map.1 hx
  have := h.2 e he
  match e, this with
  | [a], this =>
    simp only [HasShs, HasSh, and_true] at this
    obtain ⟨y, rfl, hy, _⟩ := this
    exact hy
  | [], this => simp [HasShs] at this
  | _ :: _ :: _, this => simp [HasShs] at this
theorem strNums_inj : ∀ {xs ys : List Int}, (∀ x ∈ xs, 0 ≤ x ∧ x ≤ 255) → (∀ y ∈ ys, 0 ≤ y ∧ y ≤ 255) → strOfNums xs = strOfNums ys → xs = ys := fun {xs ys} hx hy h => by
  have h1 : (strOfNums xs).data.toList = (strOfNums ys).data.toList := by rw [h]
  rw [strOfNums_data, strOfNums_data] at h1
  have key : ∀ l : List Int, (∀ x ∈ l, 0 ≤ x ∧ x ≤ 255) → (l.map fun n => UInt8.ofNat n.toNat).map (fun u => (u.toNat : Int)) = l := fun l hl => by
    rw [List.map_map]
    refine (List.map_congr_left fun x hx => ?_).trans (List.map_id l)
    have := hl x hx
    simp only [Function.comp_apply, UInt8.toNat_ofNat', id]
    omega
  rw [← key xs hx, ← key ys hy, h1]
theorem sub_all {z : DV} (h : HasSh bytes z) : (z.els.take z.len.toNat).drop 0 = z.els := by
  rw [List.drop_zero, bytes_len h]
  simp [bys, numsOf]
theorem secs_len (S : List (List DV)) : (secs (.sl none 0 S)).length = S.length := by simp [secs, DV.els]
theorem pens_len (P : List (List DV)) : (pens (.sl none 0 P)).length = P.length := by simp [pens, DV.els]
theorem sec_at {S : List (List DV)} {mx : Nat} (hS : HasSh (.sl mx [bytes]) (.sl none 0 S)) {i : Int} (h0 : 0 ≤ i) (h1 : i < S.length) :
    (secs (.sl none 0 S)).getD i.toNat [] = bys ((DV.sl none 0 S).cell i 0) ∧ HasSh bytes ((DV.sl none 0 S).cell i 0) := by
  have h2 : i.toNat < S.length := by omega
  simp only [HasSh, DV.els] at hS
  obtain ⟨z, he, hz⟩ := sec_in (hS.2 _ (List.getElem_mem h2))
  have e0 : (DV.sl none 0 S).els.getD i.toNat [] = [z] := by
    show S.getD i.toNat [] = _
    rw [List.getD_eq_getElem?_getD, List.getElem?_eq_getElem h2, ← he]; rfl
  have e3 : (DV.sl none 0 S).cell i 0 = z := by
    show ((DV.sl none 0 S).els.getD i.toNat []).getD 0 (.n 0) = z
    rw [e0]; rfl
  rw [e3]
  refine ⟨?_, hz⟩
  rw [List.getD_eq_getElem?_getD]
  show ((S.map sece)[i.toNat]?).getD [] = _
  rw [List.getElem?_map, List.getElem?_eq_getElem h2, he]
  rfl
theorem pen_at {P : List (List DV)} {mx : Nat} (hP : HasSh (.sl mx wr) (.sl none 0 P)) {i : Int} (h0 : 0 ≤ i) (h1 : i < P.length) :
    (pens (.sl none 0 P)).getD i.toNat (0, []) = ((DV.sl none 0 P).at i 0, bys ((DV.sl none 0 P).cell i 1)) ∧ HasSh bytes ((DV.sl none 0 P).cell i 1) := by
  have h2 : i.toNat < P.length := by omega
  simp only [HasSh, DV.els] at hP
  obtain ⟨x, z, he, hx, hz⟩ := wr_in (hP.2 _ (List.getElem_mem h2))
  have e0 : (DV.sl none 0 P).els.getD i.toNat [] = [.n x, z] := by
    show P.getD i.toNat [] = _
    rw [List.getD_eq_getElem?_getD, List.getElem?_eq_getElem h2, ← he]; rfl
  have e1 : (DV.sl none 0 P).at i 0 = x := by
    show (((DV.sl none 0 P).els.getD i.toNat []).getD 0 (.n 0)).cint = x
    rw [e0]; exact clampB_i64 hx.1 hx.2
  have e3 : (DV.sl none 0 P).cell i 1 = z := by
    show ((DV.sl none 0 P).els.getD i.toNat []).getD 1 (.n 0) = z
    rw [e0]; rfl
  rw [e1, e3]
  refine ⟨?_, hz⟩
  rw [List.getD_eq_getElem?_getD]
  show ((P.map pene)[i.toNat]?).getD (0, []) = _
  rw [List.getElem?_map, List.getElem?_eq_getElem h2, he]
  rfl
/-! Checking. -/
theorem chk_yes {d : D4} (h : okD d) : [DV.n 0] = [DV.n (chkF d)] := by unfold chkF; rw [if_pos h]
theorem chk_no {d : D4} (h : ¬ okD d) : [DV.n 40] = [DV.n (chkF d)] := by unfold chkF; rw [if_neg h]
theorem chk_in {d : D4} {x : Int} (h : [DV.n x] = [DV.n (chkF d)]) : (x = 0 ∧ okD d) ∨ (x = 40 ∧ ¬ okD d) := by
  have h := n_inj h
  unfold chkF at h
  by_cases k : okD d
  · rw [if_pos k] at h; exact .inl ⟨h, k⟩
  · rw [if_neg k] at h; exact .inr ⟨h, k⟩
theorem allS_0 (s : Sec) : allS s 0 := fun x hx => by simp at hx
theorem allW_0 (s : Sec) (p : Pen) : allW s p 0 := fun x hx => by simp at hx
theorem allS_next {s : Sec} {i : Int} (h0 : 0 ≤ i) (h1 : i < s.length) (h : allS s i) (k : (s.getD i.toNat []).length = 128) : allS s (i + 1) := fun x hx => by
  rw [take_next [] h0 h1] at hx
  rcases List.mem_append.1 hx with m | m
  · exact h x m
  · rw [List.mem_singleton.1 m]; exact k
theorem allW_next {s : Sec} {p : Pen} {i : Int} (h0 : 0 ≤ i) (h1 : i < p.length) (h : allW s p i) (k : (0 ≤ (p.getD i.toNat (0, [])).1 ∧ (p.getD i.toNat (0, [])).1 < s.length) ∧ (p.getD i.toNat (0, [])).2.length = 128) : allW s p (i + 1) := fun x hx => by
  rw [take_next (0, []) h0 h1] at hx
  rcases List.mem_append.1 hx with m | m
  · exact h x m
  · rw [List.mem_singleton.1 m]; exact k
theorem ok_all {s : Sec} {p : Pen} {l t i j : Int} (h : (1 ≤ s.length ∧ s.length ≤ 4096) ∧ p.length ≤ 4096 ∧ (-1 ≤ l ∧ l ≤ 65536)) (hs : allS s i) (hi : s.length ≤ i) (hp : allW s p j) (hj : p.length ≤ j) : okD (s, p, l, t) := by
  refine ⟨h, fun x hx => hs x ?_, fun x hx => hp x ?_⟩
  · rw [List.take_of_length_le (by omega)]; exact hx
  · rw [List.take_of_length_le (by omega)]; exact hx
/-! What was written. -/
theorem pad_id {b : List Int} (h : b.length = 128) : padL b = b := by
  unfold padL
  rw [h, List.take_of_length_le (by omega)]; simp
theorem last_app (k : Int) : ∀ (l m : Pen) (b : List Int), lastP k (l ++ m) b = lastP k m (lastP k l b)
  | [], m, b => rfl
  | p :: l, m, b => last_app k l m _
theorem last_none (k : Int) : ∀ (l : Pen) (b : List Int), (∀ x ∈ l, x.1 ≠ k) → lastP k l b = b
  | [], b, _ => rfl
  | p :: l, b, h => by
    rw [lastP, if_neg (h p (List.mem_cons_self ..))]
    exact last_none k l b fun x hx => h x (List.mem_cons_of_mem _ hx)
theorem last_hit {k : Int} {l : Pen} {i : Int} {b : List Int} (h0 : 0 ≤ i) (h1 : i < l.length) (h : ∀ x ∈ l.drop (i + 1).toNat, x.1 ≠ k) (e : (l.getD i.toNat (0, [])).1 = k) : lastP k l b = (l.getD i.toNat (0, [])).2 := by
  have e1 := List.take_append_drop i.toNat l
  rw [drop_next (0, []) h0 h1] at e1
  have e2 : lastP k l b = lastP k (l.take i.toNat ++ l.getD i.toNat (0, []) :: l.drop (i + 1).toNat) b := by rw [e1]
  rw [e2, last_app, lastP, if_pos e, last_none k _ _ h]
theorem last_len {k : Int} : ∀ {l : Pen} {b : List Int}, (∀ x ∈ l, x.2.length = 128) → b.length = 128 → (lastP k l b).length = 128
  | [], b, _, h => h
  | p :: l, b, hl, h => by
    rw [lastP]
    refine last_len (fun x hx => hl x (List.mem_cons_of_mem _ hx)) ?_
    by_cases e : p.1 = k
    · rw [if_pos e]; exact hl p (List.mem_cons_self ..)
    · rw [if_neg e]; exact h
theorem last_next {k : Int} {l : Pen} {i : Int} {b : List Int} (h0 : 0 ≤ i) (h1 : i < l.length) : lastP k (l.take (i + 1).toNat) b = if (l.getD i.toNat (0, [])).1 = k then (l.getD i.toNat (0, [])).2 else lastP k (l.take i.toNat) b := by
  rw [take_next (0, []) h0 h1, last_app]; rfl
theorem do_next {s : Sec} {l : Pen} {i : Int} (h0 : 0 ≤ i) (h1 : i < l.length) : doP s (l.take (i + 1).toNat) = (doP s (l.take i.toNat)).set (l.getD i.toNat (0, [])).1.toNat (l.getD i.toNat (0, [])).2 := by
  rw [take_next (0, []) h0 h1]; unfold doP; rw [List.foldl_append]; rfl
theorem do_len (s : Sec) : ∀ (l : Pen) , (doP s l).length = s.length := by
  intro l
  unfold doP
  induction l generalizing s with
  | nil => rfl
  | cons p l ih => rw [List.foldl_cons, ih]; simp
/-! Answers. -/
theorem read_no {d : D4} {k : Int} (h : ¬ (runD d ∧ inD d k)) : (([], 40) : List Int × Int) = readQ d k := by unfold readQ; rw [if_neg h]
theorem read_yes {d : D4} {k : Int} (h : runD d ∧ inD d k) : ((lastP k d.2.1 (d.1.getD k.toNat []), 0) : List Int × Int) = readQ d k := by unfold readQ; rw [if_pos h]
theorem write_no {d : D4} {k : Int} {b : List Int} (h : ¬ (runD d ∧ inD d k)) : ((nil4, 40) : D4 × Int) = writeQ d k b := by unfold writeQ; rw [if_neg h]
theorem write_arg {d : D4} {k : Int} {b : List Int} (h : runD d ∧ inD d k) (m : ¬ b.length ≤ 128) : ((nil4, 1) : D4 × Int) = writeQ d k b := by unfold writeQ; rw [if_pos h, if_neg m]
theorem write_lim {d : D4} {k : Int} {b : List Int} (h : runD d ∧ inD d k) (m : b.length ≤ 128) (l : d.2.1.length = 4096) : ((nil4, 2) : D4 × Int) = writeQ d k b := by unfold writeQ; rw [if_pos h, if_pos m, if_pos l]
theorem write_yes {s : Sec} {p : Pen} {l t : Int} {k : Int} {b : List Int} (h : runD (s, p, l, t) ∧ inD (s, p, l, t) k) (m : b.length ≤ 128) (n : ¬ p.length = 4096) : (((s, p ++ [(k, padL b)], l, t), 0) : D4 × Int) = writeQ (s, p, l, t) k b := by unfold writeQ; rw [if_pos h, if_pos m, if_neg n]
theorem sync_no {d : D4} (h : ¬ runD d) : ((nil4, 40) : D4 × Int) = syncQ d := by unfold syncQ; rw [if_neg h]
theorem sync_stop {s : Sec} {p : Pen} {l t : Int} (h : runD (s, p, l, t)) (m : 0 ≤ l ∧ l < p.length) : (((tearL (doP s (p.take l.toNat)) (p.getD l.toNat (0, [])), [], 0, 1), 40) : D4 × Int) = syncQ (s, p, l, t) := by unfold syncQ; rw [if_pos h, if_pos m]
theorem sync_yes {s : Sec} {p : Pen} {l t : Int} (h : runD (s, p, l, t)) (m : ¬ (0 ≤ l ∧ l < p.length)) : (((doP s p, [], (if 0 ≤ l then l - p.length else l), 0), 0) : D4 × Int) = syncQ (s, p, l, t) := by unfold syncQ; rw [if_pos h, if_neg m]
theorem stop_no {d : D4} {l : Int} (h : ¬ runD d) : ((nil4, 40) : D4 × Int) = stopQ d l := by unfold stopQ; rw [if_neg h]
theorem stop_arg {d : D4} {l : Int} (h : runD d) (m : ¬ (0 ≤ l ∧ l ≤ 65536)) : ((nil4, 1) : D4 × Int) = stopQ d l := by unfold stopQ; rw [if_pos h, if_neg m]
theorem stop_yes {d : D4} {l : Int} (h : runD d) (m : 0 ≤ l ∧ l ≤ 65536) : (((d.1, d.2.1, l, d.2.2.2), 0) : D4 × Int) = stopQ d l := by unfold stopQ; rw [if_pos h, if_pos m]
theorem new_no {n : Int} (h : ¬ (1 ≤ n ∧ n ≤ 4096)) : ((nil4, 1) : D4 × Int) = newQ n := by unfold newQ; rw [if_neg h]
theorem new_yes {n : Int} (h : 1 ≤ n ∧ n ≤ 4096) : (((List.replicate n.toNat (List.replicate 128 0), [], -1, 0), 0) : D4 × Int) = newQ n := by unfold newQ; rw [if_pos h]
end Go.Proofs.Ytdhdpgdifphfkaa
