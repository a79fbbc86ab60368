/- DERIVED. Steps of a walk's tree; packets, pairs. -/
import Derived.Test.YtmphcgafegmheaaDcon
namespace Go.Proofs.Ytmphcgafegmheaa
open Go.Dx
set_option linter.unusedVariables false
set_option linter.unusedSimpArgs false
theorem res_con {C : List Con} {post : List DV → Prop} {i : Nat} {zs : List E} {k : T (List E)} {r : List DV} {d : Con} (hd : C[i]? = some d) (hp : d.pre (zs.map (E.top r))) (h : allB (resB d.res) fun ys => d.post (zs.map (E.top r)) ys → T.res C post k (r ++ ys)) : T.res C post (.con i zs k) r := by
  simp only [T.res, hd]; exact ⟨hp, h⟩
theorem res_ite {C : List Con} {post : List DV → Prop} {b : B} {t e : T (List E)} {r : List DV} (h : b.prop r → T.res C post t r) (k : ¬ b.prop r → T.res C post e r) : T.res C post (.ite b t e) r := ⟨h, k⟩
theorem res_both {C : List Con} {post : List DV → Prop} {t e : T (List E)} {r : List DV} (h : T.res C post t r) (k : T.res C post e r) : T.res C post (.both t e) r := ⟨h, k⟩
theorem res_ok {C : List Con} {post : List DV → Prop} {b : B} {t : T (List E)} {r : List DV} (h : b.prop r) (k : T.res C post t r) : T.res C post (.ite b t .fail) r := ⟨fun _ => k, fun q => absurd h q⟩
theorem res_chk {C : List Con} {post : List DV → Prop} {i o : Nat} {zs : List E} {r : List DV} {d : Con} (hd : C[i]? = some d) (h : d.pre (r.take o ++ zs.map (E.top r))) (k : d.mea (r.take o ++ zs.map (E.top r)) < d.mea (r.take (o + zs.length))) : T.res C post (.chk i o zs) r := by
  simp only [T.res, hd]; exact ⟨h, k⟩
theorem res_lop {C : List Con} {post : List DV → Prop} {i m : Nat} {zs : List E} {k : T (List E)} {r : List DV} {d : Con} (hd : C[i]? = some d) (h : d.pre (r ++ zs.map (E.top r))) (q : allB d.bnd fun ys => d.pre (r ++ ys) → T.res C post k (r ++ (ys ++ List.replicate m (.n 0)))) : T.res C post (.lop i zs m k) r := by
  simp only [T.res, hd]; exact ⟨h, q⟩
theorem res_dat {C : List Con} {post : List DV → Prop} {f : DOp} {xs : List E} {k : T (List E)} {r : List DV} (v : DV) (e : f.fn (xs.map (E.val r)) = v) (h : T.res C post k (r ++ [v])) : T.res C post (.dat f xs k) r := by subst e; exact h
theorem len_nn (d : DV) : 0 ≤ d.len := d.len_rng.1
theorem n_inj {x y : Int} (h : [DV.n x] = [DV.n y]) : x = y := by simpa using h
theorem wI {x : Int} (h : -9223372036854775808 ≤ x) (k : x ≤ 9223372036854775807) : IntKind.i64.wrap x = x :=
  wrap_in .i64 x (by simpa [kmin, IntKind.signed, IntKind.bits] using h) (by simpa [kmax, IntKind.signed, IntKind.bits] using k)
theorem clampB_i64 {x : Int} (h : -9223372036854775808 ≤ x) (k : x ≤ 9223372036854775807) : clampB x = x := by unfold clampB; rw [if_pos (by omega)]
theorem conv {a b : Prop} (e : a = b) (h : a) : b := e ▸ h
theorem res_lop_of {C : List Con} {post : List DV → Prop} {i m : Nat} {zs : List E} {k : T (List E)} {r : List DV} {d : Con} {P : Prop} {Q : Prop} (hd : C[i]? = some d) (e1 : P = d.pre (r ++ zs.map (E.top r))) (e2 : Q = allB d.bnd fun ys => d.pre (r ++ ys) → T.res C post k (r ++ (ys ++ List.replicate m (.n 0)))) (h : P) (q : Q) : T.res C post (.lop i zs m k) r :=
  res_lop hd (e1 ▸ h) (e2 ▸ q)
theorem res_chk_of {C : List Con} {post : List DV → Prop} {i o : Nat} {zs : List E} {r : List DV} {d : Con} {P : Prop} {a b : Nat} (hd : C[i]? = some d) (e1 : P = d.pre (r.take o ++ zs.map (E.top r))) (e2 : a = d.mea (r.take o ++ zs.map (E.top r))) (e3 : b = d.mea (r.take (o + zs.length))) (h : P) (k : a < b) : T.res C post (.chk i o zs) r :=
  res_chk hd (e1 ▸ h) (by rw [← e2, ← e3]; exact k)
theorem yes {p : Prop} (h : p) : [DV.n 1] = yn p := by unfold yn; rw [if_pos h]
theorem no {p : Prop} (h : ¬ p) : [DV.n 0] = yn p := by unfold yn; rw [if_neg h]
theorem yn_in {c : Prop} {x : Int} (h : [DV.n x] = yn c) : (x ≠ 0 ∧ c) ∨ (x = 0 ∧ ¬ c) := by
  unfold yn at h
  by_cases q : c
  · rw [if_pos q] at h; have := n_inj h; exact .inl ⟨by omega, q⟩
  · rw [if_neg q] at h; have := n_inj h; exact .inr ⟨this, q⟩
theorem yn_01 {c : Prop} {x : Int} (h : [DV.n x] = yn c) : (x = 1 ∧ c) ∨ (x = 0 ∧ ¬ c) := by
  unfold yn at h
  by_cases q : c
  · rw [if_pos q] at h; have := n_inj h; exact .inl ⟨this, q⟩
  · rw [if_neg q] at h; have := n_inj h; exact .inr ⟨this, q⟩
/-- One more of a list. -/
theorem take_next {α : Type} {l : List α} {i : Int} (d : α) (h0 : 0 ≤ i) (h1 : i < l.length) : l.take (i + 1).toNat = l.take i.toNat ++ [l.getD i.toNat d] := by
  have h2 : i.toNat < l.length := by omega
  rw [show (i + 1).toNat = i.toNat + 1 by omega, List.take_add_one, List.getElem?_eq_getElem h2, List.getD_eq_getElem?_getD, List.getElem?_eq_getElem h2]
  rfl
theorem drop_next {α : Type} {l : List α} {i : Int} (d : α) (h0 : 0 ≤ i) (h1 : i < l.length) : l.drop i.toNat = l.getD i.toNat d :: l.drop (i + 1).toNat := by
  have h2 : i.toNat < l.length := by omega
  rw [show (i + 1).toNat = i.toNat + 1 by omega, List.drop_eq_getElem_cons h2, List.getD_eq_getElem?_getD, List.getElem?_eq_getElem h2]
  rfl
theorem len_of {l : List (List DV)} {mx : Nat} {row : List Sh} (h : HasSh (.sl mx row) (.sl none 0 l)) (hm : mx ≤ 9223372036854775807) : (DV.sl none 0 l).len = l.length := by
  simp only [HasSh, DV.els] at h
  exact clampL_eq (Nat.le_trans h.1 hm)
/-! Packets and pairs in data. -/
theorem int_in {d : DV} (h : HasSh i64s d) : ∃ x, d = .n x ∧ -9223372036854775808 ≤ x ∧ x ≤ 9223372036854775807 := by
  simp only [HasSh] at h
  obtain ⟨x, h1, h2, _⟩ := h
  exact ⟨x, h1, h2⟩
theorem pkt_in {e : List DV} (h : HasShs pkt e) : ∃ x y z, e = [.n x, .n y, z] ∧ (-9223372036854775808 ≤ x ∧ x ≤ 9223372036854775807) ∧ (-9223372036854775808 ≤ y ∧ y ≤ 9223372036854775807) ∧ HasSh bytes z := by
  match e, h with
  | [a, b, c], h =>
    simp only [HasShs, and_true] at h
    obtain ⟨x, rfl, hx⟩ := int_in h.1
    obtain ⟨y, rfl, hy⟩ := int_in h.2.1
    exact ⟨x, y, c, rfl, hx, hy, h.2.2⟩
  | [], h => simp [HasShs] at h
  | [_], h => simp [HasShs] at h
  | [_, _], h => simp [HasShs] at h
  | _ :: _ :: _ :: _ :: _, h => simp [HasShs] at h
theorem pair_in {e : List DV} (h : HasShs pair e) : ∃ x y, e = [.n x, .n y] ∧ (-9223372036854775808 ≤ x ∧ x ≤ 9223372036854775807) ∧ (-9223372036854775808 ≤ y ∧ y ≤ 9223372036854775807) := by
  match e, h with
  | [a, b], h =>
    simp only [HasShs, and_true] at h
    obtain ⟨x, rfl, hx⟩ := int_in h.1
    obtain ⟨y, rfl, hy⟩ := int_in h.2
    exact ⟨x, y, rfl, hx, hy⟩
  | [], h => simp [HasShs] at h
  | [_], h => simp [HasShs] at h
  | _ :: _ :: _ :: _, h => simp [HasShs] at h
theorem bytes_len {z : DV} (h : HasSh bytes z) : z.len = (numsOf z.els).length := by
  simp only [HasSh] at h
  show clampL z.els.length = _
  rw [clampL_eq h.1, numsOf, List.length_map]
theorem pks_len (Q : List (List DV)) : (pks (.sl none 0 Q)).length = Q.length := by simp [pks, DV.els]
theorem prs_len (A : List (List DV)) : (prs (.sl none 0 A)).length = A.length := by simp [prs, DV.els]
theorem pk_at {Q : List (List DV)} {mx : Nat} (hQ : HasSh (.sl mx pkt) (.sl none 0 Q)) {i : Int} (h0 : 0 ≤ i) (h1 : i < Q.length) :
    (pks (.sl none 0 Q)).getD i.toNat zero = ((DV.sl none 0 Q).at i 0, (DV.sl none 0 Q).at i 1, numsOf ((DV.sl none 0 Q).cell i 2).els) ∧ HasSh bytes ((DV.sl none 0 Q).cell i 2) := by
  have h2 : i.toNat < Q.length := by omega
  simp only [HasSh, DV.els] at hQ
  obtain ⟨x, y, z, he, hx, hy, hz⟩ := pkt_in (hQ.2 _ (List.getElem_mem h2))
  have e0 : (DV.sl none 0 Q).els.getD i.toNat [] = [.n x, .n y, z] := by
    show Q.getD i.toNat [] = _
    rw [List.getD_eq_getElem?_getD, List.getElem?_eq_getElem h2, ← he]; rfl
  have e1 : (DV.sl none 0 Q).at i 0 = x := by
    show (((DV.sl none 0 Q).els.getD i.toNat []).getD 0 (.n 0)).cint = x
    rw [e0]; exact clampB_i64 hx.1 hx.2
  have e2 : (DV.sl none 0 Q).at i 1 = y := by
    show (((DV.sl none 0 Q).els.getD i.toNat []).getD 1 (.n 0)).cint = y
    rw [e0]; exact clampB_i64 hy.1 hy.2
  have e3 : (DV.sl none 0 Q).cell i 2 = z := by
    show ((DV.sl none 0 Q).els.getD i.toNat []).getD 2 (.n 0) = z
    rw [e0]; rfl
  rw [e1, e2, e3]
  refine ⟨?_, hz⟩
  rw [List.getD_eq_getElem?_getD]
  show ((Q.map pkE)[i.toNat]?).getD zero = _
  rw [List.getElem?_map, List.getElem?_eq_getElem h2, he]
  rfl
theorem pr_at {A : List (List DV)} {mx : Nat} (hA : HasSh (.sl mx pair) (.sl none 0 A)) {i : Int} (h0 : 0 ≤ i) (h1 : i < A.length) :
    (prs (.sl none 0 A)).getD i.toNat (0, 0) = ((DV.sl none 0 A).at i 0, (DV.sl none 0 A).at i 1) := by
  have h2 : i.toNat < A.length := by omega
  simp only [HasSh, DV.els] at hA
  obtain ⟨x, y, he, hx, hy⟩ := pair_in (hA.2 _ (List.getElem_mem h2))
  have e0 : (DV.sl none 0 A).els.getD i.toNat [] = [.n x, .n y] := by
    show A.getD i.toNat [] = _
    rw [List.getD_eq_getElem?_getD, List.getElem?_eq_getElem h2, ← he]; rfl
  have e1 : (DV.sl none 0 A).at i 0 = x := by
    show (((DV.sl none 0 A).els.getD i.toNat []).getD 0 (.n 0)).cint = x
    rw [e0]; exact clampB_i64 hx.1 hx.2
  have e2 : (DV.sl none 0 A).at i 1 = y := by
    show (((DV.sl none 0 A).els.getD i.toNat []).getD 1 (.n 0)).cint = y
    rw [e0]; exact clampB_i64 hy.1 hy.2
  rw [e1, e2, List.getD_eq_getElem?_getD]
  show ((A.map prE)[i.toNat]?).getD (0, 0) = _
  rw [List.getElem?_map, List.getElem?_eq_getElem h2, he]
  rfl
theorem allPk_0 (q : List P3) : allPk q 0 := fun p hp => by simp at hp
theorem allPk_next {q : List P3} {i : Int} (h0 : 0 ≤ i) (h1 : i < q.length) : allPk q (i + 1) ↔ allPk q i ∧ pkP (q.getD i.toNat zero) := by
  unfold allPk
  rw [take_next zero h0 h1]
  simp only [List.mem_append, List.mem_singleton]
  constructor
  · exact fun h => ⟨fun p hp => h p (.inl hp), h _ (.inr rfl)⟩
  · rintro ⟨h, k⟩ p (hp | rfl)
    · exact h p hp
    · exact k
theorem ltP_trans {a b c : Int × Int} (h : ltP a b) (k : ltP b c) : ltP a c := by unfold ltP at *; omega
theorem ltP_irr {a : Int × Int} : ¬ ltP a a := by unfold ltP; omega
theorem ltP_tri {a b : Int × Int} (h : ¬ ltP a b) (k : a ≠ b) : ltP b a := by
  unfold ltP at *
  obtain ⟨a1, a2⟩ := a; obtain ⟨b1, b2⟩ := b
  have : ¬ (a1 = b1 ∧ a2 = b2) := fun e => k (by rw [e.1, e.2])
  simp only at *
  omega
theorem allPr_0 (a : List (Int × Int)) : allPr a 0 := ⟨fun p hp => by simp at hp, by simp⟩
theorem take_last {α : Type} {l : List α} {i : Int} (d : α) (h0 : 0 < i) (h1 : i ≤ l.length) : l.take i.toNat = l.take (i - 1).toNat ++ [l.getD (i - 1).toNat d] := by
  have := take_next (l := l) (i := i - 1) d (by omega) (by omega)
  rw [show i - 1 + 1 = i by omega] at this; exact this
/-- One more pair: valid, and behind the one before. -/
theorem allPr_next {a : List (Int × Int)} {i : Int} (h0 : 0 ≤ i) (h1 : i < a.length) (h : allPr a i) : allPr a (i + 1) ↔ prP (a.getD i.toNat (0, 0)) ∧ (0 < i → ltP (a.getD (i - 1).toNat (0, 0)) (a.getD i.toNat (0, 0))) := by
  unfold allPr at *
  rw [take_next (0, 0) h0 h1, List.pairwise_append]
  simp only [List.mem_append, List.mem_singleton, List.pairwise_singleton, true_and]
  constructor
  · rintro ⟨h1', h2, h3⟩
    refine ⟨h1' _ (.inr rfl), fun hp => h3 _ ?_ _ rfl⟩
    rw [take_last (0, 0) hp (by omega)]
    exact List.mem_append_right _ (List.mem_singleton_self _)
  · rintro ⟨k1, k2⟩
    refine ⟨?_, h.2, ?_⟩
    · rintro p (hp | rfl)
      · exact h.1 p hp
      · exact k1
    · rintro x hx y rfl
      by_cases hi : 0 < i
      · have k2 := k2 hi
        have hs := h.2
        rw [take_last (0, 0) hi (by omega)] at hx hs
        rcases List.mem_append.1 hx with hx | hx
        · rw [List.pairwise_append] at hs
          exact ltP_trans (hs.2.2 x hx _ (List.mem_singleton_self _)) k2
        · rw [List.mem_singleton.1 hx]; exact k2
      · rw [show i.toNat = 0 by omega] at hx
        simp at hx
end Go.Proofs.Ytmphcgafegmheaa
