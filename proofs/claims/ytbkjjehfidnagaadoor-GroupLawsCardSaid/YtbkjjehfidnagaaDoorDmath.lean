/- DERIVED. Steps of a walk's tree. -/
import Derived.Test.YtbkjjehfidnagaaDoorDcon
namespace Go.Proofs.YtbkjjehfidnagaaDoor
open Go.Dx
set_option linter.unusedVariables false
set_option linter.unusedSimpArgs false
theorem res_con {C : List Con} {post : List DV → Prop} {i : Nat} {zs : List E} {k : T (List E)} {r : List DV} {d : Con} (hd : C[i]? = some d) (hp : d.pre (zs.map (E.top r))) (h : allB (resB d.res) fun ys => d.post (zs.map (E.top r)) ys → T.res C post k (r ++ ys)) : T.res C post (.con i zs k) r := by
  simp only [T.res, hd]; exact ⟨hp, h⟩
theorem res_ite {C : List Con} {post : List DV → Prop} {b : B} {t e : T (List E)} {r : List DV} (h : b.prop r → T.res C post t r) (k : ¬ b.prop r → T.res C post e r) : T.res C post (.ite b t e) r := ⟨h, k⟩
theorem res_both {C : List Con} {post : List DV → Prop} {t e : T (List E)} {r : List DV} (h : T.res C post t r) (k : T.res C post e r) : T.res C post (.both t e) r := ⟨h, k⟩
theorem res_ok {C : List Con} {post : List DV → Prop} {b : B} {t : T (List E)} {r : List DV} (h : b.prop r) (k : T.res C post t r) : T.res C post (.ite b t .fail) r := ⟨fun _ => k, fun q => absurd h q⟩
theorem res_chk {C : List Con} {post : List DV → Prop} {i o : Nat} {zs : List E} {r : List DV} {d : Con} (hd : C[i]? = some d) (h : d.pre (r.take o ++ zs.map (E.top r))) (k : d.mea (r.take o ++ zs.map (E.top r)) < d.mea (r.take (o + zs.length))) : T.res C post (.chk i o zs) r := by
  simp only [T.res, hd]; exact ⟨h, k⟩
theorem res_lop {C : List Con} {post : List DV → Prop} {i m : Nat} {zs : List E} {k : T (List E)} {r : List DV} {d : Con} (hd : C[i]? = some d) (h : d.pre (r ++ zs.map (E.top r))) (q : allB d.bnd fun ys => d.pre (r ++ ys) → T.res C post k (r ++ (ys ++ List.replicate m (.n 0)))) : T.res C post (.lop i zs m k) r := by
  simp only [T.res, hd]; exact ⟨h, q⟩
theorem res_dat {C : List Con} {post : List DV → Prop} {f : DOp} {xs : List E} {k : T (List E)} {r : List DV} (v : DV) (e : f.fn (xs.map (E.val r)) = v) (h : T.res C post k (r ++ [v])) : T.res C post (.dat f xs k) r := by subst e; exact h
theorem len_nn (d : DV) : 0 ≤ d.len := d.len_rng.1
theorem n_inj {x y : Int} (h : [DV.n x] = [DV.n y]) : x = y := by simpa using h
theorem wI {x : Int} (h : -9223372036854775808 ≤ x) (k : x ≤ 9223372036854775807) : IntKind.i64.wrap x = x :=
  wrap_in .i64 x (by simpa [kmin, IntKind.signed, IntKind.bits] using h) (by simpa [kmax, IntKind.signed, IntKind.bits] using k)
theorem clampB_i64 {x : Int} (h : -9223372036854775808 ≤ x) (k : x ≤ 9223372036854775807) : clampB x = x := by unfold clampB; rw [if_pos (by omega)]
theorem conv {a b : Prop} (e : a = b) (h : a) : b := e ▸ h
theorem res_lop_of {C : List Con} {post : List DV → Prop} {i m : Nat} {zs : List E} {k : T (List E)} {r : List DV} {d : Con} {P : Prop} {Q : Prop} (hd : C[i]? = some d) (e1 : P = d.pre (r ++ zs.map (E.top r))) (e2 : Q = allB d.bnd fun ys => d.pre (r ++ ys) → T.res C post k (r ++ (ys ++ List.replicate m (.n 0)))) (h : P) (q : Q) : T.res C post (.lop i zs m k) r :=
  res_lop hd (e1 ▸ h) (e2 ▸ q)
theorem res_chk_of {C : List Con} {post : List DV → Prop} {i o : Nat} {zs : List E} {r : List DV} {d : Con} {P : Prop} {a b : Nat} (hd : C[i]? = some d) (e1 : P = d.pre (r.take o ++ zs.map (E.top r))) (e2 : a = d.mea (r.take o ++ zs.map (E.top r))) (e3 : b = d.mea (r.take (o + zs.length))) (h : P) (k : a < b) : T.res C post (.chk i o zs) r :=
  res_chk hd (e1 ▸ h) (by rw [← e2, ← e3]; exact k)
theorem yes {p : Prop} (h : p) : [DV.n 1] = yn p := by unfold yn; rw [if_pos h]
theorem no {p : Prop} (h : ¬ p) : [DV.n 0] = yn p := by unfold yn; rw [if_neg h]
theorem yn_in {c : Prop} {x : Int} (h : [DV.n x] = yn c) : (x ≠ 0 ∧ c) ∨ (x = 0 ∧ ¬ c) := by
  unfold yn at h
  by_cases q : c
  · rw [if_pos q] at h; have := n_inj h; exact .inl ⟨by omega, q⟩
  · rw [if_neg q] at h; have := n_inj h; exact .inr ⟨this, q⟩
theorem yn_01 {c : Prop} {x : Int} (h : [DV.n x] = yn c) : (x = 1 ∧ c) ∨ (x = 0 ∧ ¬ c) := by
  unfold yn at h
  by_cases q : c
  · rw [if_pos q] at h; have := n_inj h; exact .inl ⟨this, q⟩
  · rw [if_neg q] at h; have := n_inj h; exact .inr ⟨this, q⟩
/-- One more of a list. -/
theorem take_next {α : Type} {l : List α} {i : Int} (d : α) (h0 : 0 ≤ i) (h1 : i < l.length) : l.take (i + 1).toNat = l.take i.toNat ++ [l.getD i.toNat d] := by
  have h2 : i.toNat < l.length := by omega
  rw [show (i + 1).toNat = i.toNat + 1 by omega, List.take_add_one, List.getElem?_eq_getElem h2, List.getD_eq_getElem?_getD, List.getElem?_eq_getElem h2]
  rfl
theorem drop_next {α : Type} {l : List α} {i : Int} (d : α) (h0 : 0 ≤ i) (h1 : i < l.length) : l.drop i.toNat = l.getD i.toNat d :: l.drop (i + 1).toNat := by
  have h2 : i.toNat < l.length := by omega
  rw [show (i + 1).toNat = i.toNat + 1 by omega, List.drop_eq_getElem_cons h2, List.getD_eq_getElem?_getD, List.getElem?_eq_getElem h2]
  rfl
theorem len_of {l : List (List DV)} {mx : Nat} {row : List Sh} (h : HasSh (.sl mx row) (.sl none 0 l)) (hm : mx ≤ 9223372036854775807) : (DV.sl none 0 l).len = l.length := by
  simp only [HasSh, DV.els] at h
  exact clampL_eq (Nat.le_trans h.1 hm)
theorem cv {a b : Prop} (h : a) (e : a = b) : b := e ▸ h
theorem hold {c : Prop} {x : Int} (h : [DV.n x] = yn c) (k : c) : x = 1 := ((yn_01 h).resolve_right fun m => m.2 k).1
theorem one_n {b : Int} (h : b = 1) : [DV.n b] = [DV.n 1] := by rw [h]
end Go.Proofs.YtbkjjehfidnagaaDoor
