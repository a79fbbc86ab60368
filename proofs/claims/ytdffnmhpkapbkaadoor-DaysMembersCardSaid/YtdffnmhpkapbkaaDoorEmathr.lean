/- DERIVED. Steps of walks; lists of spans and of numbers, grown by one. -/
import Derived.Test.YtdffnmhpkapbkaaDoorEcond
import Derived.KernelRfl
namespace Go.Proofs.YtdffnmhpkapbkaaDoor
open Go.Dx
set_option linter.unusedVariables false
theorem res_con {C : List Con} {post : List DV → Prop} {i : Nat} {zs : List E} {k : T (List E)} {r : List DV} {d : Con} (hd : C[i]? = some d) (hp : d.pre (zs.map (E.top r))) (h : allB (resB d.res) fun ys => d.post (zs.map (E.top r)) ys → T.res C post k (r ++ ys)) : T.res C post (.con i zs k) r := by
  simp only [T.res, hd]; exact ⟨hp, h⟩
theorem res_ite {C : List Con} {post : List DV → Prop} {b : B} {t e : T (List E)} {r : List DV} (h : b.prop r → T.res C post t r) (k : ¬ b.prop r → T.res C post e r) : T.res C post (.ite b t e) r := ⟨h, k⟩
theorem res_both {C : List Con} {post : List DV → Prop} {t e : T (List E)} {r : List DV} (h : T.res C post t r) (k : T.res C post e r) : T.res C post (.both t e) r := ⟨h, k⟩
theorem res_ok {C : List Con} {post : List DV → Prop} {b : B} {t : T (List E)} {r : List DV} (h : b.prop r) (k : T.res C post t r) : T.res C post (.ite b t .fail) r := ⟨fun _ => k, fun q => absurd h q⟩
theorem res_chk {C : List Con} {post : List DV → Prop} {i o : Nat} {zs : List E} {r : List DV} {d : Con} (hd : C[i]? = some d) (h : d.pre (r.take o ++ zs.map (E.top r))) (k : d.mea (r.take o ++ zs.map (E.top r)) < d.mea (r.take (o + zs.length))) : T.res C post (.chk i o zs) r := by
  simp only [T.res, hd]; exact ⟨h, k⟩
theorem res_lop {C : List Con} {post : List DV → Prop} {i m : Nat} {zs : List E} {k : T (List E)} {r : List DV} {d : Con} (hd : C[i]? = some d) (h : d.pre (r ++ zs.map (E.top r))) (q : allB d.bnd fun ys => d.pre (r ++ ys) → T.res C post k (r ++ (ys ++ List.replicate m (.n 0)))) : T.res C post (.lop i zs m k) r := by
  simp only [T.res, hd]; exact ⟨h, q⟩
theorem res_dat {C : List Con} {post : List DV → Prop} {f : DOp} {xs : List E} {k : T (List E)} {r : List DV} (v : DV) (e : f.fn (xs.map (E.val r)) = v) (h : T.res C post k (r ++ [v])) : T.res C post (.dat f xs k) r := by subst e; exact h
theorem cvh {a b : Prop} (e : a = b) (h : a) : b := by rw [← e]; exact h
theorem yn_yes {p : Prop} (h : p) : [DV.n 1] = yn p := by unfold yn; rw [if_pos h]
theorem yn_no {p : Prop} (h : ¬ p) : [DV.n 0] = yn p := by unfold yn; rw [if_neg h]
theorem yn_in {p : Prop} {x : Int} (h : [DV.n x] = yn p) : (x = 1 ∧ p) ∨ (x = 0 ∧ ¬ p) := by
  unfold yn at h
  by_cases c : p
  · rw [if_pos c] at h; simp only [List.cons.injEq, DV.n.injEq, and_true] at h; exact .inl ⟨h, c⟩
  · rw [if_neg c] at h; simp only [List.cons.injEq, DV.n.injEq, and_true] at h; exact .inr ⟨h, c⟩
theorem take_one {α : Type} {l : List α} {k : Nat} (x : α) (h : k < l.length) : l.take (k + 1) = l.take k ++ [l.getD k x] := by
  rw [List.take_add_one, List.getD_eq_getElem?_getD, List.getElem?_eq_getElem h]; rfl
theorem spn_take {d : DV} {i : Int} (h0 : 0 ≤ i) (h1 : i < d.els.length) : (spn d).take (i + 1).toNat = (spn d).take i.toNat ++ [(d.at i 0, d.at i 1)] := by
  rw [show (i + 1).toNat = i.toNat + 1 by omega, take_one (0, 0) (by rw [spn_len]; omega), spn_get (by omega), show ((i.toNat : Nat) : Int) = i by omega]
theorem spn_all {d : DV} {i : Int} (h : i = d.els.length) : (spn d).take i.toNat = spn d := by
  rw [show i.toNat = (spn d).length by rw [spn_len]; omega, List.take_length]
theorem spn_mem {d : DV} {i : Int} (h0 : 0 ≤ i) (h1 : i < d.els.length) : (d.at i 0, d.at i 1) ∈ spn d := by
  have e := spn_get (d := d) (k := i.toNat) (by omega)
  rw [show ((i.toNat : Nat) : Int) = i by omega, List.getD_eq_getElem?_getD, List.getElem?_eq_getElem (by rw [spn_len]; omega)] at e
  have e : (spn d)[i.toNat]'(by rw [spn_len]; omega) = (d.at i 0, d.at i 1) := e
  rw [← e]
  exact List.getElem_mem ..
theorem ivl_len (d : DV) : (ivl d).length = d.els.length := by simp [ivl]
theorem ivl_get {d : DV} {k : Nat} (h : k < d.els.length) : (ivl d).getD k 0 = d.at k 0 := by
  unfold ivl
  rw [List.getD_eq_getElem?_getD, List.getElem?_map, List.getElem?_eq_getElem h]
  have e : d.els.getD k [] = d.els[k] := by rw [List.getD_eq_getElem?_getD, List.getElem?_eq_getElem h]; rfl
  show (d.els[k].getD 0 (.n 0)).cint = ((d.els.getD (k : Int).toNat []).getD 0 (.n 0)).cint
  rw [Int.toNat_natCast, e]
theorem ivl_app (l : List (List DV)) (x : Int) (hx : -9223372036854775808 ≤ x ∧ x ≤ 9223372036854775807) : ivl (.sl none 0 (l ++ [[.n x]])) = ivl (.sl none 0 l) ++ [x] := by
  unfold ivl
  show (l ++ [[DV.n x]]).map _ = l.map _ ++ _
  rw [List.map_append]
  show _ ++ [clampB x] = _
  unfold clampB
  rw [if_pos (by omega)]
end Go.Proofs.YtdffnmhpkapbkaaDoor
