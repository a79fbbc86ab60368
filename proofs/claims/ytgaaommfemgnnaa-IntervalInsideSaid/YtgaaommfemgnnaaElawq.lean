/- DERIVED. The examples; IntervalScaled. -/
import Derived.Test.YtgaaommfemgnnaaEcv
import Derived.Test.YtgaaommfemgnnaaSane
import Derived.Test.YtgaaommfemgnnaaEcon
import Derived.OpenShut
namespace Go.Proofs.Ytgaaommfemgnnaa
open Go.Dx Go.RowKit
set_option linter.unusedVariables false
theorem flo_spec {z d : Int} (hd : 1 ≤ d) : flo z d * d ≤ z ∧ z < flo z d * d + d := by
  obtain ⟨e, r0, r1⟩ := div_is (m := z) (d := d) (by omega)
  unfold flo
  rw [Int.mul_comm] at e
  omega
theorem cei_spec {z d : Int} (hd : 1 ≤ d) : z ≤ cei z d * d ∧ cei z d * d < z + d := by
  have h := flo_spec (z := -z) hd
  have e : cei z d = -flo (-z) d := rfl
  rw [e, Int.neg_mul]; omega
theorem flo_le {z d k : Int} (hd : 1 ≤ d) (h : z ≤ k * d) : flo z d ≤ k := by
  by_cases c : flo z d ≤ k
  · exact c
  · exfalso
    have s := (flo_spec (z := z) hd).1
    have m : (k + 1) * d ≤ flo z d * d := Int.mul_le_mul_of_nonneg_right (by omega) (by omega)
    rw [Int.add_mul, Int.one_mul] at m
    omega
theorem cei_ge {z d k : Int} (hd : 1 ≤ d) (h : k * d ≤ z) : k ≤ cei z d := by
  have := flo_le (z := -z) (k := -k) hd (by rw [Int.neg_mul]; omega)
  have e : cei z d = -flo (-z) d := rfl
  omega
theorem tdiv_near {z d : Int} (hd : 1 ≤ d) : flo z d ≤ z.tdiv d ∧ z.tdiv d ≤ cei z d := by
  have fc := flo_cei (x := z) (d := d) (by omega)
  by_cases c : 0 ≤ z
  · rw [td c]; exact ⟨Int.le_refl _, fc.1⟩
  · have : z.tdiv d = cei z d := by
      rw [show z = -(-z) by omega, Int.neg_tdiv, td (by omega)]
      unfold cei; rw [Int.neg_neg]
    rw [this]; exact ⟨fc.1, Int.le_refl _⟩
theorem cSane_ok (M : Nat) (w0 : World) : ConOk Try.prog tb M w0 (lawCon 12 []) := trueCon_ok fun w hG =>
  Go.Sx.sx_law (tb := Old.tb) (w := w) (σ := []) (τ := []) Old.fine (C := []) (fun c hc => by cases hc) 4000 12 [] ⟨[], [], []⟩ [] Go.Sx.bnd_nil (by rw [Old.tree_sane]; exact rfl)
theorem scl_in {a b N D x y e : Int} (h : SclP a b N D x y e) : (e = 0 ∧ V a b ∧ VRat N D ∧ V x y ∧ x = flo (min (N * a) (N * b)) D ∧ y = cei (max (N * a) (N * b)) D) ∨ (¬ e = 0 ∧ x = 0 ∧ y = 0 ∧ (V a b → VRat N D → e = 2)) := by
  by_cases v : V a b
  · by_cases r : VRat N D
    · rcases op_un (h.2.2 v r) with ⟨_, q, rfl, rfl, rfl⟩ | ⟨_, q, rfl, rfl, rfl⟩ | ⟨q, _⟩
      · exact .inl ⟨rfl, v, r, q, rfl, rfl⟩
      · exact .inr ⟨by decide, rfl, rfl, fun _ _ => rfl⟩
      · exact absurd trivial q
    · obtain ⟨rfl, rfl, rfl⟩ := h.2.1 v r
      exact .inr ⟨by decide, rfl, rfl, fun _ k => absurd k r⟩
  · obtain ⟨rfl, rfl, rfl⟩ := h.1 v
    exact .inr ⟨by decide, rfl, rfl, fun k => absurd k v⟩
theorem prod_bd {n x : Int} (h1 : -1073741824 ≤ n) (h2 : n ≤ 1073741824) (h3 : -1073741824 ≤ x) (h4 : x ≤ 1073741824) : -1152921504606846976 ≤ n * x ∧ n * x ≤ 1152921504606846976 := by
  obtain ⟨s1, s2, s3⟩ := sgn_mul (x := n) (y := x) rfl rfl
  have m : max n (0 - n) * max x (0 - x) ≤ 1073741824 * 1073741824 := Int.mul_le_mul (by omega) (by omega) (by omega) (by omega)
  by_cases c : n < 0 ∧ x < 0 ∨ 0 ≤ n ∧ 0 ≤ x
  · have := s2 c; omega
  · have := s3 c; omega
end Go.Proofs.Ytgaaommfemgnnaa
