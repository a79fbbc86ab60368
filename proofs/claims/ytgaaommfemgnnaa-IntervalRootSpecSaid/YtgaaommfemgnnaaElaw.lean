/- DERIVED. The examples; IntervalScaled. -/
import Derived.Test.YtgaaommfemgnnaaEcv
import Derived.Test.YtgaaommfemgnnaaSane
import Derived.Test.YtgaaommfemgnnaaEtrl
import Derived.OpenShut
namespace Go.Proofs.Ytgaaommfemgnnaa
open Go.Dx Go.RowKit
set_option linter.unusedVariables false
theorem flo_spec {z d : Int} (hd : 1 ≤ d) : flo z d * d ≤ z ∧ z < flo z d * d + d := by
  obtain ⟨e, r0, r1⟩ := div_is (m := z) (d := d) (by omega)
  unfold flo
  rw [Int.mul_comm] at e
  omega
theorem cei_spec {z d : Int} (hd : 1 ≤ d) : z ≤ cei z d * d ∧ cei z d * d < z + d := by
  have h := flo_spec (z := -z) hd
  have e : cei z d = -flo (-z) d := rfl
  rw [e, Int.neg_mul]; omega
theorem flo_le {z d k : Int} (hd : 1 ≤ d) (h : z ≤ k * d) : flo z d ≤ k := by
  by_cases c : flo z d ≤ k
  · exact c
  · exfalso
    have s := (flo_spec (z := z) hd).1
    have m : (k + 1) * d ≤ flo z d * d := Int.mul_le_mul_of_nonneg_right (by omega) (by omega)
    rw [Int.add_mul, Int.one_mul] at m
    omega
theorem cei_ge {z d k : Int} (hd : 1 ≤ d) (h : k * d ≤ z) : k ≤ cei z d := by
  have := flo_le (z := -z) (k := -k) hd (by rw [Int.neg_mul]; omega)
  have e : cei z d = -flo (-z) d := rfl
  omega
theorem tdiv_near {z d : Int} (hd : 1 ≤ d) : flo z d ≤ z.tdiv d ∧ z.tdiv d ≤ cei z d := by
  have fc := flo_cei (x := z) (d := d) (by omega)
  by_cases c : 0 ≤ z
  · rw [td c]; exact ⟨Int.le_refl _, fc.1⟩
  · have : z.tdiv d = cei z d := by
      rw [show z = -(-z) by omega, Int.neg_tdiv, td (by omega)]
      unfold cei; rw [Int.neg_neg]
    rw [this]; exact ⟨fc.1, Int.le_refl _⟩
theorem cSane_ok (M : Nat) (w0 : World) : ConOk Try.prog tb M w0 (lawCon 12 []) := trueCon_ok fun w hG =>
  Go.Sx.sx_law (tb := Old.tb) (w := w) (σ := []) (τ := []) Old.fine (C := []) (fun c hc => by cases hc) 4000 12 [] ⟨[], [], []⟩ [] Go.Sx.bnd_nil (by rw [Old.tree_sane]; exact rfl)
theorem scl_in {a b N D x y e : Int} (h : SclP a b N D x y e) : (e = 0 ∧ V a b ∧ VRat N D ∧ V x y ∧ x = flo (min (N * a) (N * b)) D ∧ y = cei (max (N * a) (N * b)) D) ∨ (¬ e = 0 ∧ x = 0 ∧ y = 0 ∧ (V a b → VRat N D → e = 2)) := by
  by_cases v : V a b
  · by_cases r : VRat N D
    · rcases op_un (h.2.2 v r) with ⟨_, q, rfl, rfl, rfl⟩ | ⟨_, q, rfl, rfl, rfl⟩ | ⟨q, _⟩
      · exact .inl ⟨rfl, v, r, q, rfl, rfl⟩
      · exact .inr ⟨by decide, rfl, rfl, fun _ _ => rfl⟩
      · exact absurd trivial q
    · obtain ⟨rfl, rfl, rfl⟩ := h.2.1 v r
      exact .inr ⟨by decide, rfl, rfl, fun _ k => absurd k r⟩
  · obtain ⟨rfl, rfl, rfl⟩ := h.1 v
    exact .inr ⟨by decide, rfl, rfl, fun k => absurd k v⟩
theorem prod_bd {n x : Int} (h1 : -1073741824 ≤ n) (h2 : n ≤ 1073741824) (h3 : -1073741824 ≤ x) (h4 : x ≤ 1073741824) : -1152921504606846976 ≤ n * x ∧ n * x ≤ 1152921504606846976 := by
  obtain ⟨s1, s2, s3⟩ := sgn_mul (x := n) (y := x) rfl rfl
  have m : max n (0 - n) * max x (0 - x) ≤ 1073741824 * 1073741824 := Int.mul_le_mul (by omega) (by omega) (by omega) (by omega)
  by_cases c : n < 0 ∧ x < 0 ∨ 0 ≤ n ∧ 0 ≤ x
  · have := s2 c; omega
  · have := s3 c; omega
set_option maxRecDepth 100000 in
set_option maxHeartbeats 1000000 in
theorem walk_scl (a b N D : Int) : (runC tb [lawCon 12 [], cScl 25, cIn 31] 80 (lawCon 8 [two, two])).res [lawCon 12 [], cScl 25, cIn 31] (fun ys => ys = [.n 1]) [.n a, .n b, .n N, .n D] := by
  rw [tree_lscl]
  refine res_con rfl trivial (fun z _ _ hz => ?_)
  obtain rfl := n_inj (show [DV.n z] = [.n 1] from hz)
  refine res_ite (fun h => absurd (show (1 : Int) = 0 from h) (by decide)) fun _ => ?_
  refine res_con rfl trivial (fun x _ _ y _ _ e _ _ h1 => ?_)
  replace h1 := scl_in (cvh (b := SclP a b N D x y e) (by kernel_rfl) h1)
  refine res_ite (fun k => ?_) fun k => ?_
  · refine res_ite (fun _ => rfl) fun l => ?_
    replace l := cvh (b := ¬ ((e = 0) ∨ ((x = 0) ∧ (y = 0)))) (by kernel_rfl) l
    exact absurd (h1.elim (fun q => .inl q.1) fun q => .inr ⟨q.2.1, q.2.2.1⟩) l
  replace k := cvh (b := ¬ ((¬ (e = 0) ∨ (a < -1073741824)) ∨ ((1073741824 : Int) < b))) (by kernel_rfl) k
  obtain ⟨rfl, hv, vr, vxy, ex, ey⟩ : e = 0 ∧ V a b ∧ VRat N D ∧ V x y ∧ x = flo (min (N * a) (N * b)) D ∧ y = cei (max (N * a) (N * b)) D := h1.resolve_right fun q => by have := q.1; omega
  clear h1
  obtain ⟨d1, d2, n1, n2, g⟩ := vr
  have pa := prod_bd n1 n2 (show -1073741824 ≤ a by omega) (show a ≤ 1073741824 by omega)
  have pb := prod_bd n1 n2 (show -1073741824 ≤ b by omega) (show b ≤ 1073741824 by omega)
  have fx := flo_spec (z := min (N * a) (N * b)) d1
  have cy := cei_spec (z := max (N * a) (N * b)) d1
  have tx := tdiv_near (z := min (N * a) (N * b)) d1
  have ty := tdiv_near (z := max (N * a) (N * b)) d1
  have fc1 := flo_cei (x := min (N * a) (N * b)) (d := D) (by omega)
  have fc2 := flo_cei (x := max (N * a) (N * b)) (d := D) (by omega)
  rw [← ex] at fx tx fc1
  rw [← ey] at cy ty fc2
  have wa : IntKind.i64.wrap (N * a) = N * a := wI (by omega) (by omega)
  have wb : IntKind.i64.wrap (N * b) = N * b := wI (by omega) (by omega)
  have w1 : IntKind.i64.wrap ((min (N * a) (N * b)).tdiv D) = (min (N * a) (N * b)).tdiv D := wI (by omega) (by omega)
  have w2 : IntKind.i64.wrap ((max (N * a) (N * b)).tdiv D) = (max (N * a) (N * b)).tdiv D := wI (by omega) (by omega)
  have w3 : IntKind.i64.wrap ((min (N * a) (N * b)).tdiv D + 1) = (min (N * a) (N * b)).tdiv D + 1 := wI (by omega) (by omega)
  have w4 : IntKind.i64.wrap ((min (N * a) (N * b)).tdiv D - 1) = (min (N * a) (N * b)).tdiv D - 1 := wI (by omega) (by omega)
  have w5 : IntKind.i64.wrap ((max (N * a) (N * b)).tdiv D + 1) = (max (N * a) (N * b)).tdiv D + 1 := wI (by omega) (by omega)
  have w6 : IntKind.i64.wrap ((max (N * a) (N * b)).tdiv D - 1) = (max (N * a) (N * b)).tdiv D - 1 := wI (by omega) (by omega)
  have w7 : IntKind.i64.wrap (x * D) = x * D := wI (by omega) (by omega)
  have w8 : IntKind.i64.wrap (y * D) = y * D := wI (by omega) (by omega)
  have w9 : IntKind.i64.wrap (min (N * a) (N * b) - x * D) = min (N * a) (N * b) - x * D := wI (by omega) (by omega)
  have w0 : IntKind.i64.wrap (y * D - max (N * a) (N * b)) = y * D - max (N * a) (N * b) := wI (by omega) (by omega)
  refine res_ite (fun l => ?_) fun _ => ?_
  · replace l := cvh (b := ((((D < 1) ∨ ((1073741824 : Int) < D)) ∨ (N < -1073741824)) ∨ ((1073741824 : Int) < N))) (by kernel_rfl) l
    exfalso; omega
  refine res_ite (fun l => ?_) fun _ => ?_
  · replace l := cvh (b := ((((IntKind.i64.wrap (IntKind.i64.wrap ((min (IntKind.i64.wrap (N * a)) (IntKind.i64.wrap (N * b))).tdiv (D)) + 1) < x) ∨ (x < IntKind.i64.wrap (IntKind.i64.wrap ((min (IntKind.i64.wrap (N * a)) (IntKind.i64.wrap (N * b))).tdiv (D)) - 1))) ∨ (IntKind.i64.wrap (IntKind.i64.wrap ((max (IntKind.i64.wrap (N * a)) (IntKind.i64.wrap (N * b))).tdiv (D)) + 1) < y)) ∨ (y < IntKind.i64.wrap (IntKind.i64.wrap ((max (IntKind.i64.wrap (N * a)) (IntKind.i64.wrap (N * b))).tdiv (D)) - 1)))) (by kernel_rfl) l
    exfalso
    rw [wa, wb, w1, w2, w3, w4, w5, w6] at l
    omega
  refine res_ite (fun l => ?_) fun _ => ?_
  · replace l := cvh (b := ((((IntKind.i64.wrap (min (IntKind.i64.wrap (N * a)) (IntKind.i64.wrap (N * b)) - IntKind.i64.wrap (x * D)) < 0) ∨ (D ≤ IntKind.i64.wrap (min (IntKind.i64.wrap (N * a)) (IntKind.i64.wrap (N * b)) - IntKind.i64.wrap (x * D)))) ∨ (IntKind.i64.wrap (IntKind.i64.wrap (y * D) - max (IntKind.i64.wrap (N * a)) (IntKind.i64.wrap (N * b))) < 0)) ∨ (D ≤ IntKind.i64.wrap (IntKind.i64.wrap (y * D) - max (IntKind.i64.wrap (N * a)) (IntKind.i64.wrap (N * b)))))) (by kernel_rfl) l
    exfalso
    rw [wa, wb, w7, w8, w9, w0] at l
    omega
  clear wa wb w0 w1 w2 w3 w4 w5 w6 w7 w8 w9 tx ty
  refine res_ite (fun l => ?_) fun l => ?_
  · replace l := cvh (b := (N = 0)) (by kernel_rfl) l
    subst l
    rw [Int.zero_mul, Int.zero_mul] at ex ey
    have e1 : x = 0 := by rw [ex]; unfold flo; exact Int.zero_ediv _
    have e2 : y = 0 := by rw [ey]; unfold cei; rw [show max (0 : Int) 0 = 0 by rfl, Int.neg_zero, Int.zero_ediv]; rfl
    exact res_ite (fun _ => rfl) fun j => absurd ⟨e1, e2⟩ (cvh (b := ¬ ((x = 0) ∧ (y = 0))) (by kernel_rfl) j)
  replace l := cvh (b := ¬ (N = 0)) (by kernel_rfl) l
  have tail : ∀ N' D' : Int, VRat N' D' → (∀ x2 y2, x2 = flo (min (N' * x) (N' * y)) D' → y2 = cei (max (N' * x) (N' * y)) D' → x2 ≤ a ∧ b ≤ y2) → ∀ x2 y2 e2, SclP x y N' D' x2 y2 e2 → (¬ e2 = 0 ∧ e2 = 2) ∨ (e2 = 0 ∧ ∀ k f, InP a b x2 y2 k f → f = 0 ∧ ¬ k = 0) := fun N' D' v' hin x2 y2 e2 h => by
    rcases scl_in h with ⟨q, _, _, v2, q1, q2⟩ | ⟨q, _, _, q3⟩
    · refine .inr ⟨q, fun k f hk => ?_⟩
      have hh := hk.1 ⟨hv, v2⟩
      have := hh.1.2 (hin x2 y2 q1 q2)
      exact ⟨hh.2, by omega⟩
    · exact .inl ⟨q, q3 vxy v'⟩
  refine res_ite (fun m => ?_) fun m => ?_
  · replace m := cvh (b := (N < 0)) (by kernel_rfl) m
    have tl := tail (0 - D) (0 - N) ⟨by omega, by omega, by omega, by omega, by rw [← g]; unfold gcdI; rw [Int.zero_sub, Int.zero_sub, Int.natAbs_neg, Int.natAbs_neg, Nat.gcd_comm]⟩ (fun x2 y2 e1 e2 => by
      have mm := min_neg (a := a) (b := b) (N := N) m hv.2.1
      have mx := min_neg (a := x) (b := y) (N := 0 - D) (by omega) vxy.2.1
      rw [← mm.1] at fx
      rw [← mm.2] at cy
      rw [← mx.1] at e1
      rw [← mx.2] at e2
      refine ⟨?_, ?_⟩
      · rw [e1]
        refine flo_le (by omega) ?_
        rw [Int.mul_sub, Int.mul_sub, Int.mul_zero, Int.mul_zero]; omega
      · rw [e2]
        refine cei_ge (by omega) ?_
        rw [Int.mul_sub, Int.mul_sub, Int.mul_zero, Int.mul_zero]; omega)
    refine res_con rfl trivial (fun x2 _ _ y2 _ _ e2 _ _ h2 => ?_)
    rcases tl x2 y2 e2 (cvh (b := SclP x y (0 - D) (0 - N) x2 y2 e2) (by kernel_rfl) h2) with ⟨q1, q2⟩ | ⟨q1, q2⟩
    · refine res_ite (fun _ => ?_) fun j => absurd (cvh (b := ¬ ¬ e2 = 0) (by kernel_rfl) j) (fun z => z q1)
      exact res_ite (fun _ => rfl) fun j => absurd q2 (cvh (b := ¬ e2 = 2) (by kernel_rfl) j)
    · refine res_ite (fun j => absurd q1 (cvh (b := ¬ e2 = 0) (by kernel_rfl) j)) fun _ => ?_
      refine res_con rfl trivial (fun k2 _ _ f2 _ _ h3 => ?_)
      have q3 := q2 k2 f2 (cvh (b := InP a b x2 y2 k2 f2) (by kernel_rfl) h3)
      exact res_ite (fun _ => rfl) fun j => absurd q3 (cvh (b := ¬ (f2 = 0 ∧ ¬ k2 = 0)) (by kernel_rfl) j)
  · replace m := cvh (b := ¬ (N < 0)) (by kernel_rfl) m
    have tl := tail D N ⟨by omega, by omega, by omega, by omega, by rw [← g]; unfold gcdI; rw [Nat.gcd_comm]⟩ (fun x2 y2 e1 e2 => by
      have mm := min_pos (a := a) (b := b) (N := N) (by omega) hv.2.1
      have mx := min_pos (a := x) (b := y) (N := D) (by omega) vxy.2.1
      rw [← mm.1] at fx
      rw [← mm.2] at cy
      rw [← mx.1] at e1
      rw [← mx.2] at e2
      exact ⟨by rw [e1]; exact flo_le (by omega) fx.1, by rw [e2]; exact cei_ge (by omega) cy.1⟩)
    refine res_con rfl trivial (fun x2 _ _ y2 _ _ e2 _ _ h2 => ?_)
    rcases tl x2 y2 e2 (cvh (b := SclP x y D N x2 y2 e2) (by kernel_rfl) h2) with ⟨q1, q2⟩ | ⟨q1, q2⟩
    · refine res_ite (fun _ => ?_) fun j => absurd (cvh (b := ¬ ¬ e2 = 0) (by kernel_rfl) j) (fun z => z q1)
      exact res_ite (fun _ => rfl) fun j => absurd q2 (cvh (b := ¬ e2 = 2) (by kernel_rfl) j)
    · refine res_ite (fun j => absurd q1 (cvh (b := ¬ e2 = 0) (by kernel_rfl) j)) fun _ => ?_
      refine res_con rfl trivial (fun k2 _ _ f2 _ _ h3 => ?_)
      have q3 := q2 k2 f2 (cvh (b := InP a b x2 y2 k2 f2) (by kernel_rfl) h3)
      exact res_ite (fun _ => rfl) fun j => absurd q3 (cvh (b := ¬ (f2 = 0 ∧ ¬ k2 = 0)) (by kernel_rfl) j)
end Go.Proofs.Ytgaaommfemgnnaa
