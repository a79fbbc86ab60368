/- DERIVED. Scale keeps its contract. -/
import Derived.Test.YtgaaommfemgnnaaEcu
namespace Go.Proofs.Ytgaaommfemgnnaa
open Go.Dx
set_option linter.unusedVariables false
theorem mul_sgn (n N : Int) : (N < 0 → 0 ≤ n → n * N ≤ 0) ∧ (N < 0 → n < 0 → 0 ≤ n * N) ∧ (0 ≤ N → 0 ≤ n → 0 ≤ n * N) ∧ (0 ≤ N → n < 0 → n * N ≤ 0) :=
  ⟨fun h k => Int.mul_nonpos_of_nonneg_of_nonpos k (Int.le_of_lt h), fun h k => Int.mul_nonneg_of_nonpos_of_nonpos (Int.le_of_lt k) (Int.le_of_lt h), fun h k => Int.mul_nonneg k h, fun h k => Int.mul_nonpos_of_nonpos_of_nonneg (Int.le_of_lt k) h⟩
def Dn (p z d : Int) : Prop := p = flo z d ∨ (p = 2199023255552 ∧ 2199023255552 < flo z d) ∨ (p = -2199023255552 ∧ flo z d < -2199023255552)
def Upw (p z d : Int) : Prop := p = cei z d ∨ (p = 2199023255552 ∧ 2199023255552 < cei z d) ∨ (p = -2199023255552 ∧ cei z d < -2199023255552)
theorem scl_leaf {a b N D p q z1 z2 : Int} (hv : V a b) (hr : VRat N D) (e1 : z1 = min (N * a) (N * b)) (e2 : z2 = max (N * a) (N * b)) (hp : Dn p z1 D) (hq : Upw q z2 D) :
    (¬ V p q → SclP a b N D 0 0 2) ∧ (V p q → SclP a b N D p q 0) := by
  unfold SclP
  rw [← e1, ← e2]
  unfold Dn at hp
  unfold Upw at hq
  generalize flo z1 D = f at *
  generalize cei z2 D = g at *
  refine ⟨fun h => ⟨fun k => absurd hv k, fun _ k => absurd hr k, fun _ _ => op_big trivial fun k => h ?_⟩, fun h => ⟨fun k => absurd hv k, fun _ k => absurd hr k, fun _ _ => ?_⟩⟩
  · omega
  · have : p = f ∧ q = g := by omega
    exact op_ok trivial (by omega) this.1 this.2
theorem min_neg {a b N : Int} (h : N < 0) (k : a ≤ b) : b * N = min (N * a) (N * b) ∧ a * N = max (N * a) (N * b) := by
  have := Int.mul_le_mul_of_nonpos_left (Int.le_of_lt h) k
  rw [Int.mul_comm b, Int.mul_comm a]; omega
theorem min_pos {a b N : Int} (h : 0 ≤ N) (k : a ≤ b) : a * N = min (N * a) (N * b) ∧ b * N = max (N * a) (N * b) := by
  have := Int.mul_le_mul_of_nonneg_left k h
  rw [Int.mul_comm b, Int.mul_comm a]; omega
set_option maxRecDepth 100000 in
set_option maxHeartbeats 4000000 in
theorem cScl_ok (M : Nat) (w0 : World) : ConOk Try.prog tb M w0 (cScl 25) := by
  refine con_of_walk (tb := tb) fine (C := [cRat 46, cScd 48]) (conCons cRat_ok (conCons cScd_ok noCon)) 80 rfl ?_ M w0
  refine fun a _ _ b _ _ N _ _ D _ _ _ => ?_
  rw [tree_scl]
  show T.res _ (fun y => SclP a b N D (gi y 0) (gi y 1) (gi y 2)) _ _
  refine res_ite (fun h => ?_) fun h => ?_
  · replace h := cvh (b := (((a < -1099511627776) ∨ (b < a)) ∨ ((1099511627776 : Int) < b))) (by kernel_rfl) h
    exact ⟨fun _ => ⟨rfl, rfl, rfl⟩, fun k => by omega, fun k => by omega⟩
  replace h := cvh (b := ¬ (((a < -1099511627776) ∨ (b < a)) ∨ ((1099511627776 : Int) < b))) (by kernel_rfl) h
  have hv : V a b := by omega
  clear h
  refine res_con rfl trivial (fun e _ _ he => ?_)
  rcases rt_in (show ChkP N D [.n e] from he) with ⟨vr, rfl⟩ | ⟨vr, rfl⟩
  rotate_left
  · exact res_ite (fun _ => ⟨fun k => absurd hv k, fun _ _ => ⟨rfl, rfl, rfl⟩, fun _ k => absurd k vr⟩) fun k => absurd (show ¬ ¬ (120 : Int) = 0 from k) (by decide)
  refine res_ite (fun k => absurd rfl (show ¬ (0 : Int) = 0 from k)) fun _ => ?_
  have d1 : 1 ≤ D := vr.1
  have d2 : D ≤ 1073741824 := vr.2.1
  have n1 : -1073741824 ≤ N := vr.2.2.1
  have n2 : N ≤ 1073741824 := vr.2.2.2.1
  have sa := mul_sgn a N
  have sb := mul_sgn b N
  refine res_ite (fun k0 => ?_) fun k0 => ?_
  ·replace k0 := cvh (b := (N < 0)) (by kernel_rfl) k0
   refine res_ite (fun k1 => ?_) fun k1 => ?_
   ·replace k1 := cvh (b := ((0 : Int) ≤ b)) (by kernel_rfl) k1
    refine res_ok (cvh (a := (((-1073741824 : Int) ≤ N) ∧ (N ≤ 1073741824))) (by kernel_rfl) (by omega)) ?_
    refine res_ok (cvh (a := (((1 : Int) ≤ D) ∧ (D ≤ 1073741824))) (by kernel_rfl) (by omega)) ?_
    refine res_con rfl trivial (fun p5 _ _ hp5 => ?_)
    replace hp5 := cvh (b := p5 = scF (b * N) D 1) (by kernel_rfl) hp5
    refine res_ite (fun k2 => ?_) fun k2 => ?_
    ·replace k2 := cvh (b := ((0 : Int) ≤ a)) (by kernel_rfl) k2
     refine res_ok (cvh (a := (((-1099511627776 : Int) ≤ a) ∧ (a ≤ 1099511627776))) (by kernel_rfl) (by omega)) ?_
     refine res_ok (cvh (a := (((-1073741824 : Int) ≤ N) ∧ (N ≤ 1073741824))) (by kernel_rfl) (by omega)) ?_
     refine res_ok (cvh (a := (((1 : Int) ≤ D) ∧ (D ≤ 1073741824))) (by kernel_rfl) (by omega)) ?_
     refine res_con rfl trivial (fun p6 _ _ hp6 => ?_)
     replace hp6 := cvh (b := p6 = scF (a * N) D 0) (by kernel_rfl) hp6
     have mm := min_neg (a := a) (b := b) (N := N) (by omega) hv.2.1
     have lf := scl_leaf hv vr mm.1 mm.2 (sc_dn (w := 1) d1 (by omega) (by omega)) (sc_up (w := 0) d1 (by omega) (by omega))
     rw [← hp5, ← hp6] at lf
     refine res_ite (fun k => ?_) fun k => ?_
     ·replace k := cvh (b := (((p5 < -1099511627776) ∨ (p6 < p5)) ∨ ((1099511627776 : Int) < p6))) (by kernel_rfl) k
      exact cvh (a := SclP a b N D 0 0 2) (by kernel_rfl) (lf.1 (by omega))
     ·replace k := cvh (b := ¬ (((p5 < -1099511627776) ∨ (p6 < p5)) ∨ ((1099511627776 : Int) < p6))) (by kernel_rfl) k
      refine res_ok (cvh (a := (((-1099511627776 : Int) ≤ p5) ∧ (p5 ≤ 1099511627776))) (by kernel_rfl) (by omega)) ?_
      exact cvh (a := SclP a b N D p5 p6 0) (by kernel_rfl) (lf.2 (by omega))
    ·replace k2 := cvh (b := ¬ ((0 : Int) ≤ a)) (by kernel_rfl) k2
     refine res_ok (cvh (a := (((-1073741824 : Int) ≤ N) ∧ (N ≤ 1073741824))) (by kernel_rfl) (by omega)) ?_
     refine res_ok (cvh (a := (((1 : Int) ≤ D) ∧ (D ≤ 1073741824))) (by kernel_rfl) (by omega)) ?_
     refine res_con rfl trivial (fun p6 _ _ hp6 => ?_)
     replace hp6 := cvh (b := p6 = scF (a * N) D 1) (by kernel_rfl) hp6
     have mm := min_neg (a := a) (b := b) (N := N) (by omega) hv.2.1
     have lf := scl_leaf hv vr mm.1 mm.2 (sc_dn (w := 1) d1 (by omega) (by omega)) (sc_up (w := 1) d1 (by omega) (by omega))
     rw [← hp5, ← hp6] at lf
     refine res_ite (fun k => ?_) fun k => ?_
     ·replace k := cvh (b := (((p5 < -1099511627776) ∨ (p6 < p5)) ∨ ((1099511627776 : Int) < p6))) (by kernel_rfl) k
      exact cvh (a := SclP a b N D 0 0 2) (by kernel_rfl) (lf.1 (by omega))
     ·replace k := cvh (b := ¬ (((p5 < -1099511627776) ∨ (p6 < p5)) ∨ ((1099511627776 : Int) < p6))) (by kernel_rfl) k
      refine res_ok (cvh (a := (((-1099511627776 : Int) ≤ p5) ∧ (p5 ≤ 1099511627776))) (by kernel_rfl) (by omega)) ?_
      exact cvh (a := SclP a b N D p5 p6 0) (by kernel_rfl) (lf.2 (by omega))
   ·replace k1 := cvh (b := ¬ ((0 : Int) ≤ b)) (by kernel_rfl) k1
    refine res_ok (cvh (a := (((-1073741824 : Int) ≤ N) ∧ (N ≤ 1073741824))) (by kernel_rfl) (by omega)) ?_
    refine res_ok (cvh (a := (((1 : Int) ≤ D) ∧ (D ≤ 1073741824))) (by kernel_rfl) (by omega)) ?_
    refine res_con rfl trivial (fun p5 _ _ hp5 => ?_)
    replace hp5 := cvh (b := p5 = scF (b * N) D 0) (by kernel_rfl) hp5
    refine res_ite (fun k2 => ?_) fun k2 => ?_
    ·replace k2 := cvh (b := ((0 : Int) ≤ a)) (by kernel_rfl) k2
     refine res_ok (cvh (a := (((-1099511627776 : Int) ≤ a) ∧ (a ≤ 1099511627776))) (by kernel_rfl) (by omega)) ?_
     refine res_ok (cvh (a := (((-1073741824 : Int) ≤ N) ∧ (N ≤ 1073741824))) (by kernel_rfl) (by omega)) ?_
     refine res_ok (cvh (a := (((1 : Int) ≤ D) ∧ (D ≤ 1073741824))) (by kernel_rfl) (by omega)) ?_
     refine res_con rfl trivial (fun p6 _ _ hp6 => ?_)
     replace hp6 := cvh (b := p6 = scF (a * N) D 0) (by kernel_rfl) hp6
     have mm := min_neg (a := a) (b := b) (N := N) (by omega) hv.2.1
     have lf := scl_leaf hv vr mm.1 mm.2 (sc_dn (w := 0) d1 (by omega) (by omega)) (sc_up (w := 0) d1 (by omega) (by omega))
     rw [← hp5, ← hp6] at lf
     refine res_ite (fun k => ?_) fun k => ?_
     ·replace k := cvh (b := (((p5 < -1099511627776) ∨ (p6 < p5)) ∨ ((1099511627776 : Int) < p6))) (by kernel_rfl) k
      exact cvh (a := SclP a b N D 0 0 2) (by kernel_rfl) (lf.1 (by omega))
     ·replace k := cvh (b := ¬ (((p5 < -1099511627776) ∨ (p6 < p5)) ∨ ((1099511627776 : Int) < p6))) (by kernel_rfl) k
      refine res_ok (cvh (a := (((-1099511627776 : Int) ≤ p5) ∧ (p5 ≤ 1099511627776))) (by kernel_rfl) (by omega)) ?_
      exact cvh (a := SclP a b N D p5 p6 0) (by kernel_rfl) (lf.2 (by omega))
    ·replace k2 := cvh (b := ¬ ((0 : Int) ≤ a)) (by kernel_rfl) k2
     refine res_ok (cvh (a := (((-1073741824 : Int) ≤ N) ∧ (N ≤ 1073741824))) (by kernel_rfl) (by omega)) ?_
     refine res_ok (cvh (a := (((1 : Int) ≤ D) ∧ (D ≤ 1073741824))) (by kernel_rfl) (by omega)) ?_
     refine res_con rfl trivial (fun p6 _ _ hp6 => ?_)
     replace hp6 := cvh (b := p6 = scF (a * N) D 1) (by kernel_rfl) hp6
     have mm := min_neg (a := a) (b := b) (N := N) (by omega) hv.2.1
     have lf := scl_leaf hv vr mm.1 mm.2 (sc_dn (w := 0) d1 (by omega) (by omega)) (sc_up (w := 1) d1 (by omega) (by omega))
     rw [← hp5, ← hp6] at lf
     refine res_ite (fun k => ?_) fun k => ?_
     ·replace k := cvh (b := (((p5 < -1099511627776) ∨ (p6 < p5)) ∨ ((1099511627776 : Int) < p6))) (by kernel_rfl) k
      exact cvh (a := SclP a b N D 0 0 2) (by kernel_rfl) (lf.1 (by omega))
     ·replace k := cvh (b := ¬ (((p5 < -1099511627776) ∨ (p6 < p5)) ∨ ((1099511627776 : Int) < p6))) (by kernel_rfl) k
      refine res_ok (cvh (a := (((-1099511627776 : Int) ≤ p5) ∧ (p5 ≤ 1099511627776))) (by kernel_rfl) (by omega)) ?_
      exact cvh (a := SclP a b N D p5 p6 0) (by kernel_rfl) (lf.2 (by omega))
  ·replace k0 := cvh (b := ¬ (N < 0)) (by kernel_rfl) k0
   refine res_ite (fun k1 => ?_) fun k1 => ?_
   ·replace k1 := cvh (b := (a < 0)) (by kernel_rfl) k1
    refine res_ok (cvh (a := (((-1073741824 : Int) ≤ N) ∧ (N ≤ 1073741824))) (by kernel_rfl) (by omega)) ?_
    refine res_ok (cvh (a := (((1 : Int) ≤ D) ∧ (D ≤ 1073741824))) (by kernel_rfl) (by omega)) ?_
    refine res_con rfl trivial (fun p5 _ _ hp5 => ?_)
    replace hp5 := cvh (b := p5 = scF (a * N) D 1) (by kernel_rfl) hp5
    refine res_ite (fun k2 => ?_) fun k2 => ?_
    ·replace k2 := cvh (b := (b < 0)) (by kernel_rfl) k2
     refine res_ok (cvh (a := (((-1073741824 : Int) ≤ N) ∧ (N ≤ 1073741824))) (by kernel_rfl) (by omega)) ?_
     refine res_ok (cvh (a := (((1 : Int) ≤ D) ∧ (D ≤ 1073741824))) (by kernel_rfl) (by omega)) ?_
     refine res_con rfl trivial (fun p6 _ _ hp6 => ?_)
     replace hp6 := cvh (b := p6 = scF (b * N) D 0) (by kernel_rfl) hp6
     have mm := min_pos (a := a) (b := b) (N := N) (by omega) hv.2.1
     have lf := scl_leaf hv vr mm.1 mm.2 (sc_dn (w := 1) d1 (by omega) (by omega)) (sc_up (w := 0) d1 (by omega) (by omega))
     rw [← hp5, ← hp6] at lf
     refine res_ite (fun k => ?_) fun k => ?_
     ·replace k := cvh (b := (((p5 < -1099511627776) ∨ (p6 < p5)) ∨ ((1099511627776 : Int) < p6))) (by kernel_rfl) k
      exact cvh (a := SclP a b N D 0 0 2) (by kernel_rfl) (lf.1 (by omega))
     ·replace k := cvh (b := ¬ (((p5 < -1099511627776) ∨ (p6 < p5)) ∨ ((1099511627776 : Int) < p6))) (by kernel_rfl) k
      refine res_ok (cvh (a := (((-1099511627776 : Int) ≤ p5) ∧ (p5 ≤ 1099511627776))) (by kernel_rfl) (by omega)) ?_
      exact cvh (a := SclP a b N D p5 p6 0) (by kernel_rfl) (lf.2 (by omega))
    ·replace k2 := cvh (b := ¬ (b < 0)) (by kernel_rfl) k2
     refine res_ok (cvh (a := (((-1073741824 : Int) ≤ N) ∧ (N ≤ 1073741824))) (by kernel_rfl) (by omega)) ?_
     refine res_ok (cvh (a := (((1 : Int) ≤ D) ∧ (D ≤ 1073741824))) (by kernel_rfl) (by omega)) ?_
     refine res_con rfl trivial (fun p6 _ _ hp6 => ?_)
     replace hp6 := cvh (b := p6 = scF (b * N) D 1) (by kernel_rfl) hp6
     have mm := min_pos (a := a) (b := b) (N := N) (by omega) hv.2.1
     have lf := scl_leaf hv vr mm.1 mm.2 (sc_dn (w := 1) d1 (by omega) (by omega)) (sc_up (w := 1) d1 (by omega) (by omega))
     rw [← hp5, ← hp6] at lf
     refine res_ite (fun k => ?_) fun k => ?_
     ·replace k := cvh (b := (((p5 < -1099511627776) ∨ (p6 < p5)) ∨ ((1099511627776 : Int) < p6))) (by kernel_rfl) k
      exact cvh (a := SclP a b N D 0 0 2) (by kernel_rfl) (lf.1 (by omega))
     ·replace k := cvh (b := ¬ (((p5 < -1099511627776) ∨ (p6 < p5)) ∨ ((1099511627776 : Int) < p6))) (by kernel_rfl) k
      refine res_ok (cvh (a := (((-1099511627776 : Int) ≤ p5) ∧ (p5 ≤ 1099511627776))) (by kernel_rfl) (by omega)) ?_
      exact cvh (a := SclP a b N D p5 p6 0) (by kernel_rfl) (lf.2 (by omega))
   ·replace k1 := cvh (b := ¬ (a < 0)) (by kernel_rfl) k1
    refine res_ok (cvh (a := (((-1099511627776 : Int) ≤ a) ∧ (a ≤ 1099511627776))) (by kernel_rfl) (by omega)) ?_
    refine res_ok (cvh (a := (((-1073741824 : Int) ≤ N) ∧ (N ≤ 1073741824))) (by kernel_rfl) (by omega)) ?_
    refine res_ok (cvh (a := (((1 : Int) ≤ D) ∧ (D ≤ 1073741824))) (by kernel_rfl) (by omega)) ?_
    refine res_con rfl trivial (fun p5 _ _ hp5 => ?_)
    replace hp5 := cvh (b := p5 = scF (a * N) D 0) (by kernel_rfl) hp5
    refine res_ite (fun k2 => ?_) fun k2 => ?_
    ·replace k2 := cvh (b := (b < 0)) (by kernel_rfl) k2
     refine res_ok (cvh (a := (((-1073741824 : Int) ≤ N) ∧ (N ≤ 1073741824))) (by kernel_rfl) (by omega)) ?_
     refine res_ok (cvh (a := (((1 : Int) ≤ D) ∧ (D ≤ 1073741824))) (by kernel_rfl) (by omega)) ?_
     refine res_con rfl trivial (fun p6 _ _ hp6 => ?_)
     replace hp6 := cvh (b := p6 = scF (b * N) D 0) (by kernel_rfl) hp6
     have mm := min_pos (a := a) (b := b) (N := N) (by omega) hv.2.1
     have lf := scl_leaf hv vr mm.1 mm.2 (sc_dn (w := 0) d1 (by omega) (by omega)) (sc_up (w := 0) d1 (by omega) (by omega))
     rw [← hp5, ← hp6] at lf
     refine res_ite (fun k => ?_) fun k => ?_
     ·replace k := cvh (b := (((p5 < -1099511627776) ∨ (p6 < p5)) ∨ ((1099511627776 : Int) < p6))) (by kernel_rfl) k
      exact cvh (a := SclP a b N D 0 0 2) (by kernel_rfl) (lf.1 (by omega))
     ·replace k := cvh (b := ¬ (((p5 < -1099511627776) ∨ (p6 < p5)) ∨ ((1099511627776 : Int) < p6))) (by kernel_rfl) k
      refine res_ok (cvh (a := (((-1099511627776 : Int) ≤ p5) ∧ (p5 ≤ 1099511627776))) (by kernel_rfl) (by omega)) ?_
      exact cvh (a := SclP a b N D p5 p6 0) (by kernel_rfl) (lf.2 (by omega))
    ·replace k2 := cvh (b := ¬ (b < 0)) (by kernel_rfl) k2
     refine res_ok (cvh (a := (((-1073741824 : Int) ≤ N) ∧ (N ≤ 1073741824))) (by kernel_rfl) (by omega)) ?_
     refine res_ok (cvh (a := (((1 : Int) ≤ D) ∧ (D ≤ 1073741824))) (by kernel_rfl) (by omega)) ?_
     refine res_con rfl trivial (fun p6 _ _ hp6 => ?_)
     replace hp6 := cvh (b := p6 = scF (b * N) D 1) (by kernel_rfl) hp6
     have mm := min_pos (a := a) (b := b) (N := N) (by omega) hv.2.1
     have lf := scl_leaf hv vr mm.1 mm.2 (sc_dn (w := 0) d1 (by omega) (by omega)) (sc_up (w := 1) d1 (by omega) (by omega))
     rw [← hp5, ← hp6] at lf
     refine res_ite (fun k => ?_) fun k => ?_
     ·replace k := cvh (b := (((p5 < -1099511627776) ∨ (p6 < p5)) ∨ ((1099511627776 : Int) < p6))) (by kernel_rfl) k
      exact cvh (a := SclP a b N D 0 0 2) (by kernel_rfl) (lf.1 (by omega))
     ·replace k := cvh (b := ¬ (((p5 < -1099511627776) ∨ (p6 < p5)) ∨ ((1099511627776 : Int) < p6))) (by kernel_rfl) k
      refine res_ok (cvh (a := (((-1099511627776 : Int) ≤ p5) ∧ (p5 ≤ 1099511627776))) (by kernel_rfl) (by omega)) ?_
      exact cvh (a := SclP a b N D p5 p6 0) (by kernel_rfl) (lf.2 (by omega))
end Go.Proofs.Ytgaaommfemgnnaa
