/- DERIVED. The function literal that calls itself by the variable that it captures. -/
import Derived.Test.YtkcomadagclikaaRows
import Derived.Test.YtkcomadagclikaaSmp
import Derived.WalkKit
namespace Go.Proofs.Ytkcomadagclikaa
set_option linter.unusedVariables false
set_option linter.unusedSimpArgs false
open Go.RowKit
theorem w64 {z : Int} (h1 : -9223372036854775808 ≤ z) (h2 : z ≤ 9223372036854775807) : wrap64 z = z := by unfold wrap64; omega
theorem mul_b {x y : Int} (h1 : 0 ≤ x) (h2 : x ≤ 2147483648) (h3 : 0 ≤ y) (h4 : y ≤ 2147483648) : 0 ≤ x * y ∧ x * y ≤ 4611686018427387904 :=
  ⟨Int.mul_nonneg h1 h3, by have := Int.mul_le_mul h2 h4 h3 (by omega : (0 : Int) ≤ 2147483648); omega⟩
set_option maxHeartbeats 1600000 in
theorem find_any (k : Nat) : ∀ (an ad bn bd : Int) (a : Nat) (w : World), SI an ad bn bd → ad + bd ≤ (k : Int) → an ≤ 1073741824 → ad ≤ 1073741824 → bn ≤ 1073741824 → bd ≤ 1073741824 →
    w.cell? ⟨a, 0, none⟩ = some (.func (.func 48) #[] #[.pointer (some ⟨a, 0, none⟩)]) →
    Calls Try.prog 48 #[.int .i64 an, .int .i64 ad, .int .i64 bn, .int .i64 bd, .pointer (some ⟨a, 0, none⟩)] w fun e w' => e = .returned (.tuple #[.int .i64 (smp k an ad bn bd).1, .int .i64 (smp k an ad bn bd).2]) ∧ w' = w := by
  induction k with
  | zero =>
    intro an ad bn bd a w h hk _ _ _ _ _
    obtain ⟨_, _, _, _, _⟩ := h
    omega
  | succ k ih =>
    intro an ad bn bd a w h hk b1 b2 b3 b4 hc
    obtain ⟨q0, q1, q2⟩ := q_spec h.1 h.2.1
    obtain ⟨h1, h2, h3, h4, h5⟩ := id h
    have qt : an.tdiv ad = an / ad := Int.tdiv_eq_ediv_of_nonneg h1
    have qa : an / ad ≤ an := by
      have := Int.mul_le_mul_of_nonneg_left h2 q0
      omega
    have m1 := mul_b (show 0 ≤ an / ad + 1 by omega) (by omega) h3 (by omega)
    have m2 := mul_b (show 0 ≤ an / ad by omega) (by omega) h3 (by omega)
    have wq : wrap64 (an / ad) = an / ad := w64 (by omega) (by omega)
    have w0 : wrap64 (an / ad + 1) = an / ad + 1 := w64 (by omega) (by omega)
    have w1 : wrap64 ((an / ad + 1) * bd) = (an / ad + 1) * bd := w64 (by omega) (by omega)
    have w2 : wrap64 (an / ad * bd) = an / ad * bd := w64 (by omega) (by omega)
    have w3 : wrap64 (bn - an / ad * bd) = bn - an / ad * bd := w64 (by omega) (by omega)
    have w4 : wrap64 (an / ad * ad) = an / ad * ad := w64 (by omega) (by omega)
    have w5 : wrap64 (an - an / ad * ad) = an - an / ad * ad := w64 (by omega) (by omega)
    have wt : wrap64 (wrap64 (wrap64 (an / ad) + 1) * bd) = (an / ad + 1) * bd := by rw [wq, w0, w1]
    go_enter Try.func48, Try.ntmps48
    go_wp2_with (go_at_call 48; have c : ¬ (an / ad + 1) * bd < bn := (by omega); have nx := SI.next h c; refine (ih bd (bn - an / ad * bd) ad (an - an / ad * ad) a w nx.1 (by omega) b4 (by omega) b2 (by omega) hc).mono ?_; rintro e w' ⟨rfl, rfl⟩)
    · have c : (an / ad + 1) * bd < bn := by omega
      go_ret2
      rw [show smp (k + 1) an ad bn bd = (an / ad + 1, 1) by rw [smp, if_pos c]]
      exact ⟨rfl, rfl⟩
    · have c : ¬ (an / ad + 1) * bd < bn := by omega
      have nx := SI.next h c
      have ub := smp_bd k nx.1 (by omega)
      have ue : smp (k + 1) an ad bn bd = (an / ad * (smp k bd (bn - an / ad * bd) ad (an - an / ad * ad)).1 + (smp k bd (bn - an / ad * bd) ad (an - an / ad * ad)).2, (smp k bd (bn - an / ad * bd) ad (an - an / ad * ad)).1) := by rw [smp, if_neg c]
      have mm := mul_b (show 0 ≤ an / ad by omega) (by omega) (show 0 ≤ (smp k bd (bn - an / ad * bd) ad (an - an / ad * ad)).1 by omega) (by omega)
      have v1 : wrap64 (an / ad * (smp k bd (bn - an / ad * bd) ad (an - an / ad * ad)).1) = an / ad * (smp k bd (bn - an / ad * bd) ad (an - an / ad * ad)).1 := w64 (by omega) (by omega)
      have v2 : wrap64 (an / ad * (smp k bd (bn - an / ad * bd) ad (an - an / ad * ad)).1 + (smp k bd (bn - an / ad * bd) ad (an - an / ad * ad)).2) = an / ad * (smp k bd (bn - an / ad * bd) ad (an - an / ad * ad)).1 + (smp k bd (bn - an / ad * bd) ad (an - an / ad * ad)).2 := w64 (by omega) (by omega)
      go_ret2
      rw [ue]
      exact ⟨by rw [v1, v2]; rfl, rfl⟩
end Go.Proofs.Ytkcomadagclikaa
