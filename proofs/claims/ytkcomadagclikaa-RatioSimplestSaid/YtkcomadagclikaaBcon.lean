/- DERIVED. The simplest number between two, and what lies between ratios: what the functions have to keep. -/
import Derived.Test.YtkcomadagclikaaOps
import Derived.Test.YtkcomadagclikaaSmp
namespace Go.Proofs.Ytkcomadagclikaa
open Go.Sx
set_option linter.unusedVariables false
abbrev sb : Int × Int := (1, 2147483648)
/-- The arguments: what they keep, and how great they are. -/
def SP (K : Nat) (a b c d : Int) : Prop := SI a b c d ∧ b + d ≤ (K : Int) ∧ a ≤ 1073741824 ∧ b ≤ 1073741824 ∧ c ≤ 1073741824 ∧ d ≤ 1073741824
def cSmpR (K : Nat) : Con :=
  { f := 42, args := [two, two], res := [rtwo], bnd := [sb, sb]
    pre := fun | [a, b, c, d] => SP K a b c d | _ => False
    post := fun | [a, b, c, d], [x, y] => x = (smp K a b c d).1 ∧ y = (smp K a b c d).2 | _, _ => False }
def cSmp (K : Nat) : Con :=
  { f := 41, args := [.int .i64, .int .i64, .int .i64, .int .i64], res := [i64s, i64s], bnd := [sb, sb]
    pre := fun | [a, b, c, d] => SP K a b c d | _ => False
    post := fun | [a, b, c, d], [x, y] => x = (smp K a b c d).1 ∧ y = (smp K a b c d).2 | _, _ => False }
/-- What Between makes of a / b and c / d. -/
def BtwP (K : Nat) (a b c d N D e : Int) : Prop :=
  (¬ V2 a b c d → N = 0 ∧ D = 0 ∧ e = 120) ∧ (V2 a b c d →
    (¬ a * d < c * b → N = 0 ∧ D = 0 ∧ e = 1) ∧ (a * d < c * b →
      (a < 0 ∧ 0 < c → N = 0 ∧ D = 1 ∧ e = 0) ∧
      (c ≤ 0 → N = mkN (-(smp K (-c) d (-a) b).1) (smp K (-c) d (-a) b).2 ∧ D = mkD (-(smp K (-c) d (-a) b).1) (smp K (-c) d (-a) b).2 ∧ e = mkE (-(smp K (-c) d (-a) b).1) (smp K (-c) d (-a) b).2) ∧
      (0 ≤ a → N = mkN (smp K a b c d).1 (smp K a b c d).2 ∧ D = mkD (smp K a b c d).1 (smp K a b c d).2 ∧ e = mkE (smp K a b c d).1 (smp K a b c d).2)))
def cBtw (f : FuncId) (K : Nat) : Con :=
  { f := f, args := [two, two], res := [rtwo, i64s], bnd := [mr, mp, (0, 120)]
    pre := fun | [a, b, c, d] => I4 a b c d | _ => False
    post := fun | [a, b, c, d], [N, D, e] => BtwP K a b c d N D e | _, _ => False }
theorem BtwP.eq {K : Nat} {a b c d N D e N' D' e' : Int} (h : BtwP K a b c d N D e) (h' : BtwP K a b c d N' D' e') : N = N' ∧ D = D' ∧ e = e' := by
  by_cases hv : V2 a b c d
  · by_cases hl : a * d < c * b
    · obtain ⟨p1, p2, p3⟩ := (h.2 hv).2 hl
      obtain ⟨q1, q2, q3⟩ := (h'.2 hv).2 hl
      by_cases x : a < 0 ∧ 0 < c
      · have := p1 x; have := q1 x; omega
      · by_cases y : c ≤ 0
        · obtain ⟨r1, r2, r3⟩ := p2 y; obtain ⟨s1, s2, s3⟩ := q2 y
          exact ⟨r1.trans s1.symm, r2.trans s2.symm, r3.trans s3.symm⟩
        · obtain ⟨r1, r2, r3⟩ := p3 (by omega); obtain ⟨s1, s2, s3⟩ := q3 (by omega)
          exact ⟨r1.trans s1.symm, r2.trans s2.symm, r3.trans s3.symm⟩
    · have := (h.2 hv).1 hl; have := (h'.2 hv).1 hl; omega
  · have := h.1 hv; have := h'.1 hv; omega
/-- The arguments of the two calls keep what they have to. -/
theorem sp_pos {K : Nat} (hK : (2147483648 : Int) ≤ K) {a b c d : Int} (hv : V2 a b c d) (hl : a * d < c * b) (h0 : 0 ≤ a) : SP K a b c d := by
  obtain ⟨x1, x2, x3, x4, _⟩ := hv.1
  obtain ⟨y1, y2, y3, y4, _⟩ := hv.2
  have : 0 ≤ a * d := Int.mul_nonneg h0 (by omega)
  have c1 : 1 ≤ c := by
    by_cases z : 1 ≤ c
    · exact z
    · exfalso
      have : c * b ≤ 0 * b := Int.mul_le_mul_of_nonneg_right (by omega) (by omega)
      omega
  exact ⟨⟨h0, x1, by omega, c1, hl⟩, by omega, x4, x2, y4, y2⟩
theorem sp_neg {K : Nat} (hK : (2147483648 : Int) ≤ K) {a b c d : Int} (hv : V2 a b c d) (hl : a * d < c * b) (h0 : c ≤ 0) : SP K (-c) d (-a) b := by
  obtain ⟨x1, x2, x3, x4, _⟩ := hv.1
  obtain ⟨y1, y2, y3, y4, _⟩ := hv.2
  have : c * b ≤ 0 * b := Int.mul_le_mul_of_nonneg_right h0 (by omega)
  have c1 : a < 0 := by
    by_cases z : a < 0
    · exact z
    · exfalso
      have : 0 ≤ a * d := Int.mul_nonneg (by omega) (by omega)
      omega
  have e1 : -c * b = -(c * b) := Int.neg_mul ..
  have e2 : -a * d = -(a * d) := Int.neg_mul ..
  exact ⟨⟨by omega, y1, by omega, by omega, by omega⟩, by omega, by omega, y2, by omega, x2⟩
/-- Lowering nothing: what is asked of lowest, of the result's bounds. -/
theorem smp_b {K : Nat} {a b c d : Int} (h : SP K a b c d) : 1 ≤ (smp K a b c d).1 ∧ (smp K a b c d).1 ≤ 2147483648 ∧ 1 ≤ (smp K a b c d).2 ∧ (smp K a b c d).2 ≤ 2147483648 := by
  obtain ⟨h, k, _, _, _, _⟩ := h
  have := smp_bd K h k
  omega
end Go.Proofs.Ytkcomadagclikaa
