/- DERIVED. What Between returns is the simplest ratio between. -/
import Derived.Test.YtkcomadagclikaaBcu
import Derived.Test.YtkcomadagclikaaFew
namespace Go.Proofs.Ytkcomadagclikaa
open Go.Sx
set_option linter.unusedVariables false
set_option linter.unusedSimpArgs false
theorem mk_pos {n m : Int} (hn : 1 ≤ n) (hm : 1 ≤ m) :
    (mkE n m = 2 ∧ mkN n m = 0 ∧ mkD n m = 0 ∧ mkE (-n) m = 2 ∧ mkN (-n) m = 0 ∧ mkD (-n) m = 0 ∧ (1073741824 < n ∨ 1073741824 < m)) ∨
    ∃ g N D : Int, 1 ≤ g ∧ 1 ≤ N ∧ 1 ≤ D ∧ n = N * g ∧ m = D * g ∧ Val N D ∧ Val (-N) D ∧ mkE n m = 0 ∧ mkN n m = N ∧ mkD n m = D ∧ mkE (-n) m = 0 ∧ mkN (-n) m = -N ∧ mkD (-n) m = D := by
  obtain ⟨g, hg, e1, e2, co⟩ := red (n := n) (d := m) (by omega)
  have r1 : rx (-n) m = rx n m := by unfold rx; rw [Int.natAbs_neg]
  have r2 : ry (-n) m = ry n m := by unfold ry; rw [Int.natAbs_neg]
  have le := rx_le (n := n) (d := m)
  have hm0 : m ≠ 0 := by omega
  by_cases k : rx n m ≤ 1073741824 ∧ ry n m ≤ 1073741824
  · right
    obtain ⟨a1, a2, a3⟩ := mk_ok hm0 k.1 k.2
    obtain ⟨b1, b2, b3⟩ := mk_ok (n := -n) hm0 (r1 ▸ k.1) (r2 ▸ k.2)
    rw [if_pos (by omega)] at a1
    rw [if_neg (by omega), r1] at b1
    rw [r2] at b2
    have yp := ry_pos (n := n) hm0
    have xp : 1 ≤ rx n m := by
      by_cases z : rx n m = 0
      · rw [z] at e1; omega
      · omega
    refine ⟨g, rx n m, ry n m, by omega, by omega, by omega, ?_, ?_, ⟨by omega, by omega, by omega, by omega, gcd_co co rfl rfl⟩, ⟨by omega, by omega, by omega, by omega, gcd_co co (by rw [Int.natAbs_neg]; rfl) rfl⟩, a3, a1, a2, b3, b1, b2⟩
    · have : (n.natAbs : Int) = ((rx n m * g : Nat) : Int) := by rw [← e1]
      rw [Int.natCast_mul] at this
      omega
    · have : (m.natAbs : Int) = ((ry n m * g : Nat) : Int) := by rw [← e2]
      rw [Int.natCast_mul] at this
      omega
  · left
    obtain ⟨a1, a2, a3⟩ := mk_big (n := n) hm0 (by omega)
    obtain ⟨b1, b2, b3⟩ := mk_big (n := -n) hm0 (by rw [r1, r2]; omega)
    exact ⟨a3, a1, a2, b3, b1, b2, by omega⟩
theorem core {K : Nat} {a b c d n m : Int} (sp : SP K a b c d) (hn : n = (smp K a b c d).1) (hm : m = (smp K a b c d).2) :
    (mkE n m = 2 ∧ mkN n m = 0 ∧ mkD n m = 0 ∧ mkE (-n) m = 2 ∧ mkN (-n) m = 0 ∧ mkD (-n) m = 0 ∧ ∀ p q : Int, 1 ≤ q → q ≤ 1073741824 → p ≤ 1073741824 → a * q < p * b → p * d < c * q → False) ∨
    ∃ N D : Int, Val N D ∧ Val (-N) D ∧ 1 ≤ N ∧ a * D < N * b ∧ N * d < c * D ∧ (∀ p q : Int, 1 ≤ q → a * q < p * b → p * d < c * q → D ≤ q ∧ N ≤ p) ∧ mkE n m = 0 ∧ mkN n m = N ∧ mkD n m = D ∧ mkE (-n) m = 0 ∧ mkN (-n) m = -N ∧ mkD (-n) m = D := by
  have bd := smp_bd K sp.1 sp.2.1
  have mn := fun p q h1 h2 h3 => smp_min K (p := p) (r := q) sp.1 sp.2.1 h1 h2 h3
  rw [← hn, ← hm] at bd mn
  obtain ⟨n1, m1, _, _, lo, up⟩ := bd
  rcases mk_pos n1 m1 with ⟨a1, a2, a3, a4, a5, a6, big⟩ | ⟨g, N, D, g1, N1, D1, en, em, v1, v2, a1, a2, a3, a4, a5, a6⟩
  · exact Or.inl ⟨a1, a2, a3, a4, a5, a6, fun p q h1 h2 h3 h4 h5 => by have := mn p q h1 h4 h5; omega⟩
  · refine Or.inr ⟨N, D, v1, v2, N1, ?_, ?_, fun p q h1 h2 h3 => ?_, a1, a2, a3, a4, a5, a6⟩
    · refine Int.lt_of_mul_lt_mul_right (a := g) ?_ (by omega)
      have e1 : a * D * g = a * m := by rw [em]; grind
      have e2 : N * b * g = n * b := by rw [en]; grind
      omega
    · refine Int.lt_of_mul_lt_mul_right (a := g) ?_ (by omega)
      have e1 : N * d * g = n * d := by rw [en]; grind
      have e2 : c * D * g = c * m := by rw [em]; grind
      omega
    · have h := mn p q h1 h2 h3
      have l1 := Int.mul_le_mul_of_nonneg_left g1 (show 0 ≤ N by omega)
      have l2 := Int.mul_le_mul_of_nonneg_left g1 (show 0 ≤ D by omega)
      omega
/-- What is asked of the answer: it lies between, and is the simplest; or none lies between. -/
def SimP (a b c d N D e : Int) : Prop :=
  (e = 2 ∧ N = 0 ∧ D = 0 ∧ ∀ p q : Int, Val p q → a * q < p * b → p * d < c * q → False) ∨
  (e = 0 ∧ Val N D ∧ a * D < N * b ∧ N * d < c * D ∧ ∀ p q : Int, Val p q → a * q < p * b → p * d < c * q → (p = N ∧ q = D) ∨ D < q ∨ (D = q ∧ max N (-N) < max p (-p)))
theorem val_01 : Val 0 1 := ⟨by decide, by decide, by decide, by decide, rfl⟩
theorem btw_sim {K : Nat} (hK : (2147483648 : Int) ≤ K) {a b c d N D e : Int} (hv : V2 a b c d) (hl : a * d < c * b) (h : BtwP K a b c d N D e) : SimP a b c d N D e := by
  obtain ⟨p1, p2, p3⟩ := (h.2 hv).2 hl
  obtain ⟨y1, y2, y3, y4, _⟩ := id hv.1
  obtain ⟨z1, z2, z3, z4, _⟩ := id hv.2
  by_cases x : a < 0 ∧ 0 < c
  · obtain ⟨rfl, rfl, rfl⟩ := p1 x
    exact Or.inr ⟨rfl, val_01, by omega, by omega, fun p q vp _ _ => by have := vp.1; omega⟩
  · by_cases y : c ≤ 0
    · obtain ⟨e1, e2, e3⟩ := p2 y
      have sp := sp_neg hK hv hl y
      have neg : ∀ u v : Int, -u * v = -(u * v) := Int.neg_mul
      rcases core sp rfl rfl with ⟨_, _, _, a1, a2, a3, none⟩ | ⟨N', D', _, v2, N1, lo, up, mn, _, _, _, a1, a2, a3⟩
      · refine Or.inl ⟨e3.trans a1, e1.trans a2, e2.trans a3, fun p q vp h1 h2 => none (-p) q vp.1 vp.2.1 (by have := vp.2.2.1; omega) ?_ ?_⟩
        · rw [neg, neg]; omega
        · rw [neg, neg]; omega
      · have eN := e1.trans a2
        have eD := e2.trans a3
        subst eN eD
        rw [neg] at lo up
        refine Or.inr ⟨e3.trans a1, v2, by rw [neg]; omega, by rw [neg]; omega, fun p q vp h1 h2 => ?_⟩
        have := mn (-p) q vp.1 (by rw [neg, neg]; omega) (by rw [neg, neg]; omega)
        omega
    · obtain ⟨e1, e2, e3⟩ := p3 (by omega)
      have sp := sp_pos hK hv hl (by omega)
      rcases core sp rfl rfl with ⟨a1, a2, a3, _, _, _, none⟩ | ⟨N', D', v1, _, N1, lo, up, mn, a1, a2, a3, _, _, _⟩
      · exact Or.inl ⟨e3.trans a1, e1.trans a2, e2.trans a3, fun p q vp h1 h2 => none p q vp.1 vp.2.1 vp.2.2.2.1 h1 h2⟩
      · have eN := e1.trans a2
        have eD := e2.trans a3
        subst eN eD
        refine Or.inr ⟨e3.trans a1, v1, lo, up, fun p q vp h1 h2 => ?_⟩
        have := mn p q vp.1 h1 h2
        omega
end Go.Proofs.Ytkcomadagclikaa
