/- DERIVED. The simplest number strictly between two: pure. -/
namespace Go.Proofs.Ytkcomadagclikaa
set_option linter.unusedVariables false
set_option linter.unusedSimpArgs false
/-- The simplest fraction strictly between an / ad and bn / bd (bd may be 0), by at most so many steps. -/
def smp : Nat → Int → Int → Int → Int → Int × Int
  | 0, _, _, _, _ => (0, 0)
  | k + 1, an, ad, bn, bd =>
    if (an / ad + 1) * bd < bn then (an / ad + 1, 1)
    else
      let y := smp k bd (bn - an / ad * bd) ad (an - an / ad * ad)
      (an / ad * y.1 + y.2, y.1)
/-- What the arguments keep. -/
def SI (an ad bn bd : Int) : Prop := 0 ≤ an ∧ 1 ≤ ad ∧ 0 ≤ bd ∧ 1 ≤ bn ∧ an * bd < bn * ad
theorem q_spec {an ad : Int} (h0 : 0 ≤ an) (h1 : 1 ≤ ad) : 0 ≤ an / ad ∧ an / ad * ad ≤ an ∧ an < an / ad * ad + ad := by
  have a := Int.ediv_mul_le an (show ad ≠ 0 by omega)
  have b := Int.lt_ediv_add_one_mul_self an (show 0 < ad by omega)
  have c : (an / ad + 1) * ad = an / ad * ad + ad := by grind
  exact ⟨Int.ediv_nonneg h0 (by omega), a, by omega⟩
/-- The part that is beyond the whole one keeps it, and the sum of the denominators falls. -/
theorem SI.next {an ad bn bd : Int} (h : SI an ad bn bd) (k : ¬ (an / ad + 1) * bd < bn) :
    SI bd (bn - an / ad * bd) ad (an - an / ad * ad) ∧ (bn - an / ad * bd) + (an - an / ad * ad) < ad + bd ∧ 1 ≤ bd := by
  obtain ⟨h1, h2, h3, h4, h5⟩ := h
  obtain ⟨q0, q1, q2⟩ := q_spec h1 h2
  generalize an / ad = q at *
  have e : (q + 1) * bd = q * bd + bd := by grind
  have m : q * ad * bd ≤ an * bd := Int.mul_le_mul_of_nonneg_right q1 h3
  have l : q * bd < bn := by
    have : q * bd * ad < bn * ad := by
      have : q * ad * bd = q * bd * ad := by grind
      omega
    exact Int.lt_of_mul_lt_mul_right this (by omega)
  have p1 : bd * (an - q * ad) = an * bd - q * ad * bd := by grind
  have p2 : ad * (bn - q * bd) = bn * ad - q * ad * bd := by grind
  refine ⟨⟨h3, by omega, by omega, by omega, by omega⟩, by omega, ?_⟩
  by_cases z : bd = 0
  · subst z; simp only [Int.mul_zero] at *; omega
  · omega
/-- The result's bounds: it is at most the mediant, and strictly between. -/
theorem smp_bd : ∀ (k : Nat) {an ad bn bd : Int}, SI an ad bn bd → ad + bd ≤ (k : Int) →
    1 ≤ (smp k an ad bn bd).1 ∧ 1 ≤ (smp k an ad bn bd).2 ∧ (smp k an ad bn bd).1 ≤ an + bn ∧ (smp k an ad bn bd).2 ≤ ad + bd ∧
    an * (smp k an ad bn bd).2 < (smp k an ad bn bd).1 * ad ∧ (smp k an ad bn bd).1 * bd < bn * (smp k an ad bn bd).2
  | 0, an, ad, bn, bd, h, hk => by obtain ⟨_, _, _, _, _⟩ := h; omega
  | k + 1, an, ad, bn, bd, h, hk => by
    obtain ⟨q0, q1, q2⟩ := q_spec h.1 h.2.1
    unfold smp
    by_cases c : (an / ad + 1) * bd < bn
    · rw [if_pos c]
      obtain ⟨h1, h2, h3, h4, h5⟩ := h
      generalize an / ad = q at *
      have e : (q + 1) * ad = q * ad + ad := by grind
      have m : q ≤ q * ad := by
        have := Int.mul_le_mul_of_nonneg_left h2 q0
        omega
      exact ⟨by show 1 ≤ q + 1; omega, Int.le_refl _, by show q + 1 ≤ an + bn; omega, by show 1 ≤ ad + bd; omega, by show an * 1 < (q + 1) * ad; omega, by show (q + 1) * bd < bn * 1; omega⟩
    · rw [if_neg c]
      obtain ⟨n, f, g⟩ := h.next c
      obtain ⟨y1, y2, y3, y4, y5, y6⟩ := smp_bd k n (by omega)
      obtain ⟨h1, h2, h3, h4, h5⟩ := h
      generalize an / ad = q at *
      generalize smp k bd (bn - q * bd) ad (an - q * ad) = y at *
      obtain ⟨u, v⟩ := y
      simp only at y1 y2 y3 y4 y5 y6 ⊢
      have p1 : q * u ≤ q * (bd + ad) := Int.mul_le_mul_of_nonneg_left y3 q0
      have p2 : q * (bd + ad) = q * bd + q * ad := by grind
      have p3 : 0 ≤ q * u := Int.mul_nonneg q0 (by omega)
      refine ⟨by omega, y1, by omega, by omega, ?_, ?_⟩
      · have a1 : u * (an - q * ad) = an * u - q * u * ad := by grind
        have a2 : (q * u + v) * ad = q * u * ad + ad * v := by grind
        omega
      · have a1 : u * (bn - q * bd) = bn * u - q * u * bd := by grind
        have a2 : (q * u + v) * bd = q * u * bd + bd * v := by grind
        omega
/-- Whoever lies strictly between has no smaller numerator and no smaller denominator. -/
theorem smp_min : ∀ (k : Nat) {an ad bn bd p r : Int}, SI an ad bn bd → ad + bd ≤ (k : Int) → 1 ≤ r → an * r < p * ad → p * bd < bn * r →
    (smp k an ad bn bd).1 ≤ p ∧ (smp k an ad bn bd).2 ≤ r
  | 0, an, ad, bn, bd, p, r, h, hk, _, _, _ => by obtain ⟨_, _, _, _, _⟩ := h; omega
  | k + 1, an, ad, bn, bd, p, r, h, hk, hr, ha, hb => by
    obtain ⟨q0, q1, q2⟩ := q_spec h.1 h.2.1
    have low : an / ad * r < p := by
      have m : an / ad * ad * r ≤ an * r := Int.mul_le_mul_of_nonneg_right q1 (by omega)
      have : an / ad * r * ad < p * ad := by
        have : an / ad * ad * r = an / ad * r * ad := by grind
        omega
      exact Int.lt_of_mul_lt_mul_right this (by have := h.2.1; omega)
    unfold smp
    by_cases c : (an / ad + 1) * bd < bn
    · rw [if_pos c]
      have m : an / ad ≤ an / ad * r := by
        have := Int.mul_le_mul_of_nonneg_left hr q0
        omega
      exact ⟨by show an / ad + 1 ≤ p; omega, hr⟩
    · rw [if_neg c]
      obtain ⟨n, f, g⟩ := h.next c
      have a1 : r * (bn - an / ad * bd) = bn * r - an / ad * r * bd := by grind
      have a2 : bd * (p - an / ad * r) = p * bd - an / ad * r * bd := by grind
      have a3 : r * (an - an / ad * ad) = an * r - an / ad * r * ad := by grind
      have a4 : ad * (p - an / ad * r) = p * ad - an / ad * r * ad := by grind
      obtain ⟨y1, y2⟩ := smp_min k (p := r) (r := p - an / ad * r) n (by omega) (by omega) (by omega) (by omega)
      generalize an / ad = q at *
      generalize smp k bd (bn - q * bd) ad (an - q * ad) = y at *
      obtain ⟨u, v⟩ := y
      simp only at y1 y2 ⊢
      have p1 : q * u ≤ q * r := Int.mul_le_mul_of_nonneg_left y1 q0
      exact ⟨by omega, y1⟩
/-- More steps change nothing. -/
theorem smp_more : ∀ (k j : Nat) {an ad bn bd : Int}, SI an ad bn bd → ad + bd ≤ (k : Int) → ad + bd ≤ (j : Int) → smp k an ad bn bd = smp j an ad bn bd
  | 0, _, _, _, _, _, h, hk, _ => by obtain ⟨_, _, _, _, _⟩ := h; omega
  | _ + 1, 0, _, _, _, _, h, _, hj => by obtain ⟨_, _, _, _, _⟩ := h; omega
  | k + 1, j + 1, an, ad, bn, bd, h, hk, hj => by
    unfold smp
    by_cases c : (an / ad + 1) * bd < bn
    · rw [if_pos c, if_pos c]
    · rw [if_neg c, if_neg c]
      obtain ⟨n, f, _⟩ := h.next c
      rw [smp_more k j n (by omega) (by omega)]
end Go.Proofs.Ytkcomadagclikaa
