/- DERIVED. Years, months, days: arithmetic only. -/
import Derived.Test.YtdffnmhpkapbkaaDoorEcon
namespace Go.Proofs.YtdffnmhpkapbkaaDoor
open Go.Dx
set_option linter.unusedVariables false
theorem lp_cases (y : Int) : lp y = 0 ∨ lp y = 1 := by unfold lp; split <;> simp
theorem yb_step {y : Int} (h : 2000 ≤ y) : yb (y + 1) = yb y + yl y := by
  unfold yb yl lp
  split <;> split <;> split <;> omega
theorem yb_zero : yb 2000 = 0 := by decide
theorem yb_mono {x y : Int} (h : 2000 ≤ x) (k : x < y) : yb x + yl x ≤ yb y := by
  rw [← yb_step h]
  unfold yb
  split <;> split <;> omega
theorem yb_end {y : Int} (h : 2000 ≤ y) (k : yb y ≤ 73048) : y ≤ 2199 := by
  unfold yb at k
  split at k <;> omega
theorem months {m : Int} (h : 1 ≤ m) (k : m ≤ 12) : m = 1 ∨ m = 2 ∨ m = 3 ∨ m = 4 ∨ m = 5 ∨ m = 6 ∨ m = 7 ∨ m = 8 ∨ m = 9 ∨ m = 10 ∨ m = 11 ∨ m = 12 := by omega
theorem mb_step {y m : Int} (h : 1 ≤ m) (k : m ≤ 12) : mb y (m + 1) = mb y m + ml y m := by
  rcases months h k with rfl | rfl | rfl | rfl | rfl | rfl | rfl | rfl | rfl | rfl | rfl | rfl <;> simp [mb, ml] <;> omega
theorem mb_one (y : Int) : mb y 1 = 0 := by simp [mb]
theorem mb_end (y : Int) : mb y 13 = yl y := by
  have := lp_cases y
  simp [mb, yl]; omega
theorem mb_mono {y m k : Int} (h : 1 ≤ m) (hm : m ≤ 12) (hk : m < k) (hk2 : k ≤ 13) : mb y m + ml y m ≤ mb y k := by
  rw [← mb_step h hm]
  have := lp_cases y
  unfold mb
  split <;> split <;> omega
theorem ml_bd {y m : Int} : 28 ≤ ml y m ∧ ml y m ≤ 31 := by
  have := lp_cases y
  unfold ml
  split
  · omega
  · split <;> omega
theorem mb_bd {y m d : Int} (h : 1 ≤ m) (k : m ≤ 12) (hd : 1 ≤ d) (hd2 : d ≤ ml y m) : 0 ≤ mb y m + d - 1 ∧ mb y m + d - 1 < yl y := by
  have a : 0 ≤ mb y m := by
    have := lp_cases y
    unfold mb
    split <;> omega
  have b := mb_mono (y := y) h k (show m < 13 by omega) (by omega)
  rw [mb_end] at b
  omega
/-- An earlier date has the lesser number. -/
theorem nb_lt {y m d y2 m2 d2 : Int} (h : Date y m d) (k : Date y2 m2 d2) (l : y < y2 ∨ (y = y2 ∧ (m < m2 ∨ (m = m2 ∧ d < d2)))) : nb y m d < nb y2 m2 d2 := by
  obtain ⟨⟨h1, h2⟩, ⟨h3, h4⟩, h5, h6⟩ := h
  obtain ⟨⟨k1, k2⟩, ⟨k3, k4⟩, k5, k6⟩ := k
  unfold nb
  rcases l with l | ⟨rfl, l | ⟨rfl, l⟩⟩
  · have a := yb_mono h1 l
    have b := mb_bd h3 h4 h5 h6
    have c := mb_bd k3 k4 k5 k6
    omega
  · have a := mb_mono (y := y) h3 h4 l (by omega)
    omega
  · omega
theorem nb_one {y m d y2 m2 d2 : Int} (h : Date y m d) (k : Date y2 m2 d2) (e : nb y m d = nb y2 m2 d2) : y = y2 ∧ m = m2 ∧ d = d2 := by
  have a := nb_lt h k
  have b := nb_lt k h
  omega
theorem nb_iff {y m d y2 m2 d2 : Int} (h : Date y m d) (k : Date y2 m2 d2) : nb y m d < nb y2 m2 d2 ↔ (y < y2 ∨ (y = y2 ∧ (m < m2 ∨ (m = m2 ∧ d < d2)))) := by
  have a := nb_lt h k
  have b := nb_lt k h
  constructor
  · intro l
    by_cases c : y = y2 ∧ m = m2 ∧ d = d2
    · obtain ⟨rfl, rfl, rfl⟩ := c; omega
    · omega
  · exact a
theorem nb_bd {y m d : Int} (h : Date y m d) : 0 ≤ nb y m d ∧ nb y m d ≤ 73048 := by
  obtain ⟨⟨h1, h2⟩, ⟨h3, h4⟩, h5, h6⟩ := h
  have b := mb_bd h3 h4 h5 h6
  unfold nb
  by_cases c : y = 2199
  · subst c
    have : yb 2199 = 72684 := by decide
    have : yl 2199 = 365 := by decide
    omega
  · have a := yb_mono h1 (show y < 2199 by omega)
    have : yb 2199 = 72684 := by decide
    have : 0 ≤ yb y := by unfold yb; split <;> omega
    omega
/-- The date after another one. -/
theorem nb_next {y m d y2 m2 d2 : Int} (h : Date y m d) (k : Date y2 m2 d2) (e : nb y2 m2 d2 = nb y m d + 1) :
    (d2 ≠ 1 → y2 = y ∧ m2 = m ∧ d2 = d + 1) ∧ (d2 = 1 → m < 12 → y2 = y ∧ m2 = m + 1 ∧ 28 ≤ d) ∧ (d2 = 1 → ¬ m < 12 → y2 = y + 1 ∧ m2 = 1 ∧ d = 31) := by
  have h' := h
  obtain ⟨⟨h1, h2⟩, ⟨h3, h4⟩, h5, h6⟩ := h
  obtain ⟨⟨k1, k2⟩, ⟨k3, k4⟩, k5, k6⟩ := k
  by_cases c : d < ml y m
  · obtain ⟨rfl, rfl, rfl⟩ := nb_one (y2 := y) (m2 := m) (d2 := d + 1) ⟨⟨k1, k2⟩, ⟨k3, k4⟩, k5, k6⟩ ⟨⟨h1, h2⟩, ⟨h3, h4⟩, by omega, by omega⟩ (by unfold nb at *; omega)
    exact ⟨fun _ => ⟨rfl, rfl, rfl⟩, fun q => by omega, fun q => by omega⟩
  · have e2 : d = ml y m := by omega
    have hb := ml_bd (y := y) (m := m)
    by_cases c2 : m < 12
    · have hb2 := ml_bd (y := y) (m := m + 1)
      have st := mb_step (y := y) h3 h4
      obtain ⟨rfl, rfl, rfl⟩ := nb_one (y2 := y) (m2 := m + 1) (d2 := 1) ⟨⟨k1, k2⟩, ⟨k3, k4⟩, k5, k6⟩ ⟨⟨h1, h2⟩, ⟨by omega, by omega⟩, by omega, by omega⟩ (by unfold nb at *; omega)
      exact ⟨fun q => absurd rfl q, fun _ _ => ⟨rfl, rfl, by omega⟩, fun _ q => absurd c2 q⟩
    · obtain rfl : m = 12 := by omega
      have st := mb_step (y := y) h3 h4
      rw [show (12 : Int) + 1 = 13 from rfl, mb_end] at st
      have sy := yb_step h1
      have l31 : ml y 12 = 31 := by simp [ml]
      by_cases c3 : y = 2199
      · exfalso
        have := nb_bd ⟨⟨k1, k2⟩, ⟨k3, k4⟩, k5, k6⟩
        subst c3
        have : yb 2199 = 72684 := by decide
        have : yl 2199 = 365 := by decide
        unfold nb at *
        omega
      · have hb2 := ml_bd (y := y + 1) (m := 1)
        obtain ⟨rfl, rfl, rfl⟩ := nb_one (y2 := y + 1) (m2 := 1) (d2 := 1) ⟨⟨k1, k2⟩, ⟨k3, k4⟩, k5, k6⟩ ⟨⟨by omega, by omega⟩, ⟨by omega, by omega⟩, by omega, by omega⟩ (by
          unfold nb at *
          rw [mb_one]
          omega)
        exact ⟨fun q => absurd rfl q, fun _ q => absurd q (by omega), fun _ _ => ⟨rfl, rfl, by omega⟩⟩
end Go.Proofs.YtdffnmhpkapbkaaDoor
