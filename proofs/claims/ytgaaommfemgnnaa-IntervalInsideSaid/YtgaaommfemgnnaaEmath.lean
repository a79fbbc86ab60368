/- DERIVED. Quotients rounded down and up; ratios; roots. -/
import Derived.Test.YtgaaommfemgnnaaEcon
namespace Go.Proofs.Ytgaaommfemgnnaa
open Go.Dx
set_option linter.unusedVariables false
theorem flo_eq {z d q r : Int} (hd : 0 < d) (h : z = d * q + r) (h0 : 0 ≤ r) (h1 : r < d) : flo z d = q :=
  ((Int.ediv_emod_unique hd).2 ⟨by omega, h0, h1⟩).1
theorem div_is {m d : Int} (hd : 0 < d) : m = d * (m / d) + m % d ∧ 0 ≤ m % d ∧ m % d < d :=
  ⟨(Int.mul_ediv_add_emod m d).symm, Int.emod_nonneg m (by omega), Int.emod_lt_of_pos m hd⟩
/-- Down of a negative number. -/
theorem flo_neg {m d : Int} (hd : 0 < d) : flo (-m) d = if 0 < m % d then -(m / d) - 1 else -(m / d) := by
  obtain ⟨e, r0, r1⟩ := div_is (m := m) hd
  generalize m / d = q at *
  generalize m % d = r at *
  split
  · refine flo_eq (r := d - r) hd ?_ (by omega) (by omega)
    rw [Int.mul_sub, Int.mul_neg, Int.mul_one]; omega
  · refine flo_eq (r := 0) hd ?_ (by omega) (by omega)
    rw [Int.mul_neg]; omega
theorem sc_dn {z d w : Int} (hd : 1 ≤ d) (h0 : 0 < z → w = 0) (h1 : z < 0 → w = 1) :
    scF z d w = flo z d ∨ (scF z d w = 2199023255552 ∧ 2199023255552 < flo z d) ∨ (scF z d w = -2199023255552 ∧ flo z d < -2199023255552) := by
  unfold scF scQ
  by_cases hz : z < 0
  · rw [if_pos hz]
    have e := flo_neg (m := -z) (d := d) (by omega)
    rw [Int.neg_neg] at e
    rw [e]
    have := h1 hz
    subst this
    split
    · right; right
      refine ⟨rfl, ?_⟩
      split <;> omega
    · left
      by_cases c : 0 < -z % d
      · rw [if_pos ⟨rfl, c⟩, if_pos c]; omega
      · rw [if_neg (fun k => c k.2), if_neg c]
  · rw [if_neg hz]
    unfold flo
    split
    · exact .inr (.inl ⟨rfl, by assumption⟩)
    · left
      by_cases c : z = 0
      · subst c; rw [Int.zero_emod, if_neg (fun k => by omega)]
      · have := h0 (by omega)
        subst this
        rw [if_neg (fun k => by have := k.1; omega)]
theorem sc_up {z d w : Int} (hd : 1 ≤ d) (h0 : 0 < z → w = 1) (h1 : z < 0 → w = 0) :
    scF z d w = cei z d ∨ (scF z d w = 2199023255552 ∧ 2199023255552 < cei z d) ∨ (scF z d w = -2199023255552 ∧ cei z d < -2199023255552) := by
  unfold scF scQ
  have ec : cei z d = -flo (-z) d := rfl
  rw [ec]
  by_cases hz : z < 0
  · rw [if_pos hz]
    have := h1 hz
    subst this
    unfold flo
    split
    · exact .inr (.inr ⟨rfl, by omega⟩)
    · left
      rw [if_neg (fun k => by have := k.1; omega)]
  · rw [if_neg hz]
    have e := flo_neg (m := z) (d := d) (by omega)
    rw [e]
    split
    · right; left
      refine ⟨rfl, ?_⟩
      split <;> omega
    · left
      by_cases c : z = 0
      · subst c; rw [Int.zero_emod, if_neg (fun k => by omega), if_neg (by omega)]; omega
      · have := h0 (by omega)
        subst this
        by_cases k : 0 < z % d
        · rw [if_pos ⟨rfl, k⟩, if_pos k]; omega
        · rw [if_neg (fun j => k j.2), if_neg k]; omega
theorem flo_mono {x y d : Int} (hd : 0 < d) (h : x ≤ y) : flo x d ≤ flo y d := Int.ediv_le_ediv hd h
theorem cei_mono {x y d : Int} (hd : 0 < d) (h : x ≤ y) : cei x d ≤ cei y d := by
  have := flo_mono hd (show -y ≤ -x by omega)
  unfold cei; unfold flo at this; omega
theorem flo_cei {x d : Int} (hd : 0 < d) : flo x d ≤ cei x d ∧ cei x d ≤ flo x d + 1 := by
  have e := flo_neg (m := x) hd
  have ec : cei x d = -flo (-x) d := rfl
  rw [ec, e]
  unfold flo
  split <;> omega
theorem flo_min {x y d : Int} (hd : 0 < d) : flo (min x y) d = min (flo x d) (flo y d) := by
  rcases Int.le_total x y with h | h
  · have := flo_mono hd h; rw [Int.min_eq_left h, Int.min_eq_left this]
  · have := flo_mono hd h; rw [Int.min_eq_right h, Int.min_eq_right this]
theorem cei_max {x y d : Int} (hd : 0 < d) : cei (max x y) d = max (cei x d) (cei y d) := by
  rcases Int.le_total x y with h | h
  · have := cei_mono hd h; rw [Int.max_eq_right h, Int.max_eq_right this]
  · have := cei_mono hd h; rw [Int.max_eq_left h, Int.max_eq_left this]
theorem flo_bd {z d k : Int} (hd : 0 < d) (h : z < k * d) : flo z d < k := (Int.ediv_lt_iff_lt_mul hd).2 h
theorem flo_ge {z d k : Int} (hd : 0 < d) (h : k * d ≤ z) : k ≤ flo z d := (Int.le_ediv_iff_mul_le hd).2 h
/-- A sum's quotient. -/
theorem flo_add {q N r d : Int} (hd : 0 < d) : flo (q * d + r) d = q + flo r d := by
  unfold flo
  rw [Int.add_comm, Int.add_mul_ediv_right _ _ (by omega), Int.add_comm]
theorem op_no {A : Prop} {lo hi : Int} (h : ¬ A) : OpP A lo hi 0 0 130 := ⟨fun a => absurd a h, fun a => absurd a h, fun _ => ⟨rfl, rfl, rfl⟩⟩
theorem op_big {A : Prop} {lo hi : Int} (a : A) (h : ¬ V lo hi) : OpP A lo hi 0 0 2 := ⟨fun _ v => absurd v h, fun _ _ => ⟨rfl, rfl, rfl⟩, fun n => absurd a n⟩
theorem op_ok {A : Prop} {lo hi x y : Int} (a : A) (h : V lo hi) (hx : x = lo) (hy : y = hi) : OpP A lo hi x y 0 := ⟨fun _ v => ⟨hx, hy, rfl⟩, fun _ n => absurd h n, fun n => absurd a n⟩
theorem op_un {A : Prop} {lo hi x y e : Int} (h : OpP A lo hi x y e) : (A ∧ V lo hi ∧ x = lo ∧ y = hi ∧ e = 0) ∨ (A ∧ ¬ V lo hi ∧ x = 0 ∧ y = 0 ∧ e = 2) ∨ (¬ A ∧ x = 0 ∧ y = 0 ∧ e = 130) := by
  by_cases a : A
  · by_cases v : V lo hi
    · exact .inl ⟨a, v, h.1 a v⟩
    · exact .inr (.inl ⟨a, v, h.2.1 a v⟩)
  · exact .inr (.inr ⟨a, h.2.2 a⟩)
theorem OpP.eq {A : Prop} {lo hi x y e x' y' e' : Int} (h : OpP A lo hi x y e) (h' : OpP A lo hi x' y' e') : x = x' ∧ y = y' ∧ e = e' := by
  by_cases a : A
  · by_cases v : V lo hi
    · have := h.1 a v; have := h'.1 a v; omega
    · have := h.2.1 a v; have := h'.2.1 a v; omega
  · have := h.2.2 a; have := h'.2.2 a; omega
end Go.Proofs.Ytgaaommfemgnnaa
