/- DERIVED. What a reach loses, in numbers: arithmetic only. -/
import Derived.Test.YtnleeohiomcieaaDoorDcon
namespace Go.Proofs.YtnleeohiomcieaaDoor
open Go.Dx
set_option linter.unusedVariables false
theorem td {a b : Int} (h : 0 ≤ a) : a.tdiv b = a / b := Int.tdiv_eq_ediv_of_nonneg h
theorem mul_nn {a b : Int} (h : 0 ≤ a) (k : 0 ≤ b) : 0 ≤ a * b := Int.mul_nonneg h k
theorem mul_le {a b c d : Int} (h : a ≤ b) (k : c ≤ d) (ha : 0 ≤ b) (hc : 0 ≤ c) : a * c ≤ b * d := Int.mul_le_mul h k hc ha
/-- What is known of a right reach. -/
structure Fit (r : Rch) : Prop where
  el : 0 ≤ r.el
  le : r.el ≤ r.eh
  eh : r.eh ≤ 1073741824
  d0 : 1 ≤ r.d0
  d0m : r.d0 ≤ 1073741824
  d1 : 1 ≤ r.d1
  d1m : r.d1 ≤ 1073741824
  n0 : 0 ≤ r.n0
  n1 : 0 ≤ r.n1
  n0d : r.n0 ≤ r.d0
  n1d : r.n1 ≤ r.d1
  cross : r.n0 * r.d1 ≤ r.n1 * r.d0
/-- Of two shares in order both lie between 0 and 1. -/
theorem shr_mid {n0 d0 n1 d1 : Int} (h0 : 1 ≤ d0) (h1 : 1 ≤ d1) (hc : n0 * d1 ≤ n1 * d0) (hn : 0 ≤ n0) (hd : n1 ≤ d1) : 0 ≤ n1 ∧ n0 ≤ d0 := by
  constructor
  · by_cases h : 0 ≤ n1
    · exact h
    · exfalso
      have a1 : 0 ≤ n0 * d1 := mul_nn hn (by omega)
      have a2 : n1 * d0 ≤ (-1) * d0 := Int.mul_le_mul_of_nonneg_right (by omega) (by omega)
      omega
  · by_cases h : n0 ≤ d0
    · exact h
    · exfalso
      have a1 : (d0 + 1) * d1 ≤ n0 * d1 := Int.mul_le_mul_of_nonneg_right (by omega) (by omega)
      have a2 : n1 * d0 ≤ d1 * d0 := Int.mul_le_mul_of_nonneg_right hd (by omega)
      have a3 : (d0 + 1) * d1 = d0 * d1 + d1 := by rw [Int.add_mul, Int.one_mul]
      have a4 : d1 * d0 = d0 * d1 := Int.mul_comm _ _
      omega
theorem OkR.fit {r : Rch} (h : OkR r) : Fit r := by
  obtain ⟨⟨h1, h2, h3⟩, ⟨a1, a2, a3, a4, _⟩, ⟨b1, b2, b3, b4, _⟩, h4, h5, h6⟩ := h
  have := shr_mid a1 b1 h4 h5 h6
  exact ⟨h1, h2, h3, a1, a2, b1, b2, h5, this.1, this.2, h6, h4⟩
/-- Rounded up: between. -/
theorem div_bd {a d : Int} (hd : 1 ≤ d) : a / d * d ≤ a ∧ a < a / d * d + d := by
  have h1 := Int.emod_add_mul_ediv a d
  have h2 := Int.emod_nonneg a (show d ≠ 0 by omega)
  have h3 := Int.emod_lt_of_pos a (show 0 < d by omega)
  rw [Int.mul_comm d] at h1
  omega
theorem div_step {a b d k : Int} (hd : 1 ≤ d) (h : b ≤ a + k * d) : b / d ≤ a / d + k := by
  rw [← Int.add_mul_ediv_right a k (show d ≠ 0 by omega)]
  exact Int.ediv_le_ediv (by omega) h
/-- The parts that are multiplied stay small. -/
theorem part_bd {v n d : Int} (hv : Lit v) (hn : 0 ≤ n) (hnd : n ≤ d) (hd : d ≤ 1073741824) : 0 ≤ v * n ∧ v * n ≤ 1152921504606846976 := by
  refine ⟨mul_nn hv.1 hn, ?_⟩
  have := mul_le (a := v) (b := 1073741824) (c := n) (d := 1073741824) hv.2 (by omega) (by omega) hn
  omega
theorem up_le {v n d : Int} (hv : 0 ≤ v) (hn : 0 ≤ n) (hnd : n ≤ d) (hd : 1 ≤ d) : 0 ≤ (v * n + d - 1) / d ∧ (v * n + d - 1) / d ≤ v := by
  constructor
  · exact Int.ediv_nonneg (by have := mul_nn hv hn; omega) (by omega)
  · have h1 := div_step (a := d - 1) (b := v * n + d - 1) (k := v) hd (by
      have := Int.mul_le_mul_of_nonneg_left hnd hv
      omega)
    have h2 : (d - 1) / d = 0 := Int.ediv_eq_zero_of_lt (by omega) (by omega)
    omega
theorem dn_le {v n d : Int} (hv : 0 ≤ v) (hn : 0 ≤ n) (hnd : n ≤ d) (hd : 1 ≤ d) : 0 ≤ v * n / d ∧ v * n / d ≤ v := by
  refine ⟨Int.ediv_nonneg (mul_nn hv hn) (by omega), ?_⟩
  have h1 := div_step (a := 0) (b := v * n) (k := v) hd (by
    have := Int.mul_le_mul_of_nonneg_left hnd hv
    omega)
  simpa using h1
section
variable {r : Rch} (h : Fit r)
include h
theorem hi_eq {v : Int} (hv : 0 ≤ v) : hiF r v = min v (r.eh + (v * r.n1 + r.d1 - 1) / r.d1) := by
  unfold hiF
  rw [td (by have := mul_nn hv h.n1; have := h.d1; omega)]
theorem lo_eq {v : Int} (hv : 0 ≤ v) : loF r v = min v (r.el + v * r.n0 / r.d0) := by
  unfold loF
  rw [td (mul_nn hv h.n0)]
theorem hi_bd {v : Int} (hv : Lit v) : 0 ≤ hiF r v ∧ hiF r v ≤ v := by
  rw [hi_eq h hv.1]
  have := up_le hv.1 h.n1 h.n1d h.d1
  have := h.el; have := h.le; have := hv.1
  omega
theorem lo_bd {v : Int} (hv : Lit v) : 0 ≤ loF r v ∧ loF r v ≤ v := by
  rw [lo_eq h hv.1]
  have := dn_le hv.1 h.n0 h.n0d h.d0
  have := h.el; have := h.le; have := hv.1
  omega
/-- v * n / d, rounded up, of a greater share is no less than the other one, rounded down. -/
theorem lo_hi {v : Int} (hv : Lit v) : loF r v ≤ hiF r v := by
  rw [hi_eq h hv.1, lo_eq h hv.1]
  have key : v * r.n0 / r.d0 ≤ (v * r.n1 + r.d1 - 1) / r.d1 := by
    have a := div_bd (a := v * r.n0) h.d0
    have b := div_bd (a := v * r.n1 + r.d1 - 1) h.d1
    generalize v * r.n0 / r.d0 = x at *
    generalize (v * r.n1 + r.d1 - 1) / r.d1 = y at *
    by_cases hxy : x ≤ y
    · exact hxy
    · exfalso
      have hd0 := h.d0; have hd1 := h.d1
      -- (y + 1) d0 d1 ≤ x d0 d1 ≤ v n0 d1 ≤ v n1 d0 ≤ y d1 d0
      have c1 : v * r.n1 ≤ y * r.d1 := by omega
      have c2 : v * r.n1 * r.d0 ≤ y * r.d1 * r.d0 := Int.mul_le_mul_of_nonneg_right c1 (by omega)
      have c3 : x * r.d0 * r.d1 ≤ v * r.n0 * r.d1 := Int.mul_le_mul_of_nonneg_right a.1 (by omega)
      have c4 : v * (r.n0 * r.d1) ≤ v * (r.n1 * r.d0) := Int.mul_le_mul_of_nonneg_left h.cross hv.1
      have c5 : (y + 1) * (r.d0 * r.d1) ≤ x * (r.d0 * r.d1) := Int.mul_le_mul_of_nonneg_right (by omega) (mul_nn (by omega) (by omega))
      have c6 : 1 ≤ r.d0 * r.d1 := by
        have := mul_le (a := 1) (b := r.d0) (c := 1) (d := r.d1) hd0 hd1 (by omega) (by omega)
        omega
      rw [Int.add_mul, Int.one_mul] at c5
      rw [← Int.mul_assoc, ← Int.mul_assoc] at c4
      rw [← Int.mul_assoc, ← Int.mul_assoc] at c5
      have c7 : y * r.d1 * r.d0 = y * r.d0 * r.d1 := by rw [Int.mul_assoc, Int.mul_comm r.d1, ← Int.mul_assoc]
      omega
  have := h.le
  omega
theorem worst_mono {a b : Int} (ha : 0 ≤ a) (hab : a ≤ b) : worst r a ≤ worst r b := by
  unfold worst
  rw [hi_eq h ha, hi_eq h (show 0 ≤ b by omega)]
  have h1 := div_step (a := a * r.n1 + r.d1 - 1) (b := b * r.n1 + r.d1 - 1) (k := b - a) h.d1 (by
    have := Int.mul_le_mul_of_nonneg_left h.n1d (show 0 ≤ b - a by omega)
    rw [Int.sub_mul] at this
    omega)
  omega
theorem best_mono {a b : Int} (ha : 0 ≤ a) (hab : a ≤ b) : best r a ≤ best r b := by
  unfold best
  rw [lo_eq h ha, lo_eq h (show 0 ≤ b by omega)]
  have h1 := div_step (a := a * r.n0) (b := b * r.n0) (k := b - a) h.d0 (by
    have := Int.mul_le_mul_of_nonneg_left h.n0d (show 0 ≤ b - a by omega)
    rw [Int.sub_mul] at this
    omega)
  omega
theorem way_mono (q : Bool) {a b : Int} (ha : 0 ≤ a) (hab : a ≤ b) : wayF q r a ≤ wayF q r b := by
  cases q
  · exact worst_mono h ha hab
  · exact best_mono h ha hab
theorem worst_bd {v : Int} (hv : Lit v) : 0 ≤ worst r v ∧ worst r v ≤ v := by
  have := hi_bd h hv
  unfold worst; omega
theorem best_bd {v : Int} (hv : Lit v) : 0 ≤ best r v ∧ best r v ≤ v := by
  have := lo_bd h hv
  unfold best; omega
theorem way_bd (q : Bool) {v : Int} (hv : Lit v) : 0 ≤ wayF q r v ∧ wayF q r v ≤ v := by
  cases q
  · exact worst_bd h hv
  · exact best_bd h hv
theorem worst_best {v : Int} (hv : Lit v) : worst r v ≤ best r v := by
  have := lo_hi h hv
  unfold worst best; omega
/-- Two parcels that go as one. -/
theorem worst_add {a b : Int} (ha : 0 ≤ a) (hb : 0 ≤ b) (hab : a + b ≤ 1073741824) : worst r a + worst r b ≤ worst r (a + b) := by
  by_cases a0 : worst r a = 0
  · have := worst_mono h hb (show b ≤ a + b by omega)
    omega
  by_cases b0 : worst r b = 0
  · have := worst_mono h ha (show a ≤ a + b by omega)
    omega
  have wa := worst_bd h (v := a) ⟨ha, by omega⟩
  have wb := worst_bd h (v := b) ⟨hb, by omega⟩
  unfold worst at *
  rw [hi_eq h ha] at *
  rw [hi_eq h hb] at *
  rw [hi_eq h (show 0 ≤ a + b by omega)]
  have key : ((a + b) * r.n1 + r.d1 - 1) / r.d1 ≤ (a * r.n1 + r.d1 - 1) / r.d1 + (b * r.n1 + r.d1 - 1) / r.d1 := by
    have x := div_bd (a := a * r.n1 + r.d1 - 1) h.d1
    refine Int.le_trans (div_step (a := b * r.n1 + r.d1 - 1) (k := (a * r.n1 + r.d1 - 1) / r.d1) h.d1 ?_) (by omega)
    rw [Int.add_mul]
    omega
  have := h.el; have := h.le
  omega
theorem look_up (q : Bool) {w lo hi : Int} (hl : Look (wayF q r) w lo hi) (h0 : 0 ≤ lo) (h1 : hi ≤ 1073741825) (hlt : lo < hi) : ((w ≤ wayF q r ((lo + hi) / 2)) → Look (wayF q r) w lo ((lo + hi) / 2)) ∧ (¬ (w ≤ wayF q r ((lo + hi) / 2)) → Look (wayF q r) w ((lo + hi) / 2 + 1) hi) := by
  obtain ⟨l1, l2, l3⟩ := hl
  refine ⟨fun hw => ⟨by omega, l2, fun v hv hm => ?_⟩, fun hw => ⟨by omega, fun v hv hm => ?_, l3⟩⟩
  · exact Int.le_trans hw (way_mono h q (by omega) hv)
  · have := way_mono h q hv (show v ≤ (lo + hi) / 2 by omega)
    omega
end
/-- There is only one least parcel. -/
theorem lst_one {f : Int → Int} {w L M : Int} (h : Lst f w L) (k : Lst f w M) : L = M := by
  obtain ⟨h1, h2, h3, h4⟩ := h
  obtain ⟨k1, k2, k3, k4⟩ := k
  by_cases c : L < M
  · have := h4 L (Int.le_refl _) (by omega)
    have := k3 L h1 c
    omega
  · by_cases c : M < L
    · have := k4 M (Int.le_refl _) (by omega)
      have := h3 M k1 c
      omega
    · omega
theorem lst_iff {f : Int → Int} {w L v : Int} (h : Lst f w L) (hv : Lit v) : w ≤ f v ↔ L ≤ v := by
  obtain ⟨h1, h2, h3, h4⟩ := h
  constructor
  · intro k
    by_cases c : L ≤ v
    · exact c
    · have := h3 v hv.1 (by omega)
      omega
  · exact fun k => h4 v k hv.2
theorem look_lst {f : Int → Int} {w lo hi : Int} (h : Look f w lo hi) (h0 : 0 ≤ lo) (h1 : lo ≤ 1073741825) (he : ¬ lo < hi) : Lst f w lo := by
  obtain ⟨l1, l2, l3⟩ := h
  obtain rfl : lo = hi := by omega
  exact ⟨h0, h1, l2, l3⟩
end Go.Proofs.YtnleeohiomcieaaDoor
