/- DERIVED. Laws of what wells owe: arithmetic. -/
import Derived.Test.YtcidomlhmdefaaaDconc
import Derived.Test.YtcidomlhmdefaaaDmath
namespace Go.Proofs.Ytcidomlhmdefaaa
open Go.Dx
set_option linter.unusedVariables false
set_option linter.unusedSimpArgs false
theorem sumN_tail {f : Nat → Int} {k n : Nat} (hk : k ≤ n) (h : ∀ i, k ≤ i → i < n → f i = 0) : sumN f n = sumN f k := by
  induction n with
  | zero => rw [show k = 0 by omega]
  | succ n ih =>
    by_cases e : k = n + 1
    · rw [e]
    · show sumN f n + f n = _
      rw [ih (by omega) (fun i h1 h2 => h i h1 (by omega)), h n (by omega) (by omega)]; omega
theorem sumN_shift (f : Nat → Int) (n : Nat) : sumN f (n + 1) = f 0 + sumN (fun i => f (i + 1)) n := by
  induction n with
  | zero => show (0 : Int) + f 0 = f 0 + 0; omega
  | succ n ih => show sumN f (n + 1) + f (n + 1) = f 0 + (sumN (fun i => f (i + 1)) n + f (n + 1)); rw [ih]; omega
theorem gRows_cons (g : Nat → Int) (n : Nat) : gRows g (n + 1) = [.n (g 0)] :: gRows (fun k => g (k + 1)) n := by
  unfold gRows; rw [List.range_succ_eq_map, List.map_cons, List.map_map]; rfl
/-- Day by day. -/
theorem kers_all (w : WO) (p : DV) (k : Nat) : kers w p k w.K.len.toNat = dsum (cellE w p k) w.K.len.toNat p.len.toNat 0 := by
  show _ = sumN (fun i => sumN (fun j => cellE w p k i j) w.K.len.toNat) p.len.toNat + 0
  rw [sumN_swap, Int.add_zero]
  unfold kers
  refine sumN_congr fun j _ => ?_
  by_cases h : j ≤ k
  · rw [sumN_one (k := k - j) (fun i _ hi => by unfold cellE; rw [if_neg (by omega)])]
    by_cases q : k - j < p.len.toNat
    · rw [if_pos ⟨h, q⟩, if_pos q]; unfold cellE; rw [if_pos (by omega), Int.mul_comm]
    · rw [if_neg fun y => q y.2, if_neg q]
  · rw [if_neg fun y => h y.1]
    exact (sumN_zero fun i _ => by unfold cellE; rw [if_neg (by omega)]).symm
theorem kers_bound {w : WO} {p : DV} (h : Val w p) (k : Nat) {j : Nat} (hj : j ≤ w.K.len.toNat) : 0 ≤ kers w p k j ∧ kers w p k j ≤ dsum (cellE w p k) w.K.len.toNat p.len.toNat 0 := by
  have nn : ∀ q, q < w.K.len.toNat → 0 ≤ (if q ≤ k ∧ k - q < p.len.toNat then el w.K q * el p (k - q) else 0) := fun q hq => by
    split
    · rename_i c; exact Int.mul_nonneg (h.kok q hq).1 (h.lit _ c.2).1
    · exact Int.le_refl _
  refine ⟨sumN_nn fun q hq => nn q (by omega), ?_⟩
  rw [← kers_all]
  exact sumN_mono nn hj
theorem E_small {w : WO} {p : DV} (h : Val w p) (k : Nat) : dsum (cellE w p k) w.K.len.toNat p.len.toNat 0 ≤ 1073741824 * w.d := by
  rw [← kers_all]
  have h1 : kers w p k w.K.len.toNat ≤ sumN (fun q => 1073741824 * el w.K q) w.K.len.toNat := sumN_le fun q hq => by
    have hk := h.kok q hq
    split
    · rename_i c
      have hp := h.lit _ c.2
      have := Int.mul_le_mul (Int.le_refl (el w.K q)) hp.2 hp.1 hk.1
      omega
    · exact Int.mul_nonneg (by decide) hk.1
  rw [sumN_mul] at h1
  have h2 := h.sum
  unfold sumK at h2
  omega
theorem unt_ediv {w : WO} {p : DV} (h : Val w p) (k : Nat) : untF w p k = U w p k / w.d := by
  unfold untF; exact Int.tdiv_eq_ediv_of_nonneg (U_bound h k).1
theorem unt_mod {w : WO} {p : DV} (h : Val w p) (k : Nat) : w.d * untF w p k ≤ U w p k ∧ U w p k < w.d * untF w p k + w.d := by
  rw [unt_ediv h]
  have hd := h.d0
  have h1 := Int.mul_ediv_add_emod (U w p k) w.d
  have h2 := Int.emod_nonneg (U w p k) (show w.d ≠ 0 by omega)
  have h3 := Int.emod_lt_of_pos (U w p k) (show 0 < w.d by omega)
  omega
theorem unt_step {w : WO} {p : DV} (h : Val w p) (k : Nat) : bef (untF w p) k ≤ untF w p k ∧ untF w p k ≤ bef (untF w p) k + 1073741824 := by
  have hd := h.d0
  have hE := (E_bound h k).1
  have hE2 := E_small h k
  cases k with
  | zero =>
    have h0 := unt_bound h 0
    have h1 := unt_mod h 0
    rw [U_zero] at h1
    refine ⟨h0.1, ?_⟩
    show untF w p 0 ≤ 0 + 1073741824
    refine Int.not_lt.1 fun q => ?_
    have : w.d * 1073741825 ≤ w.d * untF w p 0 := Int.mul_le_mul_of_nonneg_left (by omega) (by omega)
    omega
  | succ k =>
    have h1 := unt_mod h k
    have h2 := unt_mod h (k + 1)
    rw [U_succ] at h2
    show untF w p k ≤ untF w p (k + 1) ∧ untF w p (k + 1) ≤ untF w p k + 1073741824
    constructor
    · refine Int.not_lt.1 fun q => ?_
      have : w.d * (untF w p (k + 1) + 1) ≤ w.d * untF w p k := Int.mul_le_mul_of_nonneg_left (by omega) (by omega)
      rw [Int.mul_add] at this
      omega
    · refine Int.not_lt.1 fun q => ?_
      have : w.d * (untF w p k + 1073741825) ≤ w.d * untF w p (k + 1) := Int.mul_le_mul_of_nonneg_left (by omega) (by omega)
      rw [Int.mul_add] at this
      omega
theorem ow_bound {w : WO} {p : DV} (h : Val w p) (k : Nat) : 0 ≤ owF w p k ∧ owF w p k ≤ 1073741824 := by
  have := unt_step h k
  unfold owF; omega
theorem ow_sum (w : WO) (p : DV) (k : Nat) : sumN (owF w p) (k + 1) = untF w p k := by
  induction k with
  | zero => show (0 : Int) + (untF w p 0 - 0) = _; omega
  | succ k ih => show sumN (owF w p) (k + 1) + (untF w p (k + 1) - untF w p k) = _; rw [ih]; omega
/-- The rows of what is owed. -/
theorem ow_el {w : WO} {p : DV} (h : Val w p) {L : List (List DV)} {n : Nat} (hL : L = gRows (owF w p) n) {k : Nat} (hk : k < n) : el (.sl none 0 L) k = owF w p k := by
  have := ow_bound h k
  unfold el; rw [hL]; exact gAt (owF w p) hk (by omega) (by omega)
theorem ow_pre {w : WO} {p : DV} (h : Val w p) {L : List (List DV)} {n : Nat} (hL : L = gRows (owF w p) n) {k : Nat} (hk : k < n) : preF (.sl none 0 L) k = untF w p k := by
  unfold preF
  rw [sumN_congr (g := owF w p) fun i hi => ow_el h hL (by omega), ow_sum]
theorem ow_sumsOk {w : WO} {p : DV} (h : Val w p) {L : List (List DV)} {n : Nat} (hL : L = gRows (owF w p) n) {k : Nat} (hk : k ≤ n) : sumsOk (.sl none 0 L) k := fun i hi => by
  rw [ow_el h hL (by omega)]
  have := ow_bound h i
  omega
theorem ow_lit {w : WO} {p : DV} (h : Val w p) {L : List (List DV)} {n : Nat} (hL : L = gRows (owF w p) n) {k : Nat} (hk : k ≤ n) : litP (.sl none 0 L) k := fun i hi => by
  rw [ow_el h hL (by omega)]
  exact ow_bound h i
/-- In the end all is missing. -/
theorem U_all {w : WO} {p : DV} (h : Val w p) (hp : p.len ≠ 0) : U w p (days w p - 1) = sumN (el w.K) w.K.len.toNat * sumN (el p) p.len.toNat := by
  have h1 := h.K0
  have l0 := len_nn p
  have hd := days_pos (w := w) hp
  unfold U
  rw [dsum_congr (g := fun i j => el p i * el w.K j) fun i j hi hj => by unfold cellL; rw [if_pos (by omega)]]
  show sumN (fun i => sumN (fun j => el p i * el w.K j) w.K.len.toNat) p.len.toNat + 0 = _
  rw [Int.add_zero, sumN_congr (g := fun i => sumN (el w.K) w.K.len.toNat * el p i) fun i _ => by rw [sumN_mul, Int.mul_comm], sumN_mul]
/-- What is pumped later does not matter. -/
theorem U_part {w : WO} {p q : DV} {k d : Nat} (hk : k ≤ p.len.toNat) (hq : q.len.toNat = k) (he : ∀ i, i < k → el q i = el p i) (hd : d < k) : U w q d = U w p d := by
  unfold U
  rw [hq]
  show sumN (fun i => sumN (cellL w q d i) w.K.len.toNat) k + 0 = sumN (fun i => sumN (cellL w p d i) w.K.len.toNat) p.len.toNat + 0
  rw [sumN_tail (f := fun i => sumN (cellL w p d i) w.K.len.toNat) hk fun i h1 h2 => sumN_zero fun j _ => by unfold cellL; rw [if_neg (by omega)]]
  rw [sumN_congr (n := k) (f := fun i => sumN (cellL w q d i) w.K.len.toNat) (g := fun i => sumN (cellL w p d i) w.K.len.toNat) fun i hi => sumN_congr fun j _ => by unfold cellL; rw [he i hi]]
theorem ow_part {w : WO} {p q : DV} {k d : Nat} (hk : k ≤ p.len.toNat) (hq : q.len.toNat = k) (he : ∀ i, i < k → el q i = el p i) (hd : d < k) : owF w q d = owF w p d := by
  unfold owF untF
  rw [U_part hk hq he hd]
  cases d with
  | zero => rfl
  | succ d => show _ - (U w q d).tdiv w.d = _ - (U w p d).tdiv w.d; rw [U_part (d := d) hk hq he (by omega)]
/-- A day later. -/
theorem U_later {w : WO} {p q : DV} (hq : q.len.toNat = p.len.toNat + 1) (h0 : el q 0 = 0) (he : ∀ i, i < p.len.toNat → el q (i + 1) = el p i) (k : Nat) : U w q (k + 1) = U w p k := by
  unfold U
  rw [hq]
  show sumN (fun i => sumN (cellL w q (k + 1) i) w.K.len.toNat) (p.len.toNat + 1) + 0 = sumN (fun i => sumN (cellL w p k i) w.K.len.toNat) p.len.toNat + 0
  rw [sumN_shift]
  rw [sumN_zero (f := cellL w q (k + 1) 0) fun j _ => by unfold cellL; rw [h0]; split <;> omega]
  rw [sumN_congr (n := p.len.toNat) (f := fun i => sumN (cellL w q (k + 1) (i + 1)) w.K.len.toNat) (g := fun i => sumN (cellL w p k i) w.K.len.toNat) fun i hi => sumN_congr fun j _ => by
    unfold cellL; rw [he i hi]
    by_cases c : i + j ≤ k
    · rw [if_pos (by omega), if_pos c]
    · rw [if_neg (by omega), if_neg c]]
  omega
theorem U_later0 {w : WO} {p q : DV} (hq : q.len.toNat = p.len.toNat + 1) (h0 : el q 0 = 0) : U w q 0 = 0 := by
  unfold U
  rw [hq]
  show sumN (fun i => sumN (cellL w q 0 i) w.K.len.toNat) (p.len.toNat + 1) + 0 = 0
  rw [sumN_zero fun i _ => sumN_zero fun j _ => by
    unfold cellL
    by_cases c : i + j ≤ 0
    · rw [if_pos c, show i = 0 by omega, h0]; omega
    · rw [if_neg c]]
  rfl
theorem ow_later {w : WO} {p q : DV} (hq : q.len.toNat = p.len.toNat + 1) (h0 : el q 0 = 0) (he : ∀ i, i < p.len.toNat → el q (i + 1) = el p i) (k : Nat) : owF w q (k + 1) = owF w p k := by
  unfold owF
  show untF w q (k + 1) - untF w q k = untF w p k - bef (untF w p) k
  unfold untF
  rw [U_later hq h0 he]
  cases k with
  | zero => show _ - (U w q 0).tdiv w.d = _ - 0; rw [U_later0 hq h0]; simp
  | succ k => show _ - (U w q (k + 1)).tdiv w.d = _ - (U w p k).tdiv w.d; rw [U_later hq h0 he]
theorem ow_later0 {w : WO} {p q : DV} (hq : q.len.toNat = p.len.toNat + 1) (h0 : el q 0 = 0) : owF w q 0 = 0 := by
  unfold owF untF
  rw [U_later0 hq h0]
  show (0 : Int).tdiv w.d - 0 = 0
  simp
/-- Together. -/
theorem U_both {w : WO} {a b c : DV} (ha : a.len.toNat = c.len.toNat) (hb : b.len.toNat = c.len.toNat) (he : ∀ i, i < c.len.toNat → el c i = el a i + el b i) (k : Nat) : U w c k = U w a k + U w b k := by
  unfold U
  rw [ha, hb, ← dsum_add]
  refine dsum_congr fun i j hi _ => ?_
  unfold cellL
  by_cases q : i + j ≤ k
  · rw [if_pos q, if_pos q, if_pos q, he i hi, Int.add_mul]
  · rw [if_neg q, if_neg q, if_neg q]; rfl
theorem unt_both {w : WO} {a b c : DV} (va : Val w a) (vb : Val w b) (vc : Val w c) (ha : a.len.toNat = c.len.toNat) (hb : b.len.toNat = c.len.toNat) (he : ∀ i, i < c.len.toNat → el c i = el a i + el b i) (k : Nat) : untF w c k = untF w a k + untF w b k ∨ untF w c k = untF w a k + untF w b k + 1 := by
  have h1 := unt_mod va k
  have h2 := unt_mod vb k
  have h3 := unt_mod vc k
  rw [U_both ha hb he] at h3
  have hd := va.d0
  have lo : untF w a k + untF w b k ≤ untF w c k := by
    refine Int.not_lt.1 fun q => ?_
    have : w.d * (untF w c k + 1) ≤ w.d * (untF w a k + untF w b k) := Int.mul_le_mul_of_nonneg_left (by omega) (by omega)
    rw [Int.mul_add, Int.mul_add] at this
    omega
  have hi : untF w c k ≤ untF w a k + untF w b k + 1 := by
    refine Int.not_lt.1 fun q => ?_
    have : w.d * (untF w a k + untF w b k + 2) ≤ w.d * untF w c k := Int.mul_le_mul_of_nonneg_left (by omega) (by omega)
    rw [Int.mul_add, Int.mul_add] at this
    omega
  omega
/-- More is returned on a day. -/
theorem sum_more {R R' : DV} {k : Nat} {m : Int} {n : Nat} (he : ∀ i, i < n → el R' i = if i = k then el R i + m else el R i) : ∀ i, i ≤ n → sumN (el R') i = sumN (el R) i + if k < i then m else 0
  | 0, _ => by rw [if_neg (by omega)]; rfl
  | i + 1, hi => by
    show sumN (el R') i + el R' i = sumN (el R) i + el R i + _
    rw [sum_more he i (by omega), he i (by omega)]
    by_cases e : i = k
    · rw [if_pos e, if_neg (by omega), if_pos (by omega)]; omega
    · rw [if_neg e]
      by_cases q : k < i
      · rw [if_pos q, if_pos (by omega)]; omega
      · rw [if_neg q, if_neg (by omega)]; omega
end Go.Proofs.Ytcidomlhmdefaaa
