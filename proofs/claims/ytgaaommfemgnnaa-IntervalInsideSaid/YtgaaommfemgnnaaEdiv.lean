/- DERIVED. Division of two words by a small one: arithmetic. -/
import Derived.Test.YtgaaommfemgnnaaEmath
import Derived.KernelRfl
namespace Go.Proofs.Ytgaaommfemgnnaa
open Go.Dx
set_option linter.unusedVariables false
theorem wU (x : Int) : IntKind.u64.wrap x = x % 18446744073709551616 := by simp [IntKind.wrap, IntKind.signed, IntKind.bits]
theorem or_nat {a b : Nat} (ha : a < 18446744073709551616) (hb : b < 18446744073709551616) : bitD 1 .u64 (a : Int) (b : Int) = ((a ||| b : Nat) : Int) := by
  have hx : a ||| b < 2 ^ 64 := Nat.or_lt_two_pow (by omega) (by omega)
  have h1 : (BitVec.ofInt 64 (a : Int)).toNat = a := by rw [BitVec.ofInt_natCast, BitVec.toNat_ofNat]; exact Nat.mod_eq_of_lt (by omega)
  have h2 : (BitVec.ofInt 64 (b : Int)).toNat = b := by rw [BitVec.ofInt_natCast, BitVec.toNat_ofNat]; exact Nat.mod_eq_of_lt (by omega)
  show IntKind.u64.wrap ((BitVec.ofInt 64 (a : Int) ||| BitVec.ofInt 64 (b : Int)).toNat : Int) = _
  rw [BitVec.toNat_or, h1, h2, wU]
  omega
/-- A number with zeros below, and one that fits there. -/
theorem or_low {h l : Int} {k : Nat} (h0 : 0 ≤ h) (hb : h * 2 ^ k < 18446744073709551616) (l0 : 0 ≤ l) (l1 : l < 2 ^ k) (l2 : l < 18446744073709551616) : bitD 1 .u64 (h * 2 ^ k) l = h * 2 ^ k + l := by
  obtain ⟨a, rfl⟩ := Int.eq_ofNat_of_zero_le h0
  obtain ⟨b, rfl⟩ := Int.eq_ofNat_of_zero_le l0
  have e : (a : Int) * 2 ^ k = ((2 ^ k * a : Nat) : Int) := by rw [Int.natCast_mul, Int.natCast_pow, Int.mul_comm]; rfl
  have hb' : b < 2 ^ k := by
    have : ((b : Nat) : Int) < ((2 ^ k : Nat) : Int) := by rw [Int.natCast_pow]; exact l1
    omega
  rw [e] at hb ⊢
  rw [or_nat (by omega) (by omega), ← Nat.two_pow_add_eq_or_of_lt hb' a]
  omega
structure DivI (T W T' D hi lo : Int) : Prop where
  tw : T * W = 18446744073709551616
  tt : T = T' * 4294967296
  w0 : 0 < W
  t0 : 0 < T'
  d0 : 0 < D
  dw : D < W
  h0 : 0 ≤ hi
  h1 : hi < D
  l0 : 0 ≤ lo
  l1 : lo < 18446744073709551616
section
variable {T W T' D hi lo : Int} (h : DivI T W T' D hi lo)
include h
theorem DivI.tp : 0 < T := by have := h.t0; have := h.tt; omega
theorem DivI.ap : 0 < aa T' D := Int.mul_pos h.d0 h.t0
theorem DivI.dt : D * T = aa T' D * 4294967296 := by rw [h.tt]; unfold aa; rw [Int.mul_assoc]
theorem DivI.dtb : D * T ≤ 18446744073709551616 - T := by
  have h1 : D * T ≤ (W - 1) * T := Int.mul_le_mul_of_nonneg_right (by have := h.dw; omega) (Int.le_of_lt h.tp)
  have h2 : (W - 1) * T = T * W - T := by rw [Int.sub_mul, Int.one_mul, Int.mul_comm W T]
  have := h.tw; omega
theorem DivI.hib : 0 ≤ hi * T ∧ hi * T ≤ D * T - T := by
  have h1 : hi * T ≤ (D - 1) * T := Int.mul_le_mul_of_nonneg_right (by have := h.h1; omega) (Int.le_of_lt h.tp)
  have h2 : (D - 1) * T = D * T - T := by rw [Int.sub_mul, Int.one_mul]
  exact ⟨Int.mul_nonneg h.h0 (Int.le_of_lt h.tp), by omega⟩
theorem DivI.lob : 0 ≤ lo / W ∧ lo / W < T := ⟨Int.ediv_nonneg h.l0 (Int.le_of_lt h.w0), Int.ediv_lt_of_lt_mul h.w0 (by have := h.tw; have := h.l1; omega)⟩
theorem DivI.lor : 0 ≤ lo % W ∧ lo % W < W := ⟨Int.emod_nonneg _ (by have := h.w0; omega), Int.emod_lt_of_pos _ h.w0⟩
theorem DivI.u32b : 0 ≤ u32 T W hi lo ∧ u32 T W hi lo < D * T := by
  have := h.hib; have := h.lob; unfold u32; omega
theorem DivI.u10b : 0 ≤ u10 T W lo ∧ u10 T W lo < 18446744073709551616 := by
  have a := h.lor
  have h1 : lo % W * T ≤ (W - 1) * T := Int.mul_le_mul_of_nonneg_right (by omega) (Int.le_of_lt h.tp)
  have h2 : (W - 1) * T = T * W - T := by rw [Int.sub_mul, Int.one_mul, Int.mul_comm W T]
  have := h.tw; have := h.tp
  exact ⟨Int.mul_nonneg a.1 (Int.le_of_lt h.tp), by unfold u10; omega⟩
/-- What is shifted out goes up. -/
theorem DivI.lo_eq : lo * T = lo / W * 18446744073709551616 + u10 T W lo := by
  have e := Int.mul_ediv_add_emod lo W
  have : lo * T = (W * (lo / W) + lo % W) * T := by rw [e]
  rw [this, Int.add_mul, ← h.tw]
  unfold u10
  rw [Int.mul_comm W (lo / W), Int.mul_assoc, Int.mul_comm W T]
theorem DivI.q1b : 0 ≤ u32 T W hi lo / aa T' D ∧ u32 T W hi lo / aa T' D < 4294967296 := by
  have a := h.u32b
  have := h.dt
  exact ⟨Int.ediv_nonneg a.1 (Int.le_of_lt h.ap), Int.ediv_lt_of_lt_mul h.ap (by rw [Int.mul_comm]; omega)⟩
theorem DivI.r1b : 0 ≤ u32 T W hi lo % aa T' D ∧ u32 T W hi lo % aa T' D < aa T' D := ⟨Int.emod_nonneg _ (by have := h.ap; omega), Int.emod_lt_of_pos _ h.ap⟩
theorem DivI.u21b : 0 ≤ u21 T W T' D hi lo ∧ u21 T W T' D hi lo < aa T' D * 4294967296 := by
  have a := h.r1b; have b := h.u10b; unfold u21; omega
theorem DivI.q0b : 0 ≤ u21 T W T' D hi lo / aa T' D ∧ u21 T W T' D hi lo / aa T' D < 4294967296 := by
  have a := h.u21b
  exact ⟨Int.ediv_nonneg a.1 (Int.le_of_lt h.ap), Int.ediv_lt_of_lt_mul h.ap (by rw [Int.mul_comm]; omega)⟩
theorem DivI.r0b : 0 ≤ u21 T W T' D hi lo % aa T' D ∧ u21 T W T' D hi lo % aa T' D < aa T' D := ⟨Int.emod_nonneg _ (by have := h.ap; omega), Int.emod_lt_of_pos _ h.ap⟩
/-- The quotient and the remainder. -/
theorem DivI.main : (u32 T W hi lo / aa T' D * 4294967296 + u21 T W T' D hi lo / aa T' D) * D + (u21 T W T' D hi lo % aa T' D * 4294967296 + u10 T W lo % 4294967296) / T = hi * 18446744073709551616 + lo ∧
    0 ≤ (u21 T W T' D hi lo % aa T' D * 4294967296 + u10 T W lo % 4294967296) / T ∧ (u21 T W T' D hi lo % aa T' D * 4294967296 + u10 T W lo % 4294967296) / T < D := by
  have e1 := Int.mul_ediv_add_emod (u32 T W hi lo) (aa T' D)
  have e0 := Int.mul_ediv_add_emod (u21 T W T' D hi lo) (aa T' D)
  have r0 := h.r0b
  have ub := h.u10b
  have dt := h.dt
  have le := h.lo_eq
  have tp := h.tp
  have hu : u32 T W hi lo = hi * T + lo / W := rfl
  have hv : u21 T W T' D hi lo = u32 T W hi lo % aa T' D * 4294967296 + u10 T W lo / 4294967296 := rfl
  generalize u32 T W hi lo = u at *
  generalize u10 T W lo = v at *
  generalize u21 T W T' D hi lo = w at *
  generalize aa T' D = A at *
  generalize u / A = q1 at *
  generalize u % A = r1 at *
  generalize w / A = q0 at *
  generalize w % A = r0' at *
  -- all, shifted
  have key : (hi * 18446744073709551616 + lo) * T = (q1 * 4294967296 + q0) * D * T + (r0' * 4294967296 + v % 4294967296) := by
    have k1 : (hi * 18446744073709551616 + lo) * T = hi * T * 18446744073709551616 + lo * T := by rw [Int.add_mul, Int.mul_assoc, Int.mul_comm 18446744073709551616 T, ← Int.mul_assoc]
    have k2 : (q1 * 4294967296 + q0) * D * T = (A * q1) * 18446744073709551616 + (A * q0) * 4294967296 := by rw [Int.mul_assoc, dt]; grind
    rw [k1, k2, le]
    generalize A * q1 = x at *
    generalize A * q0 = y at *
    generalize hi * T = z at *
    omega
  have R0 : 0 ≤ r0' * 4294967296 + v % 4294967296 ∧ r0' * 4294967296 + v % 4294967296 < D * T := by omega
  generalize r0' * 4294967296 + v % 4294967296 = R at *
  have hR : R = T * ((hi * 18446744073709551616 + lo) - (q1 * 4294967296 + q0) * D) := by
    rw [Int.mul_sub, Int.mul_comm T, Int.mul_comm T]; omega
  have hq : R / T = (hi * 18446744073709551616 + lo) - (q1 * 4294967296 + q0) * D := by rw [hR]; exact Int.mul_ediv_cancel_left _ (by omega)
  refine ⟨by omega, Int.ediv_nonneg R0.1 (Int.le_of_lt tp), Int.ediv_lt_of_lt_mul tp R0.2⟩
end
end Go.Proofs.Ytgaaommfemgnnaa
