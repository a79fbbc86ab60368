/- DERIVED. The functions on numbers keep their contracts. -/
import Derived.Test.YtbkjjehfidnagaaDoorDmath
import Derived.Test.YtbkjjehfidnagaaDoorDtreez
import Derived.Test.YtbkjjehfidnagaaDoorDtree
import Derived.Lib.TrailingZeros
namespace Go.Proofs.YtbkjjehfidnagaaDoor
open Go.Dx
set_option linter.unusedVariables false
set_option linter.unusedSimpArgs false
theorem wU (x : Int) : IntKind.u64.wrap x = x % 18446744073709551616 := by simp [IntKind.wrap, IntKind.signed, IntKind.bits]
def idxF (x : Int) : Int := (IntKind.u64.wrap (bitD 0 .u64 x (IntKind.u64.wrap (0 - x)) * 285870213051353865)).tdiv 288230376151711744
theorem and_nat {a b : Nat} (ha : a < 18446744073709551616) (hb : b < 18446744073709551616) : bitD 0 .u64 (a : Int) (b : Int) = ((a &&& b : Nat) : Int) := by
  have hx : a &&& b < 2 ^ 64 := Nat.and_lt_two_pow _ (by omega)
  have h1 : (BitVec.ofInt 64 (a : Int)).toNat = a := by rw [BitVec.ofInt_natCast, BitVec.toNat_ofNat]; exact Nat.mod_eq_of_lt (by omega)
  have h2 : (BitVec.ofInt 64 (b : Int)).toNat = b := by rw [BitVec.ofInt_natCast, BitVec.toNat_ofNat]; exact Nat.mod_eq_of_lt (by omega)
  show IntKind.u64.wrap ((BitVec.ofInt 64 (a : Int) &&& BitVec.ofInt 64 (b : Int)).toNat : Int) = _
  rw [BitVec.toNat_and, h1, h2, wU]
  omega
theorem idx_at {x : Int} (h1 : 1 ≤ x) (h2 : x ≤ 18446744073709551615) : ∃ k m : Nat, k < 64 ∧ x.toNat = 2 ^ k * (2 * m + 1) ∧ idxF x = ((2 ^ k * 285870213051353865 % 18446744073709551616 / 288230376151711744 : Nat) : Int) := by
  obtain ⟨n, rfl⟩ := Int.eq_ofNat_of_zero_le (show 0 ≤ x by omega)
  obtain ⟨m, hm, hk⟩ := Lib.ctzFrom_spec 64 n (by omega) (show n < 2 ^ 64 by omega)
  generalize Lib.ctzFrom 64 n = k at hm hk
  refine ⟨k, m, hk, hm, ?_⟩
  have e1 : IntKind.u64.wrap (0 - (n : Int)) = ((18446744073709551616 - n : Nat) : Int) := by rw [wU]; omega
  have e2 : n &&& (18446744073709551616 - n) = 2 ^ k := by
    have := Lib.and_neg 64 k m (by rw [← hm]; omega)
    rw [← hm] at this
    exact this
  unfold idxF
  rw [e1, and_nat (by omega) (by omega), e2, wU, show ((2 ^ k : Nat) : Int) * 285870213051353865 = ((2 ^ k * 285870213051353865 : Nat) : Int) by rw [Int.natCast_mul]; rfl]
  generalize 2 ^ k * 285870213051353865 = z
  rw [Int.tdiv_eq_ediv_of_nonneg (by omega)]
  omega
theorem tz_key {x : Int} (h1 : 1 ≤ x) (h2 : x ≤ 18446744073709551615) (i : Nat) (h : idxF x = i) : Twos x ((Lib.deBruijn64tab.getD i 0 : Nat) : Int) := by
  obtain ⟨k, m, hk, hm, hi⟩ := idx_at h1 h2
  have := (Lib.deBruijn64_at k hk).2
  rw [h] at hi
  rw [← Int.ofNat.inj hi] at this
  rw [this]
  exact ⟨by omega, 2 * m + 1, by omega, by rw [Int.toNat_natCast]; exact hm⟩
theorem tz_rng {x : Int} (h1 : 1 ≤ x) (h2 : x ≤ 18446744073709551615) : 0 ≤ idxF x ∧ idxF x < 64 := by
  obtain ⟨k, m, hk, hm, hi⟩ := idx_at h1 h2
  have := (Lib.deBruijn64_at k hk).1
  rw [hi]; omega
set_option maxRecDepth 100000 in
theorem cTz_ok (N : Nat) (w0 : World) : ConOk Tryd.prog tb N w0 (cTz 37) := by
  refine con_of_walk (tb := tb) fine (C := []) noCon 120 rfl ?_ N w0
  refine fun x x0 x1 hp => ?_
  have hp : 1 ≤ x := cv hp (by kernel_rfl)
  have x1 : x ≤ 18446744073709551615 := x1
  have rng := tz_rng hp x1
  rw [tree_tz]
  show T.res _ (fun y => Twos x (gi y 0)) _ _
  refine res_ite (fun h => absurd (cv h (by kernel_rfl : _ = (x = 0))) (by omega)) fun _ => ?_
  refine res_ite (fun h => cv (tz_key hp x1 0 (cv h (by kernel_rfl))) (by kernel_rfl)) fun h0 => ?_
  have h0 : ¬ idxF x = 0 := cv h0 (by kernel_rfl)
  refine res_ite (fun h => cv (tz_key hp x1 1 (cv h (by kernel_rfl))) (by kernel_rfl)) fun h1 => ?_
  have h1 : ¬ idxF x = 1 := cv h1 (by kernel_rfl)
  refine res_ite (fun h => cv (tz_key hp x1 2 (cv h (by kernel_rfl))) (by kernel_rfl)) fun h2 => ?_
  have h2 : ¬ idxF x = 2 := cv h2 (by kernel_rfl)
  refine res_ite (fun h => cv (tz_key hp x1 3 (cv h (by kernel_rfl))) (by kernel_rfl)) fun h3 => ?_
  have h3 : ¬ idxF x = 3 := cv h3 (by kernel_rfl)
  refine res_ite (fun h => cv (tz_key hp x1 4 (cv h (by kernel_rfl))) (by kernel_rfl)) fun h4 => ?_
  have h4 : ¬ idxF x = 4 := cv h4 (by kernel_rfl)
  refine res_ite (fun h => cv (tz_key hp x1 5 (cv h (by kernel_rfl))) (by kernel_rfl)) fun h5 => ?_
  have h5 : ¬ idxF x = 5 := cv h5 (by kernel_rfl)
  refine res_ite (fun h => cv (tz_key hp x1 6 (cv h (by kernel_rfl))) (by kernel_rfl)) fun h6 => ?_
  have h6 : ¬ idxF x = 6 := cv h6 (by kernel_rfl)
  refine res_ite (fun h => cv (tz_key hp x1 7 (cv h (by kernel_rfl))) (by kernel_rfl)) fun h7 => ?_
  have h7 : ¬ idxF x = 7 := cv h7 (by kernel_rfl)
  refine res_ite (fun h => cv (tz_key hp x1 8 (cv h (by kernel_rfl))) (by kernel_rfl)) fun h8 => ?_
  have h8 : ¬ idxF x = 8 := cv h8 (by kernel_rfl)
  refine res_ite (fun h => cv (tz_key hp x1 9 (cv h (by kernel_rfl))) (by kernel_rfl)) fun h9 => ?_
  have h9 : ¬ idxF x = 9 := cv h9 (by kernel_rfl)
  refine res_ite (fun h => cv (tz_key hp x1 10 (cv h (by kernel_rfl))) (by kernel_rfl)) fun h10 => ?_
  have h10 : ¬ idxF x = 10 := cv h10 (by kernel_rfl)
  refine res_ite (fun h => cv (tz_key hp x1 11 (cv h (by kernel_rfl))) (by kernel_rfl)) fun h11 => ?_
  have h11 : ¬ idxF x = 11 := cv h11 (by kernel_rfl)
  refine res_ite (fun h => cv (tz_key hp x1 12 (cv h (by kernel_rfl))) (by kernel_rfl)) fun h12 => ?_
  have h12 : ¬ idxF x = 12 := cv h12 (by kernel_rfl)
  refine res_ite (fun h => cv (tz_key hp x1 13 (cv h (by kernel_rfl))) (by kernel_rfl)) fun h13 => ?_
  have h13 : ¬ idxF x = 13 := cv h13 (by kernel_rfl)
  refine res_ite (fun h => cv (tz_key hp x1 14 (cv h (by kernel_rfl))) (by kernel_rfl)) fun h14 => ?_
  have h14 : ¬ idxF x = 14 := cv h14 (by kernel_rfl)
  refine res_ite (fun h => cv (tz_key hp x1 15 (cv h (by kernel_rfl))) (by kernel_rfl)) fun h15 => ?_
  have h15 : ¬ idxF x = 15 := cv h15 (by kernel_rfl)
  refine res_ite (fun h => cv (tz_key hp x1 16 (cv h (by kernel_rfl))) (by kernel_rfl)) fun h16 => ?_
  have h16 : ¬ idxF x = 16 := cv h16 (by kernel_rfl)
  refine res_ite (fun h => cv (tz_key hp x1 17 (cv h (by kernel_rfl))) (by kernel_rfl)) fun h17 => ?_
  have h17 : ¬ idxF x = 17 := cv h17 (by kernel_rfl)
  refine res_ite (fun h => cv (tz_key hp x1 18 (cv h (by kernel_rfl))) (by kernel_rfl)) fun h18 => ?_
  have h18 : ¬ idxF x = 18 := cv h18 (by kernel_rfl)
  refine res_ite (fun h => cv (tz_key hp x1 19 (cv h (by kernel_rfl))) (by kernel_rfl)) fun h19 => ?_
  have h19 : ¬ idxF x = 19 := cv h19 (by kernel_rfl)
  refine res_ite (fun h => cv (tz_key hp x1 20 (cv h (by kernel_rfl))) (by kernel_rfl)) fun h20 => ?_
  have h20 : ¬ idxF x = 20 := cv h20 (by kernel_rfl)
  refine res_ite (fun h => cv (tz_key hp x1 21 (cv h (by kernel_rfl))) (by kernel_rfl)) fun h21 => ?_
  have h21 : ¬ idxF x = 21 := cv h21 (by kernel_rfl)
  refine res_ite (fun h => cv (tz_key hp x1 22 (cv h (by kernel_rfl))) (by kernel_rfl)) fun h22 => ?_
  have h22 : ¬ idxF x = 22 := cv h22 (by kernel_rfl)
  refine res_ite (fun h => cv (tz_key hp x1 23 (cv h (by kernel_rfl))) (by kernel_rfl)) fun h23 => ?_
  have h23 : ¬ idxF x = 23 := cv h23 (by kernel_rfl)
  refine res_ite (fun h => cv (tz_key hp x1 24 (cv h (by kernel_rfl))) (by kernel_rfl)) fun h24 => ?_
  have h24 : ¬ idxF x = 24 := cv h24 (by kernel_rfl)
  refine res_ite (fun h => cv (tz_key hp x1 25 (cv h (by kernel_rfl))) (by kernel_rfl)) fun h25 => ?_
  have h25 : ¬ idxF x = 25 := cv h25 (by kernel_rfl)
  refine res_ite (fun h => cv (tz_key hp x1 26 (cv h (by kernel_rfl))) (by kernel_rfl)) fun h26 => ?_
  have h26 : ¬ idxF x = 26 := cv h26 (by kernel_rfl)
  refine res_ite (fun h => cv (tz_key hp x1 27 (cv h (by kernel_rfl))) (by kernel_rfl)) fun h27 => ?_
  have h27 : ¬ idxF x = 27 := cv h27 (by kernel_rfl)
  refine res_ite (fun h => cv (tz_key hp x1 28 (cv h (by kernel_rfl))) (by kernel_rfl)) fun h28 => ?_
  have h28 : ¬ idxF x = 28 := cv h28 (by kernel_rfl)
  refine res_ite (fun h => cv (tz_key hp x1 29 (cv h (by kernel_rfl))) (by kernel_rfl)) fun h29 => ?_
  have h29 : ¬ idxF x = 29 := cv h29 (by kernel_rfl)
  refine res_ite (fun h => cv (tz_key hp x1 30 (cv h (by kernel_rfl))) (by kernel_rfl)) fun h30 => ?_
  have h30 : ¬ idxF x = 30 := cv h30 (by kernel_rfl)
  refine res_ite (fun h => cv (tz_key hp x1 31 (cv h (by kernel_rfl))) (by kernel_rfl)) fun h31 => ?_
  have h31 : ¬ idxF x = 31 := cv h31 (by kernel_rfl)
  refine res_ite (fun h => cv (tz_key hp x1 32 (cv h (by kernel_rfl))) (by kernel_rfl)) fun h32 => ?_
  have h32 : ¬ idxF x = 32 := cv h32 (by kernel_rfl)
  refine res_ite (fun h => cv (tz_key hp x1 33 (cv h (by kernel_rfl))) (by kernel_rfl)) fun h33 => ?_
  have h33 : ¬ idxF x = 33 := cv h33 (by kernel_rfl)
  refine res_ite (fun h => cv (tz_key hp x1 34 (cv h (by kernel_rfl))) (by kernel_rfl)) fun h34 => ?_
  have h34 : ¬ idxF x = 34 := cv h34 (by kernel_rfl)
  refine res_ite (fun h => cv (tz_key hp x1 35 (cv h (by kernel_rfl))) (by kernel_rfl)) fun h35 => ?_
  have h35 : ¬ idxF x = 35 := cv h35 (by kernel_rfl)
  refine res_ite (fun h => cv (tz_key hp x1 36 (cv h (by kernel_rfl))) (by kernel_rfl)) fun h36 => ?_
  have h36 : ¬ idxF x = 36 := cv h36 (by kernel_rfl)
  refine res_ite (fun h => cv (tz_key hp x1 37 (cv h (by kernel_rfl))) (by kernel_rfl)) fun h37 => ?_
  have h37 : ¬ idxF x = 37 := cv h37 (by kernel_rfl)
  refine res_ite (fun h => cv (tz_key hp x1 38 (cv h (by kernel_rfl))) (by kernel_rfl)) fun h38 => ?_
  have h38 : ¬ idxF x = 38 := cv h38 (by kernel_rfl)
  refine res_ite (fun h => cv (tz_key hp x1 39 (cv h (by kernel_rfl))) (by kernel_rfl)) fun h39 => ?_
  have h39 : ¬ idxF x = 39 := cv h39 (by kernel_rfl)
  refine res_ite (fun h => cv (tz_key hp x1 40 (cv h (by kernel_rfl))) (by kernel_rfl)) fun h40 => ?_
  have h40 : ¬ idxF x = 40 := cv h40 (by kernel_rfl)
  refine res_ite (fun h => cv (tz_key hp x1 41 (cv h (by kernel_rfl))) (by kernel_rfl)) fun h41 => ?_
  have h41 : ¬ idxF x = 41 := cv h41 (by kernel_rfl)
  refine res_ite (fun h => cv (tz_key hp x1 42 (cv h (by kernel_rfl))) (by kernel_rfl)) fun h42 => ?_
  have h42 : ¬ idxF x = 42 := cv h42 (by kernel_rfl)
  refine res_ite (fun h => cv (tz_key hp x1 43 (cv h (by kernel_rfl))) (by kernel_rfl)) fun h43 => ?_
  have h43 : ¬ idxF x = 43 := cv h43 (by kernel_rfl)
  refine res_ite (fun h => cv (tz_key hp x1 44 (cv h (by kernel_rfl))) (by kernel_rfl)) fun h44 => ?_
  have h44 : ¬ idxF x = 44 := cv h44 (by kernel_rfl)
  refine res_ite (fun h => cv (tz_key hp x1 45 (cv h (by kernel_rfl))) (by kernel_rfl)) fun h45 => ?_
  have h45 : ¬ idxF x = 45 := cv h45 (by kernel_rfl)
  refine res_ite (fun h => cv (tz_key hp x1 46 (cv h (by kernel_rfl))) (by kernel_rfl)) fun h46 => ?_
  have h46 : ¬ idxF x = 46 := cv h46 (by kernel_rfl)
  refine res_ite (fun h => cv (tz_key hp x1 47 (cv h (by kernel_rfl))) (by kernel_rfl)) fun h47 => ?_
  have h47 : ¬ idxF x = 47 := cv h47 (by kernel_rfl)
  refine res_ite (fun h => cv (tz_key hp x1 48 (cv h (by kernel_rfl))) (by kernel_rfl)) fun h48 => ?_
  have h48 : ¬ idxF x = 48 := cv h48 (by kernel_rfl)
  refine res_ite (fun h => cv (tz_key hp x1 49 (cv h (by kernel_rfl))) (by kernel_rfl)) fun h49 => ?_
  have h49 : ¬ idxF x = 49 := cv h49 (by kernel_rfl)
  refine res_ite (fun h => cv (tz_key hp x1 50 (cv h (by kernel_rfl))) (by kernel_rfl)) fun h50 => ?_
  have h50 : ¬ idxF x = 50 := cv h50 (by kernel_rfl)
  refine res_ite (fun h => cv (tz_key hp x1 51 (cv h (by kernel_rfl))) (by kernel_rfl)) fun h51 => ?_
  have h51 : ¬ idxF x = 51 := cv h51 (by kernel_rfl)
  refine res_ite (fun h => cv (tz_key hp x1 52 (cv h (by kernel_rfl))) (by kernel_rfl)) fun h52 => ?_
  have h52 : ¬ idxF x = 52 := cv h52 (by kernel_rfl)
  refine res_ite (fun h => cv (tz_key hp x1 53 (cv h (by kernel_rfl))) (by kernel_rfl)) fun h53 => ?_
  have h53 : ¬ idxF x = 53 := cv h53 (by kernel_rfl)
  refine res_ite (fun h => cv (tz_key hp x1 54 (cv h (by kernel_rfl))) (by kernel_rfl)) fun h54 => ?_
  have h54 : ¬ idxF x = 54 := cv h54 (by kernel_rfl)
  refine res_ite (fun h => cv (tz_key hp x1 55 (cv h (by kernel_rfl))) (by kernel_rfl)) fun h55 => ?_
  have h55 : ¬ idxF x = 55 := cv h55 (by kernel_rfl)
  refine res_ite (fun h => cv (tz_key hp x1 56 (cv h (by kernel_rfl))) (by kernel_rfl)) fun h56 => ?_
  have h56 : ¬ idxF x = 56 := cv h56 (by kernel_rfl)
  refine res_ite (fun h => cv (tz_key hp x1 57 (cv h (by kernel_rfl))) (by kernel_rfl)) fun h57 => ?_
  have h57 : ¬ idxF x = 57 := cv h57 (by kernel_rfl)
  refine res_ite (fun h => cv (tz_key hp x1 58 (cv h (by kernel_rfl))) (by kernel_rfl)) fun h58 => ?_
  have h58 : ¬ idxF x = 58 := cv h58 (by kernel_rfl)
  refine res_ite (fun h => cv (tz_key hp x1 59 (cv h (by kernel_rfl))) (by kernel_rfl)) fun h59 => ?_
  have h59 : ¬ idxF x = 59 := cv h59 (by kernel_rfl)
  refine res_ite (fun h => cv (tz_key hp x1 60 (cv h (by kernel_rfl))) (by kernel_rfl)) fun h60 => ?_
  have h60 : ¬ idxF x = 60 := cv h60 (by kernel_rfl)
  refine res_ite (fun h => cv (tz_key hp x1 61 (cv h (by kernel_rfl))) (by kernel_rfl)) fun h61 => ?_
  have h61 : ¬ idxF x = 61 := cv h61 (by kernel_rfl)
  refine res_ite (fun h => cv (tz_key hp x1 62 (cv h (by kernel_rfl))) (by kernel_rfl)) fun h62 => ?_
  have h62 : ¬ idxF x = 62 := cv h62 (by kernel_rfl)
  exact cv (tz_key hp x1 63 (by omega)) (by kernel_rfl)
theorem jac_step {x a n s t : Int} {a' : Nat} (ha : 0 ≤ a) (hn : 1 ≤ n) (h : JacI x a n s) (ht : 0 ≤ t) (e : (a.tmod n).toNat = 2 ^ t.toNat * a') (ho' : a' % 2 = 1) :
    JacI x n a' (s * (if t.tmod 2 = 1 ∧ (n.tmod 8 = 3 ∨ n.tmod 8 = 5) then -1 else 1) * (if (a' : Int).tmod 4 = 3 ∧ n.tmod 4 = 3 then -1 else 1)) := by
  obtain ⟨ho, hc, hs, hj⟩ := h
  obtain ⟨A, rfl⟩ := Int.eq_ofNat_of_zero_le ha
  obtain ⟨M, rfl⟩ := Int.eq_ofNat_of_zero_le (show 0 ≤ n by omega)
  obtain ⟨t, rfl⟩ := Int.eq_ofNat_of_zero_le ht
  rw [Int.tmod_eq_emod_of_nonneg (by omega)] at e
  rw [Int.tmod_eq_emod_of_nonneg (by omega), Int.tmod_eq_emod_of_nonneg (a := (M : Int)) (b := 8) (by omega), Int.tmod_eq_emod_of_nonneg (a := (a' : Int)) (by omega), Int.tmod_eq_emod_of_nonneg (a := (M : Int)) (b := 4) (by omega)]
  simp only [Int.toNat_natCast] at e hc hj
  have hoN : M % 2 = 1 := by omega
  have e : A % M = 2 ^ t * a' := by
    have : ((A : Int) % (M : Int)).toNat = A % M := by rw [← Int.natCast_emod]; rfl
    rw [← this]; exact e
  have hc2 : Nat.Coprime (2 ^ t * a') M := by
    rw [← e]
    show Nat.gcd (A % M) M = 1
    rw [← Nat.gcd_rec, Nat.gcd_comm]
    exact hc
  have hc3 : Nat.Coprime a' M := Nat.Coprime.coprime_mul_left hc2
  have j1 := js_twos hoN hc2
  rw [← e, js_mod] at j1
  have j2 := js_swap ho' hoN hc3
  rw [j1, j2] at hj
  refine ⟨by omega, hc3.symm, ?_, ?_⟩
  · split <;> split <;> omega
  · rw [← hj]
    simp only [Int.toNat_natCast]
    have p1 : ((t : Int) % 2 = 1 ∧ ((M : Int) % 8 = 3 ∨ (M : Int) % 8 = 5)) ↔ (t % 2 = 1 ∧ (M % 8 = 3 ∨ M % 8 = 5)) := by omega
    have p2 : ((a' : Int) % 4 = 3 ∧ (M : Int) % 4 = 3) ↔ (a' % 4 = 3 ∧ M % 4 = 3) := by omega
    simp only [p1, p2, Int.mul_assoc]
theorem p2_eq {t : Int} (h0 : 0 ≤ t) (h : t ≤ 64) : (2 : Int) ^ (min t.toNat IntKind.i64.bits) = ((2 ^ t.toNat : Nat) : Int) := by
  have : IntKind.i64.bits = 64 := rfl
  rw [this, Nat.min_eq_left (by omega)]
  simp
theorem jac_half {a n t : Int} {a' : Nat} (ha : 0 ≤ a) (hn : 1 ≤ n) (h0 : 0 ≤ t) (h : t ≤ 64) (e : (a.tmod n).toNat = 2 ^ t.toNat * a') : (a.tmod n).tdiv (2 ^ (min t.toNat IntKind.i64.bits)) = a' := by
  have nn : 0 ≤ a.tmod n := by rw [Int.tmod_eq_emod_of_nonneg ha]; exact Int.emod_nonneg _ (by omega)
  rw [p2_eq h0 h, Int.tdiv_eq_ediv_of_nonneg nn, show a.tmod n = ((2 ^ t.toNat * a' : Nat) : Int) by omega, ← Int.natCast_ediv, Nat.mul_div_cancel_left _ (Nat.two_pow_pos _)]
set_option maxRecDepth 100000 in
theorem cJac_ok (N : Nat) (w0 : World) : ConOk Tryd.prog tb N w0 (cJac 32) := by
  refine con_of_walk (tb := tb) fine (C := [lJac, cTz 37]) (lopCons rfl (conCons cTz_ok noCon)) 120 rfl ?_ N w0
  refine fun x x0 x1 m m0 m1 hp => ?_
  obtain ⟨h1, h2, hm⟩ := cv hp (by kernel_rfl : _ = (1 ≤ x ∧ x < 2147483579 ∧ m = 2147483579))
  rw [tree_jac]
  show T.res _ (fun y => y = [.n (js x.toNat PP)]) _ _
  refine res_ok (cv (⟨by omega, by omega⟩ : 1 ≤ m ∧ m ≤ 2147483579) (by kernel_rfl)) ?_
  have hx : x.toNat < PP := by have e : PP = 2147483579 := rfl; omega
  refine res_lop_of rfl (P := JacI x x m 1) (by kernel_rfl) rfl (by
    subst hm
    exact ⟨by decide, P_cop _ (by omega) hx, .inl rfl, by rw [Int.one_mul]; rfl⟩) (fun a a0 a1 n n0 n1 s s0 s1 hI => ?_)
  have hI := cv hI (by kernel_rfl : _ = JacI x a n s)
  have a0 : 0 ≤ a := a0
  have n0 : 1 ≤ n := n0
  have nn : 0 ≤ a.tmod n ∧ a.tmod n < n := by rw [Int.tmod_eq_emod_of_nonneg a0]; exact ⟨Int.emod_nonneg _ (by omega), Int.emod_lt_of_pos _ (by omega)⟩
  refine res_ite (fun hz => ?_) fun hz => ?_
  · have hz : a.tmod n = 0 := cv hz (by kernel_rfl)
    have hn : n = 1 := by
      have hd : n.toNat ∣ a.toNat := by
        obtain ⟨A, rfl⟩ := Int.eq_ofNat_of_zero_le a0
        obtain ⟨M, rfl⟩ := Int.eq_ofNat_of_zero_le (show 0 ≤ n by omega)
        rw [Int.tmod_eq_emod_of_nonneg (by omega)] at hz
        refine Nat.dvd_of_mod_eq_zero ?_
        simp only [Int.toNat_natCast]
        omega
      have q1 := Nat.gcd_eq_right hd
      have q2 : Nat.gcd a.toNat n.toNat = 1 := hI.2.1
      omega
    refine res_ite (fun k => absurd hn (cv k (by kernel_rfl))) fun _ => ?_
    refine cv (?_ : [DV.n s] = [.n (js x.toNat PP)]) (by kernel_rfl)
    have := hI.2.2.2
    rw [hn, show (1 : Int).toNat = 1 from rfl, js_one, Int.mul_one] at this
    rw [this]
  have hz : ¬ a.tmod n = 0 := cv hz (by kernel_rfl)
  refine res_con rfl (cv (by omega : 1 ≤ a.tmod n) (by kernel_rfl)) (fun t t0 t1 ht => ?_)
  obtain ⟨t0, a', ho', e⟩ := cv ht (by kernel_rfl : _ = Twos (a.tmod n) t)
  have t1 : t ≤ 64 := t1
  have hh := jac_half a0 n0 t0 t1 e
  have st := jac_step a0 n0 hI t0 e ho'
  rw [← hh] at st
  have hle : a' ≤ (a.tmod n).toNat := by rw [e]; exact Nat.le_mul_of_pos_left _ (Nat.two_pow_pos _)
  have b1 : 1 ≤ (a.tmod n).tdiv (2 ^ (min t.toNat IntKind.i64.bits)) ∧ (a.tmod n).tdiv (2 ^ (min t.toNat IntKind.i64.bits)) ≤ 2147483579 := by
    rw [hh]
    have n1 : n ≤ 2147483579 := n1
    omega
  have mea : ((a.tmod n).tdiv (2 ^ (min t.toNat IntKind.i64.bits))).toNat < n.toNat := by
    rw [hh]; omega
  clear hh
  generalize hq : (a.tmod n).tdiv (2 ^ (min t.toNat IntKind.i64.bits)) = q at st b1 mea
  refine res_ite (fun c1 => ?_) fun c1 => ?_
  · have c1 : t.tmod 2 = 1 ∧ (n.tmod 8 = 3 ∨ n.tmod 8 = 5) := cv c1 (by kernel_rfl)
    rw [if_pos c1] at st
    refine res_ite (fun c2 => ?_) fun c2 => ?_
    · have c2 : ((a.tmod n).tdiv (2 ^ (min t.toNat IntKind.i64.bits))).tmod 4 = 3 ∧ n.tmod 4 = 3 := cv c2 (by kernel_rfl)
      rw [hq] at c2
      rw [if_pos c2] at st
      refine res_ok (cv (by rw [hq]; exact b1 : 1 ≤ (a.tmod n).tdiv (2 ^ (min t.toNat IntKind.i64.bits)) ∧ (a.tmod n).tdiv (2 ^ (min t.toNat IntKind.i64.bits)) ≤ 2147483579) (by kernel_rfl)) ?_
      exact res_chk_of rfl (P := JacI x n ((a.tmod n).tdiv (2 ^ (min t.toNat IntKind.i64.bits))) (0 - (0 - s))) (a := ((a.tmod n).tdiv (2 ^ (min t.toNat IntKind.i64.bits))).toNat) (b := n.toNat) (by kernel_rfl) (by kernel_rfl) (by kernel_rfl) (by rw [hq, show 0 - (0 - s) = s * -1 * -1 by omega]; exact st) (by rw [hq]; exact mea)
    · have c2 : ¬ (((a.tmod n).tdiv (2 ^ (min t.toNat IntKind.i64.bits))).tmod 4 = 3 ∧ n.tmod 4 = 3) := cv c2 (by kernel_rfl)
      rw [hq] at c2
      rw [if_neg c2] at st
      refine res_ok (cv (by rw [hq]; exact b1 : 1 ≤ (a.tmod n).tdiv (2 ^ (min t.toNat IntKind.i64.bits)) ∧ (a.tmod n).tdiv (2 ^ (min t.toNat IntKind.i64.bits)) ≤ 2147483579) (by kernel_rfl)) ?_
      exact res_chk_of rfl (P := JacI x n ((a.tmod n).tdiv (2 ^ (min t.toNat IntKind.i64.bits))) (0 - s)) (a := ((a.tmod n).tdiv (2 ^ (min t.toNat IntKind.i64.bits))).toNat) (b := n.toNat) (by kernel_rfl) (by kernel_rfl) (by kernel_rfl) (by rw [hq, show 0 - s = s * -1 * 1 by omega]; exact st) (by rw [hq]; exact mea)
  · have c1 : ¬ (t.tmod 2 = 1 ∧ (n.tmod 8 = 3 ∨ n.tmod 8 = 5)) := cv c1 (by kernel_rfl)
    rw [if_neg c1] at st
    refine res_ite (fun c2 => ?_) fun c2 => ?_
    · have c2 : ((a.tmod n).tdiv (2 ^ (min t.toNat IntKind.i64.bits))).tmod 4 = 3 ∧ n.tmod 4 = 3 := cv c2 (by kernel_rfl)
      rw [hq] at c2
      rw [if_pos c2] at st
      refine res_ok (cv (by rw [hq]; exact b1 : 1 ≤ (a.tmod n).tdiv (2 ^ (min t.toNat IntKind.i64.bits)) ∧ (a.tmod n).tdiv (2 ^ (min t.toNat IntKind.i64.bits)) ≤ 2147483579) (by kernel_rfl)) ?_
      exact res_chk_of rfl (P := JacI x n ((a.tmod n).tdiv (2 ^ (min t.toNat IntKind.i64.bits))) (0 - s)) (a := ((a.tmod n).tdiv (2 ^ (min t.toNat IntKind.i64.bits))).toNat) (b := n.toNat) (by kernel_rfl) (by kernel_rfl) (by kernel_rfl) (by rw [hq, show 0 - s = s * 1 * -1 by omega]; exact st) (by rw [hq]; exact mea)
    · have c2 : ¬ (((a.tmod n).tdiv (2 ^ (min t.toNat IntKind.i64.bits))).tmod 4 = 3 ∧ n.tmod 4 = 3) := cv c2 (by kernel_rfl)
      rw [hq] at c2
      rw [if_neg c2] at st
      refine res_ok (cv (by rw [hq]; exact b1 : 1 ≤ (a.tmod n).tdiv (2 ^ (min t.toNat IntKind.i64.bits)) ∧ (a.tmod n).tdiv (2 ^ (min t.toNat IntKind.i64.bits)) ≤ 2147483579) (by kernel_rfl)) ?_
      exact res_chk_of rfl (P := JacI x n ((a.tmod n).tdiv (2 ^ (min t.toNat IntKind.i64.bits))) s) (a := ((a.tmod n).tdiv (2 ^ (min t.toNat IntKind.i64.bits))).toNat) (b := n.toNat) (by kernel_rfl) (by kernel_rfl) (by kernel_rfl) (by rw [hq, show s = s * 1 * 1 by omega]; exact st) (by rw [hq]; exact mea)
end Go.Proofs.YtbkjjehfidnagaaDoor
