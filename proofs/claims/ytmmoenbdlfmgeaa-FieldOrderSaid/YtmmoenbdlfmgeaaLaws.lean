/- DERIVED. The walk of FieldLaws. -/
import Derived.Test.YtmmoenbdlfmgeaaSpec
import Derived.Test.YtmmoenbdlfmgeaaMath
import Derived.OpenShut
namespace Go.Proofs.Ytmmoenbdlfmgeaa
open Go.RowKit
set_option linter.unusedVariables false
set_option linter.unusedSimpArgs false
theorem md_eqv {a b : Int} (h : (1073741789 : Int) ∣ a - b) : md a = md b := by unfold md; omega
theorem dvd_md (a : Int) : (1073741789 : Int) ∣ a - md a := by unfold md; omega
theorem md_addr (a b : Int) : md (a + md b) = md (a + b) := by unfold md; omega
theorem md_addl (a b : Int) : md (md a + b) = md (a + b) := by unfold md; omega
theorem md_mulr (a b : Int) : md (a * md b) = md (a * b) := by unfold md; rw [Int.mul_emod, Int.emod_emod_of_dvd _ (Int.dvd_refl _), ← Int.mul_emod]
theorem md_mull (a b : Int) : md (md a * b) = md (a * b) := by rw [Int.mul_comm, md_mulr, Int.mul_comm]
theorem c1 (a b : Int) : (md (a + b) != md (md b + md a)) = false := by rw [md_add, Int.add_comm]; simp
theorem c2 (a b : Int) : (md (a * b) != md (md b * md a)) = false := by rw [md_mul, Int.mul_comm]; simp
theorem c3 (a b c : Int) : (md (md (a + b) + c) != md (a + md (b + c))) = false := by rw [md_addl, md_addr, Int.add_assoc]; simp
theorem c4 (a b c : Int) : (md (md (a * b) * c) != md (a * md (b * c))) = false := by rw [md_mull, md_mulr, Int.mul_assoc]; simp
theorem c5 (a b c : Int) : (md (a * md (b + c)) != md (md (a * b) + md (a * c))) = false := by rw [md_mulr, md_add, Int.mul_add]; simp
theorem c8 (a : Int) : md (md a + -md a) = 0 := by rw [Int.add_right_neg]; rfl
theorem c10 (a : Int) (h : 0 ≤ a) : 0 ≤ a - md a ∧ (a - md a) % 1073741789 = 0 := by unfold md; omega
theorem md_nat (a : Int) : md a = ((md a).toNat : Int) := by have := md_lo a; omega
/-- The product with the inverse is 1. -/
theorem inv_one (a : Int) (h : md a ≠ 0) : md (a * invF a) = 1 := by
  rw [invF_eq]
  generalize hK : (1073741787 : Nat) = K
  rw [md_mulr, ← md_mull, ← md_mulr, ← md_pow_md, md_mulr]
  have h1 := md_lo a; have h2 := md_hi a
  have := inv K hK.symm (md a).toNat (by omega) (by omega)
  have e : (((md a).toNat * (md a).toNat ^ K % 1073741789 : Nat) : Int) = 1 := by rw [this]; rfl
  rw [Int.natCast_emod, Int.natCast_mul, Int.natCast_pow, ← md_nat] at e
  exact e
theorem mul_zero_l (a b : Int) (h : md a = 0) : md (a * b) = 0 := by rw [← md_mull, h, Int.zero_mul]; rfl
theorem mul_zero_r (a b : Int) (h : md b = 0) : md (a * b) = 0 := by rw [← md_mulr, h, Int.mul_zero]; rfl
theorem mul_nz (a b : Int) (ha : md a ≠ 0) (hb : md b ≠ 0) : md (a * b) ≠ 0 := by
  intro h
  have : md (invF a * (a * b)) = 0 := mul_zero_r _ _ h
  rw [← Int.mul_assoc, Int.mul_comm (invF a), ← md_mull, inv_one a ha, Int.one_mul] at this
  exact hb this

set_option maxHeartbeats 400000 in
theorem in_yes (n : Int) (h0 : 0 ≤ n) (h1 : n < 1073741789) (w : World) :
    Calls Try.prog 23 #[.int .i64 n] w fun e w' => e = .returned (.bool true) ∧ w = w' := by
  have d0 : decide (0 ≤ n) = true := by simpa using h0
  have d1 : decide (n < 1073741789) = true := by simpa using h1
  go_enter Try.func23, Try.ntmps23
  go_wp2
  go_ret
  exact ⟨by simp [h0, h1], rfl⟩

set_option maxRecDepth 100000 in
set_option maxHeartbeats 4000000 in
theorem FieldLaws_A (a b c : Int) (hs : 0 ≤ a) (ha0 : -9223372036854775808 ≤ a) (ha : a ≤ 9223372036854775807) (h : md a = 0) (w : World) :
    Calls Try.prog 5 #[.int .i64 a, .int .i64 b, .int .i64 c] w fun e w' => e = .returned (.bool true) ∧ Below w.heap.size w w' := by
  have H := Lib.hid h
  have z1 : (md a == 0) = true := by simpa using h
  have z2 : (md (a * b) == 0) = true := by simpa using mul_zero_l a b h
  have ⟨x0, x1⟩ := c10 a hs
  have x2 : ((a - md a) % 1073741789 != 0) = false := by rw [x1]; rfl
  have y1 := md_lo a; have y2 := md_hi a; have y3 := md_lo b; have y4 := md_hi b; have y5 := md_lo c; have y6 := md_hi c
  have t1 := c1 a b; have t2 := c2 a b; have t3 := c3 a b c; have t4 := c4 a b c; have t5 := c5 a b c; have t8 := c8 a
  have t6 : (md (md a) != md a) = false := by rw [md_md]; simp
  clear h x1
  go_enter Try.func5, Try.ntmps5
  go_wp2_with (first | (go_at_call 9; refine (sane_any _).mono ?_; rintro e w1 ⟨rfl, hB⟩) | (go_at_call 10; refine (inverse_no _ _ H.out).mono ?_; rintro e w' ⟨rfl, rfl⟩) | (go_at_call 12; refine (mod_any _ _).mono ?_; rintro e w' ⟨rfl, rfl⟩) | (go_at_call 23; refine (in_yes _ (by assumption) (by assumption) _).mono ?_; rintro e w' ⟨rfl, rfl⟩) | (go_at_call 14; refine (add_any _ _ _).mono ?_; rintro e w2 ⟨rfl, hB2⟩; replace hB := thenB hB hB2; clear hB2) | (go_at_call 16; refine (mul_any _ _ _).mono ?_; rintro e w' ⟨rfl, rfl⟩))
  all_goals (go_ret; exact ⟨rfl, by assumption⟩)

set_option maxRecDepth 100000 in
set_option maxHeartbeats 4000000 in
theorem FieldLaws_B (a b c : Int) (hs : 0 ≤ a) (ha0 : -9223372036854775808 ≤ a) (ha : a ≤ 9223372036854775807) (h : md a ≠ 0) (hb : md b = 0) (w : World) :
    Calls Try.prog 5 #[.int .i64 a, .int .i64 b, .int .i64 c] w fun e w' => e = .returned (.bool true) ∧ Below w.heap.size w w' := by
  have H := Lib.hid h
  have z1 : (md a == 0) = false := by simpa using h
  have z2 : (md (a * b) == 0) = true := by simpa using mul_zero_r a b hb
  have z3 : (md b == 0) = true := by simpa using hb
  have z4 : (md (a * invF a) == 1) = true := by simpa using inv_one a h
  have ⟨i1, i2⟩ := invF_bd a
  clear hb
  have ⟨x0, x1⟩ := c10 a hs
  have x2 : ((a - md a) % 1073741789 != 0) = false := by rw [x1]; rfl
  have y1 := md_lo a; have y2 := md_hi a; have y3 := md_lo b; have y4 := md_hi b; have y5 := md_lo c; have y6 := md_hi c
  have t1 := c1 a b; have t2 := c2 a b; have t3 := c3 a b c; have t4 := c4 a b c; have t5 := c5 a b c; have t8 := c8 a
  have t6 : (md (md a) != md a) = false := by rw [md_md]; simp
  clear h x1
  go_enter Try.func5, Try.ntmps5
  go_wp2_with (first | (go_at_call 9; refine (sane_any _).mono ?_; rintro e w1 ⟨rfl, hB⟩) | (go_at_call 10; refine (inverse_yes' _ _ H.out).mono ?_; rintro e w' ⟨rfl, rfl⟩) | (go_at_call 12; refine (mod_any _ _).mono ?_; rintro e w' ⟨rfl, rfl⟩) | (go_at_call 23; refine (in_yes _ (by assumption) (by assumption) _).mono ?_; rintro e w' ⟨rfl, rfl⟩) | (go_at_call 14; refine (add_any _ _ _).mono ?_; rintro e w2 ⟨rfl, hB2⟩; replace hB := thenB hB hB2; clear hB2) | (go_at_call 16; refine (mul_any _ _ _).mono ?_; rintro e w' ⟨rfl, rfl⟩))
  all_goals (go_ret; exact ⟨rfl, by assumption⟩)

set_option maxRecDepth 100000 in
set_option maxHeartbeats 4000000 in
theorem FieldLaws_C (a b c : Int) (hs : 0 ≤ a) (ha0 : -9223372036854775808 ≤ a) (ha : a ≤ 9223372036854775807) (h : md a ≠ 0) (hb : md b ≠ 0) (w : World) :
    Calls Try.prog 5 #[.int .i64 a, .int .i64 b, .int .i64 c] w fun e w' => e = .returned (.bool true) ∧ Below w.heap.size w w' := by
  have H := Lib.hid h
  have z1 : (md a == 0) = false := by simpa using h
  have z2 : (md (a * b) == 0) = false := by simpa using mul_nz a b h hb
  have z3 : (md b == 0) = false := by simpa using hb
  have z4 : (md (a * invF a) == 1) = true := by simpa using inv_one a h
  have ⟨i1, i2⟩ := invF_bd a
  clear hb
  have ⟨x0, x1⟩ := c10 a hs
  have x2 : ((a - md a) % 1073741789 != 0) = false := by rw [x1]; rfl
  have y1 := md_lo a; have y2 := md_hi a; have y3 := md_lo b; have y4 := md_hi b; have y5 := md_lo c; have y6 := md_hi c
  have t1 := c1 a b; have t2 := c2 a b; have t3 := c3 a b c; have t4 := c4 a b c; have t5 := c5 a b c; have t8 := c8 a
  have t6 : (md (md a) != md a) = false := by rw [md_md]; simp
  clear h x1
  go_enter Try.func5, Try.ntmps5
  go_wp2_with (first | (go_at_call 9; refine (sane_any _).mono ?_; rintro e w1 ⟨rfl, hB⟩) | (go_at_call 10; refine (inverse_yes' _ _ H.out).mono ?_; rintro e w' ⟨rfl, rfl⟩) | (go_at_call 12; refine (mod_any _ _).mono ?_; rintro e w' ⟨rfl, rfl⟩) | (go_at_call 23; refine (in_yes _ (by assumption) (by assumption) _).mono ?_; rintro e w' ⟨rfl, rfl⟩) | (go_at_call 14; refine (add_any _ _ _).mono ?_; rintro e w2 ⟨rfl, hB2⟩; replace hB := thenB hB hB2; clear hB2) | (go_at_call 16; refine (mul_any _ _ _).mono ?_; rintro e w' ⟨rfl, rfl⟩))
  all_goals (go_ret; exact ⟨rfl, by assumption⟩)

set_option maxRecDepth 100000 in
set_option maxHeartbeats 4000000 in
theorem FieldLaws_D (a b c : Int) (hs : a < 0) (ha0 : -9223372036854775808 ≤ a) (ha : a ≤ 9223372036854775807) (h : md a = 0) (w : World) :
    Calls Try.prog 5 #[.int .i64 a, .int .i64 b, .int .i64 c] w fun e w' => e = .returned (.bool true) ∧ Below w.heap.size w w' := by
  have H := Lib.hid h
  have z1 : (md a == 0) = true := by simpa using h
  have z2 : (md (a * b) == 0) = true := by simpa using mul_zero_l a b h
  have y1 := md_lo a; have y2 := md_hi a; have y3 := md_lo b; have y4 := md_hi b; have y5 := md_lo c; have y6 := md_hi c
  have t1 := c1 a b; have t2 := c2 a b; have t3 := c3 a b c; have t4 := c4 a b c; have t5 := c5 a b c; have t8 := c8 a
  have t6 : (md (md a) != md a) = false := by rw [md_md]; simp
  clear h
  go_enter Try.func5, Try.ntmps5
  go_wp2_with (first | (go_at_call 9; refine (sane_any _).mono ?_; rintro e w1 ⟨rfl, hB⟩) | (go_at_call 10; refine (inverse_no _ _ H.out).mono ?_; rintro e w' ⟨rfl, rfl⟩) | (go_at_call 12; refine (mod_any _ _).mono ?_; rintro e w' ⟨rfl, rfl⟩) | (go_at_call 23; refine (in_yes _ (by assumption) (by assumption) _).mono ?_; rintro e w' ⟨rfl, rfl⟩) | (go_at_call 14; refine (add_any _ _ _).mono ?_; rintro e w2 ⟨rfl, hB2⟩; replace hB := thenB hB hB2; clear hB2) | (go_at_call 16; refine (mul_any _ _ _).mono ?_; rintro e w' ⟨rfl, rfl⟩))
  all_goals (go_ret; exact ⟨rfl, by assumption⟩)

set_option maxRecDepth 100000 in
set_option maxHeartbeats 4000000 in
theorem FieldLaws_E (a b c : Int) (hs : a < 0) (ha0 : -9223372036854775808 ≤ a) (ha : a ≤ 9223372036854775807) (h : md a ≠ 0) (hb : md b = 0) (w : World) :
    Calls Try.prog 5 #[.int .i64 a, .int .i64 b, .int .i64 c] w fun e w' => e = .returned (.bool true) ∧ Below w.heap.size w w' := by
  have H := Lib.hid h
  have z1 : (md a == 0) = false := by simpa using h
  have z2 : (md (a * b) == 0) = true := by simpa using mul_zero_r a b hb
  have z3 : (md b == 0) = true := by simpa using hb
  have z4 : (md (a * invF a) == 1) = true := by simpa using inv_one a h
  have ⟨i1, i2⟩ := invF_bd a
  clear hb
  have y1 := md_lo a; have y2 := md_hi a; have y3 := md_lo b; have y4 := md_hi b; have y5 := md_lo c; have y6 := md_hi c
  have t1 := c1 a b; have t2 := c2 a b; have t3 := c3 a b c; have t4 := c4 a b c; have t5 := c5 a b c; have t8 := c8 a
  have t6 : (md (md a) != md a) = false := by rw [md_md]; simp
  clear h
  go_enter Try.func5, Try.ntmps5
  go_wp2_with (first | (go_at_call 9; refine (sane_any _).mono ?_; rintro e w1 ⟨rfl, hB⟩) | (go_at_call 10; refine (inverse_yes' _ _ H.out).mono ?_; rintro e w' ⟨rfl, rfl⟩) | (go_at_call 12; refine (mod_any _ _).mono ?_; rintro e w' ⟨rfl, rfl⟩) | (go_at_call 23; refine (in_yes _ (by assumption) (by assumption) _).mono ?_; rintro e w' ⟨rfl, rfl⟩) | (go_at_call 14; refine (add_any _ _ _).mono ?_; rintro e w2 ⟨rfl, hB2⟩; replace hB := thenB hB hB2; clear hB2) | (go_at_call 16; refine (mul_any _ _ _).mono ?_; rintro e w' ⟨rfl, rfl⟩))
  all_goals (go_ret; exact ⟨rfl, by assumption⟩)

set_option maxRecDepth 100000 in
set_option maxHeartbeats 4000000 in
theorem FieldLaws_F (a b c : Int) (hs : a < 0) (ha0 : -9223372036854775808 ≤ a) (ha : a ≤ 9223372036854775807) (h : md a ≠ 0) (hb : md b ≠ 0) (w : World) :
    Calls Try.prog 5 #[.int .i64 a, .int .i64 b, .int .i64 c] w fun e w' => e = .returned (.bool true) ∧ Below w.heap.size w w' := by
  have H := Lib.hid h
  have z1 : (md a == 0) = false := by simpa using h
  have z2 : (md (a * b) == 0) = false := by simpa using mul_nz a b h hb
  have z3 : (md b == 0) = false := by simpa using hb
  have z4 : (md (a * invF a) == 1) = true := by simpa using inv_one a h
  have ⟨i1, i2⟩ := invF_bd a
  clear hb
  have y1 := md_lo a; have y2 := md_hi a; have y3 := md_lo b; have y4 := md_hi b; have y5 := md_lo c; have y6 := md_hi c
  have t1 := c1 a b; have t2 := c2 a b; have t3 := c3 a b c; have t4 := c4 a b c; have t5 := c5 a b c; have t8 := c8 a
  have t6 : (md (md a) != md a) = false := by rw [md_md]; simp
  clear h
  go_enter Try.func5, Try.ntmps5
  go_wp2_with (first | (go_at_call 9; refine (sane_any _).mono ?_; rintro e w1 ⟨rfl, hB⟩) | (go_at_call 10; refine (inverse_yes' _ _ H.out).mono ?_; rintro e w' ⟨rfl, rfl⟩) | (go_at_call 12; refine (mod_any _ _).mono ?_; rintro e w' ⟨rfl, rfl⟩) | (go_at_call 23; refine (in_yes _ (by assumption) (by assumption) _).mono ?_; rintro e w' ⟨rfl, rfl⟩) | (go_at_call 14; refine (add_any _ _ _).mono ?_; rintro e w2 ⟨rfl, hB2⟩; replace hB := thenB hB hB2; clear hB2) | (go_at_call 16; refine (mul_any _ _ _).mono ?_; rintro e w' ⟨rfl, rfl⟩))
  all_goals (go_ret; exact ⟨rfl, by assumption⟩)

theorem FieldLaws_walk (a b c : Int) (w0 : (Lit.int .i64 a).wf = true) (w1 : (Lit.int .i64 b).wf = true) (w2 : (Lit.int .i64 c).wf = true) (w : World) :
    Calls Try.prog 5 #[.int .i64 a, .int .i64 b, .int .i64 c] w fun e w' => e = .returned (.bool true) ∧ Below w.heap.size w w' := by
  have ⟨ha0, ha⟩ := bounds_i64 w0
  by_cases hs : 0 ≤ a
  · by_cases h : md a = 0
    · exact FieldLaws_A a b c hs ha0 ha h w
    · by_cases hb : md b = 0
      · exact FieldLaws_B a b c hs ha0 ha h hb w
      · exact FieldLaws_C a b c hs ha0 ha h hb w
  · by_cases h : md a = 0
    · exact FieldLaws_D a b c (by omega) ha0 ha h w
    · by_cases hb : md b = 0
      · exact FieldLaws_E a b c (by omega) ha0 ha h hb w
      · exact FieldLaws_F a b c (by omega) ha0 ha h hb w
end Go.Proofs.Ytmmoenbdlfmgeaa
