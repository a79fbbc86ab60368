/- DERIVED. Contracts of the reference (Mod, Add, Mul, Inverse), and the walk of FieldSpec. -/
import Derived.Test.YtmmoenbdlfmgeaaSane
namespace Go.Proofs.Ytmmoenbdlfmgeaa
open Go.RowKit
theorem invF_eq (n : Int) : invF n = md (n ^ (1073741787 : Nat)) := by unfold invF pw; rw [expo.property]
theorem inverse_yes' (n : Int) (w : World) (h : md n ≠ 0) :
    Calls Try.prog 10 #[.int .i64 n] w fun e w' => e = .returned (.tuple #[.int .i64 (invF n), .int .i64 0]) ∧ w = w' :=
  (inverse_yes n w h).mono fun e w' ⟨v, hv, he, hw⟩ => ⟨by rw [he, hv.eq], hw⟩

set_option maxHeartbeats 400000 in
theorem rmod_any (n : Int) (w : World) :
    Calls Try.prog 13 #[.int .i64 n] w fun e w' => e = .returned (.int .i64 (md n)) ∧ w = w' := by
  have ⟨h1, h2⟩ := tmod_bd n
  by_cases h : n.tmod 1073741789 < 0
  · have H := md_neg n h
    have HH := Lib.hid H; clear H
    go_enter Try.func13, Try.ntmps13
    go_wp2
    go_ret
    exact ⟨ret_int HH.out, rfl⟩
  · have H := md_pos n (by omega)
    have HH := Lib.hid H; clear H
    go_enter Try.func13, Try.ntmps13
    go_wp2
    go_ret
    exact ⟨ret_int HH.out, rfl⟩
theorem radd_eq (a b : Int) : (md a + md b) % 1073741789 = md (a + b) := by unfold md; omega
theorem rmul_eq (a b : Int) : (md a * md b) % 1073741789 = md (a * b) := md_mul a b
set_option maxHeartbeats 400000 in
theorem radd_any (a b : Int) (w : World) :
    Calls Try.prog 15 #[.int .i64 a, .int .i64 b] w fun e w' => e = .returned (.int .i64 (md (a + b))) ∧ w = w' := by
  have h1 := md_lo a; have h2 := md_hi a; have h3 := md_lo b; have h4 := md_hi b
  have HH := Lib.hid (radd_eq a b)
  go_enter Try.func15, Try.ntmps15
  go_wp2_with (go_at_call 13; refine (rmod_any _ _).mono ?_; rintro e w' ⟨rfl, rfl⟩)
  go_ret
  exact ⟨ret_int HH.out, rfl⟩
set_option maxHeartbeats 400000 in
theorem rmul_any (a b : Int) (w : World) :
    Calls Try.prog 17 #[.int .i64 a, .int .i64 b] w fun e w' => e = .returned (.int .i64 (md (a * b))) ∧ w = w' := by
  have ⟨h1, h2⟩ := mul_bd a b
  have HH := Lib.hid (rmul_eq a b)
  go_enter Try.func17, Try.ntmps17
  go_wp2_with (go_at_call 13; refine (rmod_any _ _).mono ?_; rintro e w' ⟨rfl, rfl⟩)
  go_ret
  exact ⟨ret_int HH.out, rfl⟩

def PwRel (N x a : Int) (r : Nat) : Prop := md x = x ∧ md (x * a ^ r) = N
theorem pw_even {N x s : Int} {r : Nat} (h : PwRel N x s r) (ho : r % 2 = 0) : PwRel N x (md (s * s)) (r / 2) := ⟨h.1, step_even x s N r h.2 ho⟩
theorem pw_odd {N x s : Int} {r : Nat} (h : PwRel N x s r) (ho : r % 2 = 1) : PwRel N (md (x * s)) (md (s * s)) (r / 2) := ⟨md_md _, step_odd x s N r h.2 ho⟩
theorem pw_end {N x s : Int} {r : Nat} (h : PwRel N x s r) (ho : r = 0) : x = N := by
  have := h.2; rw [ho, Int.pow_zero, Int.mul_one, h.1] at this; exact this
set_option maxHeartbeats 400000 in
theorem power_any (n : Int) (w : World) :
    Calls Try.prog 25 #[.int .i64 n, .int .i64 1073741787] w fun e w' => e = .returned (.int .i64 (invF n)) ∧ w = w' := by
  obtain ⟨K, hK⟩ : ∃ K : Nat, K = 1073741787 := ⟨_, rfl⟩
  have HN := Lib.hid (invF_eq n)
  have st : PwRel (md (n ^ K)) 1 n K := ⟨by decide, by rw [Int.one_mul]⟩
  go_enter Try.func25, Try.ntmps25
  go_wp2
  go_loop [5, 0, 1] (fun x s r => ∃ (x' s' : Int) (r' : Nat), x = .int .i64 x' ∧ s = .int .i64 s' ∧ r = .int .i64 r' ∧ r' ≤ 1073741787 ∧ PwRel (md (n ^ K)) x' s' r') (fun _ _ r => (intOf r).toNat)
  case atStart => exact ⟨1, n, K, rfl, rfl, by rw [hK]; rfl, by omega, st⟩
  case round =>
    obtain ⟨x, s, r, rfl, rfl, rfl, hr2, hR⟩ := hrel
    clear st
    have HK := Lib.hid hK; clear hK
    have HR := Lib.hid hR; clear hR
    by_cases hr0 : r = 0
    · have HR0 := Lib.hid hr0
      subst hr0
      go_wp2
      go_ret
      exact ⟨ret_int (by rw [pw_end HR.out rfl, HN.out, HK.out]), rfl⟩
    · have hr1 : (0 : Int) < (r : Int) := by omega
      rcases Nat.mod_two_eq_zero_or_one r with ho | ho
      · have hb : ((r : Int) % 2 == 1) = false := by simp; omega
        have Ho := Lib.hid ho; clear ho
        go_wp2_with (first | (go_at_call 17; refine (rmul_any _ _ _).mono ?_; rintro e w' ⟨rfl, rfl⟩))
        go_round
        case rel => exact ⟨x, md (s * s), r / 2, rfl, rfl, by go_num, by omega, pw_even HR.out Ho.out⟩
        case measure => simp [intOf]; omega
      · have hb : ((r : Int) % 2 == 1) = true := by simp; omega
        have Ho := Lib.hid ho; clear ho
        go_wp2_with (first | (go_at_call 17; refine (rmul_any _ _ _).mono ?_; rintro e w' ⟨rfl, rfl⟩))
        go_round
        case rel => exact ⟨md (x * s), md (s * s), r / 2, rfl, rfl, by go_num, by omega, pw_odd HR.out Ho.out⟩
        case measure => simp [intOf]; omega
set_option maxHeartbeats 400000 in
theorem rinverse_yes (n : Int) (w : World) (h : md n ≠ 0) :
    Calls Try.prog 11 #[.int .i64 n] w fun e w' => e = .returned (.tuple #[.int .i64 (invF n), .int .i64 0]) ∧ w = w' := by
  have h0 : (md n == 0) = false := by simpa using h
  go_enter Try.func11, Try.ntmps11
  go_wp2_with (first | (go_at_call 13; refine (rmod_any _ _).mono ?_; rintro e w' ⟨rfl, rfl⟩) | (go_at_call 25; refine (power_any _ _).mono ?_; rintro e w' ⟨rfl, rfl⟩))
  go_ret2
  exact ⟨rfl, rfl⟩
set_option maxHeartbeats 400000 in
theorem rinverse_no (n : Int) (w : World) (h : md n = 0) :
    Calls Try.prog 11 #[.int .i64 n] w fun e w' => e = .returned (.tuple #[.int .i64 0, .int .i64 90]) ∧ w = w' := by
  go_enter Try.func11, Try.ntmps11
  go_wp2_with (first | (go_at_call 13; refine (rmod_any _ _).mono ?_; rintro e w' ⟨rfl, rfl⟩))
  go_ret2
  exact ⟨rfl, rfl⟩

set_option maxHeartbeats 1000000 in
theorem FieldSpec_walk (a b : Int) (w : World) :
    Calls Try.prog 3 #[.int .i64 a, .int .i64 b] w fun e w' => e = .returned (.bool true) ∧ Below w.heap.size w w' := by
  by_cases h : md a = 0
  · have H := Lib.hid h; clear h
    go_enter Try.func3, Try.ntmps3
    go_wp2_with (first | (go_at_call 9; refine (sane_any _).mono ?_; rintro e w1 ⟨rfl, hB1⟩) | (go_at_call 10; refine (inverse_no _ _ H.out).mono ?_; rintro e w' ⟨rfl, rfl⟩) | (go_at_call 11; refine (rinverse_no _ _ H.out).mono ?_; rintro e w' ⟨rfl, rfl⟩) | (go_at_call 12; refine (mod_any _ _).mono ?_; rintro e w' ⟨rfl, rfl⟩) | (go_at_call 13; refine (rmod_any _ _).mono ?_; rintro e w' ⟨rfl, rfl⟩) | (go_at_call 14; refine (add_any _ _ _).mono ?_; rintro e w2 ⟨rfl, hB2⟩) | (go_at_call 15; refine (radd_any _ _ _).mono ?_; rintro e w' ⟨rfl, rfl⟩) | (go_at_call 16; refine (mul_any _ _ _).mono ?_; rintro e w' ⟨rfl, rfl⟩) | (go_at_call 17; refine (rmul_any _ _ _).mono ?_; rintro e w' ⟨rfl, rfl⟩))
    go_ret
    exact ⟨rfl, thenB hB1 hB2⟩
  · have H := Lib.hid h; clear h
    go_enter Try.func3, Try.ntmps3
    go_wp2_with (first | (go_at_call 9; refine (sane_any _).mono ?_; rintro e w1 ⟨rfl, hB1⟩) | (go_at_call 10; refine (inverse_yes' _ _ H.out).mono ?_; rintro e w' ⟨rfl, rfl⟩) | (go_at_call 11; refine (rinverse_yes _ _ H.out).mono ?_; rintro e w' ⟨rfl, rfl⟩) | (go_at_call 12; refine (mod_any _ _).mono ?_; rintro e w' ⟨rfl, rfl⟩) | (go_at_call 13; refine (rmod_any _ _).mono ?_; rintro e w' ⟨rfl, rfl⟩) | (go_at_call 14; refine (add_any _ _ _).mono ?_; rintro e w2 ⟨rfl, hB2⟩) | (go_at_call 15; refine (radd_any _ _ _).mono ?_; rintro e w' ⟨rfl, rfl⟩) | (go_at_call 16; refine (mul_any _ _ _).mono ?_; rintro e w' ⟨rfl, rfl⟩) | (go_at_call 17; refine (rmul_any _ _ _).mono ?_; rintro e w' ⟨rfl, rfl⟩))
    go_ret
    exact ⟨rfl, thenB hB1 hB2⟩
end Go.Proofs.Ytmmoenbdlfmgeaa
