/- DERIVED. Contracts of the functions of package field: what each call returns and leaves. -/
import Derived.Test.YtmmoenbdlfmgeaaRows
import Derived.WalkKit
import Derived.WalkSpells
import Derived.WalkLawsBesides
import Derived.Lib.Hide
import Derived.Laws.BitsLemmas
namespace Go.Proofs.Ytmmoenbdlfmgeaa
open Go.RowKit
def md (n : Int) : Int := n % 1073741789
theorem md_lo (n : Int) : 0 ≤ md n := by unfold md; omega
theorem md_hi (n : Int) : md n < 1073741789 := by unfold md; omega
theorem tmod_pos (n m : Int) (h : 0 ≤ n) : n.tmod m = n % m := Int.tmod_eq_emod_of_nonneg h
theorem tmod_negv (n m : Int) (h : n < 0) : n.tmod m = -((-n) % m) := by
  have h1 : n = -(-n) := by omega
  have h2 : (-(-n)).tmod m = -((-n).tmod m) := Int.neg_tmod _ _
  rw [← h1] at h2; rw [h2, tmod_pos _ _ (by omega)]
theorem md_neg (n : Int) (h : n.tmod 1073741789 < 0) : n.tmod 1073741789 + 1073741789 = md n := by
  unfold md
  by_cases h0 : 0 ≤ n
  · rw [tmod_pos _ _ h0] at h ⊢; omega
  · rw [tmod_negv _ _ (by omega)] at h ⊢; omega
theorem md_pos (n : Int) (h : 0 ≤ n.tmod 1073741789) : n.tmod 1073741789 = md n := by
  unfold md
  by_cases h0 : 0 ≤ n
  · rw [tmod_pos _ _ h0] at h ⊢
  · rw [tmod_negv _ _ (by omega)] at h ⊢; omega
theorem tmod_bd (n : Int) : -1073741789 < n.tmod 1073741789 ∧ n.tmod 1073741789 < 1073741789 := by
  by_cases h0 : 0 ≤ n
  · rw [tmod_pos _ _ h0]; omega
  · rw [tmod_negv _ _ (by omega)]; omega
theorem neg_bd (n : Int) : 0 < 1073741789 - md n ∧ 1073741789 - md n ≤ 1073741789 := by unfold md; omega
theorem ret_int {k : IntKind} {a b : Int} (h : a = b) : Ending.returned (.int k a) = .returned (.int k b) := by rw [h]

set_option maxHeartbeats 400000 in
theorem mod_any (n : Int) (w : World) :
    Calls Try.prog 12 #[.int .i64 n] w fun e w' => e = .returned (.int .i64 (md n)) ∧ w = w' := by
  have ⟨h1, h2⟩ := tmod_bd n
  by_cases h : n.tmod 1073741789 < 0
  · have H := md_neg n h
    have HH := Lib.hid H; clear H
    go_enter Try.func12, Try.ntmps12
    go_wp2
    go_ret
    exact ⟨ret_int HH.out, rfl⟩
  · have H := md_pos n (by omega)
    have HH := Lib.hid H; clear H
    go_enter Try.func12, Try.ntmps12
    go_wp2
    go_ret
    exact ⟨ret_int HH.out, rfl⟩

theorem md_md (n : Int) : md (md n) = md n := by unfold md; omega
theorem md_mul (a b : Int) : md (md a * md b) = md (a * b) := by unfold md; rw [← Int.mul_emod]
theorem md_add (a b : Int) : md (md a + md b) = md (a + b) := by unfold md; omega
theorem md_zero : md 0 = 0 := rfl
theorem mul_bd (a b : Int) : 0 ≤ md a * md b ∧ md a * md b ≤ 1152921500000000000 := by
  have h1 := md_lo a; have h2 := md_hi a; have h3 := md_lo b; have h4 := md_hi b
  refine ⟨Int.mul_nonneg h1 h3, ?_⟩
  have h5 : md a * md b ≤ 1073741788 * 1073741788 := Int.mul_le_mul (by omega) (by omega) h3 (by omega)
  omega

set_option maxHeartbeats 400000 in
theorem mul_any (a b : Int) (w : World) :
    Calls Try.prog 16 #[.int .i64 a, .int .i64 b] w fun e w' => e = .returned (.int .i64 (md (a * b))) ∧ w = w' := by
  have ⟨h1, h2⟩ := mul_bd a b
  have HH := Lib.hid (md_mul a b)
  go_enter Try.func16, Try.ntmps16
  go_wp2_with (go_at_call 12; refine (mod_any _ _).mono ?_; rintro e w' ⟨rfl, rfl⟩)
  go_ret
  exact ⟨ret_int HH.out, rfl⟩

set_option maxHeartbeats 400000 in
theorem sum_any (a b : Int) (B : Nat) (w : World) (h0 : w.cell? ⟨B, 0, none⟩ = some (.int .i64 a)) (h1 : w.cell? ⟨B, 1, none⟩ = some (.int .i64 b)) :
    Calls Try.prog 26 #[.slice (some ⟨B, 0, none⟩) 2 2] w fun e w' => e = .returned (.int .i64 (md (a + b))) ∧ w = w' := by
  have HA := Lib.hid (md_add a b)
  have HM := Lib.hid (md_md a)
  have ha1 := md_lo (md a); have ha2 := md_hi (md a); have ha1 := md_lo a; have ha2 := md_hi a; have hb1 := md_lo b; have hb2 := md_hi b
  go_enter Try.func26, Try.ntmps26
  go_wp2
  refine wp_loop_rounds 3 ?_; rw [rounds_succ]
  go_wp2_with (go_at_call 12; refine (mod_any _ _).mono ?_; rintro e w' ⟨rfl, rfl⟩)
  rw [rounds_succ]
  go_wp2_with (go_at_call 12; refine (mod_any _ _).mono ?_; rintro e w' ⟨rfl, rfl⟩)
  rw [rounds_succ]
  go_wp2
  go_ret
  exact ⟨ret_int (by rw [HM.out, HA.out]), rfl⟩

set_option maxHeartbeats 400000 in
theorem add_any (a b : Int) (w : World) :
    Calls Try.prog 14 #[.int .i64 a, .int .i64 b] w fun e w' => e = .returned (.int .i64 (md (a + b))) ∧ Below w.heap.size w w' := by
  have c0 : (w.alloc (Obj.cells #[Value.int IntKind.i64 a, Value.int IntKind.i64 b] 3)).cell? ⟨w.heap.size, 0, none⟩ = some (.int .i64 a) := by go_simp
  have c1 : (w.alloc (Obj.cells #[Value.int IntKind.i64 a, Value.int IntKind.i64 b] 3)).cell? ⟨w.heap.size, 1, none⟩ = some (.int .i64 b) := by go_simp
  go_enter Try.func14, Try.ntmps14
  go_wp2_with (go_at_call 26; refine (sum_any a b _ _ c0 c1).mono ?_; rintro e w' ⟨rfl, rfl⟩)
  go_ret
  exact ⟨rfl, (Below.refl _ _).alloc (Nat.le_refl _) _⟩

def pw (n : Int) (k : Nat) : Int := md (n ^ k)
/-- What Inverse returns: the power to Q - 2. -/
def IsInv (n x : Int) : Prop := ∃ k : Nat, k = 1073741787 ∧ x = pw n k

theorem md_eq_of {a b : Int} (h : a % 1073741789 = b % 1073741789) : md a = md b := h
theorem md_pow_md (a : Int) (k : Nat) : md ((md a) ^ k) = md (a ^ k) := by
  induction k with
  | zero => simp
  | succ k ih => rw [Int.pow_succ, Int.pow_succ, ← md_mul, ih, md_md, md_mul]
theorem step_odd (x s N : Int) (r : Nat) (h : md (x * s ^ r) = N) (ho : r % 2 = 1) : md (md (x * s) * (md (s * s)) ^ (r / 2)) = N := by
  rw [← h, ← md_mul, md_md, md_pow_md, md_mul]
  have e : r = 2 * (r / 2) + 1 := by omega
  have : x * s * (s * s) ^ (r / 2) = x * s ^ r := by
    conv => rhs; rw [e, Int.pow_succ, Int.pow_mul]
    rw [show s ^ 2 = s * s from by rw [Int.pow_succ, Int.pow_succ, Int.pow_zero, Int.one_mul]]
    rw [Int.mul_assoc, Int.mul_comm s]
  rw [this]
theorem step_even (x s N : Int) (r : Nat) (h : md (x * s ^ r) = N) (ho : r % 2 = 0) : md (x * (md (s * s)) ^ (r / 2)) = N := by
  rw [← h, ← md_mul, md_pow_md, md_mul]
  have e : r = 2 * (r / 2) := by omega
  have : x * (s * s) ^ (r / 2) = x * s ^ r := by
    conv => rhs; rw [e, Int.pow_mul]
    rw [show s ^ 2 = s * s from by rw [Int.pow_succ, Int.pow_succ, Int.pow_zero, Int.one_mul]]
  rw [this]
theorem and_one (i : Nat) (hi : i < 9223372036854775808) : bits BinOp.and IntKind.i64 (i : Int) 1 = ((i % 2 : Nat) : Int) := by
  have two63 : (2 : Int) ^ 63 = 9223372036854775808 := by decide
  have h := bits_mask .i64 63 (by decide) (fun n h0 h1 => by rw [two63] at h1; rw [IntKind.wrap_i64]; omega) 1 (by decide) (i : Int) (by omega) (by rw [two63]; omega)
  have e : ((2 : Int) ^ 1 - 1) = 1 := by decide
  rw [e] at h
  rw [h]
  omega
def InvRel (N x s : Int) (r : Nat) : Prop := 0 ≤ x ∧ x < 1073741789 ∧ 0 ≤ s ∧ s < 1073741789 ∧ md (x * s ^ r) = N
theorem rel_even {N x s : Int} {r : Nat} (h : InvRel N x s r) (ho : r % 2 = 0) : InvRel N x (md (s * s)) (r / 2) :=
  ⟨h.1, h.2.1, md_lo _, md_hi _, step_even x s N r h.2.2.2.2 ho⟩
theorem rel_odd {N x s : Int} {r : Nat} (h : InvRel N x s r) (ho : r % 2 = 1) : InvRel N (md (x * s)) (md (s * s)) (r / 2) :=
  ⟨md_lo _, md_hi _, md_lo _, md_hi _, step_odd x s N r h.2.2.2.2 ho⟩
theorem rel_end {N x s : Int} {r : Nat} (h : InvRel N x s r) (ho : r = 1) : md (x * s) = N := by
  have := h.2.2.2.2; rw [ho, Int.pow_succ, Int.pow_zero, Int.one_mul] at this; exact this

set_option maxHeartbeats 400000 in
theorem inverse_yes (n : Int) (w : World) (h : md n ≠ 0) :
    Calls Try.prog 10 #[.int .i64 n] w fun e w' => ∃ x, IsInv n x ∧ e = .returned (.tuple #[.int .i64 x, .int .i64 0]) ∧ w = w' := by
  have h0 : (md n == 0) = false := by simpa using h
  obtain ⟨K, hK⟩ : ∃ K : Nat, K = 1073741787 := ⟨_, rfl⟩
  have st : InvRel (md (n ^ K)) 1 (md n) K := ⟨by omega, by omega, md_lo _, md_hi _, by rw [Int.one_mul, md_pow_md]⟩
  go_enter Try.func10, Try.ntmps10
  go_wp2_with (go_at_call 12; refine (mod_any _ _).mono ?_; rintro e w' ⟨rfl, rfl⟩)
  go_step3
  go_wp2_with (go_at_call 12; refine (mod_any _ _).mono ?_; rintro e w' ⟨rfl, rfl⟩)
  go_step3
  go_wp2
  go_loop [2, 4, 5] (fun x s r => ∃ (x' s' : Int) (r' : Nat), x = .int .i64 x' ∧ s = .int .i64 s' ∧ r = .int .i64 r' ∧ 1 ≤ r' ∧ r' ≤ 1073741787 ∧ InvRel (md (n ^ K)) x' s' r') (fun _ _ r => (intOf r).toNat)
  case atStart => exact ⟨1, md n, K, rfl, rfl, by rw [hK]; rfl, by omega, by omega, st⟩
  case round =>
    obtain ⟨x, s, r, rfl, rfl, rfl, hr1, hr2, hR⟩ := hrel
    clear st h0 h
    have HK := Lib.hid hK; clear hK
    have HR := Lib.hid hR; clear hR
    have hm1 := md_lo (x * s); have hm2 := md_hi (x * s)
    rcases Nat.mod_two_eq_zero_or_one r with ho | ho
    · have hb : bits BinOp.and IntKind.i64 (r : Int) 1 = 0 := by rw [and_one r (by omega), ho]; rfl
      have Ho := Lib.hid ho; clear ho
      have hr3 : 2 ≤ r := by have := Ho.out; omega
      have ht : ((r : Int) / 2 == 0) = false := by simp; omega
      go_wp2_with (first | (go_at_call 16; refine (mul_any _ _ _).mono ?_; rintro e w' ⟨rfl, rfl⟩))
      go_round
      case rel => exact ⟨x, md (s * s), r / 2, rfl, rfl, by go_num, by omega, by omega, rel_even HR.out Ho.out⟩
      case measure => simp [intOf]; omega
    · have hb : bits BinOp.and IntKind.i64 (r : Int) 1 = 1 := by rw [and_one r (by omega), ho]; rfl
      have Ho := Lib.hid ho; clear ho
      by_cases hr3 : 2 ≤ r
      · have ht : ((r : Int) / 2 == 0) = false := by simp; omega
        go_wp2_with (first | (go_at_call 16; refine (mul_any _ _ _).mono ?_; rintro e w' ⟨rfl, rfl⟩))
        go_round
        case rel => exact ⟨md (x * s), md (s * s), r / 2, rfl, rfl, by go_num, by omega, by omega, rel_odd HR.out Ho.out⟩
        case measure => simp [intOf]; omega
      · have ht : ((r : Int) / 2 == 0) = true := by simp; omega
        have hr4 : r = 1 := by omega
        have Hr4 := Lib.hid hr4; clear hr4
        go_wp2_with (first | (go_at_call 16; refine (mul_any _ _ _).mono ?_; rintro e w' ⟨rfl, rfl⟩))
        rw [Exit.noGoto_ret]
        go_ret2
        exact ⟨md (x * s), ⟨K, HK.out, rel_end HR.out Hr4.out⟩, rfl, rfl⟩

set_option maxHeartbeats 400000 in
theorem inverse_no (n : Int) (w : World) (h : md n = 0) :
    Calls Try.prog 10 #[.int .i64 n] w fun e w' => e = .returned (.tuple #[.int .i64 0, .int .i64 90]) ∧ w = w' := by
  go_enter Try.func10, Try.ntmps10
  go_wp2_with (go_at_call 12; refine (mod_any _ _).mono ?_; rintro e w' ⟨rfl, rfl⟩)
  go_step3
  go_wp2_with (go_at_call 12; refine (mod_any _ _).mono ?_; rintro e w' ⟨rfl, rfl⟩)
  rw [Exit.noGoto_ret]
  go_ret2
  exact ⟨rfl, rfl⟩

set_option maxHeartbeats 400000 in
theorem negative_any (n : Int) (w : World) :
    Calls Try.prog 30 #[.int .i64 n] w fun e w' => e = .returned (.int .i64 (1073741789 - md n)) ∧ w = w' := by
  have ⟨h1, h2⟩ := neg_bd n
  have h3 := md_lo n
  go_enter Try.func30, Try.ntmps30
  go_wp2_with (go_at_call 12; refine (mod_any _ _).mono ?_; rintro e w' ⟨rfl, rfl⟩)
  go_ret
  exact ⟨rfl, rfl⟩
end Go.Proofs.Ytmmoenbdlfmgeaa
