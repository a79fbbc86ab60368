/- DERIVED. The examples of the chapter: sane returns true. -/
import Derived.Test.YtmmoenbdlfmgeaaValue
namespace Go.Proofs.Ytmmoenbdlfmgeaa
open Go.RowKit
/-- The power by squaring: for reckoning. -/
def fp : Nat → Int → Int → Nat → Int
  | 0, x, _, _ => x
  | f + 1, x, s, r => if r = 0 then x else fp f (if r % 2 = 1 then md (x * s) else x) (md (s * s)) (r / 2)
theorem fp_eq : ∀ (f : Nat) (x s : Int) (r : Nat), r < 2 ^ f → md x = x → fp f x s r = md (x * s ^ r)
  | 0, x, s, r, h, hx => by
    have : r = 0 := by simp at h; omega
    subst this; simp [fp, hx]
  | f + 1, x, s, r, h, hx => by
    unfold fp
    by_cases h0 : r = 0
    · subst h0; simp [hx]
    · rw [if_neg h0]
      have hr : r / 2 < 2 ^ f := by rw [Nat.pow_succ] at h; omega
      rcases Nat.mod_two_eq_zero_or_one r with ho | ho
      · rw [if_neg (by omega), fp_eq f _ _ _ hr hx, step_even x s _ r rfl ho]
      · rw [if_pos ho, fp_eq f _ _ _ hr (md_md _), step_odd x s _ r rfl ho]
theorem invF_fp (n : Int) : invF n = fp 31 1 (md n) 1073741787 := by
  rw [fp_eq 31 1 (md n) 1073741787 (by decide) (by decide), Int.one_mul]
  unfold invF pw
  rw [md_pow_md, expo.property]
def line : List (Int × Int) := [(1, 3), (2, 5)]
def dup : List (Int × Int) := [(1, 5), (-1073741788, 5)]
theorem half_eq : invF 2 = 536870895 := by rw [invF_fp]; decide +kernel
theorem line_dst : dstB line = true := by decide +kernel
theorem dup_dst : dstB dup = false := by decide +kernel
theorem line_nz : AllNz line := by
  intro i hi
  have : i = 0 ∨ i = 1 := by simp [line] at hi; omega
  rcases this with rfl | rfl <;> decide +kernel
theorem line_at : atV line 0 2 = 1 := by
  simp only [atV, term, invF_fp]; decide +kernel

theorem thenB {w a b : World} (h : Below w.heap.size w a) (k : Below a.heap.size a b) : Below w.heap.size w b := h.trans (k.mono h.size)
theorem pts2 (w : World) (a b c d : Int) : PtsAt (w.alloc (.cells #[.int .i64 a, .int .i64 b, .int .i64 c, .int .i64 d] 38)).heap.size (w.alloc (.cells #[.int .i64 a, .int .i64 b, .int .i64 c, .int .i64 d] 38)) w.heap.size 0 [(a, b), (c, d)] := by
  refine ⟨by simp, fun j hj => ?_⟩
  have : j = 0 ∨ j = 1 := by simp at hj; omega
  rcases this with rfl | rfl <;> (constructor <;> go_simp)
theorem ints3 (w : World) (a b c : Int) : IntsAt (w.alloc (.cells #[.int .i64 a, .int .i64 b, .int .i64 c] 3)).heap.size (w.alloc (.cells #[.int .i64 a, .int .i64 b, .int .i64 c] 3)) w.heap.size 0 [a, b, c] := by
  refine ⟨by simp, fun j hj => ?_⟩
  have : j = 0 ∨ j = 1 ∨ j = 2 := by simp at hj; omega
  rcases this with rfl | rfl | rfl <;> go_simp
theorem line_call (w : World) : Calls Try.prog 19 #[.slice (some ⟨w.heap.size, 0, none⟩) 2 2, .int .i64 0] (w.alloc (.cells #[.int .i64 1, .int .i64 3, .int .i64 2, .int .i64 5] 38)) fun e w' => e = .returned (.tuple #[.int .i64 1, .int .i64 0]) ∧ Below w.heap.size w w' :=
  (at_yes w.heap.size 0 2 0 line (by decide) line_nz line_dst _ (pts2 w 1 3 2 5)).mono fun e w' ⟨he, hB⟩ =>
    ⟨by rw [he, show line.length = 2 from rfl, line_at], ((Below.refl _ _).alloc (Nat.le_refl _) _).trans (hB.mono (by simp))⟩
theorem dup_call (w : World) : Calls Try.prog 19 #[.slice (some ⟨w.heap.size, 0, none⟩) 2 2, .int .i64 0] (w.alloc (.cells #[.int .i64 1, .int .i64 5, .int .i64 (-1073741788), .int .i64 5] 38)) fun e w' => e = .returned (.tuple #[.int .i64 0, .int .i64 90]) ∧ Below w.heap.size w w' :=
  (at_no w.heap.size 0 2 0 dup (by decide) dup_dst _ (pts2 w 1 5 (-1073741788) 5)).mono fun e w' ⟨he, hB⟩ =>
    ⟨he, ((Below.refl _ _).alloc (Nat.le_refl _) _).trans (hB.mono (by simp))⟩
theorem val_call (w : World) : Calls Try.prog 21 #[.slice (some ⟨w.heap.size, 0, none⟩) 3 3, .int .i64 10] (w.alloc (.cells #[.int .i64 1, .int .i64 2, .int .i64 3] 3)) fun e w' => e = .returned (.int .i64 321) ∧ Below w.heap.size w w' :=
  (value_any w.heap.size 0 3 10 [1, 2, 3] (by decide) _ (ints3 w 1 2 3)).mono fun e w' ⟨he, hB⟩ =>
    ⟨by rw [he]; rfl, ((Below.refl _ _).alloc (Nat.le_refl _) _).trans (hB.mono (by simp))⟩

set_option maxRecDepth 100000 in
set_option maxHeartbeats 1000000 in
theorem sane_any (w : World) : Calls Try.prog 9 #[] w fun e w' => e = .returned (.bool true) ∧ Below w.heap.size w w' := by
  have hmk : ∀ w : World, Sem.run Try.prog (Instr.makeSlice 30 (Value.int IntKind.i64 65) (Value.int IntKind.i64 65)) w = Result.ok (.slice (some ⟨w.heap.size, 0, none⟩) 65 65) (w.alloc (.cells (Array.replicate 130 (Value.int .i64 0)) 38)) := fun _ => by kernel_rfl
  have m1 : md (-1) = 1073741788 := by decide
  have m2 : md (-1 * -1) = 1 := by decide
  have m3 : md (1073741788 + 3) = 2 := by decide
  go_enter Try.func9, Try.ntmps9
  go_wp2_with fail
  refine (inverse_no _ _ rfl).mono ?_; rintro e w' ⟨rfl, rfl⟩
  go_wp2_with fail
  refine (inverse_no _ _ rfl).mono ?_; rintro e w' ⟨rfl, rfl⟩
  go_wp2_with fail
  refine (inverse_yes _ _ (by decide)).mono ?_; rintro e w' ⟨v, hv, rfl, rfl⟩
  rw [hv.eq, half_eq]; clear hv v
  go_wp2_with fail
  refine (line_call _).mono ?_; rintro e w1 ⟨rfl, hB1⟩
  go_wp2_with fail
  refine (at_nil _ _).mono ?_; rintro e w2 ⟨rfl, hB2⟩
  go_wp2_with fail
  refine (dup_call _).mono ?_; rintro e w3 ⟨rfl, hB3⟩
  go_wp2_with fail
  go_wp2_with fail
  refine (at_long _ _ _ _ (by decide) _).mono ?_; rintro e w4 ⟨rfl, rfl⟩
  clear hmk
  go_wp2_with (first | (go_at_call 12; refine (mod_any _ _).mono ?_; rintro e w' ⟨rfl, rfl⟩) | (go_at_call 16; refine (mul_any _ _ _).mono ?_; rintro e w' ⟨rfl, rfl⟩) | (go_at_call 14; refine (add_any _ _ _).mono ?_; rintro e w5 ⟨rfl, hB5⟩) | (go_at_call_of 21 (Value.int IntKind.i64 10); refine (val_call _).mono ?_; rintro e w6 ⟨rfl, hB6⟩) | (go_at_call 21; refine (value_nil _ _ _ _).mono ?_; rintro e w' ⟨rfl, rfl⟩))
  go_ret
  exact ⟨rfl, thenB (thenB (thenB (thenB (thenB hB1 hB2) hB3) ((Below.refl _ _).alloc (Nat.le_refl _) _)) hB5) hB6⟩
end Go.Proofs.Ytmmoenbdlfmgeaa
