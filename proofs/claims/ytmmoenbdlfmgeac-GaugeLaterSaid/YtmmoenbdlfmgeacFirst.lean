/- DERIVED. Gauges: the contract of first, for whatever function is asked. -/
import Derived.Test.YtmmoenbdlfmgeacBase
namespace Go.Proofs.Ytmmoenbdlfmgeac
open Go.RowKit
set_option linter.unusedVariables false
set_option linter.unusedSimpArgs false
theorem mid_lt (a b : Nat) (hb : a + b ≤ 4000000) : ((a : Int) + b).tdiv 2 = (((a + b) / 2 : Nat) : Int) := by
  rw [Int.tdiv_eq_ediv_of_nonneg (by omega)]; omega

set_option maxRecDepth 100000 in
set_option maxHeartbeats 1000000 in
theorem first_any (n : Nat) (hn : n ≤ 2000000) (f : Nat) (caps : Array Value) (p : Nat → Bool) (K : World → Prop) (w : World)
    (hf : ∀ args w, Sem.run Try.prog (callFunc f args) w = .ok (.enter f args) w) (hK : ∀ a b, K a → Below a.heap.size a b → K b)
    (hc : ∀ (i : Nat) a, i < n → K a → Calls Try.prog f (#[.int .i64 i] ++ caps) a fun e b => e = .returned (.bool (p i)) ∧ Below a.heap.size a b) (hw : K w) :
    Calls Try.prog 12 #[.int .i64 n, .func (.func f) #[] caps] w fun e w' => ∃ k : Nat, k ≤ n ∧ (k = 0 ∨ p (k - 1) = false) ∧ (k = n ∨ p k = true) ∧ e = .returned (.int .i64 k) ∧ Below w.heap.size w w' := by
  go_enter Try.func12, Try.ntmps12
  go_wp2
  go_loopw [5, 6] (fun a b wr => ∃ lo hi : Nat, lo ≤ hi ∧ hi ≤ n ∧ (lo = 0 ∨ p (lo - 1) = false) ∧ (hi = n ∨ p hi = true) ∧ a = .int .i64 lo ∧ b = .int .i64 hi ∧ Below w.heap.size w wr) (fun a b _ => (intOf b - intOf a).toNat)
  case atStart => exact ⟨0, n, Nat.zero_le _, Nat.le_refl _, .inl rfl, .inl rfl, rfl, rfl, Below.refl _ _⟩
  case round =>
    obtain ⟨lo, hi, hlh, hhn, hp, hq, rfl, rfl, hB⟩ := hrel
    by_cases hlt : lo < hi
    · have hM := mid_lt lo hi (by omega)
      obtain ⟨m, hm⟩ : ∃ m, m = (lo + hi) / 2 := ⟨_, rfl⟩
      rw [← hm] at hM
      have hmlo : lo ≤ m := by omega
      have hmhi : m < hi := by omega
      have HC := hc m wr (by omega) (hK _ _ hw hB)
      clear hm
      cases hpm : p m with
      | true =>
        rw [hpm] at HC
        go_wp2_with fail
        refine HC.mono ?_; rintro e w' ⟨rfl, hB'⟩
        go_wp2_with fail
        go_roundw
        case rel => exact ⟨lo, m, hmlo, by omega, hp, .inr hpm, rfl, rfl, thenB hB hB'⟩
        case measure => simp [intOf]; omega
      | false =>
        rw [hpm] at HC
        go_wp2_with fail
        refine HC.mono ?_; rintro e w' ⟨rfl, hB'⟩
        go_wp2_with fail
        go_roundw
        case rel => exact ⟨m + 1, hi, by omega, hhn, .inr (by simpa using hpm), hq, by go_num, rfl, thenB hB hB'⟩
        case measure => simp [intOf]; omega
    · obtain rfl : lo = hi := by omega
      go_wp2_with fail
      go_ret
      exact ⟨lo, hhn, hp, hq, by simp, hB⟩
theorem call28 (args : Array Value) (w : World) : Sem.run Try.prog (callFunc 15 args) w = .ok (.enter 15 args) w := by
  go_simp
end Go.Proofs.Ytmmoenbdlfmgeac
