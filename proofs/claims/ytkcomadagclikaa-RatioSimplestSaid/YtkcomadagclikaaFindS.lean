/- DERIVED. The program's simplest: it lays the variable that the literal captures, and calls it. -/
import Derived.Test.YtkcomadagclikaaFind
namespace Go.Proofs.Ytkcomadagclikaa
set_option linter.unusedVariables false
set_option linter.unusedSimpArgs false
open Go.RowKit
set_option maxHeartbeats 1600000 in
theorem simplest_any (k : Nat) (an ad bn bd : Int) (w : World) (h : SI an ad bn bd) (hk : ad + bd ≤ (k : Int)) (b1 : an ≤ 1073741824) (b2 : ad ≤ 1073741824) (b3 : bn ≤ 1073741824) (b4 : bd ≤ 1073741824) :
    Calls Try.prog 41 #[.int .i64 an, .int .i64 ad, .int .i64 bn, .int .i64 bd] w fun e w' => e = .returned (.tuple #[.int .i64 (smp k an ad bn bd).1, .int .i64 (smp k an ad bn bd).2]) ∧ Below w.heap.size w w' := by
  have hmf : ∀ (fn : Fn) (first cap : Array Value) (w : World), (Instr.makeFunc fn first cap).run Try.prog w = .ok (.func fn first cap) w := fun _ _ _ _ => rfl
  have hsf := fun (a : Addr) (c : Array Value) (w : World) => run_store Try.prog w a (.func (.func 48) #[] c) .plain rfl
  go_enter Try.func41, Try.ntmps41
  go_wp2_with (go_at_call 48; refine (find_any k an ad bn bd w.heap.size _ h hk b1 b2 b3 b4 (by rw [World.cell?_alloc_at _ _ _ _ rfl]; rfl)).mono ?_; rintro e w' ⟨rfl, rfl⟩)
  go_ret2
  exact ⟨rfl, (Below.refl _ _).alloc (Nat.le_refl _) _⟩
end Go.Proofs.Ytkcomadagclikaa
