/- DERIVED. The check of the examples answers true. -/
import Derived.Test.YtkcomadagclikaaTb
namespace Go.Proofs.Ytkcomadagclikaa
open Go.Sx Go.RowKit
set_option linter.unusedVariables false
set_option maxRecDepth 100000 in
theorem tree_sane : runP tb [] 1000 10 [] ⟨[], [], []⟩ = .ret (.p (.c (.k (.bool (.lit true))))) := by kernel_rfl
theorem okSane {σ τ} : ∀ N w0, ConOk Try.prog N w0 σ τ (trueCon 10) := fun N w0 =>
  trueCon_ok fun w => by
    have := sx_law (tb := tb) (w := w) (σ := []) (τ := []) fine (C := []) (fun c hc => by cases hc) 1000 10 [] ⟨[], [], []⟩ [] bnd_nil (by rw [tree_sane]; rfl)
    exact this
end Go.Proofs.Ytkcomadagclikaa
