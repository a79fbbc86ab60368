/- DERIVED. What the executor makes of functions. -/
import Derived.Test.YtbkjjehfidnagaaDoorDcon
import Derived.KernelRfl
namespace Go.Proofs.YtbkjjehfidnagaaDoor
open Go.Dx
set_option linter.unusedVariables false
set_option maxRecDepth 100000
theorem tree_sane : runC tb [] 400 (lawCon 10 []) = (.ret [(.lit 1)]) := by kernel_rfl
end Go.Proofs.YtbkjjehfidnagaaDoor
