/- DERIVED. What the executor makes of functions. -/
import Derived.Test.YtgaaommfemgnnaaTb
import Derived.KernelRfl
namespace Go.Proofs.Ytgaaommfemgnnaa.Old
open Go.Sx
set_option linter.unusedVariables false
set_option maxRecDepth 100000
theorem tree_sane : runP tb [] 4000 12 [] ⟨[], [], []⟩ = (.ret (.p (.c (.k (.bool (.lit true)))))) := by kernel_rfl
end Go.Proofs.Ytgaaommfemgnnaa.Old
