/- DERIVED. What the executor makes of functions. -/
import Derived.Test.YtkcomadagclikaaBcon
import Derived.Test.YtkcomadagclikaaRecq
import Derived.KernelRfl
namespace Go.Proofs.Ytkcomadagclikaa
open Go.Sx
set_option linter.unusedVariables false
set_option maxRecDepth 100000
theorem tree_smpR (K : Nat) : runQ tb [cSmpR K] 1000 42 (argsOf [two, two] 0) ⟨[(0, 1073741824), (1, 1073741824), (1, 1073741824), (0, 1073741824)], [], []⟩ = (.ite (.or (.eq (.var 3) (.lit 0)) (.lt (.mul (.add (.quo (.var 0) (.var 1)) (.lit 1)) (.var 3)) (.var 2)))
  (.ret (.p (.agg [(.k (.int .i64 (.add (.quo (.var 0) (.var 1)) (.lit 1)))), (.k (.int .i64 (.lit 1)))])))
  (.con 0 [(.var 3), (.sub (.var 2) (.mul (.quo (.var 0) (.var 1)) (.var 3))), (.var 1), (.sub (.var 0) (.mul (.quo (.var 0) (.var 1)) (.var 1)))] (.ret (.p (.agg [(.k (.int .i64 (.add (.mul (.quo (.var 0) (.var 1)) (.var 4)) (.var 5)))), (.k (.int .i64 (.var 4)))]))))) := by kernel_rfl
end Go.Proofs.Ytkcomadagclikaa
