/- DERIVED. What the executor makes of functions. -/
import Derived.Test.YtkophklnleodcaaDconb
import Derived.KernelRfl
namespace Go.Proofs.Ytkophklnleodcaa
open Go.Dx
set_option linter.unusedVariables false
set_option maxRecDepth 100000
theorem tree_nx4 : runC tb [cChk, cRun] 80 (cNextN 20 3 9223372036854775807) = (.ret [(.num (.lit 0)), (.num (.lit 0)), (.num (.lit 0)), (.num (.lit 0)), (.num (.lit 0)), (.num (.lit 0)), (.num (.lit 0)), (.num (.lit 320))]) := by kernel_rfl
end Go.Proofs.Ytkophklnleodcaa
