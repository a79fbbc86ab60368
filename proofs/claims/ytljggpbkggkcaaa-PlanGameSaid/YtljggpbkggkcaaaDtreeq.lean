/- DERIVED. What the executor makes of functions. -/
import Derived.Test.YtljggpbkggkcaaaDconf
import Derived.KernelRfl
namespace Go.Proofs.Ytljggpbkggkcaaa
open Go.Dx
set_option linter.unusedVariables false
set_option maxRecDepth 100000
theorem tree_dem : runC tb [lDem] 80 (cDem 31) = (.ite (.le (.len (.var 3)) (.lit 3432621667203))
  (.lop 0 [(.num (.lit 0)), (.var 3)] 32 (.ite (.lt (.var 6) (.len (.var 3)))
  (.ite (.and (.le (.lit 0) (.var 6)) (.lt (.var 6) (.len (.var 4))))
  (.ite (.and (.le (.lit 0) (.var 6)) (.lt (.var 6) (.len (.var 7))))
  (.dat (.set 2) [(.var 7), (.num (.var 6)), (.num (.wrap .i64 (.mul (.var 5) (.el (.var 4) (.var 6) 0))))] (.chk 0 6 [(.num (.add (.var 6) (.lit 1))), (.var 40)]))
  .fail)
  .fail)
  (.ret [(.num (.var 0)), (.num (.var 1)), (.num (.var 2)), (.var 7)])))
  .fail) := by kernel_rfl
end Go.Proofs.Ytljggpbkggkcaaa
