/- DERIVED. What the executor makes of functions. -/
import Derived.Test.YtljggpbkggkcaaaDcong
import Derived.KernelRfl
namespace Go.Proofs.Ytljggpbkggkcaaa
open Go.Dx
set_option linter.unusedVariables false
set_option maxRecDepth 100000
theorem tree_at : runC tb [] 80 (cAt 27) = (.ite (.lt (.var 1) (.len (.var 0)))
  (.ite (.and (.le (.lit 0) (.var 1)) (.lt (.var 1) (.len (.var 0))))
  (.ret [(.num (.el (.var 0) (.var 1) 0))])
  .fail)
  (.ret [(.num (.lit 0))])) := by kernel_rfl
theorem tree_pick : runC tb [] 80 (cPick 26) = (.ite (.eq (.wrap .i64 (.add (.wrap .i64 (.sub (.var 1) (.var 0))) (.lit 1))) (.lit 0))
  .fail
  (.ite (.and (.le (.lit 0) (.num (.wrap .i64 (.add (.var 0) (.rem (.var 2) (.wrap .i64 (.add (.wrap .i64 (.sub (.var 1) (.var 0))) (.lit 1)))))))) (.le (.num (.wrap .i64 (.add (.var 0) (.rem (.var 2) (.wrap .i64 (.add (.wrap .i64 (.sub (.var 1) (.var 0))) (.lit 1))))))) (.lit 1099511627776)))
  (.ret [(.num (.wrap .i64 (.add (.var 0) (.rem (.var 2) (.wrap .i64 (.add (.wrap .i64 (.sub (.var 1) (.var 0))) (.lit 1)))))))])
  .fail)) := by kernel_rfl
end Go.Proofs.Ytljggpbkggkcaaa
