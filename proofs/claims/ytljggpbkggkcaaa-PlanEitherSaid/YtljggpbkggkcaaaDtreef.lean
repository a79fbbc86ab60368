/- DERIVED. What the executor makes of functions. -/
import Derived.Test.YtljggpbkggkcaaaDconb
import Derived.KernelRfl
namespace Go.Proofs.Ytljggpbkggkcaaa
open Go.Dx
set_option linter.unusedVariables false
set_option maxRecDepth 100000
theorem tree_relR : runC tb [cChk 15, cRobust 13] 80 (cRel 18) = (.con 0 [(.num (.var 0)), (.num (.var 1)), (.num (.var 2)), (.var 3)] (.ite (.not (.eq (.var 6) (.lit 0)))
  (.ret [(.num (.lit 0)), (.num (.var 6))])
  (.ite (.or (.or (.lt (.var 4) (.lit 0)) (.le (.len (.var 3)) (.var 4))) (.not (.and (.le (.lit 0) (.var 5)) (.le (.var 5) (.var 0)))))
  (.ret [(.num (.lit 0)), (.num (.lit 1))])
  (.con 1 [(.num (.var 0)), (.num (.var 1)), (.num (.var 2)), (.var 3)] (.ite (.and (.le (.lit 0) (.var 4)) (.lt (.var 4) (.len (.var 7))))
  (.ite (.not (.and (.le (.el (.var 7) (.var 4) 0) (.var 5)) (.le (.var 5) (.el (.var 7) (.var 4) 1))))
  (.ret [(.num (.lit 0)), (.num (.lit 390))])
  (.ite (.and (.le (.lit 0) (.add (.var 4) (.lit 1))) (.lt (.add (.var 4) (.lit 1)) (.len (.var 7))))
  (.ite (.eq (.el (.var 7) (.add (.var 4) (.lit 1)) 1) (.var 0))
  (.ret [(.num (.max (.el (.var 3) (.var 4) 2) (.wrap .i64 (.sub (.var 5) (.wrap .i64 (.sub (.wrap .i64 (.add (.var 0) (.el (.var 3) (.var 4) 4))) (.el (.var 3) (.var 4) 1))))))), (.num (.lit 0))])
  (.ret [(.num (.max (.el (.var 3) (.var 4) 2) (.wrap .i64 (.sub (.var 5) (.wrap .i64 (.sub (.el (.var 7) (.add (.var 4) (.lit 1)) 1) (.el (.var 3) (.var 4) 1))))))), (.num (.lit 0))]))
  .fail))
  .fail))))) := by kernel_rfl
end Go.Proofs.Ytljggpbkggkcaaa
