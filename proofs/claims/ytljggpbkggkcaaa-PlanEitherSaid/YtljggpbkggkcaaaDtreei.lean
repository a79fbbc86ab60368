/- DERIVED. What the executor makes of functions. -/
import Derived.Test.YtljggpbkggkcaaaDconb
import Derived.KernelRfl
namespace Go.Proofs.Ytljggpbkggkcaaa
open Go.Dx
set_option linter.unusedVariables false
set_option maxRecDepth 100000
theorem tree_spo : runC tb [cChk 14, cRobOf 33] 80 (cSpo 21) = (.con 0 [(.num (.var 0)), (.num (.var 1)), (.num (.var 2)), (.var 3)] (.ite (.not (.eq (.var 7) (.lit 0)))
  (.ret [(.num (.lit 0)), (.num (.var 7))])
  (.ite (.not (.or (.lt (.var 4) (.lit 0)) (.le (.len (.var 3)) (.var 4))))
  (.ite (.or (.lt (.var 5) (.lit 0)) (.lt (.var 0) (.var 5)))
  (.ret [(.num (.lit 0)), (.num (.lit 1))])
  (.ite (.or (.lt (.var 6) (.lit 0)) (.lt (.lit 1099511627776) (.var 6)))
  (.ret [(.num (.lit 0)), (.num (.lit 1))])
  (.con 1 [(.num (.var 0)), (.num (.var 1)), (.num (.var 2)), (.var 3)] (.ite (.and (.le (.lit 0) (.var 4)) (.lt (.var 4) (.len (.var 12))))
  (.ite (.or (.and (.le (.el (.var 12) (.var 4) 0) (.var 5)) (.le (.var 5) (.el (.var 12) (.var 4) 1))) (.not (.and (.and (.le (.el (.var 3) (.var 4) 2) (.var 6)) (.le (.var 6) (.el (.var 3) (.var 4) 3))) (.le (.var 6) (.var 5)))))
  (.ret [(.num (.lit 0)), (.num (.lit 390))])
  (.ite (.le (.wrap .i64 (.sub (.wrap .i64 (.add (.sub (.var 5) (.var 6)) (.el (.var 3) (.var 4) 0))) (.min (.wrap .i64 (.add (.sub (.var 5) (.var 6)) (.el (.var 3) (.var 4) 0))) (.var 0)))) (.el (.var 3) (.var 4) 4))
  (.ite (.and (.le (.lit 0) (.add (.var 4) (.lit 1))) (.lt (.add (.var 4) (.lit 1)) (.len (.var 12))))
  (.ite (.not (.and (.le (.el (.var 12) (.add (.var 4) (.lit 1)) 0) (.min (.wrap .i64 (.add (.sub (.var 5) (.var 6)) (.el (.var 3) (.var 4) 0))) (.var 0))) (.le (.min (.wrap .i64 (.add (.sub (.var 5) (.var 6)) (.el (.var 3) (.var 4) 0))) (.var 0)) (.el (.var 12) (.add (.var 4) (.lit 1)) 1))))
  (.ret [(.num (.el (.var 3) (.var 4) 0)), (.num (.lit 0))])
  (.ret [(.num (.el (.var 3) (.var 4) 1)), (.num (.lit 0))]))
  .fail)
  (.ret [(.num (.el (.var 3) (.var 4) 0)), (.num (.lit 0))])))
  .fail))))
  (.ret [(.num (.lit 0)), (.num (.lit 1))])))) := by kernel_rfl
end Go.Proofs.Ytljggpbkggkcaaa
