/- DERIVED. What the executor makes of functions. -/
import Derived.Test.YtljggpbkggkcaaaDconb
import Derived.KernelRfl
namespace Go.Proofs.Ytljggpbkggkcaaa
open Go.Dx
set_option linter.unusedVariables false
set_option maxRecDepth 100000
theorem tree_spoR : runC tb [cChk 15, cRobust 13, cNext 20] 80 (cSpo 22) = (.con 0 [(.num (.var 0)), (.num (.var 1)), (.num (.var 2)), (.var 3)] (.ite (.not (.eq (.var 7) (.lit 0)))
  (.ret [(.num (.lit 0)), (.num (.var 7))])
  (.ite (.or (.or (.lt (.var 4) (.lit 0)) (.le (.len (.var 3)) (.var 4))) (.not (.and (.le (.lit 0) (.var 5)) (.le (.var 5) (.var 0)))))
  (.ret [(.num (.lit 0)), (.num (.lit 1))])
  (.ite (.not (.and (.le (.lit 0) (.var 6)) (.le (.var 6) (.lit 1099511627776))))
  (.ret [(.num (.lit 0)), (.num (.lit 1))])
  (.con 1 [(.num (.var 0)), (.num (.var 1)), (.num (.var 2)), (.var 3)] (.ite (.and (.le (.lit 0) (.var 4)) (.lt (.var 4) (.len (.var 8))))
  (.ite (.or (.and (.le (.el (.var 8) (.var 4) 0) (.var 5)) (.le (.var 5) (.el (.var 8) (.var 4) 1))) (.not (.and (.and (.le (.el (.var 3) (.var 4) 2) (.var 6)) (.le (.var 6) (.el (.var 3) (.var 4) 3))) (.le (.var 6) (.var 5)))))
  (.ret [(.num (.lit 0)), (.num (.lit 390))])
  (.con 2 [(.num (.var 0)), (.num (.var 1)), (.num (.var 2)), (.var 3), (.num (.var 4)), (.num (.var 5)), (.num (.var 6)), (.num (.el (.var 3) (.var 4) 0))] (.ite (.not (.eq (.var 12) (.lit 0)))
  (.ite (.and (.le (.lit 0) (.add (.var 4) (.lit 1))) (.lt (.add (.var 4) (.lit 1)) (.len (.var 8))))
  (.ite (.not (.and (.le (.el (.var 8) (.add (.var 4) (.lit 1)) 0) (.var 10)) (.le (.var 10) (.el (.var 8) (.add (.var 4) (.lit 1)) 1))))
  (.ret [(.num (.el (.var 3) (.var 4) 0)), (.num (.lit 0))])
  (.ret [(.num (.el (.var 3) (.var 4) 1)), (.num (.lit 0))]))
  .fail)
  (.ret [(.num (.el (.var 3) (.var 4) 0)), (.num (.lit 0))]))))
  .fail)))))) := by kernel_rfl
end Go.Proofs.Ytljggpbkggkcaaa
