/- DERIVED. What the executor makes of functions. -/
import Derived.Test.YtljggpbkggkcaaaDconb
import Derived.KernelRfl
namespace Go.Proofs.Ytljggpbkggkcaaa
open Go.Dx
set_option linter.unusedVariables false
set_option maxRecDepth 100000
theorem tree_next : runC tb [cChk 14] 80 (cNext 19) = (.con 0 [(.num (.var 0)), (.num (.var 1)), (.num (.var 2)), (.var 3)] (.ite (.not (.eq (.var 8) (.lit 0)))
  (.ret [(.num (.lit 0)), (.num (.lit 0)), (.lit 0), (.num (.var 8))])
  (.ite (.not (.or (.lt (.var 4) (.lit 0)) (.le (.len (.var 3)) (.var 4))))
  (.ite (.or (.lt (.var 5) (.lit 0)) (.lt (.var 0) (.var 5)))
  (.ret [(.num (.lit 0)), (.num (.lit 0)), (.lit 0), (.num (.lit 1))])
  (.ite (.or (.lt (.var 6) (.lit 0)) (.lt (.lit 1099511627776) (.var 6)))
  (.ret [(.num (.lit 0)), (.num (.lit 0)), (.lit 0), (.num (.lit 1))])
  (.ite (.or (.lt (.var 7) (.lit 0)) (.lt (.lit 1099511627776) (.var 7)))
  (.ret [(.num (.lit 0)), (.num (.lit 0)), (.lit 0), (.num (.lit 1))])
  (.ite (.or (.not (.and (.and (.le (.el (.var 3) (.var 4) 2) (.var 6)) (.le (.var 6) (.el (.var 3) (.var 4) 3))) (.le (.var 6) (.var 5)))) (.lt (.el (.var 3) (.var 4) 4) (.wrap .i64 (.sub (.wrap .i64 (.add (.sub (.var 5) (.var 6)) (.var 7))) (.min (.wrap .i64 (.add (.sub (.var 5) (.var 6)) (.var 7))) (.var 0))))))
  (.ret [(.num (.lit 0)), (.num (.lit 0)), (.lit 0), (.num (.lit 0))])
  (.ret [(.num (.min (.wrap .i64 (.add (.sub (.var 5) (.var 6)) (.var 7))) (.var 0))), (.num (.wrap .i64 (.sub (.wrap .i64 (.add (.sub (.var 5) (.var 6)) (.var 7))) (.min (.wrap .i64 (.add (.sub (.var 5) (.var 6)) (.var 7))) (.var 0))))), (.lit 1), (.num (.lit 0))])))))
  (.ret [(.num (.lit 0)), (.num (.lit 0)), (.lit 0), (.num (.lit 1))])))) := by kernel_rfl
theorem tree_nextR : runC tb [cChk 15] 80 (cNext 20) = (.con 0 [(.num (.var 0)), (.num (.var 1)), (.num (.var 2)), (.var 3)] (.ite (.not (.eq (.var 8) (.lit 0)))
  (.ret [(.num (.lit 0)), (.num (.lit 0)), (.lit 0), (.num (.var 8))])
  (.ite (.or (.or (.lt (.var 4) (.lit 0)) (.le (.len (.var 3)) (.var 4))) (.not (.and (.le (.lit 0) (.var 5)) (.le (.var 5) (.var 0)))))
  (.ret [(.num (.lit 0)), (.num (.lit 0)), (.lit 0), (.num (.lit 1))])
  (.ite (.or (.not (.and (.le (.lit 0) (.var 6)) (.le (.var 6) (.lit 1099511627776)))) (.not (.and (.le (.lit 0) (.var 7)) (.le (.var 7) (.lit 1099511627776)))))
  (.ret [(.num (.lit 0)), (.num (.lit 0)), (.lit 0), (.num (.lit 1))])
  (.ite (.not (.and (.and (.le (.el (.var 3) (.var 4) 2) (.var 6)) (.le (.var 6) (.el (.var 3) (.var 4) 3))) (.le (.var 6) (.var 5))))
  (.ret [(.num (.lit 0)), (.num (.lit 0)), (.lit 0), (.num (.lit 0))])
  (.ite (.lt (.el (.var 3) (.var 4) 4) (.max (.lit 0) (.wrap .i64 (.sub (.wrap .i64 (.add (.sub (.var 5) (.var 6)) (.var 7))) (.var 0)))))
  (.ret [(.num (.lit 0)), (.num (.lit 0)), (.lit 0), (.num (.lit 0))])
  (.ret [(.num (.wrap .i64 (.sub (.wrap .i64 (.add (.sub (.var 5) (.var 6)) (.var 7))) (.max (.lit 0) (.wrap .i64 (.sub (.wrap .i64 (.add (.sub (.var 5) (.var 6)) (.var 7))) (.var 0))))))), (.num (.max (.lit 0) (.wrap .i64 (.sub (.wrap .i64 (.add (.sub (.var 5) (.var 6)) (.var 7))) (.var 0))))), (.lit 1), (.num (.lit 0))]))))))) := by kernel_rfl
end Go.Proofs.Ytljggpbkggkcaaa
