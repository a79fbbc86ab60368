/- DERIVED. What the executor makes of functions. -/
import Derived.Test.YtljggpbkggkcaaaDcon
import Derived.KernelRfl
namespace Go.Proofs.Ytljggpbkggkcaaa
open Go.Dx
set_option linter.unusedVariables false
set_option maxRecDepth 100000
theorem tree_robR : runC tb [cChk 15, lRobR 7] 80 (cRobust 13) = (.con 0 [(.num (.var 0)), (.num (.var 1)), (.num (.var 2)), (.var 3)] (.ite (.not (.eq (.var 4) (.lit 0)))
  (.dat (.rows 2) [] (.ret [(.var 5), (.num (.var 4))]))
  (.ite (.and (.le (.lit 0) (.wrap .i64 (.add (.len (.var 3)) (.lit 1)))) (.le (.wrap .i64 (.add (.len (.var 3)) (.lit 1))) (.lit 8278675785607)))
  (.dat .rep [(.num (.wrap .i64 (.add (.len (.var 3)) (.lit 1)))), (.lit 0), (.lit 0)] (.ite (.and (.le (.lit 0) (.len (.var 3))) (.lt (.len (.var 3)) (.wrap .i64 (.add (.len (.var 3)) (.lit 1)))))
  (.dat (.set 0) [(.var 5), (.num (.len (.var 3))), (.num (.var 2)), (.num (.var 0))] (.lop 1 [(.num (.sub (.len (.var 3)) (.lit 1))), (.var 6)] 48 (.ite (.le (.lit 0) (.var 7))
  (.ite (.and (.le (.lit 0) (.wrap .i64 (.add (.var 7) (.lit 1)))) (.lt (.wrap .i64 (.add (.var 7) (.lit 1))) (.len (.var 8))))
  (.ite (.lt (.el (.var 8) (.wrap .i64 (.add (.var 7) (.lit 1))) 1) (.el (.var 8) (.wrap .i64 (.add (.var 7) (.lit 1))) 0))
  (.ite (.and (.le (.lit 0) (.var 7)) (.lt (.var 7) (.len (.var 8))))
  (.dat (.set 0) [(.var 8), (.num (.var 7)), (.num (.lit 1)), (.num (.lit 0))] (.chk 1 7 [(.num (.sub (.var 7) (.lit 1))), (.var 57)]))
  .fail)
  (.ite (.and (.le (.lit 0) (.var 7)) (.lt (.var 7) (.len (.var 3))))
  (.ite (.eq (.el (.var 8) (.wrap .i64 (.add (.var 7) (.lit 1))) 1) (.var 0))
  (.ite (.lt (.wrap .i64 (.sub (.wrap .i64 (.add (.var 0) (.el (.var 3) (.var 7) 4))) (.el (.var 3) (.var 7) 1))) (.max (.lit 0) (.wrap .i64 (.sub (.el (.var 8) (.wrap .i64 (.add (.var 7) (.lit 1))) 0) (.el (.var 3) (.var 7) 0)))))
  (.ite (.and (.le (.lit 0) (.var 7)) (.lt (.var 7) (.len (.var 8))))
  (.dat (.set 0) [(.var 8), (.num (.var 7)), (.num (.lit 1)), (.num (.lit 0))] (.chk 1 7 [(.num (.sub (.var 7) (.lit 1))), (.var 57)]))
  .fail)
  (.ite (.lt (.min (.var 0) (.wrap .i64 (.add (.wrap .i64 (.sub (.wrap .i64 (.add (.var 0) (.el (.var 3) (.var 7) 4))) (.el (.var 3) (.var 7) 1))) (.el (.var 3) (.var 7) 3)))) (.wrap .i64 (.add (.max (.lit 0) (.wrap .i64 (.sub (.el (.var 8) (.wrap .i64 (.add (.var 7) (.lit 1))) 0) (.el (.var 3) (.var 7) 0)))) (.el (.var 3) (.var 7) 2))))
  (.ite (.and (.le (.lit 0) (.var 7)) (.lt (.var 7) (.len (.var 8))))
  (.dat (.set 0) [(.var 8), (.num (.var 7)), (.num (.lit 1)), (.num (.lit 0))] (.chk 1 7 [(.num (.sub (.var 7) (.lit 1))), (.var 57)]))
  .fail)
  (.ite (.and (.le (.lit 0) (.var 7)) (.lt (.var 7) (.len (.var 8))))
  (.dat (.set 0) [(.var 8), (.num (.var 7)), (.num (.wrap .i64 (.add (.max (.lit 0) (.wrap .i64 (.sub (.el (.var 8) (.wrap .i64 (.add (.var 7) (.lit 1))) 0) (.el (.var 3) (.var 7) 0)))) (.el (.var 3) (.var 7) 2)))), (.num (.min (.var 0) (.wrap .i64 (.add (.wrap .i64 (.sub (.wrap .i64 (.add (.var 0) (.el (.var 3) (.var 7) 4))) (.el (.var 3) (.var 7) 1))) (.el (.var 3) (.var 7) 3)))))] (.chk 1 7 [(.num (.sub (.var 7) (.lit 1))), (.var 57)]))
  .fail)))
  (.ite (.lt (.wrap .i64 (.sub (.el (.var 8) (.wrap .i64 (.add (.var 7) (.lit 1))) 1) (.el (.var 3) (.var 7) 1))) (.max (.lit 0) (.wrap .i64 (.sub (.el (.var 8) (.wrap .i64 (.add (.var 7) (.lit 1))) 0) (.el (.var 3) (.var 7) 0)))))
  (.ite (.and (.le (.lit 0) (.var 7)) (.lt (.var 7) (.len (.var 8))))
  (.dat (.set 0) [(.var 8), (.num (.var 7)), (.num (.lit 1)), (.num (.lit 0))] (.chk 1 7 [(.num (.sub (.var 7) (.lit 1))), (.var 57)]))
  .fail)
  (.ite (.lt (.min (.var 0) (.wrap .i64 (.add (.wrap .i64 (.sub (.el (.var 8) (.wrap .i64 (.add (.var 7) (.lit 1))) 1) (.el (.var 3) (.var 7) 1))) (.el (.var 3) (.var 7) 3)))) (.wrap .i64 (.add (.max (.lit 0) (.wrap .i64 (.sub (.el (.var 8) (.wrap .i64 (.add (.var 7) (.lit 1))) 0) (.el (.var 3) (.var 7) 0)))) (.el (.var 3) (.var 7) 2))))
  (.ite (.and (.le (.lit 0) (.var 7)) (.lt (.var 7) (.len (.var 8))))
  (.dat (.set 0) [(.var 8), (.num (.var 7)), (.num (.lit 1)), (.num (.lit 0))] (.chk 1 7 [(.num (.sub (.var 7) (.lit 1))), (.var 57)]))
  .fail)
  (.ite (.and (.le (.lit 0) (.var 7)) (.lt (.var 7) (.len (.var 8))))
  (.dat (.set 0) [(.var 8), (.num (.var 7)), (.num (.wrap .i64 (.add (.max (.lit 0) (.wrap .i64 (.sub (.el (.var 8) (.wrap .i64 (.add (.var 7) (.lit 1))) 0) (.el (.var 3) (.var 7) 0)))) (.el (.var 3) (.var 7) 2)))), (.num (.min (.var 0) (.wrap .i64 (.add (.wrap .i64 (.sub (.el (.var 8) (.wrap .i64 (.add (.var 7) (.lit 1))) 1) (.el (.var 3) (.var 7) 1))) (.el (.var 3) (.var 7) 3)))))] (.chk 1 7 [(.num (.sub (.var 7) (.lit 1))), (.var 57)]))
  .fail))))
  .fail))
  .fail)
  (.ret [(.var 8), (.num (.lit 0))]))))
  .fail))
  .fail))) := by kernel_rfl
end Go.Proofs.Ytljggpbkggkcaaa
