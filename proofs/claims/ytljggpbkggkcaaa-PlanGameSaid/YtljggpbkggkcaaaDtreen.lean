/- DERIVED. What the executor makes of functions. -/
import Derived.Test.YtljggpbkggkcaaaDcone
import Derived.KernelRfl
namespace Go.Proofs.Ytljggpbkggkcaaa
open Go.Dx
set_option linter.unusedVariables false
set_option maxRecDepth 100000
theorem tree_met : runC tb [cRobust 13, lApp 7] 80 (cMet 48) = (.dat (.rows 5) [] (.lop 1 [(.num (.lit 0)), (.var 6)] 52 (.ite (.lt (.var 7) (.len (.var 4)))
  (.ite (.and (.le (.lit 0) (.var 7)) (.lt (.var 7) (.len (.var 3))))
  (.ite (.le (.add (.len (.var 8)) (.lit 1)) (.lit 3432621667203))
  (.dat (.rows 5) [(.num (.el (.var 3) (.var 7) 0)), (.num (.el (.var 3) (.var 7) 1)), (.num (.wrap .i64 (.mul (.var 5) (.el (.var 4) (.var 7) 0)))), (.num (.el (.var 3) (.var 7) 3)), (.num (.el (.var 3) (.var 7) 4))] (.dat .cat [(.var 8), (.var 61)] (.chk 1 7 [(.num (.add (.var 7) (.lit 1))), (.var 62)])))
  .fail)
  .fail)
  (.con 0 [(.num (.var 0)), (.num (.var 1)), (.num (.var 2)), (.var 8)] (.ite (.eq (.var 62) (.lit 0))
  (.ite (.and (.le (.lit 0) (.lit 0)) (.lt (.lit 0) (.len (.var 61))))
  (.ite (.and (.le (.el (.var 61) (.lit 0) 0) (.var 1)) (.le (.var 1) (.el (.var 61) (.lit 0) 1)))
  (.ret [(.lit 1)])
  (.ret [(.lit 0)]))
  .fail)
  (.ret [(.lit 0)])))))) := by kernel_rfl
end Go.Proofs.Ytljggpbkggkcaaa
