/- DERIVED. What the executor makes of functions. -/
import Derived.Test.YtcidomlhmdefaaaDconb
import Derived.KernelRfl
namespace Go.Proofs.Ytcidomlhmdefaaa
open Go.Dx
set_option linter.unusedVariables false
set_option maxRecDepth 100000
theorem tree_same : runC tb [lSame] 80 (cSame 19) = (.ite (.not (.eq (.len (.var 0)) (.len (.var 1))))
  (.ret [(.lit 0)])
  (.lop 0 [(.num (.lit 0))] 26 (.ite (.lt (.var 2) (.len (.var 0)))
  (.ite (.and (.le (.lit 0) (.var 2)) (.lt (.var 2) (.len (.var 1))))
  (.ite (.not (.eq (.el (.var 0) (.var 2) 0) (.el (.var 1) (.var 2) 0)))
  (.ret [(.lit 0)])
  (.chk 0 2 [(.num (.add (.var 2) (.lit 1)))]))
  .fail)
  (.ret [(.lit 1)])))) := by kernel_rfl
theorem tree_sums : runC tb [lSums] 80 (cSums 20) = (.dat (.rows 1) [] (.lop 0 [(.var 1), (.num (.lit 0)), (.num (.lit 0))] 28 (.ite (.lt (.var 4) (.len (.var 0)))
  (.ite (.or (.lt (.el (.var 0) (.var 4) 0) (.lit 0)) (.lt (.lit 1125899906842624) (.el (.var 0) (.var 4) 0)))
  (.dat (.rows 1) [] (.ret [(.var 33), (.lit 0)]))
  (.ite (.le (.add (.len (.var 2)) (.lit 1)) (.lit 15637498706147))
  (.dat (.rows 1) [(.num (.add (.var 3) (.el (.var 0) (.var 4) 0)))] (.dat .cat [(.var 2), (.var 33)] (.ite (.and (.le (.lit 0) (.num (.add (.var 3) (.el (.var 0) (.var 4) 0)))) (.le (.num (.add (.var 3) (.el (.var 0) (.var 4) 0))) (.lit 576460752303423488)))
  (.chk 0 2 [(.var 34), (.num (.add (.var 3) (.el (.var 0) (.var 4) 0))), (.num (.add (.var 4) (.lit 1)))])
  .fail)))
  .fail))
  (.ret [(.var 2), (.lit 1)])))) := by kernel_rfl
end Go.Proofs.Ytcidomlhmdefaaa
