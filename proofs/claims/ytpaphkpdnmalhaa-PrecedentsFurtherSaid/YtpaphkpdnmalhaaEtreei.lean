/- DERIVED. What the executor makes of functions. -/
import Derived.Test.YtpaphkpdnmalhaaEcond
import Derived.KernelRfl
namespace Go.Proofs.Ytpaphkpdnmalhaa
open Go.Dx
set_option linter.unusedVariables false
set_option maxRecDepth 100000
theorem tree_few : runC tb [lFewP] 200 (cFew 10) = (.ite (.or (.lt (.lit 100) (.len (.var 1))) (.lt (.lit 100) (.len (.var 0))))
  (.ret [(.lit 0)])
  (.lop 0 [(.num (.lit 0))] 39 (.ite (.lt (.var 2) (.len (.var 1)))
  (.ite (.or (.lt (.lit 60) (.len (.el (.var 1) (.var 2) 3))) (.lt (.lit 60) (.len (.el (.var 1) (.var 2) 4))))
  (.ret [(.lit 0)])
  (.chk 0 2 [(.num (.add (.var 2) (.lit 1)))]))
  (.ret [(.lit 1)])))) := by kernel_rfl
end Go.Proofs.Ytpaphkpdnmalhaa
