/- DERIVED. What the executor makes of functions. -/
import Derived.Test.YtljggpbkggkcaaaDcond
import Derived.KernelRfl
namespace Go.Proofs.Ytljggpbkggkcaaa
open Go.Dx
set_option linter.unusedVariables false
set_option maxRecDepth 100000
theorem tree_isr : runC tb [lChk] 80 (cIsR 35) = (.ite (.or (.lt (.var 0) (.lit 0)) (.lt (.lit 1099511627776) (.var 0)))
  (.ret [(.lit 0)])
  (.ite (.or (.lt (.var 1) (.lit 0)) (.lt (.var 0) (.var 1)))
  (.ret [(.lit 0)])
  (.ite (.or (.lt (.var 2) (.lit 0)) (.lt (.var 0) (.var 2)))
  (.ret [(.lit 0)])
  (.lop 0 [(.num (.lit 0))] 62 (.ite (.lt (.var 4) (.len (.var 3)))
  (.ite (.or (.lt (.el (.var 3) (.var 4) 1) (.lit 0)) (.lt (.lit 1099511627776) (.el (.var 3) (.var 4) 1)))
  (.ret [(.lit 0)])
  (.ite (.or (.lt (.el (.var 3) (.var 4) 3) (.lit 0)) (.lt (.lit 1099511627776) (.el (.var 3) (.var 4) 3)))
  (.ret [(.lit 0)])
  (.ite (.or (.lt (.el (.var 3) (.var 4) 4) (.lit 0)) (.lt (.lit 1099511627776) (.el (.var 3) (.var 4) 4)))
  (.ret [(.lit 0)])
  (.ite (.or (.lt (.el (.var 3) (.var 4) 0) (.lit 0)) (.lt (.el (.var 3) (.var 4) 1) (.el (.var 3) (.var 4) 0)))
  (.ret [(.lit 0)])
  (.ite (.or (.lt (.el (.var 3) (.var 4) 2) (.lit 0)) (.lt (.el (.var 3) (.var 4) 3) (.el (.var 3) (.var 4) 2)))
  (.ret [(.lit 0)])
  (.chk 0 4 [(.num (.add (.var 4) (.lit 1)))]))))))
  (.ret [(.lit 1)])))))) := by kernel_rfl
end Go.Proofs.Ytljggpbkggkcaaa
