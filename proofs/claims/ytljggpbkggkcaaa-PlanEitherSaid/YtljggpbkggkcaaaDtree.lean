/- DERIVED. What the executor makes of functions. -/
import Derived.Test.YtljggpbkggkcaaaDcon
import Derived.KernelRfl
namespace Go.Proofs.Ytljggpbkggkcaaa
open Go.Dx
set_option linter.unusedVariables false
set_option maxRecDepth 100000
theorem tree_chk : runC tb [lChk] 80 (cChk 14) = (.ite (.lt (.lit 64) (.len (.var 3)))
  (.ret [(.num (.lit 2))])
  (.ite (.or (.lt (.var 0) (.lit 0)) (.lt (.lit 1099511627776) (.var 0)))
  (.ret [(.num (.lit 390))])
  (.ite (.or (.lt (.var 1) (.lit 0)) (.lt (.var 0) (.var 1)))
  (.ret [(.num (.lit 390))])
  (.ite (.or (.lt (.var 2) (.lit 0)) (.lt (.var 0) (.var 2)))
  (.ret [(.num (.lit 390))])
  (.lop 0 [(.num (.lit 0))] 62 (.ite (.lt (.var 4) (.len (.var 3)))
  (.ite (.or (.lt (.el (.var 3) (.var 4) 1) (.lit 0)) (.lt (.lit 1099511627776) (.el (.var 3) (.var 4) 1)))
  (.ret [(.num (.lit 390))])
  (.ite (.or (.lt (.el (.var 3) (.var 4) 3) (.lit 0)) (.lt (.lit 1099511627776) (.el (.var 3) (.var 4) 3)))
  (.ret [(.num (.lit 390))])
  (.ite (.or (.lt (.el (.var 3) (.var 4) 4) (.lit 0)) (.lt (.lit 1099511627776) (.el (.var 3) (.var 4) 4)))
  (.ret [(.num (.lit 390))])
  (.ite (.or (.lt (.el (.var 3) (.var 4) 0) (.lit 0)) (.lt (.el (.var 3) (.var 4) 1) (.el (.var 3) (.var 4) 0)))
  (.ret [(.num (.lit 390))])
  (.ite (.or (.lt (.el (.var 3) (.var 4) 2) (.lit 0)) (.lt (.el (.var 3) (.var 4) 3) (.el (.var 3) (.var 4) 2)))
  (.ret [(.num (.lit 390))])
  (.chk 0 4 [(.num (.add (.var 4) (.lit 1)))]))))))
  (.ret [(.num (.lit 0))]))))))) := by kernel_rfl
theorem tree_chkR : runC tb [lChkR] 80 (cChk 15) = (.ite (.lt (.lit 64) (.len (.var 3)))
  (.ret [(.num (.lit 2))])
  (.ite (.or (.or (.not (.and (.le (.lit 0) (.var 1)) (.le (.var 1) (.var 0)))) (.lt (.lit 1099511627776) (.var 0))) (.not (.and (.le (.lit 0) (.var 2)) (.le (.var 2) (.var 0)))))
  (.ret [(.num (.lit 390))])
  (.lop 0 [(.num (.lit 0))] 77 (.ite (.lt (.var 4) (.len (.var 3)))
  (.ite (.or (.or (.or (.or (.not (.and (.le (.lit 0) (.el (.var 3) (.var 4) 0)) (.le (.el (.var 3) (.var 4) 0) (.el (.var 3) (.var 4) 1)))) (.lt (.lit 1099511627776) (.el (.var 3) (.var 4) 1))) (.not (.and (.le (.lit 0) (.el (.var 3) (.var 4) 2)) (.le (.el (.var 3) (.var 4) 2) (.el (.var 3) (.var 4) 3))))) (.lt (.lit 1099511627776) (.el (.var 3) (.var 4) 3))) (.not (.and (.le (.lit 0) (.el (.var 3) (.var 4) 4)) (.le (.el (.var 3) (.var 4) 4) (.lit 1099511627776)))))
  (.ret [(.num (.lit 390))])
  (.chk 0 4 [(.num (.add (.var 4) (.lit 1)))]))
  (.ret [(.num (.lit 0))]))))) := by kernel_rfl
end Go.Proofs.Ytljggpbkggkcaaa
