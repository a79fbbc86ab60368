/- DERIVED. What the executor makes of functions. -/
import Derived.Test.YtkophklnleodcaaDcon
import Derived.KernelRfl
namespace Go.Proofs.Ytkophklnleodcaa
open Go.Dx
set_option linter.unusedVariables false
set_option maxRecDepth 100000
theorem tree_few : runC tb [lFew] 80 cFew = (.ite (.lt (.lit 100) (.len (.var 0)))
  (.ret [(.lit 0)])
  (.lop 0 [(.num (.lit 0))] 23 (.ite (.lt (.var 1) (.len (.var 0)))
  (.ite (.lt (.lit 20) (.len (.el (.var 0) (.var 1) 0)))
  (.ret [(.lit 0)])
  (.chk 0 1 [(.num (.add (.var 1) (.lit 1)))]))
  (.ret [(.lit 1)])))) := by kernel_rfl
theorem tree_chk : runC tb [lC0, lC1] 80 cChk = (.ite (.lt (.lit 64) (.len (.var 0)))
  (.ret [(.num (.lit 310))])
  (.lop 0 [(.num (.lit 0))] 61 (.ite (.lt (.var 1) (.len (.var 0)))
  (.ite (.or (.lt (.lit 4) (.len (.el (.var 0) (.var 1) 0))) (.not (.and (.le (.lit 0) (.el (.var 0) (.var 1) 1)) (.le (.el (.var 0) (.var 1) 1) (.lit 1099511627776)))))
  (.ret [(.num (.lit 310))])
  (.lop 1 [(.num (.lit 0))] 61 (.ite (.lt (.var 63) (.len (.el (.var 0) (.var 1) 0)))
  (.ite (.or (.or (.or (.or (.lt (.el (.el (.var 0) (.var 1) 0) (.var 63) 0) (.lit 0)) (.lt (.lit 4) (.el (.el (.var 0) (.var 1) 0) (.var 63) 0))) (.lt (.el (.el (.var 0) (.var 1) 0) (.var 63) 1) (.lit 1))) (.lt (.lit 5) (.el (.el (.var 0) (.var 1) 0) (.var 63) 1))) (.not (.and (.le (.lit 0) (.el (.el (.var 0) (.var 1) 0) (.var 63) 2)) (.le (.el (.el (.var 0) (.var 1) 0) (.var 63) 2) (.lit 1099511627776)))))
  (.ret [(.num (.lit 310))])
  (.chk 1 63 [(.num (.add (.var 63) (.lit 1)))]))
  (.chk 0 1 [(.num (.add (.var 1) (.lit 1)))]))))
  (.ret [(.num (.lit 0))])))) := by kernel_rfl
theorem tree_chkR : runC tb [lD0, lD1] 80 cChkR = (.ite (.lt (.lit 64) (.len (.var 0)))
  (.ret [(.num (.lit 310))])
  (.lop 0 [(.num (.lit 0))] 69 (.ite (.lt (.var 1) (.len (.var 0)))
  (.ite (.or (.lt (.lit 4) (.len (.el (.var 0) (.var 1) 0))) (.not (.and (.le (.lit 0) (.el (.var 0) (.var 1) 1)) (.le (.el (.var 0) (.var 1) 1) (.lit 1099511627776)))))
  (.ret [(.num (.lit 310))])
  (.lop 1 [(.num (.lit 0))] 69 (.ite (.lt (.var 71) (.len (.el (.var 0) (.var 1) 0)))
  (.ite (.or (.or (.or (.or (.lt (.el (.el (.var 0) (.var 1) 0) (.var 71) 0) (.lit 0)) (.lt (.lit 4) (.el (.el (.var 0) (.var 1) 0) (.var 71) 0))) (.lt (.el (.el (.var 0) (.var 1) 0) (.var 71) 1) (.lit 1))) (.lt (.lit 5) (.el (.el (.var 0) (.var 1) 0) (.var 71) 1))) (.not (.and (.le (.lit 0) (.el (.el (.var 0) (.var 1) 0) (.var 71) 2)) (.le (.el (.el (.var 0) (.var 1) 0) (.var 71) 2) (.lit 1099511627776)))))
  (.ret [(.num (.lit 310))])
  (.chk 1 71 [(.num (.add (.var 71) (.lit 1)))]))
  (.chk 0 1 [(.num (.add (.var 1) (.lit 1)))]))))
  (.ret [(.num (.lit 0))])))) := by kernel_rfl
theorem tree_hol : runC tb [] 80 cHolds = (.ite (.eq (.var 1) (.lit 1))
  (.ite (.lt (.var 3) (.var 2))
  (.ret [(.lit 1)])
  (.ret [(.lit 0)]))
  (.ite (.eq (.var 1) (.lit 2))
  (.ite (.le (.var 3) (.var 2))
  (.ret [(.lit 1)])
  (.ret [(.lit 0)]))
  (.ite (.eq (.var 1) (.lit 3))
  (.ite (.eq (.var 3) (.var 2))
  (.ret [(.lit 1)])
  (.ret [(.lit 0)]))
  (.ite (.eq (.var 1) (.lit 4))
  (.ite (.le (.var 2) (.var 3))
  (.ret [(.lit 1)])
  (.ret [(.lit 0)]))
  (.ite (.lt (.var 2) (.var 3))
  (.ret [(.lit 1)])
  (.ret [(.lit 0)])))))) := by kernel_rfl
end Go.Proofs.Ytkophklnleodcaa
