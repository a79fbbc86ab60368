/- DERIVED. What the executor makes of functions. -/
import Derived.Test.YtmphcgafegmheaaDcon
import Derived.KernelRfl
namespace Go.Proofs.Ytmphcgafegmheaa
open Go.Dx
set_option linter.unusedVariables false
set_option maxRecDepth 100000
theorem tree_val : runC tb [] 120 (cVal 28) = (.ite (.and (.and (.and (.and (.le (.lit 0) (.var 0)) (.lt (.var 0) (.lit 24))) (.and (.le (.lit 0) (.var 1)) (.lt (.var 1) (.lit 24)))) (.not (.eq (.var 0) (.var 1)))) (.le (.len (.var 2)) (.lit 1048576)))
  (.ret [(.lit 1)])
  (.ret [(.lit 0)])) := by kernel_rfl
theorem tree_valR : runC tb [] 120 (cVal 30) = (.ite (.and (.and (.and (.and (.le (.lit 0) (.var 0)) (.lt (.var 0) (.lit 24))) (.and (.le (.lit 0) (.var 1)) (.lt (.var 1) (.lit 24)))) (.not (.eq (.var 0) (.var 1)))) (.le (.len (.var 2)) (.lit 1048576)))
  (.ret [(.lit 1)])
  (.ret [(.lit 0)])) := by kernel_rfl
theorem tree_pair : runC tb [] 120 (cPair 31) = (.ite (.and (.and (.and (.le (.lit 0) (.var 0)) (.lt (.var 0) (.lit 24))) (.and (.le (.lit 0) (.var 1)) (.lt (.var 1) (.lit 24)))) (.lt (.var 0) (.var 1)))
  (.ret [(.lit 1)])
  (.ret [(.lit 0)])) := by kernel_rfl
theorem tree_less : runC tb [] 120 (cLess 32) = (.ite (.or (.lt (.var 0) (.var 2)) (.and (.eq (.var 0) (.var 2)) (.lt (.var 1) (.var 3))))
  (.ret [(.lit 1)])
  (.ret [(.lit 0)])) := by kernel_rfl
theorem tree_site : runC tb [] 120 (cSite 33) = (.ite (.and (.le (.lit 0) (.var 0)) (.lt (.var 0) (.lit 24)))
  (.ret [(.lit 1)])
  (.ret [(.lit 0)])) := by kernel_rfl
theorem tree_chk : runC tb [lChk, lChk2, cVal 28, cPair 31, cLess 32] 120 (cChk 13) = (.ite (.lt (.lit 4096) (.len (.var 0)))
  (.ret [(.num (.lit 60))])
  (.lop 0 [(.num (.lit 0))] 49 (.ite (.lt (.var 2) (.len (.var 0)))
  (.dat .sub [(.el (.var 0) (.var 2) 2), (.num (.lit 0)), (.num (.len (.el (.var 0) (.var 2) 2)))] (.con 2 [(.num (.el (.var 0) (.var 2) 0)), (.num (.el (.var 0) (.var 2) 1)), (.var 52)] (.ite (.eq (.var 53) (.lit 0))
  (.ret [(.num (.lit 60))])
  (.chk 0 2 [(.num (.add (.var 2) (.lit 1)))]))))
  (.lop 1 [(.num (.lit 0))] 49 (.ite (.lt (.var 52) (.len (.var 1)))
  (.con 3 [(.num (.el (.var 1) (.var 52) 0)), (.num (.el (.var 1) (.var 52) 1))] (.ite (.and (.not (.eq (.var 102) (.lit 0))) (.lt (.lit 0) (.var 52)))
  (.ite (.and (.le (.lit 0) (.sub (.var 52) (.lit 1))) (.lt (.sub (.var 52) (.lit 1)) (.len (.var 1))))
  (.ite (.lt (.lit 0) (.var 52))
  (.con 4 [(.num (.el (.var 1) (.sub (.var 52) (.lit 1)) 0)), (.num (.el (.var 1) (.sub (.var 52) (.lit 1)) 1)), (.num (.el (.var 1) (.var 52) 0)), (.num (.el (.var 1) (.var 52) 1))] (.ite (.eq (.var 103) (.lit 0))
  (.ret [(.num (.lit 60))])
  (.chk 1 52 [(.num (.add (.var 52) (.lit 1)))])))
  (.chk 1 52 [(.num (.add (.var 52) (.lit 1)))]))
  .fail)
  (.ite (.and (.not (.eq (.var 102) (.lit 0))) (.lt (.lit 0) (.var 52)))
  .fail
  (.ite (.and (.not (.eq (.var 102) (.lit 0))) (.lt (.lit 0) (.var 52)))
  .fail
  (.ite (.and (.not (.eq (.var 102) (.lit 0))) (.lt (.lit 0) (.var 52)))
  .fail
  (.ite (.not (.eq (.var 102) (.lit 0)))
  (.ite (.lt (.lit 0) (.var 52))
  .fail
  (.chk 1 52 [(.num (.add (.var 52) (.lit 1)))]))
  (.ret [(.num (.lit 60))])))))))
  (.ret [(.num (.lit 0))])))))) := by kernel_rfl
theorem tree_chkR : runC tb [lChkR, lChkR2, cVal 30] 120 (cChk 14) = (.ite (.lt (.lit 4096) (.len (.var 0)))
  (.ret [(.num (.lit 60))])
  (.lop 0 [(.num (.lit 0))] 91 (.ite (.lt (.var 2) (.len (.var 0)))
  (.dat .sub [(.el (.var 0) (.var 2) 2), (.num (.lit 0)), (.num (.len (.el (.var 0) (.var 2) 2)))] (.con 2 [(.num (.el (.var 0) (.var 2) 0)), (.num (.el (.var 0) (.var 2) 1)), (.var 94)] (.ite (.eq (.var 95) (.lit 0))
  (.ret [(.num (.lit 60))])
  (.chk 0 2 [(.num (.add (.var 2) (.lit 1)))]))))
  (.lop 1 [(.num (.lit 0))] 91 (.ite (.lt (.var 94) (.len (.var 1)))
  (.ite (.or (.or (.not (.and (.le (.lit 0) (.el (.var 1) (.var 94) 0)) (.lt (.el (.var 1) (.var 94) 0) (.lit 24)))) (.not (.and (.le (.lit 0) (.el (.var 1) (.var 94) 1)) (.lt (.el (.var 1) (.var 94) 1) (.lit 24))))) (.le (.el (.var 1) (.var 94) 1) (.el (.var 1) (.var 94) 0)))
  (.ret [(.num (.lit 60))])
  (.ite (.lt (.lit 0) (.var 94))
  (.ite (.and (.le (.lit 0) (.sub (.var 94) (.lit 1))) (.lt (.sub (.var 94) (.lit 1)) (.len (.var 1))))
  (.ite (.or (.lt (.el (.var 1) (.var 94) 0) (.el (.var 1) (.sub (.var 94) (.lit 1)) 0)) (.and (.eq (.el (.var 1) (.var 94) 0) (.el (.var 1) (.sub (.var 94) (.lit 1)) 0)) (.le (.el (.var 1) (.var 94) 1) (.el (.var 1) (.sub (.var 94) (.lit 1)) 1))))
  (.ret [(.num (.lit 60))])
  (.chk 1 94 [(.num (.add (.var 94) (.lit 1)))]))
  .fail)
  (.chk 1 94 [(.num (.add (.var 94) (.lit 1)))])))
  (.ret [(.num (.lit 0))])))))) := by kernel_rfl
theorem tree_sameP : runC tb [] 120 (cSameP 22) = (.ite (.and (.eq (.var 0) (.var 3)) (.eq (.var 1) (.var 4)))
  (.dat .bstr [(.var 2)] (.dat .bstr [(.var 5)] (.ite (.seq (.var 6) (.var 7))
  (.ret [(.lit 1)])
  (.ret [(.lit 0)]))))
  (.ret [(.lit 0)])) := by kernel_rfl
theorem tree_same : runC tb [lSame, lSame2, cSameP 22] 120 (cSame 15) = (.ite (.or (.not (.eq (.len (.var 0)) (.len (.var 2)))) (.not (.eq (.len (.var 1)) (.len (.var 3)))))
  (.ret [(.lit 0)])
  (.lop 0 [(.num (.lit 0))] 60 (.ite (.lt (.var 4) (.len (.var 0)))
  (.ite (.and (.le (.lit 0) (.var 4)) (.lt (.var 4) (.len (.var 2))))
  (.dat .sub [(.el (.var 0) (.var 4) 2), (.num (.lit 0)), (.num (.len (.el (.var 0) (.var 4) 2)))] (.dat .sub [(.el (.var 2) (.var 4) 2), (.num (.lit 0)), (.num (.len (.el (.var 2) (.var 4) 2)))] (.con 2 [(.num (.el (.var 0) (.var 4) 0)), (.num (.el (.var 0) (.var 4) 1)), (.var 65), (.num (.el (.var 2) (.var 4) 0)), (.num (.el (.var 2) (.var 4) 1)), (.var 66)] (.ite (.eq (.var 67) (.lit 0))
  (.ret [(.lit 0)])
  (.chk 0 4 [(.num (.add (.var 4) (.lit 1)))])))))
  .fail)
  (.lop 1 [(.num (.lit 0))] 60 (.ite (.lt (.var 65) (.len (.var 1)))
  (.ite (.and (.le (.lit 0) (.var 65)) (.lt (.var 65) (.len (.var 3))))
  (.ite (.not (.and (.eq (.el (.var 1) (.var 65) 0) (.el (.var 3) (.var 65) 0)) (.eq (.el (.var 1) (.var 65) 1) (.el (.var 3) (.var 65) 1))))
  (.ret [(.lit 0)])
  (.chk 1 65 [(.num (.add (.var 65) (.lit 1)))]))
  .fail)
  (.ret [(.lit 1)])))))) := by kernel_rfl
theorem tree_isC : runC tb [lIsC] 120 (cIsC 38) = (.lop 0 [(.num (.lit 0))] 18 (.ite (.lt (.var 4) (.len (.var 1)))
  (.ite (.and (.eq (.el (.var 1) (.var 4) 0) (.var 2)) (.eq (.el (.var 1) (.var 4) 1) (.var 3)))
  (.ret [(.lit 1)])
  (.chk 0 4 [(.num (.add (.var 4) (.lit 1)))]))
  (.ret [(.lit 0)]))) := by kernel_rfl
theorem tree_isR : runC tb [lIsR] 120 (cIsR 36) = (.lop 0 [(.num (.lit 0))] 37 (.ite (.lt (.var 4) (.len (.var 1)))
  (.ite (.and (.eq (.el (.var 1) (.var 4) 0) (.min (.var 2) (.var 3))) (.eq (.el (.var 1) (.var 4) 1) (.max (.var 2) (.var 3))))
  (.ret [(.lit 1)])
  (.chk 0 4 [(.num (.add (.var 4) (.lit 1)))]))
  (.ret [(.lit 0)]))) := by kernel_rfl
theorem tree_few : runC tb [] 120 (cFew 10) = (.ite (.and (.le (.len (.var 0)) (.lit 40)) (.le (.len (.var 1)) (.lit 40)))
  (.ret [(.lit 1)])
  (.ret [(.lit 0)])) := by kernel_rfl
end Go.Proofs.Ytmphcgafegmheaa
