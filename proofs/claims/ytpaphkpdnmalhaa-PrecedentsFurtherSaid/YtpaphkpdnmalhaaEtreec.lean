/- DERIVED. What the executor makes of functions. -/
import Derived.Test.YtpaphkpdnmalhaaEconb
import Derived.KernelRfl
namespace Go.Proofs.Ytpaphkpdnmalhaa
open Go.Dx
set_option linter.unusedVariables false
set_option maxRecDepth 100000
theorem tree_same : runC tb [lSame] 120 (cSame 21) = (.ite (.not (.eq (.len (.var 0)) (.len (.var 1))))
  (.ret [(.lit 0)])
  (.lop 0 [(.num (.lit 0))] 26 (.ite (.lt (.var 2) (.len (.var 0)))
  (.ite (.and (.le (.lit 0) (.var 2)) (.lt (.var 2) (.len (.var 1))))
  (.ite (.not (.eq (.el (.var 0) (.var 2) 0) (.el (.var 1) (.var 2) 0)))
  (.ret [(.lit 0)])
  (.chk 0 2 [(.num (.add (.var 2) (.lit 1)))]))
  .fail)
  (.ret [(.lit 1)])))) := by kernel_rfl
theorem tree_favR : runC tb [lFavR] 120 (cFavR 23) = (.dat (.rows 1) [] (.lop 0 [(.var 4), (.num (.lit 0))] 34 (.ite (.lt (.var 6) (.len (.var 2)))
  (.ite (.and (.le (.lit 0) (.el (.var 2) (.var 6) 0)) (.lt (.el (.var 2) (.var 6) 0) (.len (.var 0))))
  (.ite (.eq (.el (.var 0) (.el (.var 2) (.var 6) 0) 0) (.var 3))
  (.ite (.le (.add (.len (.var 5)) (.lit 1)) (.lit 15637498706147))
  (.dat (.rows 1) [(.num (.el (.var 2) (.var 6) 0))] (.dat .cat [(.var 5), (.var 41)] (.chk 0 5 [(.var 42), (.num (.add (.var 6) (.lit 1)))])))
  .fail)
  (.chk 0 5 [(.var 5), (.num (.add (.var 6) (.lit 1)))]))
  .fail)
  (.ret [(.var 5)])))) := by kernel_rfl
theorem tree_right : runC tb [cChk 14, cSetR 32, lFew 3] 200 (cRight 22) = (.ite (.or (.lt (.lit 100) (.len (.var 1))) (.lt (.lit 100) (.len (.var 0))))
  (.ret [(.lit 0)])
  (.lop 2 [(.num (.lit 0))] 39 (.ite (.lt (.var 3) (.len (.var 1)))
  (.ite (.or (.lt (.lit 60) (.len (.el (.var 1) (.var 3) 3))) (.lt (.lit 60) (.len (.el (.var 1) (.var 3) 4))))
  (.ret [(.lit 0)])
  (.chk 2 3 [(.num (.add (.var 3) (.lit 1)))]))
  (.con 0 [(.var 0), (.var 1)] (.ite (.and (.eq (.var 43) (.lit 0)) (.le (.len (.var 2)) (.lit 60)))
  (.con 1 [(.var 0), (.var 1), (.var 2)] (.ret [(.num (.var 44))]))
  (.ret [(.lit 0)])))))) := by kernel_rfl
end Go.Proofs.Ytpaphkpdnmalhaa
