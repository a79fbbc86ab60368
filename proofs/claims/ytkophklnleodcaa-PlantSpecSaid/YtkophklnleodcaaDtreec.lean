/- DERIVED. What the executor makes of functions. -/
import Derived.Test.YtkophklnleodcaaDcon
import Derived.KernelRfl
namespace Go.Proofs.Ytkophklnleodcaa
open Go.Dx
set_option linter.unusedVariables false
set_option maxRecDepth 100000
theorem tree_runR : runC tb [cHolds, cChkR, lQ0, lQ1] 80 cRunR = (.con 1 [(.var 0)] (.ite (.not (.eq (.var 6) (.lit 0)))
  (.ret [(.num (.lit 0)), (.lit 0), (.num (.var 6))])
  (.lop 2 [(.num (.lit 0))] 60 (.ite (.lt (.var 7) (.len (.var 0)))
  (.lop 3 [(.lit 1), (.num (.lit 0))] 60 (.ite (.lt (.var 69) (.len (.el (.var 0) (.var 7) 0)))
  (.ite (.not (.eq (.var 68) (.lit 0)))
  (.ite (.eq (.el (.el (.var 0) (.var 7) 0) (.var 69) 0) (.lit 0))
  (.con 0 [(.num (.el (.el (.var 0) (.var 7) 0) (.var 69) 0)), (.num (.el (.el (.var 0) (.var 7) 0) (.var 69) 1)), (.num (.el (.el (.var 0) (.var 7) 0) (.var 69) 2)), (.num (.var 1))] (.chk 3 68 [(.num (.var 130)), (.num (.add (.var 69) (.lit 1)))]))
  (.ite (.eq (.el (.el (.var 0) (.var 7) 0) (.var 69) 0) (.lit 1))
  (.con 0 [(.num (.el (.el (.var 0) (.var 7) 0) (.var 69) 0)), (.num (.el (.el (.var 0) (.var 7) 0) (.var 69) 1)), (.num (.el (.el (.var 0) (.var 7) 0) (.var 69) 2)), (.num (.var 2))] (.chk 3 68 [(.num (.var 130)), (.num (.add (.var 69) (.lit 1)))]))
  (.ite (.eq (.el (.el (.var 0) (.var 7) 0) (.var 69) 0) (.lit 2))
  (.con 0 [(.num (.el (.el (.var 0) (.var 7) 0) (.var 69) 0)), (.num (.el (.el (.var 0) (.var 7) 0) (.var 69) 1)), (.num (.el (.el (.var 0) (.var 7) 0) (.var 69) 2)), (.num (.var 3))] (.chk 3 68 [(.num (.var 130)), (.num (.add (.var 69) (.lit 1)))]))
  (.ite (.eq (.el (.el (.var 0) (.var 7) 0) (.var 69) 0) (.lit 3))
  (.con 0 [(.num (.el (.el (.var 0) (.var 7) 0) (.var 69) 0)), (.num (.el (.el (.var 0) (.var 7) 0) (.var 69) 1)), (.num (.el (.el (.var 0) (.var 7) 0) (.var 69) 2)), (.num (.var 4))] (.chk 3 68 [(.num (.var 130)), (.num (.add (.var 69) (.lit 1)))]))
  (.ite (.eq (.el (.el (.var 0) (.var 7) 0) (.var 69) 0) (.lit 4))
  (.con 0 [(.num (.el (.el (.var 0) (.var 7) 0) (.var 69) 0)), (.num (.el (.el (.var 0) (.var 7) 0) (.var 69) 1)), (.num (.el (.el (.var 0) (.var 7) 0) (.var 69) 2)), (.num (.var 5))] (.chk 3 68 [(.num (.var 130)), (.num (.add (.var 69) (.lit 1)))]))
  .fail)))))
  (.chk 3 68 [(.lit 0), (.num (.add (.var 69) (.lit 1)))]))
  (.ite (.not (.eq (.var 68) (.lit 0)))
  (.ite (.and (.le (.lit 0) (.num (.el (.var 0) (.var 7) 1))) (.le (.num (.el (.var 0) (.var 7) 1)) (.lit 1099511627776)))
  (.ret [(.num (.el (.var 0) (.var 7) 1)), (.lit 1), (.num (.lit 0))])
  .fail)
  (.chk 2 7 [(.num (.add (.var 7) (.lit 1)))]))))
  (.ret [(.num (.lit 0)), (.lit 0), (.num (.lit 0))]))))) := by kernel_rfl
end Go.Proofs.Ytkophklnleodcaa
