/- DERIVED. What the executor makes of functions. -/
import Derived.Test.YtdffnmhpkapbkaaDoorEcond
import Derived.KernelRfl
namespace Go.Proofs.YtdffnmhpkapbkaaDoor
open Go.Dx
set_option linter.unusedVariables false
set_option maxRecDepth 100000
theorem tree_edg : runC tb [lEdg] 100 (cEdg 49) = (.dat (.rows 1) [] (.lop 0 [(.var 1), (.num (.lit 0))] 22 (.ite (.lt (.var 3) (.len (.var 0)))
  (.ite (.le (.add (.len (.var 2)) (.lit 2)) (.lit 15637498706147))
  (.dat (.rows 1) [(.num (.el (.var 0) (.var 3) 0)), (.num (.wrap .i64 (.add (.el (.var 0) (.var 3) 1) (.lit 1))))] (.dat .cat [(.var 2), (.var 26)] (.chk 0 2 [(.var 27), (.num (.add (.var 3) (.lit 1)))])))
  .fail)
  (.ret [(.var 2)])))) := by kernel_rfl
theorem tree_put : runC tb [lPut] 100 (cPut 51) = (.dat (.rows 1) [] (.lop 0 [(.var 2), (.num (.lit 0))] 51 (.ite (.and (.lt (.var 4) (.len (.var 0))) (.lt (.el (.var 0) (.var 4) 0) (.var 1)))
  (.ite (.le (.add (.len (.var 3)) (.lit 1)) (.lit 15637498706147))
  (.dat (.rows 1) [(.num (.el (.var 0) (.var 4) 0))] (.dat .cat [(.var 3), (.var 56)] (.chk 0 3 [(.var 57), (.num (.add (.var 4) (.lit 1)))])))
  .fail)
  (.ite (.le (.add (.len (.var 3)) (.lit 1)) (.lit 15637498706147))
  (.dat (.rows 1) [(.num (.var 1))] (.dat .cat [(.var 3), (.var 56)] (.ite (.and (.lt (.var 4) (.len (.var 0))) (.eq (.el (.var 0) (.var 4) 0) (.var 1)))
  (.ite (.le (.add (.var 4) (.lit 1)) (.len (.var 0)))
  (.dat .sub [(.var 0), (.num (.add (.var 4) (.lit 1))), (.num (.len (.var 0)))] (.ite (.le (.add (.add (.len (.var 3)) (.lit 1)) (.sub (.len (.var 0)) (.add (.var 4) (.lit 1)))) (.lit 15637498706147))
  (.dat .cat [(.var 57), (.var 58)] (.ret [(.var 59)]))
  .fail))
  .fail)
  (.ite (.le (.var 4) (.len (.var 0)))
  (.dat .sub [(.var 0), (.num (.var 4)), (.num (.len (.var 0)))] (.ite (.le (.add (.add (.len (.var 3)) (.lit 1)) (.sub (.len (.var 0)) (.var 4))) (.lit 15637498706147))
  (.dat .cat [(.var 57), (.var 58)] (.ret [(.var 59)]))
  .fail))
  .fail))))
  .fail)))) := by kernel_rfl
theorem tree_ends : runC tb [cPut 51, lEnds] 100 (cEnds 46) = (.lop 1 [(.var 0), (.num (.lit 0))] 27 (.ite (.lt (.var 3) (.len (.var 1)))
  (.con 0 [(.var 2), (.num (.el (.var 1) (.var 3) 0))] (.con 0 [(.var 31), (.num (.wrap .i64 (.add (.el (.var 1) (.var 3) 1) (.lit 1))))] (.chk 1 2 [(.var 32), (.num (.add (.var 3) (.lit 1)))])))
  (.ret [(.var 2)]))) := by kernel_rfl
theorem tree_has : runC tb [lHas 2 28 5] 100 (cHas 52) = (.lop 0 [(.num (.lit 0))] 28 (.ite (.lt (.var 2) (.len (.var 0)))
  (.ite (.and (.le (.el (.var 0) (.var 2) 0) (.var 1)) (.le (.var 1) (.el (.var 0) (.var 2) 1)))
  (.ret [(.lit 1)])
  (.chk 0 2 [(.num (.add (.var 2) (.lit 1)))]))
  (.ret [(.lit 0)]))) := by kernel_rfl
theorem tree_lhas : runC tb [lHas 2 24 9] 100 (cHas 31) = (.lop 0 [(.num (.lit 0))] 24 (.ite (.lt (.var 2) (.len (.var 0)))
  (.ite (.and (.le (.el (.var 0) (.var 2) 0) (.var 1)) (.le (.var 1) (.el (.var 0) (.var 2) 1)))
  (.ret [(.lit 1)])
  (.chk 0 2 [(.num (.add (.var 2) (.lit 1)))]))
  (.ret [(.lit 0)]))) := by kernel_rfl
theorem tree_in : runC tb [cHas 52] 100 (cIn 47) = (.ite (.eq (.var 2) (.lit 1))
  (.con 0 [(.var 0), (.num (.var 3))] (.ite (.eq (.var 4) (.lit 0))
  (.con 0 [(.var 1), (.num (.var 3))] (.ret [(.num (.var 5))]))
  (.ret [(.lit 1)])))
  (.ite (.eq (.var 2) (.lit 2))
  (.con 0 [(.var 0), (.num (.var 3))] (.ite (.not (.eq (.var 4) (.lit 0)))
  (.con 0 [(.var 1), (.num (.var 3))] (.ret [(.num (.var 5))]))
  (.ret [(.lit 0)])))
  (.con 0 [(.var 0), (.num (.var 3))] (.ite (.not (.eq (.var 4) (.lit 0)))
  (.con 0 [(.var 1), (.num (.var 3))] (.ite (.eq (.var 5) (.lit 0))
  (.ret [(.lit 1)])
  (.ret [(.lit 0)])))
  (.ret [(.lit 0)]))))) := by kernel_rfl
theorem tree_sam : runC tb [lSam] 100 (cSam 29) = (.ite (.not (.eq (.len (.var 0)) (.len (.var 1))))
  (.ret [(.lit 0)])
  (.lop 0 [(.num (.lit 0))] 26 (.ite (.lt (.var 2) (.len (.var 0)))
  (.ite (.and (.le (.lit 0) (.var 2)) (.lt (.var 2) (.len (.var 1))))
  (.ite (.not (.and (.eq (.el (.var 0) (.var 2) 0) (.el (.var 1) (.var 2) 0)) (.eq (.el (.var 0) (.var 2) 1) (.el (.var 1) (.var 2) 1))))
  (.ret [(.lit 0)])
  (.chk 0 2 [(.num (.add (.var 2) (.lit 1)))]))
  .fail)
  (.ret [(.lit 1)])))) := by kernel_rfl
end Go.Proofs.YtdffnmhpkapbkaaDoor
