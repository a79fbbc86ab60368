/- DERIVED. What the executor makes of functions. -/
import Derived.Test.YtcjdheaaddaagaaDcon
import Derived.KernelRfl
namespace Go.Proofs.Ytcjdheaaddaagaa
open Go.Dx
set_option linter.unusedVariables false
set_option maxRecDepth 100000
theorem tree_est : runC tb [lEst] 60 cEst = (.lop 0 [(.num (.lit 0)), (.num (.lit 0))] 33 (.ite (.lt (.var 3) (.len (.var 0)))
  (.ite (.or (.lt (.el (.var 0) (.var 3) 0) (.lit 0)) (.lt (.lit 1073741824) (.el (.var 0) (.var 3) 0)))
  (.ret [(.num (.lit 0)), (.lit 0)])
  (.chk 0 2 [(.num (.wrap .i64 (.add (.var 2) (.el (.var 0) (.var 3) 0)))), (.num (.add (.var 3) (.lit 1)))]))
  (.ite (.le (.len (.var 0)) (.lit 60))
  (.ret [(.num (.wrap .i64 (.mul (.var 1) (.quo (.sub (.var 2) (.rem (.add (.rem (.var 2) (.lit 65536)) (.lit 65536)) (.lit 65536))) (.lit 65536))))), (.lit 1)])
  (.ret [(.num (.wrap .i64 (.mul (.var 1) (.quo (.sub (.var 2) (.rem (.add (.rem (.var 2) (.lit 65536)) (.lit 65536)) (.lit 65536))) (.lit 65536))))), (.lit 0)])))) := by kernel_rfl
theorem tree_near : runC tb [lNear, cEst] 60 cNear = (.con 1 [(.var 0), (.num (.var 1))] (.lop 0 [(.num (.lit 0)), (.num (.lit 0))] 37 (.ite (.lt (.var 6) (.len (.var 0)))
  (.chk 0 5 [(.num (.wrap .i64 (.add (.var 5) (.max (.lit 0) (.min (.el (.var 0) (.var 6) 0) (.lit 1073741824)))))), (.num (.add (.var 6) (.lit 1)))])
  (.ret [(.num (.max (.lit 0) (.min (.var 5) (.wrap .i64 (.add (.var 3) (.var 2)))))), (.num (.var 4))])))) := by kernel_rfl
end Go.Proofs.Ytcjdheaaddaagaa
