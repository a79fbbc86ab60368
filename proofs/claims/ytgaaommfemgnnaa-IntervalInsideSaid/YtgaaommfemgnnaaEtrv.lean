/- DERIVED. What the executor makes of functions. -/
import Derived.Test.YtgaaommfemgnnaaEconi
import Derived.KernelRfl
namespace Go.Proofs.Ytgaaommfemgnnaa
open Go.Dx
set_option linter.unusedVariables false
set_option maxRecDepth 100000
theorem tree_rt : runC tb [lRt] 80 (cRt 44) = (.lop 0 [(.num (.lit 0)), (.num (.lit 1048576))] 22 (.ite (.lt (.lit 0) (.var 2))
  (.ite (.le (.mul (.add (.var 1) (.var 2)) (.add (.var 1) (.var 2))) (.var 0))
  (.ite (.and (.le (.lit 0) (.num (.add (.var 1) (.var 2)))) (.le (.num (.add (.var 1) (.var 2))) (.lit 1048576)))
  (.chk 0 1 [(.num (.add (.var 1) (.var 2))), (.num (.quo (.var 2) (.lit 2)))])
  .fail)
  (.chk 0 1 [(.num (.var 1)), (.num (.quo (.var 2) (.lit 2)))]))
  (.ret [(.num (.var 1))]))) := by kernel_rfl
theorem tree_root : runC tb [cRt 44] 80 (cRoot 23) = (.ite (.or (.or (.lt (.var 0) (.lit (-1099511627776))) (.lt (.var 1) (.var 0))) (.lt (.lit 1099511627776) (.var 1)))
  (.ret [(.num (.lit 0)), (.num (.lit 0)), (.num (.lit 130))])
  (.ite (.lt (.var 0) (.lit 0))
  (.ret [(.num (.lit 0)), (.num (.lit 0)), (.num (.lit 1))])
  (.ite (.and (.le (.lit 0) (.num (.var 0))) (.le (.num (.var 0)) (.lit 1099511627776)))
  (.con 0 [(.num (.var 0))] (.ite (.and (.le (.lit 0) (.num (.var 1))) (.le (.num (.var 1)) (.lit 1099511627776)))
  (.con 0 [(.num (.var 1))] (.ite (.lt (.mul (.var 3) (.var 3)) (.var 1))
  (.ite (.and (.le (.lit 0) (.num (.add (.var 3) (.lit 1)))) (.le (.num (.add (.var 3) (.lit 1))) (.lit 1048576)))
  (.ret [(.num (.var 2)), (.num (.add (.var 3) (.lit 1))), (.num (.lit 0))])
  .fail)
  (.ret [(.num (.var 2)), (.num (.var 3)), (.num (.lit 0))])))
  .fail))
  .fail))) := by kernel_rfl
theorem tree_prod : runC tb [cMul64 56, cDiv64 58] 80 (cProd 42) = (.con 0 [(.num (.wrap .u64 (.max (.var 0) (.sub (.lit 0) (.var 0))))), (.num (.wrap .u64 (.max (.var 1) (.sub (.lit 0) (.var 1)))))] (.ite (.le (.lit 1) (.var 2))
  (.ite (.not (.or (.and (.lt (.var 0) (.lit 0)) (.lt (.var 1) (.lit 0))) (.and (.le (.lit 0) (.var 0)) (.le (.lit 0) (.var 1)))))
  (.ret [(.num (.lit (-2199023255552)))])
  (.ret [(.num (.lit 2199023255552))]))
  (.con 1 [(.num (.var 2)), (.num (.var 3)), (.num (.lit 1))] (.ite (.lt (.lit 2199023255552) (.var 4))
  (.ite (.not (.or (.and (.lt (.var 0) (.lit 0)) (.lt (.var 1) (.lit 0))) (.and (.le (.lit 0) (.var 0)) (.le (.lit 0) (.var 1)))))
  (.ret [(.num (.lit (-2199023255552)))])
  (.ret [(.num (.lit 2199023255552))]))
  (.ite (.not (.or (.and (.lt (.var 0) (.lit 0)) (.lt (.var 1) (.lit 0))) (.and (.le (.lit 0) (.var 0)) (.le (.lit 0) (.var 1)))))
  (.ret [(.num (.sub (.lit 0) (.var 4)))])
  (.ret [(.num (.var 4))])))))) := by kernel_rfl
theorem tree_sqr : runC tb [cProd 42] 80 (cSqr 21) = (.ite (.or (.or (.lt (.var 0) (.lit (-1099511627776))) (.lt (.var 1) (.var 0))) (.lt (.lit 1099511627776) (.var 1)))
  (.ret [(.num (.lit 0)), (.num (.lit 0)), (.num (.lit 130))])
  (.ite (.and (.le (.lit (-1099511627776)) (.num (.var 0))) (.le (.num (.var 0)) (.lit 1099511627776)))
  (.ite (.and (.le (.lit (-1099511627776)) (.num (.var 0))) (.le (.num (.var 0)) (.lit 1099511627776)))
  (.con 0 [(.num (.var 0)), (.num (.var 0))] (.con 0 [(.num (.var 1)), (.num (.var 1))] (.ite (.and (.le (.var 0) (.lit 0)) (.le (.lit 0) (.var 1)))
  (.ite (.or (.lt (.max (.var 2) (.var 3)) (.lit 0)) (.lt (.lit 1099511627776) (.max (.var 2) (.var 3))))
  (.ret [(.num (.lit 0)), (.num (.lit 0)), (.num (.lit 2))])
  (.ite (.and (.le (.lit (-1099511627776)) (.num (.max (.var 2) (.var 3)))) (.le (.num (.max (.var 2) (.var 3))) (.lit 1099511627776)))
  (.ret [(.num (.lit 0)), (.num (.max (.var 2) (.var 3))), (.num (.lit 0))])
  .fail))
  (.ite (.or (.or (.lt (.min (.var 2) (.var 3)) (.lit (-1099511627776))) (.lt (.max (.var 2) (.var 3)) (.min (.var 2) (.var 3)))) (.lt (.lit 1099511627776) (.max (.var 2) (.var 3))))
  (.ret [(.num (.lit 0)), (.num (.lit 0)), (.num (.lit 2))])
  (.ite (.and (.le (.lit (-1099511627776)) (.num (.min (.var 2) (.var 3)))) (.le (.num (.min (.var 2) (.var 3))) (.lit 1099511627776)))
  (.ite (.and (.le (.lit (-1099511627776)) (.num (.max (.var 2) (.var 3)))) (.le (.num (.max (.var 2) (.var 3))) (.lit 1099511627776)))
  (.ret [(.num (.min (.var 2) (.var 3))), (.num (.max (.var 2) (.var 3))), (.num (.lit 0))])
  .fail)
  .fail)))))
  .fail)
  .fail)) := by kernel_rfl
end Go.Proofs.Ytgaaommfemgnnaa
