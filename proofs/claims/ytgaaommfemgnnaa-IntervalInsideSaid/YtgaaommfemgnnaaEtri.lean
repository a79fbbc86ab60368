/- DERIVED. What the executor makes of functions. -/
import Derived.Test.YtgaaommfemgnnaaEconi
import Derived.KernelRfl
namespace Go.Proofs.Ytgaaommfemgnnaa
open Go.Dx
set_option linter.unusedVariables false
set_option maxRecDepth 100000
theorem tree_add : runC tb [] 80 (cAdd 13) = (.ite (.or (.or (.lt (.var 0) (.lit (-1099511627776))) (.lt (.var 1) (.var 0))) (.lt (.lit 1099511627776) (.var 1)))
  (.ret [(.num (.lit 0)), (.num (.lit 0)), (.num (.lit 130))])
  (.ite (.or (.or (.lt (.var 2) (.lit (-1099511627776))) (.lt (.var 3) (.var 2))) (.lt (.lit 1099511627776) (.var 3)))
  (.ret [(.num (.lit 0)), (.num (.lit 0)), (.num (.lit 130))])
  (.ite (.or (.or (.lt (.min (.wrap .i64 (.add (.var 0) (.var 2))) (.add (.var 1) (.var 3))) (.lit (-1099511627776))) (.lt (.max (.wrap .i64 (.add (.var 0) (.var 2))) (.add (.var 1) (.var 3))) (.min (.wrap .i64 (.add (.var 0) (.var 2))) (.add (.var 1) (.var 3))))) (.lt (.lit 1099511627776) (.max (.wrap .i64 (.add (.var 0) (.var 2))) (.add (.var 1) (.var 3)))))
  (.ret [(.num (.lit 0)), (.num (.lit 0)), (.num (.lit 2))])
  (.ite (.and (.le (.lit (-1099511627776)) (.num (.min (.wrap .i64 (.add (.var 0) (.var 2))) (.add (.var 1) (.var 3))))) (.le (.num (.min (.wrap .i64 (.add (.var 0) (.var 2))) (.add (.var 1) (.var 3)))) (.lit 1099511627776)))
  (.ite (.and (.le (.lit (-1099511627776)) (.num (.max (.wrap .i64 (.add (.var 0) (.var 2))) (.add (.var 1) (.var 3))))) (.le (.num (.max (.wrap .i64 (.add (.var 0) (.var 2))) (.add (.var 1) (.var 3)))) (.lit 1099511627776)))
  (.ret [(.num (.min (.wrap .i64 (.add (.var 0) (.var 2))) (.add (.var 1) (.var 3)))), (.num (.max (.wrap .i64 (.add (.var 0) (.var 2))) (.add (.var 1) (.var 3)))), (.num (.lit 0))])
  .fail)
  .fail)))) := by kernel_rfl
theorem tree_sub : runC tb [] 80 (cSub 15) = (.ite (.or (.or (.lt (.var 0) (.lit (-1099511627776))) (.lt (.var 1) (.var 0))) (.lt (.lit 1099511627776) (.var 1)))
  (.ret [(.num (.lit 0)), (.num (.lit 0)), (.num (.lit 130))])
  (.ite (.or (.or (.lt (.var 2) (.lit (-1099511627776))) (.lt (.var 3) (.var 2))) (.lt (.lit 1099511627776) (.var 3)))
  (.ret [(.num (.lit 0)), (.num (.lit 0)), (.num (.lit 130))])
  (.ite (.or (.or (.lt (.min (.wrap .i64 (.sub (.var 0) (.var 3))) (.wrap .i64 (.sub (.var 1) (.var 2)))) (.lit (-1099511627776))) (.lt (.max (.wrap .i64 (.sub (.var 0) (.var 3))) (.wrap .i64 (.sub (.var 1) (.var 2)))) (.min (.wrap .i64 (.sub (.var 0) (.var 3))) (.wrap .i64 (.sub (.var 1) (.var 2)))))) (.lt (.lit 1099511627776) (.max (.wrap .i64 (.sub (.var 0) (.var 3))) (.wrap .i64 (.sub (.var 1) (.var 2))))))
  (.ret [(.num (.lit 0)), (.num (.lit 0)), (.num (.lit 2))])
  (.ite (.and (.le (.lit (-1099511627776)) (.num (.min (.wrap .i64 (.sub (.var 0) (.var 3))) (.wrap .i64 (.sub (.var 1) (.var 2)))))) (.le (.num (.min (.wrap .i64 (.sub (.var 0) (.var 3))) (.wrap .i64 (.sub (.var 1) (.var 2))))) (.lit 1099511627776)))
  (.ite (.and (.le (.lit (-1099511627776)) (.num (.max (.wrap .i64 (.sub (.var 0) (.var 3))) (.wrap .i64 (.sub (.var 1) (.var 2)))))) (.le (.num (.max (.wrap .i64 (.sub (.var 0) (.var 3))) (.wrap .i64 (.sub (.var 1) (.var 2))))) (.lit 1099511627776)))
  (.ret [(.num (.min (.wrap .i64 (.sub (.var 0) (.var 3))) (.wrap .i64 (.sub (.var 1) (.var 2))))), (.num (.max (.wrap .i64 (.sub (.var 0) (.var 3))) (.wrap .i64 (.sub (.var 1) (.var 2))))), (.num (.lit 0))])
  .fail)
  .fail)))) := by kernel_rfl
theorem tree_mul : runC tb [cProd 42] 80 (cMul 17) = (.ite (.or (.or (.lt (.var 0) (.lit (-1099511627776))) (.lt (.var 1) (.var 0))) (.lt (.lit 1099511627776) (.var 1)))
  (.ret [(.num (.lit 0)), (.num (.lit 0)), (.num (.lit 130))])
  (.ite (.or (.or (.lt (.var 2) (.lit (-1099511627776))) (.lt (.var 3) (.var 2))) (.lt (.lit 1099511627776) (.var 3)))
  (.ret [(.num (.lit 0)), (.num (.lit 0)), (.num (.lit 130))])
  (.ite (.and (.le (.lit (-1099511627776)) (.num (.var 0))) (.le (.num (.var 0)) (.lit 1099511627776)))
  (.ite (.and (.le (.lit (-1099511627776)) (.num (.var 2))) (.le (.num (.var 2)) (.lit 1099511627776)))
  (.con 0 [(.num (.var 0)), (.num (.var 2))] (.ite (.and (.le (.lit (-1099511627776)) (.num (.var 0))) (.le (.num (.var 0)) (.lit 1099511627776)))
  (.ite (.and (.le (.lit (-1099511627776)) (.num (.var 2))) (.le (.num (.var 2)) (.lit 1099511627776)))
  (.con 0 [(.num (.var 0)), (.num (.var 2))] (.ite (.and (.le (.lit (-1099511627776)) (.num (.var 0))) (.le (.num (.var 0)) (.lit 1099511627776)))
  (.con 0 [(.num (.var 0)), (.num (.var 3))] (.ite (.and (.le (.lit (-1099511627776)) (.num (.var 2))) (.le (.num (.var 2)) (.lit 1099511627776)))
  (.con 0 [(.num (.var 1)), (.num (.var 2))] (.con 0 [(.num (.var 1)), (.num (.var 3))] (.ite (.or (.or (.lt (.min (.min (.var 8) (.min (.min (.var 7) (.min (.min (.var 6) (.min (.min (.var 5) (.var 4)) (.var 4))) (.max (.max (.var 5) (.var 4)) (.var 4)))) (.max (.max (.var 6) (.min (.min (.var 5) (.var 4)) (.var 4))) (.max (.max (.var 5) (.var 4)) (.var 4))))) (.max (.max (.var 7) (.min (.min (.var 6) (.min (.min (.var 5) (.var 4)) (.var 4))) (.max (.max (.var 5) (.var 4)) (.var 4)))) (.max (.max (.var 6) (.min (.min (.var 5) (.var 4)) (.var 4))) (.max (.max (.var 5) (.var 4)) (.var 4))))) (.lit (-1099511627776))) (.lt (.max (.max (.var 8) (.min (.min (.var 7) (.min (.min (.var 6) (.min (.min (.var 5) (.var 4)) (.var 4))) (.max (.max (.var 5) (.var 4)) (.var 4)))) (.max (.max (.var 6) (.min (.min (.var 5) (.var 4)) (.var 4))) (.max (.max (.var 5) (.var 4)) (.var 4))))) (.max (.max (.var 7) (.min (.min (.var 6) (.min (.min (.var 5) (.var 4)) (.var 4))) (.max (.max (.var 5) (.var 4)) (.var 4)))) (.max (.max (.var 6) (.min (.min (.var 5) (.var 4)) (.var 4))) (.max (.max (.var 5) (.var 4)) (.var 4))))) (.min (.min (.var 8) (.min (.min (.var 7) (.min (.min (.var 6) (.min (.min (.var 5) (.var 4)) (.var 4))) (.max (.max (.var 5) (.var 4)) (.var 4)))) (.max (.max (.var 6) (.min (.min (.var 5) (.var 4)) (.var 4))) (.max (.max (.var 5) (.var 4)) (.var 4))))) (.max (.max (.var 7) (.min (.min (.var 6) (.min (.min (.var 5) (.var 4)) (.var 4))) (.max (.max (.var 5) (.var 4)) (.var 4)))) (.max (.max (.var 6) (.min (.min (.var 5) (.var 4)) (.var 4))) (.max (.max (.var 5) (.var 4)) (.var 4))))))) (.lt (.lit 1099511627776) (.max (.max (.var 8) (.min (.min (.var 7) (.min (.min (.var 6) (.min (.min (.var 5) (.var 4)) (.var 4))) (.max (.max (.var 5) (.var 4)) (.var 4)))) (.max (.max (.var 6) (.min (.min (.var 5) (.var 4)) (.var 4))) (.max (.max (.var 5) (.var 4)) (.var 4))))) (.max (.max (.var 7) (.min (.min (.var 6) (.min (.min (.var 5) (.var 4)) (.var 4))) (.max (.max (.var 5) (.var 4)) (.var 4)))) (.max (.max (.var 6) (.min (.min (.var 5) (.var 4)) (.var 4))) (.max (.max (.var 5) (.var 4)) (.var 4)))))))
  (.ret [(.num (.lit 0)), (.num (.lit 0)), (.num (.lit 2))])
  (.ite (.and (.le (.lit (-1099511627776)) (.num (.min (.min (.var 8) (.min (.min (.var 7) (.min (.min (.var 6) (.min (.min (.var 5) (.var 4)) (.var 4))) (.max (.max (.var 5) (.var 4)) (.var 4)))) (.max (.max (.var 6) (.min (.min (.var 5) (.var 4)) (.var 4))) (.max (.max (.var 5) (.var 4)) (.var 4))))) (.max (.max (.var 7) (.min (.min (.var 6) (.min (.min (.var 5) (.var 4)) (.var 4))) (.max (.max (.var 5) (.var 4)) (.var 4)))) (.max (.max (.var 6) (.min (.min (.var 5) (.var 4)) (.var 4))) (.max (.max (.var 5) (.var 4)) (.var 4))))))) (.le (.num (.min (.min (.var 8) (.min (.min (.var 7) (.min (.min (.var 6) (.min (.min (.var 5) (.var 4)) (.var 4))) (.max (.max (.var 5) (.var 4)) (.var 4)))) (.max (.max (.var 6) (.min (.min (.var 5) (.var 4)) (.var 4))) (.max (.max (.var 5) (.var 4)) (.var 4))))) (.max (.max (.var 7) (.min (.min (.var 6) (.min (.min (.var 5) (.var 4)) (.var 4))) (.max (.max (.var 5) (.var 4)) (.var 4)))) (.max (.max (.var 6) (.min (.min (.var 5) (.var 4)) (.var 4))) (.max (.max (.var 5) (.var 4)) (.var 4)))))) (.lit 1099511627776)))
  (.ite (.and (.le (.lit (-1099511627776)) (.num (.max (.max (.var 8) (.min (.min (.var 7) (.min (.min (.var 6) (.min (.min (.var 5) (.var 4)) (.var 4))) (.max (.max (.var 5) (.var 4)) (.var 4)))) (.max (.max (.var 6) (.min (.min (.var 5) (.var 4)) (.var 4))) (.max (.max (.var 5) (.var 4)) (.var 4))))) (.max (.max (.var 7) (.min (.min (.var 6) (.min (.min (.var 5) (.var 4)) (.var 4))) (.max (.max (.var 5) (.var 4)) (.var 4)))) (.max (.max (.var 6) (.min (.min (.var 5) (.var 4)) (.var 4))) (.max (.max (.var 5) (.var 4)) (.var 4))))))) (.le (.num (.max (.max (.var 8) (.min (.min (.var 7) (.min (.min (.var 6) (.min (.min (.var 5) (.var 4)) (.var 4))) (.max (.max (.var 5) (.var 4)) (.var 4)))) (.max (.max (.var 6) (.min (.min (.var 5) (.var 4)) (.var 4))) (.max (.max (.var 5) (.var 4)) (.var 4))))) (.max (.max (.var 7) (.min (.min (.var 6) (.min (.min (.var 5) (.var 4)) (.var 4))) (.max (.max (.var 5) (.var 4)) (.var 4)))) (.max (.max (.var 6) (.min (.min (.var 5) (.var 4)) (.var 4))) (.max (.max (.var 5) (.var 4)) (.var 4)))))) (.lit 1099511627776)))
  (.ret [(.num (.min (.min (.var 8) (.min (.min (.var 7) (.min (.min (.var 6) (.min (.min (.var 5) (.var 4)) (.var 4))) (.max (.max (.var 5) (.var 4)) (.var 4)))) (.max (.max (.var 6) (.min (.min (.var 5) (.var 4)) (.var 4))) (.max (.max (.var 5) (.var 4)) (.var 4))))) (.max (.max (.var 7) (.min (.min (.var 6) (.min (.min (.var 5) (.var 4)) (.var 4))) (.max (.max (.var 5) (.var 4)) (.var 4)))) (.max (.max (.var 6) (.min (.min (.var 5) (.var 4)) (.var 4))) (.max (.max (.var 5) (.var 4)) (.var 4)))))), (.num (.max (.max (.var 8) (.min (.min (.var 7) (.min (.min (.var 6) (.min (.min (.var 5) (.var 4)) (.var 4))) (.max (.max (.var 5) (.var 4)) (.var 4)))) (.max (.max (.var 6) (.min (.min (.var 5) (.var 4)) (.var 4))) (.max (.max (.var 5) (.var 4)) (.var 4))))) (.max (.max (.var 7) (.min (.min (.var 6) (.min (.min (.var 5) (.var 4)) (.var 4))) (.max (.max (.var 5) (.var 4)) (.var 4)))) (.max (.max (.var 6) (.min (.min (.var 5) (.var 4)) (.var 4))) (.max (.max (.var 5) (.var 4)) (.var 4)))))), (.num (.lit 0))])
  .fail)
  .fail))))
  .fail))
  .fail))
  .fail)
  .fail))
  .fail)
  .fail))) := by kernel_rfl
theorem tree_hull : runC tb [] 80 (cHull 29) = (.ite (.or (.or (.lt (.var 0) (.lit (-1099511627776))) (.lt (.var 1) (.var 0))) (.lt (.lit 1099511627776) (.var 1)))
  (.ret [(.num (.lit 0)), (.num (.lit 0)), (.num (.lit 130))])
  (.ite (.or (.or (.lt (.var 2) (.lit (-1099511627776))) (.lt (.var 3) (.var 2))) (.lt (.lit 1099511627776) (.var 3)))
  (.ret [(.num (.lit 0)), (.num (.lit 0)), (.num (.lit 130))])
  (.ite (.and (.le (.lit (-1099511627776)) (.num (.max (.max (.max (.var 0) (.var 1)) (.var 2)) (.var 3)))) (.le (.num (.max (.max (.max (.var 0) (.var 1)) (.var 2)) (.var 3))) (.lit 1099511627776)))
  (.ret [(.num (.min (.min (.min (.var 0) (.var 1)) (.var 2)) (.var 3))), (.num (.max (.max (.max (.var 0) (.var 1)) (.var 2)) (.var 3))), (.num (.lit 0))])
  .fail))) := by kernel_rfl
end Go.Proofs.Ytgaaommfemgnnaa
