/- DERIVED. What the executor makes of functions. -/
import Derived.Test.YtkophklnleodcaaDconb
import Derived.KernelRfl
namespace Go.Proofs.Ytkophklnleodcaa
open Go.Dx
set_option linter.unusedVariables false
set_option maxRecDepth 100000
theorem tree_nxR3 : runC tb [cChkR, cRunR] 80 (cNextN 21 (-9223372036854775808) (-1)) = (.ite (.or (.or (.or (.not (.and (.le (.lit 1) (.var 0)) (.le (.var 0) (.lit 63)))) (.not (.and (.le (.lit 0) (.var 1)) (.le (.var 1) (.sub (.var 0) (.lit 1)))))) (.not (.and (.le (.lit 0) (.var 2)) (.le (.var 2) (.var 1))))) (.not (.and (.le (.lit 0) (.var 3)) (.le (.var 3) (.var 0)))))
  (.ret [(.num (.lit 0)), (.num (.lit 0)), (.num (.lit 0)), (.num (.lit 0)), (.num (.lit 0)), (.num (.lit 0)), (.num (.lit 0)), (.num (.lit 320))])
  (.ite (.or (.or (.or (.not (.and (.le (.lit 1) (.var 4)) (.le (.var 4) (.lit 15)))) (.not (.and (.le (.lit 1) (.var 5)) (.le (.var 5) (.lit 15))))) (.not (.and (.le (.lit 1) (.var 6)) (.le (.var 6) (.lit 15))))) (.not (.and (.le (.lit 0) (.var 7)) (.le (.var 7) (.lit 1048576)))))
  (.ret [(.num (.lit 0)), (.num (.lit 0)), (.num (.lit 0)), (.num (.lit 0)), (.num (.lit 0)), (.num (.lit 0)), (.num (.lit 0)), (.num (.lit 320))])
  (.ret [(.num (.lit 0)), (.num (.lit 0)), (.num (.lit 0)), (.num (.lit 0)), (.num (.lit 0)), (.num (.lit 0)), (.num (.lit 0)), (.num (.lit 320))]))) := by kernel_rfl
end Go.Proofs.Ytkophklnleodcaa
