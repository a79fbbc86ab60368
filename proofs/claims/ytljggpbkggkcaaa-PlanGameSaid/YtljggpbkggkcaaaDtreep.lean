/- DERIVED. What the executor makes of functions. -/
import Derived.Test.YtljggpbkggkcaaaDcone
import Derived.KernelRfl
namespace Go.Proofs.Ytljggpbkggkcaaa
open Go.Dx
set_option linter.unusedVariables false
set_option maxRecDepth 100000
theorem tree_lfirm : runC tb [lawCon 11 [], cFirm 23, cFirm 24] 80 (lawCon 5 [.agg course, .c ints]) = (.con 0 [] (.ite (.eq (.var 5) (.lit 0))
  (.ret [(.lit 0)])
  (.ite (.lt (.lit 100) (.len (.var 4)))
  (.ret [(.lit 1)])
  (.con 1 [(.num (.var 0)), (.num (.var 1)), (.num (.var 2)), (.var 3), (.var 4)] (.con 2 [(.num (.var 0)), (.num (.var 1)), (.num (.var 2)), (.var 3), (.var 4)] (.ite (.and (.and (.eq (.var 6) (.var 9)) (.or (.and (.not (.eq (.var 7) (.lit 0))) (.not (.eq (.var 10) (.lit 0)))) (.and (.eq (.var 7) (.lit 0)) (.eq (.var 10) (.lit 0))))) (.eq (.var 8) (.var 11)))
  (.ret [(.lit 1)])
  (.ret [(.lit 0)]))))))) := by kernel_rfl
end Go.Proofs.Ytljggpbkggkcaaa
