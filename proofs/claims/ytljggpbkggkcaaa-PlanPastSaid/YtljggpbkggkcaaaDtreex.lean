/- DERIVED. What the executor makes of functions. -/
import Derived.Test.YtljggpbkggkcaaaDconk
import Derived.KernelRfl
namespace Go.Proofs.Ytljggpbkggkcaaa
open Go.Dx
set_option linter.unusedVariables false
set_option maxRecDepth 100000
theorem tree_rls : runC tb [cRel 17, cNext 19, cAt 27, cPick 26, lRls] 80 (cRls 28) = (.dat (.rows 1) [] (.dat (.rows 1) [] (.ite (.and (.le (.lit 0) (.num (.var 1))) (.le (.num (.var 1)) (.lit 1099511627776)))
  (.lop 4 [(.var 6), (.var 7), (.num (.var 1)), (.num (.lit 0))] 84 (.ite (.lt (.var 11) (.len (.var 3)))
  (.ite (.le (.add (.len (.var 9)) (.lit 1)) (.lit 15637498706147))
  (.dat (.rows 1) [(.num (.var 10))] (.dat .cat [(.var 9), (.var 96)] (.ite (.and (.le (.lit 0) (.var 11)) (.lt (.var 11) (.len (.var 4))))
  (.ite (.not (.and (.le (.el (.var 4) (.var 11) 0) (.var 10)) (.le (.var 10) (.el (.var 4) (.var 11) 1))))
  (.ret [(.var 8), (.var 97)])
  (.con 0 [(.num (.var 0)), (.num (.var 1)), (.num (.var 2)), (.var 3), (.num (.var 11)), (.num (.var 10))] (.con 2 [(.var 5), (.num (.var 11))] (.con 3 [(.num (.el (.var 3) (.var 11) 0)), (.num (.el (.var 3) (.var 11) 1)), (.num (.var 100))] (.con 1 [(.num (.var 0)), (.num (.var 1)), (.num (.var 2)), (.var 3), (.num (.var 11)), (.num (.var 10)), (.num (.var 98)), (.num (.var 101))] (.ite (.le (.add (.len (.var 8)) (.lit 1)) (.lit 15637498706147))
  (.dat (.rows 1) [(.num (.var 98))] (.dat .cat [(.var 8), (.var 106)] (.ite (.or (.or (.not (.eq (.var 99) (.lit 0))) (.not (.eq (.var 105) (.lit 0)))) (.eq (.var 104) (.lit 0)))
  (.ret [(.var 107), (.var 97)])
  (.ite (.and (.le (.lit 0) (.num (.var 102))) (.le (.num (.var 102)) (.lit 1099511627776)))
  (.chk 4 8 [(.var 107), (.var 97), (.num (.var 102)), (.num (.add (.var 11) (.lit 1)))])
  .fail))))
  .fail))))))
  .fail)))
  .fail)
  (.ret [(.var 8), (.var 9)])))
  .fail))) := by kernel_rfl
end Go.Proofs.Ytljggpbkggkcaaa
