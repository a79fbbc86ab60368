/- DERIVED. What the executor makes of functions. -/
import Derived.Test.YtljggpbkggkcaaaDconc
import Derived.KernelRfl
namespace Go.Proofs.Ytljggpbkggkcaaa
open Go.Dx
set_option linter.unusedVariables false
set_option maxRecDepth 100000
theorem tree_lspec : runC tb [lawCon 11 [], cRobust 12, cRobust 13, cChk 14, cChk 15, lSame 11 5] 80 (lawCon 3 [.agg course]) = (.con 0 [] (.ite (.eq (.var 4) (.lit 0))
  (.ret [(.lit 0)])
  (.con 1 [(.num (.var 0)), (.num (.var 1)), (.num (.var 2)), (.var 3)] (.con 2 [(.num (.var 0)), (.num (.var 1)), (.num (.var 2)), (.var 3)] (.con 3 [(.num (.var 0)), (.num (.var 1)), (.num (.var 2)), (.var 3)] (.con 4 [(.num (.var 0)), (.num (.var 1)), (.num (.var 2)), (.var 3)] (.ite (.eq (.var 9) (.var 10))
  (.ite (.not (.eq (.len (.var 5)) (.len (.var 7))))
  (.ret [(.lit 0)])
  (.lop 5 [(.num (.lit 0))] 26 (.ite (.lt (.var 11) (.len (.var 5)))
  (.ite (.and (.le (.lit 0) (.var 11)) (.lt (.var 11) (.len (.var 7))))
  (.ite (.not (.and (.eq (.el (.var 5) (.var 11) 0) (.el (.var 7) (.var 11) 0)) (.eq (.el (.var 5) (.var 11) 1) (.el (.var 7) (.var 11) 1))))
  (.ret [(.lit 0)])
  (.chk 5 11 [(.num (.add (.var 11) (.lit 1)))]))
  .fail)
  (.ite (.eq (.var 6) (.var 8))
  (.ret [(.lit 1)])
  (.ret [(.lit 0)])))))
  (.ret [(.lit 0)])))))))) := by kernel_rfl
theorem tree_lstep : runC tb [lawCon 11 [], cRel 17, cRel 18, cNext 19, cNext 20, cSpo 21, cSpo 22] 80 (lawCon 4 [.agg course, aI, aI, aI, aI]) = (.con 0 [] (.ite (.eq (.var 8) (.lit 0))
  (.ret [(.lit 0)])
  (.con 1 [(.num (.var 0)), (.num (.var 1)), (.num (.var 2)), (.var 3), (.num (.var 4)), (.num (.var 5))] (.con 2 [(.num (.var 0)), (.num (.var 1)), (.num (.var 2)), (.var 3), (.num (.var 4)), (.num (.var 5))] (.con 3 [(.num (.var 0)), (.num (.var 1)), (.num (.var 2)), (.var 3), (.num (.var 4)), (.num (.var 5)), (.num (.var 6)), (.num (.var 7))] (.con 4 [(.num (.var 0)), (.num (.var 1)), (.num (.var 2)), (.var 3), (.num (.var 4)), (.num (.var 5)), (.num (.var 6)), (.num (.var 7))] (.con 5 [(.num (.var 0)), (.num (.var 1)), (.num (.var 2)), (.var 3), (.num (.var 4)), (.num (.var 5)), (.num (.var 6))] (.con 6 [(.num (.var 0)), (.num (.var 1)), (.num (.var 2)), (.var 3), (.num (.var 4)), (.num (.var 5)), (.num (.var 6))] (.ite (.and (.and (.and (.and (.and (.and (.and (.eq (.var 9) (.var 11)) (.eq (.var 10) (.var 12))) (.eq (.var 13) (.var 17))) (.eq (.var 14) (.var 18))) (.or (.and (.not (.eq (.var 15) (.lit 0))) (.not (.eq (.var 19) (.lit 0)))) (.and (.eq (.var 15) (.lit 0)) (.eq (.var 19) (.lit 0))))) (.eq (.var 16) (.var 20))) (.eq (.var 21) (.var 23))) (.eq (.var 22) (.var 24)))
  (.ret [(.lit 1)])
  (.ret [(.lit 0)])))))))))) := by kernel_rfl
end Go.Proofs.Ytljggpbkggkcaaa
