/- DERIVED. What the executor makes of functions. -/
import Derived.Test.YtgaaommfemgnnaaEconi
import Derived.KernelRfl
namespace Go.Proofs.Ytgaaommfemgnnaa
open Go.Dx
set_option linter.unusedVariables false
set_option maxRecDepth 100000
theorem tree_lins : runC tb [lawCon 12 [], cIn 31, cAdd 13, cSub 15, cMul 17, cSqr 21, cScl 25, cRoot 23, cHull 29, lIns] 80 (lawCon 9 [two, two, two, two, two]) = (.con 0 [] (.ite (.eq (.var 10) (.lit 0))
  (.ret [(.lit 0)])
  (.con 1 [(.num (.var 0)), (.num (.var 1)), (.num (.var 4)), (.num (.var 5))] (.con 1 [(.num (.var 2)), (.num (.var 3)), (.num (.var 6)), (.num (.var 7))] (.ite (.or (.or (.or (.not (.eq (.var 12) (.lit 0))) (.not (.eq (.var 14) (.lit 0)))) (.eq (.var 11) (.lit 0))) (.eq (.var 13) (.lit 0)))
  (.ret [(.lit 1)])
  (.con 2 [(.num (.var 0)), (.num (.var 1)), (.num (.var 2)), (.num (.var 3))] (.con 3 [(.num (.var 0)), (.num (.var 1)), (.num (.var 2)), (.num (.var 3))] (.con 4 [(.num (.var 0)), (.num (.var 1)), (.num (.var 2)), (.num (.var 3))] (.con 5 [(.num (.var 0)), (.num (.var 1))] (.con 6 [(.num (.var 0)), (.num (.var 1)), (.num (.var 8)), (.num (.var 9))] (.con 7 [(.num (.var 0)), (.num (.var 1))] (.con 8 [(.num (.var 0)), (.num (.var 1)), (.num (.var 2)), (.num (.var 3))] (.con 2 [(.num (.var 4)), (.num (.var 5)), (.num (.var 6)), (.num (.var 7))] (.con 3 [(.num (.var 4)), (.num (.var 5)), (.num (.var 6)), (.num (.var 7))] (.con 4 [(.num (.var 4)), (.num (.var 5)), (.num (.var 6)), (.num (.var 7))] (.con 5 [(.num (.var 4)), (.num (.var 5))] (.con 6 [(.num (.var 4)), (.num (.var 5)), (.num (.var 8)), (.num (.var 9))] (.con 7 [(.num (.var 4)), (.num (.var 5))] (.con 8 [(.num (.var 4)), (.num (.var 5)), (.num (.var 6)), (.num (.var 7))] (.dat (.rows 3) [(.num (.var 15)), (.num (.var 16)), (.num (.var 17)), (.num (.var 18)), (.num (.var 19)), (.num (.var 20)), (.num (.var 21)), (.num (.var 22)), (.num (.var 23)), (.num (.var 24)), (.num (.var 25)), (.num (.var 26)), (.num (.var 27)), (.num (.var 28)), (.num (.var 29)), (.num (.var 30)), (.num (.var 31)), (.num (.var 32)), (.num (.var 33)), (.num (.var 34)), (.num (.var 35))] (.dat (.rows 3) [(.num (.var 36)), (.num (.var 37)), (.num (.var 38)), (.num (.var 39)), (.num (.var 40)), (.num (.var 41)), (.num (.var 42)), (.num (.var 43)), (.num (.var 44)), (.num (.var 45)), (.num (.var 46)), (.num (.var 47)), (.num (.var 48)), (.num (.var 49)), (.num (.var 50)), (.num (.var 51)), (.num (.var 52)), (.num (.var 53)), (.num (.var 54)), (.num (.var 55)), (.num (.var 56))] (.lop 9 [(.var 57), (.var 58), (.num (.lit 0))] 191 (.ite (.lt (.var 61) (.lit 7))
  (.ite (.and (.le (.lit 0) (.var 61)) (.lt (.var 61) (.len (.var 60))))
  (.ite (.not (.eq (.el (.var 60) (.var 61) 2) (.lit 0)))
  (.chk 9 59 [(.var 59), (.var 60), (.num (.add (.var 61) (.lit 1)))])
  (.ite (.and (.le (.lit 0) (.var 61)) (.lt (.var 61) (.len (.var 59))))
  (.con 1 [(.num (.el (.var 59) (.var 61) 0)), (.num (.el (.var 59) (.var 61) 1)), (.num (.el (.var 60) (.var 61) 0)), (.num (.el (.var 60) (.var 61) 1))] (.ite (.or (.or (.not (.eq (.el (.var 59) (.var 61) 2) (.lit 0))) (.not (.eq (.var 254) (.lit 0)))) (.eq (.var 253) (.lit 0)))
  (.ret [(.lit 0)])
  (.chk 9 59 [(.var 59), (.var 60), (.num (.add (.var 61) (.lit 1)))])))
  .fail))
  .fail)
  (.ret [(.lit 1)])))))))))))))))))))))))) := by kernel_rfl
end Go.Proofs.Ytgaaommfemgnnaa
