/- DERIVED. What the executor makes of functions. -/
import Derived.Test.YtdffnmhpkapbkaaDoorEcone
import Derived.KernelRfl
namespace Go.Proofs.YtdffnmhpkapbkaaDoor
open Go.Dx
set_option linter.unusedVariables false
set_option maxRecDepth 100000
theorem tree_lsets : runC tb [lawCon 9 [], cUni 23 1, cUni 24 1, cUni 25 2, cUni 26 2, cUni 27 3, cUni 28 3, cSam 29] 80 (lawCon 5 [.c spans, .c spans]) = (.con 0 [] (.ite (.eq (.var 2) (.lit 0))
  (.ret [(.lit 0)])
  (.ite (.not (.and (.le (.len (.var 0)) (.lit 260)) (.le (.len (.var 1)) (.lit 260))))
  (.ret [(.lit 1)])
  (.con 1 [(.var 0), (.var 1)] (.con 2 [(.var 0), (.var 1)] (.con 3 [(.var 0), (.var 1)] (.con 4 [(.var 0), (.var 1)] (.con 5 [(.var 0), (.var 1)] (.con 6 [(.var 0), (.var 1)] (.con 7 [(.var 3), (.var 5)] (.ite (.and (.not (.eq (.var 15) (.lit 0))) (.eq (.var 4) (.var 6)))
  (.con 7 [(.var 7), (.var 9)] (.ite (.and (.not (.eq (.var 16) (.lit 0))) (.eq (.var 8) (.var 10)))
  (.con 7 [(.var 11), (.var 13)] (.ite (.and (.not (.eq (.var 17) (.lit 0))) (.eq (.var 12) (.var 14)))
  (.ret [(.lit 1)])
  (.ret [(.lit 0)])))
  (.ret [(.lit 0)])))
  (.ret [(.lit 0)])))))))))))) := by kernel_rfl
end Go.Proofs.YtdffnmhpkapbkaaDoor
