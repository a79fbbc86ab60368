/- DERIVED. What the executor makes of functions. -/
import Derived.Test.YtdffnmhpkapbkaaDoorDconb
import Derived.KernelRfl
namespace Go.Proofs.YtdffnmhpkapbkaaDoor
open Go.Dx
set_option linter.unusedVariables false
set_option maxRecDepth 100000
theorem tree_llist : runC tb [lawCon 9 [], cCnt 17, cCnt 18, cNth 19, cNth 20, cChk 21, cChk 22] 80 (lawCon 4 [.c spans, .c i64s]) = (.con 0 [] (.ite (.eq (.var 2) (.lit 0))
  (.ret [(.lit 0)])
  (.ite (.lt (.lit 260) (.len (.var 0)))
  (.ret [(.lit 1)])
  (.con 1 [(.var 0)] (.con 2 [(.var 0)] (.con 3 [(.var 0), (.num (.var 1))] (.con 4 [(.var 0), (.num (.var 1))] (.con 5 [(.var 0)] (.con 6 [(.var 0)] (.ite (.and (.and (.and (.and (.and (.eq (.var 13) (.var 14)) (.eq (.var 3) (.var 5))) (.eq (.var 4) (.var 6))) (.eq (.var 7) (.var 10))) (.or (.and (.not (.eq (.var 8) (.lit 0))) (.not (.eq (.var 11) (.lit 0)))) (.and (.eq (.var 8) (.lit 0)) (.eq (.var 11) (.lit 0))))) (.eq (.var 9) (.var 12)))
  (.ret [(.lit 1)])
  (.ret [(.lit 0)]))))))))))) := by kernel_rfl
end Go.Proofs.YtdffnmhpkapbkaaDoor
