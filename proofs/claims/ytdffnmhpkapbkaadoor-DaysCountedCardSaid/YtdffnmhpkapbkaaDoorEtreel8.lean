/- DERIVED. What the executor makes of functions. -/
import Derived.Test.YtdffnmhpkapbkaaDoorEcone
import Derived.KernelRfl
namespace Go.Proofs.YtdffnmhpkapbkaaDoor
open Go.Dx
set_option linter.unusedVariables false
set_option maxRecDepth 100000
theorem tree_lcnt : runC tb [lawCon 9 [], cChk 21, cUni 23 1, cUni 25 2, cUni 27 3, cHas 31, cCnt 17, cNth 19] 80 (lawCon 8 [.c spans, .c spans, .c i64s]) = (.con 0 [] (.ite (.eq (.var 3) (.lit 0))
  (.ret [(.lit 0)])
  (.ite (.not (.or (.lt (.lit 128) (.len (.var 0))) (.lt (.lit 128) (.len (.var 1)))))
  (.con 1 [(.var 0)] (.ite (.eq (.var 4) (.lit 0))
  (.con 1 [(.var 1)] (.ite (.not (.eq (.var 5) (.lit 0)))
  (.ret [(.lit 1)])
  (.con 2 [(.var 0), (.var 1)] (.con 3 [(.var 0), (.var 1)] (.con 4 [(.var 0), (.var 1)] (.ite (.or (.or (.not (.eq (.var 7) (.lit 0))) (.not (.eq (.var 9) (.lit 0)))) (.not (.eq (.var 11) (.lit 0))))
  (.ret [(.lit 0)])
  (.adr (.var 0) (.adr (.var 1) (.adr (.var 6) (.adr (.var 8) (.adr (.var 10) (.con 6 [(.var 0)] (.ite (.not (.eq (.var 18) (.lit 0)))
  (.ret [(.lit 0)])
  (.con 6 [(.var 1)] (.ite (.not (.eq (.var 20) (.lit 0)))
  (.ret [(.lit 0)])
  (.con 6 [(.var 6)] (.ite (.not (.eq (.var 22) (.lit 0)))
  (.ret [(.lit 0)])
  (.con 6 [(.var 8)] (.ite (.not (.eq (.var 24) (.lit 0)))
  (.ret [(.lit 0)])
  (.con 6 [(.var 10)] (.ite (.not (.eq (.var 26) (.lit 0)))
  (.ret [(.lit 0)])
  (.ite (.or (.not (.eq (.wrap .i64 (.add (.var 21) (.var 23))) (.wrap .i64 (.add (.var 17) (.var 19))))) (.not (.eq (.var 25) (.wrap .i64 (.sub (.var 17) (.var 23))))))
  (.ret [(.lit 0)])
  (.con 7 [(.var 6), (.num (.var 2))] (.ite (.lt (.var 2) (.lit 0))
  (.ite (.and (.eq (.var 29) (.lit 1)) (.eq (.var 28) (.lit 0)))
  (.ret [(.lit 1)])
  (.ret [(.lit 0)]))
  (.ite (.or (.not (.eq (.var 29) (.lit 0))) (.not (.or (.and (.not (.eq (.var 28) (.lit 0))) (.lt (.var 2) (.var 21))) (.and (.eq (.var 28) (.lit 0)) (.le (.var 21) (.var 2))))))
  (.ret [(.lit 0)])
  (.ite (.eq (.var 28) (.lit 0))
  (.ite (.eq (.var 27) (.lit 0))
  (.ret [(.lit 1)])
  (.ret [(.lit 0)]))
  (.con 5 [(.var 6), (.num (.var 27))] (.ite (.eq (.var 30) (.lit 0))
  (.ret [(.lit 0)])
  (.dat (.rows 2) [(.num (.lit 0)), (.num (.var 27))] (.con 3 [(.var 6), (.var 31)] (.con 6 [(.var 32)] (.ite (.and (.and (.eq (.var 33) (.lit 0)) (.eq (.var 35) (.lit 0))) (.eq (.var 34) (.wrap .i64 (.add (.var 2) (.lit 1)))))
  (.ret [(.lit 1)])
  (.ret [(.lit 0)])))))))))))))))))))))))))))))))))
  (.ret [(.lit 1)])))
  (.ret [(.lit 1)])))) := by kernel_rfl
end Go.Proofs.YtdffnmhpkapbkaaDoor
