/- DERIVED. What the executor makes of functions. -/
import Derived.Test.YtdffnmhpkapbkaaDoorEcone
import Derived.KernelRfl
namespace Go.Proofs.YtdffnmhpkapbkaaDoor
open Go.Dx
set_option linter.unusedVariables false
set_option maxRecDepth 100000
theorem tree_lmem : runC tb [lawCon 9 [], cChk 21, cUni 23 1, cUni 25 2, cUni 27 3, cHas 31, lAll, lAsk, cSam 29] 80 (lawCon 7 [.c spans, .c spans, .c i64s]) = (.con 0 [] (.ite (.eq (.var 3) (.lit 0))
  (.ret [(.lit 0)])
  (.ite (.not (.or (.lt (.lit 128) (.len (.var 0))) (.lt (.lit 128) (.len (.var 1)))))
  (.con 1 [(.var 0)] (.ite (.eq (.var 4) (.lit 0))
  (.con 1 [(.var 1)] (.ite (.not (.eq (.var 5) (.lit 0)))
  (.ret [(.lit 1)])
  (.con 2 [(.var 0), (.var 1)] (.con 3 [(.var 0), (.var 1)] (.con 4 [(.var 0), (.var 1)] (.ite (.not (.or (.or (.not (.eq (.var 7) (.lit 0))) (.not (.eq (.var 9) (.lit 0)))) (.not (.eq (.var 11) (.lit 0)))))
  (.con 1 [(.var 6)] (.ite (.eq (.var 12) (.lit 0))
  (.con 1 [(.var 8)] (.ite (.eq (.var 13) (.lit 0))
  (.con 1 [(.var 10)] (.ite (.not (.eq (.var 14) (.lit 0)))
  (.ret [(.lit 0)])
  (.dat .cat [(.var 0), (.var 1)] (.dat (.rows 1) [(.num (.var 2))] (.lop 6 [(.var 16), (.num (.lit 0))] 166 (.ite (.lt (.var 18) (.add (.len (.var 0)) (.len (.var 1))))
  (.ite (.le (.add (.len (.var 17)) (.lit 4)) (.lit 15637498706147))
  (.dat (.rows 1) [(.num (.wrap .i64 (.sub (.el (.var 15) (.var 18) 0) (.lit 1)))), (.num (.el (.var 15) (.var 18) 0)), (.num (.el (.var 15) (.var 18) 1)), (.num (.wrap .i64 (.add (.el (.var 15) (.var 18) 1) (.lit 1))))] (.dat .cat [(.var 17), (.var 185)] (.chk 6 17 [(.var 186), (.num (.add (.var 18) (.lit 1)))])))
  .fail)
  (.lop 7 [(.num (.lit 0))] 166 (.ite (.lt (.var 185) (.len (.var 17)))
  (.con 5 [(.var 0), (.num (.el (.var 17) (.var 185) 0))] (.con 5 [(.var 1), (.num (.el (.var 17) (.var 185) 0))] (.con 5 [(.var 6), (.num (.el (.var 17) (.var 185) 0))] (.ite (.or (.and (.not (.eq (.var 354) (.lit 0))) (.or (.not (.eq (.var 352) (.lit 0))) (.not (.eq (.var 353) (.lit 0))))) (.and (.eq (.var 354) (.lit 0)) (.not (.or (.not (.eq (.var 352) (.lit 0))) (.not (.eq (.var 353) (.lit 0)))))))
  (.con 5 [(.var 8), (.num (.el (.var 17) (.var 185) 0))] (.ite (.or (.and (.not (.eq (.var 355) (.lit 0))) (.and (.not (.eq (.var 352) (.lit 0))) (.not (.eq (.var 353) (.lit 0))))) (.and (.eq (.var 355) (.lit 0)) (.not (.and (.not (.eq (.var 352) (.lit 0))) (.not (.eq (.var 353) (.lit 0)))))))
  (.con 5 [(.var 10), (.num (.el (.var 17) (.var 185) 0))] (.ite (.not (.or (.and (.not (.eq (.var 356) (.lit 0))) (.and (.not (.eq (.var 352) (.lit 0))) (.eq (.var 353) (.lit 0)))) (.and (.eq (.var 356) (.lit 0)) (.not (.and (.not (.eq (.var 352) (.lit 0))) (.eq (.var 353) (.lit 0)))))))
  (.ret [(.lit 0)])
  (.chk 7 185 [(.num (.add (.var 185) (.lit 1)))])))
  (.ret [(.lit 0)])))
  (.ret [(.lit 0)])))))
  (.con 2 [(.var 8), (.var 10)] (.ite (.eq (.var 353) (.lit 0))
  (.con 8 [(.var 352), (.var 0)] (.ret [(.num (.var 354))]))
  (.ret [(.lit 0)])))))))))))
  (.ret [(.lit 0)])))
  (.ret [(.lit 0)])))
  (.ret [(.lit 0)])))))))
  (.ret [(.lit 1)])))
  (.ret [(.lit 1)])))) := by kernel_rfl
end Go.Proofs.YtdffnmhpkapbkaaDoor
