/- DERIVED. What the executor makes of functions. -/
import Derived.Test.YtcjdheaaddaagaaDconb
import Derived.KernelRfl
namespace Go.Proofs.Ytcjdheaaddaagaa
open Go.Dx
set_option linter.unusedVariables false
set_option maxRecDepth 100000
theorem tree_lord : runC tb [lawCon 10 [], cNear, cAw 12, lO0, lO1, lO2] 100 (lawCon 8 [.c ints, aU16, aI16, aU16]) = (.con 0 [] (.ite (.eq (.var 4) (.lit 0))
  (.ret [(.lit 0)])
  (.con 1 [(.var 0), (.num (.var 1)), (.num (.var 2))] (.ite (.eq (.var 6) (.lit 0))
  (.ret [(.lit 1)])
  (.lop 3 [(.num (.lit 0)), (.num (.lit 0))] 134 (.ite (.lt (.var 8) (.len (.var 0)))
  (.chk 3 7 [(.num (.wrap .i64 (.add (.var 7) (.el (.var 0) (.var 8) 0)))), (.num (.add (.var 8) (.lit 1)))])
  (.con 2 [(.num (.var 5)), (.var 0)] (.con 2 [(.num (.min (.var 7) (.wrap .i64 (.add (.var 5) (.var 3))))), (.var 0)] (.ite (.or (.or (.or (.not (.eq (.var 144) (.lit 0))) (.not (.eq (.var 146) (.lit 0)))) (.not (.eq (.len (.var 143)) (.len (.var 0))))) (.not (.eq (.len (.var 145)) (.len (.var 0)))))
  (.ret [(.lit 0)])
  (.lop 4 [(.num (.lit 0))] 134 (.ite (.lt (.var 147) (.len (.var 0)))
  (.both (.ite (.and (.le (.lit 0) (.var 147)) (.lt (.var 147) (.len (.var 145))))
  (.ite (.and (.le (.lit 0) (.var 147)) (.lt (.var 147) (.len (.var 143))))
  (.ite (.lt (.el (.var 145) (.var 147) 0) (.el (.var 143) (.var 147) 0))
  (.ret [(.lit 0)])
  (.lop 5 [(.num (.lit 0))] 134 (.ite (.lt (.var 282) (.len (.var 0)))
  (.ite (.lt (.el (.var 0) (.var 282) 0) (.el (.var 0) (.var 147) 0))
  (.ite (.and (.le (.lit 0) (.var 282)) (.lt (.var 282) (.len (.var 143))))
  (.ite (.or (.lt (.el (.var 143) (.var 147) 0) (.el (.var 143) (.var 282) 0)) (.lt (.wrap .i64 (.sub (.el (.var 0) (.var 147) 0) (.el (.var 143) (.var 147) 0))) (.wrap .i64 (.sub (.el (.var 0) (.var 282) 0) (.el (.var 143) (.var 282) 0)))))
  (.ret [(.lit 0)])
  (.chk 5 282 [(.num (.add (.var 282) (.lit 1)))]))
  .fail)
  (.chk 5 282 [(.num (.add (.var 282) (.lit 1)))]))
  (.chk 4 147 [(.num (.add (.var 147) (.lit 1)))]))))
  .fail)
  .fail) (.ite (.and (.le (.lit 0) (.var 147)) (.lt (.var 147) (.len (.var 143))))
  (.ite (.and (.le (.lit 0) (.var 147)) (.lt (.var 147) (.len (.var 145))))
  (.ite (.lt (.el (.var 145) (.var 147) 0) (.el (.var 143) (.var 147) 0))
  (.ret [(.lit 0)])
  (.lop 5 [(.num (.lit 0))] 134 (.ite (.lt (.var 282) (.len (.var 0)))
  (.ite (.lt (.el (.var 0) (.var 282) 0) (.el (.var 0) (.var 147) 0))
  (.ite (.and (.le (.lit 0) (.var 282)) (.lt (.var 282) (.len (.var 143))))
  (.ite (.or (.lt (.el (.var 143) (.var 147) 0) (.el (.var 143) (.var 282) 0)) (.lt (.wrap .i64 (.sub (.el (.var 0) (.var 147) 0) (.el (.var 143) (.var 147) 0))) (.wrap .i64 (.sub (.el (.var 0) (.var 282) 0) (.el (.var 143) (.var 282) 0)))))
  (.ret [(.lit 0)])
  (.chk 5 282 [(.num (.add (.var 282) (.lit 1)))]))
  .fail)
  (.chk 5 282 [(.num (.add (.var 282) (.lit 1)))]))
  (.chk 4 147 [(.num (.add (.var 147) (.lit 1)))]))))
  .fail)
  .fail))
  (.ret [(.lit 1)])))))))))))) := by kernel_rfl
end Go.Proofs.Ytcjdheaaddaagaa
