/- DERIVED. What the executor makes of functions. -/
import Derived.Test.YtljggpbkggkcaaaDconj
import Derived.KernelRfl
namespace Go.Proofs.Ytljggpbkggkcaaa
open Go.Dx
set_option linter.unusedVariables false
set_option maxRecDepth 100000
theorem tree_lgame : runC tb [lawCon 11 [], cRobust 12, cChk 14, gPer, gSto, gOut, gIn] 80 (lawCon 7 [.agg course]) = (.con 0 [] (.ite (.eq (.var 4) (.lit 0))
  (.ret [(.lit 0)])
  (.ite (.not (.or (.lt (.lit 30) (.var 0)) (.lt (.lit 5) (.len (.var 3)))))
  (.con 2 [(.num (.var 0)), (.num (.var 1)), (.num (.var 2)), (.var 3)] (.ite (.not (.eq (.var 5) (.lit 0)))
  (.ret [(.lit 1)])
  (.con 1 [(.num (.var 0)), (.num (.var 1)), (.num (.var 2)), (.var 3)] (.ite (.not (.or (.not (.eq (.var 7) (.lit 0))) (.not (.eq (.len (.var 6)) (.add (.len (.var 3)) (.lit 1))))))
  (.ite (.and (.le (.lit 0) (.len (.var 3))) (.lt (.len (.var 3)) (.len (.var 6))))
  (.ite (.not (.and (.eq (.el (.var 6) (.len (.var 3)) 0) (.var 2)) (.eq (.el (.var 6) (.len (.var 3)) 1) (.var 0))))
  (.ret [(.lit 0)])
  (.lop 3 [(.num (.lit 0))] 143 (.ite (.lt (.var 8) (.len (.var 3)))
  (.ite (.lt (.lit 60) (.el (.var 3) (.var 8) 1))
  (.ret [(.lit 1)])
  (.lop 4 [(.num (.lit 0))] 143 (.ite (.lt (.var 152) (.add (.var 0) (.lit 1)))
  (.ite (.and (.le (.lit 0) (.num (.el (.var 3) (.var 8) 2))) (.le (.num (.el (.var 3) (.var 8) 2)) (.lit 1099511627777)))
  (.lop 5 [(.lit 0), (.num (.el (.var 3) (.var 8) 2))] 143 (.ite (.le (.var 297) (.min (.el (.var 3) (.var 8) 3) (.var 152)))
  (.ite (.and (.le (.lit 0) (.num (.el (.var 3) (.var 8) 0))) (.le (.num (.el (.var 3) (.var 8) 0)) (.lit 1099511627777)))
  (.lop 6 [(.lit 1), (.num (.el (.var 3) (.var 8) 0))] 143 (.ite (.le (.var 442) (.el (.var 3) (.var 8) 1))
  (.ite (.and (.not (.eq (.var 441) (.lit 0))) (.le (.add (.sub (.var 152) (.var 297)) (.var 442)) (.wrap .i64 (.add (.var 0) (.el (.var 3) (.var 8) 4)))))
  (.ite (.and (.le (.lit 0) (.add (.var 8) (.lit 1))) (.lt (.add (.var 8) (.lit 1)) (.len (.var 6))))
  (.ite (.and (.le (.el (.var 6) (.add (.var 8) (.lit 1)) 0) (.min (.add (.sub (.var 152) (.var 297)) (.var 442)) (.var 0))) (.le (.min (.add (.sub (.var 152) (.var 297)) (.var 442)) (.var 0)) (.el (.var 6) (.add (.var 8) (.lit 1)) 1)))
  (.chk 6 441 [(.lit 1), (.num (.add (.var 442) (.lit 1)))])
  (.chk 6 441 [(.lit 0), (.num (.add (.var 442) (.lit 1)))]))
  .fail)
  (.chk 6 441 [(.lit 0), (.num (.add (.var 442) (.lit 1)))]))
  (.ite (.or (.not (.eq (.var 296) (.lit 0))) (.not (.eq (.var 441) (.lit 0))))
  (.chk 5 296 [(.lit 1), (.num (.add (.var 297) (.lit 1)))])
  (.chk 5 296 [(.lit 0), (.num (.add (.var 297) (.lit 1)))]))))
  .fail)
  (.ite (.and (.le (.lit 0) (.var 8)) (.lt (.var 8) (.len (.var 6))))
  (.ite (.not (.or (.and (.not (.eq (.var 296) (.lit 0))) (.and (.le (.el (.var 6) (.var 8) 0) (.var 152)) (.le (.var 152) (.el (.var 6) (.var 8) 1)))) (.and (.eq (.var 296) (.lit 0)) (.not (.and (.le (.el (.var 6) (.var 8) 0) (.var 152)) (.le (.var 152) (.el (.var 6) (.var 8) 1)))))))
  (.ret [(.lit 0)])
  (.chk 4 152 [(.num (.add (.var 152) (.lit 1)))]))
  .fail)))
  .fail)
  (.chk 3 8 [(.num (.add (.var 8) (.lit 1)))]))))
  (.ret [(.lit 1)]))))
  .fail)
  (.ret [(.lit 0)])))))
  (.ret [(.lit 1)])))) := by kernel_rfl
end Go.Proofs.Ytljggpbkggkcaaa
