/- DERIVED. What the executor makes of functions. -/
import Derived.Test.YtljggpbkggkcaaaDconk
import Derived.KernelRfl
namespace Go.Proofs.Ytljggpbkggkcaaa
open Go.Dx
set_option linter.unusedVariables false
set_option maxRecDepth 100000
theorem tree_lpast : runC tb [lawCon 11 [], cRobust 12, cRls 28, cNext 19, pA, pB] 80 (lawCon 8 [.agg course, .c u32L, .c u32M, .c (.int .u8 0 255)]) = (.con 0 [] (.ite (.eq (.var 7) (.lit 0))
  (.ret [(.lit 0)])
  (.con 1 [(.num (.var 0)), (.num (.var 1)), (.num (.var 2)), (.var 3)] (.ite (.or (.not (.eq (.var 9) (.lit 0))) (.not (.eq (.len (.var 8)) (.wrap .i64 (.add (.len (.var 3)) (.lit 1))))))
  (.ite (.not (.eq (.var 9) (.lit 0)))
  (.ret [(.lit 1)])
  (.ret [(.lit 0)]))
  (.ite (.le (.min (.min (.var 6) (.len (.var 4))) (.len (.var 3))) (.len (.var 4)))
  (.dat .sub [(.var 4), (.num (.lit 0)), (.num (.min (.min (.var 6) (.len (.var 4))) (.len (.var 3))))] (.dat .cat [(.var 10), (.var 5)] (.con 2 [(.num (.var 0)), (.num (.var 1)), (.num (.var 2)), (.var 3), (.var 8), (.var 4)] (.con 2 [(.num (.var 0)), (.num (.var 1)), (.num (.var 2)), (.var 3), (.var 8), (.var 11)] (.lop 4 [(.num (.lit 0))] 121 (.ite (.lt (.var 16) (.min (.min (.len (.var 12)) (.len (.var 14))) (.add (.min (.min (.var 6) (.len (.var 4))) (.len (.var 3))) (.lit 1))))
  (.both (.ite (.and (.le (.lit 0) (.var 16)) (.lt (.var 16) (.len (.var 12))))
  (.ite (.and (.le (.lit 0) (.var 16)) (.lt (.var 16) (.len (.var 14))))
  (.ite (.not (.eq (.el (.var 12) (.var 16) 0) (.el (.var 14) (.var 16) 0)))
  (.ret [(.lit 0)])
  (.chk 4 16 [(.num (.add (.var 16) (.lit 1)))]))
  .fail)
  .fail) (.ite (.and (.le (.lit 0) (.var 16)) (.lt (.var 16) (.len (.var 14))))
  (.ite (.and (.le (.lit 0) (.var 16)) (.lt (.var 16) (.len (.var 12))))
  (.ite (.not (.eq (.el (.var 12) (.var 16) 0) (.el (.var 14) (.var 16) 0)))
  (.ret [(.lit 0)])
  (.chk 4 16 [(.num (.add (.var 16) (.lit 1)))]))
  .fail)
  .fail))
  (.lop 5 [(.num (.lit 0))] 121 (.ite (.lt (.var 138) (.len (.var 12)))
  (.ite (.and (.le (.lit 0) (.var 138)) (.lt (.var 138) (.len (.var 3))))
  (.ite (.and (.le (.lit 0) (.var 138)) (.lt (.var 138) (.len (.var 13))))
  (.con 3 [(.num (.var 0)), (.num (.var 1)), (.num (.var 2)), (.var 3), (.num (.var 138)), (.num (.el (.var 13) (.var 138) 0)), (.num (.el (.var 12) (.var 138) 0)), (.num (.el (.var 3) (.var 138) 0))] (.con 3 [(.num (.var 0)), (.num (.var 1)), (.num (.var 2)), (.var 3), (.num (.var 138)), (.num (.el (.var 13) (.var 138) 0)), (.num (.el (.var 12) (.var 138) 0)), (.num (.el (.var 3) (.var 138) 1))] (.ite (.and (.and (.and (.eq (.var 263) (.lit 0)) (.eq (.var 267) (.lit 0))) (.not (.eq (.var 262) (.lit 0)))) (.not (.eq (.var 266) (.lit 0))))
  (.ite (.and (.le (.lit 0) (.add (.var 138) (.lit 1))) (.lt (.add (.var 138) (.lit 1)) (.len (.var 8))))
  (.ite (.and (.and (.and (.le (.el (.var 8) (.add (.var 138) (.lit 1)) 0) (.var 260)) (.le (.var 260) (.el (.var 8) (.add (.var 138) (.lit 1)) 1))) (.and (.le (.el (.var 8) (.add (.var 138) (.lit 1)) 0) (.var 264)) (.le (.var 264) (.el (.var 8) (.add (.var 138) (.lit 1)) 1)))) (.lt (.el (.var 3) (.var 138) 2) (.el (.var 12) (.var 138) 0)))
  (.con 3 [(.num (.var 0)), (.num (.var 1)), (.num (.var 2)), (.var 3), (.num (.var 138)), (.num (.el (.var 13) (.var 138) 0)), (.num (.sub (.el (.var 12) (.var 138) 0) (.lit 1))), (.num (.el (.var 3) (.var 138) 0))] (.con 3 [(.num (.var 0)), (.num (.var 1)), (.num (.var 2)), (.var 3), (.num (.var 138)), (.num (.el (.var 13) (.var 138) 0)), (.num (.sub (.el (.var 12) (.var 138) 0) (.lit 1))), (.num (.el (.var 3) (.var 138) 1))] (.ite (.and (.and (.and (.and (.and (.eq (.var 271) (.lit 0)) (.eq (.var 275) (.lit 0))) (.not (.eq (.var 270) (.lit 0)))) (.not (.eq (.var 274) (.lit 0)))) (.and (.le (.el (.var 8) (.add (.var 138) (.lit 1)) 0) (.var 268)) (.le (.var 268) (.el (.var 8) (.add (.var 138) (.lit 1)) 1)))) (.and (.le (.el (.var 8) (.add (.var 138) (.lit 1)) 0) (.var 272)) (.le (.var 272) (.el (.var 8) (.add (.var 138) (.lit 1)) 1))))
  (.ret [(.lit 0)])
  (.chk 5 138 [(.num (.add (.var 138) (.lit 1)))]))))
  (.ite (.and (.and (.le (.el (.var 8) (.add (.var 138) (.lit 1)) 0) (.var 260)) (.le (.var 260) (.el (.var 8) (.add (.var 138) (.lit 1)) 1))) (.and (.le (.el (.var 8) (.add (.var 138) (.lit 1)) 0) (.var 264)) (.le (.var 264) (.el (.var 8) (.add (.var 138) (.lit 1)) 1))))
  (.ite (.lt (.el (.var 3) (.var 138) 2) (.el (.var 12) (.var 138) 0))
  .fail
  (.chk 5 138 [(.num (.add (.var 138) (.lit 1)))]))
  (.ret [(.lit 0)])))
  .fail)
  (.ret [(.lit 0)]))))
  .fail)
  .fail)
  (.ret [(.lit 1)])))))))))
  .fail))))) := by kernel_rfl
end Go.Proofs.Ytljggpbkggkcaaa
