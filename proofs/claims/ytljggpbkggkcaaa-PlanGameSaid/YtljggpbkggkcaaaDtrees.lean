/- DERIVED. What the executor makes of functions. -/
import Derived.Test.YtljggpbkggkcaaaDconf
import Derived.KernelRfl
namespace Go.Proofs.Ytljggpbkggkcaaa
open Go.Dx
set_option linter.unusedVariables false
set_option maxRecDepth 100000
theorem tree_lpf : runC tb [lawCon 11 [], cFirm 23, cDem 31, cRobust 12] 80 (lawCon 10 [.agg course, .c ints, .c (.int .u32 0 4294967295), .c (.int .u32 0 4294967295)]) = (.con 0 [] (.ite (.eq (.var 7) (.lit 0))
  (.ret [(.lit 0)])
  (.ite (.lt (.lit 100) (.len (.var 4)))
  (.ret [(.lit 1)])
  (.con 1 [(.num (.var 0)), (.num (.var 1)), (.num (.var 2)), (.var 3), (.var 4)] (.ite (.not (.eq (.var 10) (.lit 0)))
  (.ite (.and (.eq (.var 8) (.lit 0)) (.eq (.var 9) (.lit 0)))
  (.ret [(.lit 1)])
  (.ret [(.lit 0)]))
  (.ite (.or (.or (.or (.not (.eq (.len (.var 4)) (.len (.var 3)))) (.lt (.var 8) (.lit 0))) (.lt (.lit 1048576) (.var 8))) (.and (.eq (.var 9) (.lit 0)) (.not (.eq (.var 8) (.lit 0)))))
  (.ret [(.lit 0)])
  (.ite (.eq (.var 9) (.lit 0))
  (.con 2 [(.num (.var 0)), (.num (.var 1)), (.num (.var 2)), (.var 3), (.var 4), (.num (.lit 0))] (.con 3 [(.num (.var 11)), (.num (.var 12)), (.num (.var 13)), (.var 14)] (.ite (.not (.and (.and (.eq (.var 16) (.lit 0)) (.lt (.lit 0) (.len (.var 15)))) (.and (.le (.el (.var 15) (.lit 0) 0) (.var 1)) (.le (.var 1) (.el (.var 15) (.lit 0) 1)))))
  (.ret [(.lit 1)])
  (.ret [(.lit 0)]))))
  (.ite (.lt (.var 8) (.lit 1048576))
  (.con 2 [(.num (.var 0)), (.num (.var 1)), (.num (.var 2)), (.var 3), (.var 4), (.num (.add (.var 8) (.lit 1)))] (.con 3 [(.num (.var 11)), (.num (.var 12)), (.num (.var 13)), (.var 14)] (.ite (.not (.and (.and (.eq (.var 16) (.lit 0)) (.lt (.lit 0) (.len (.var 15)))) (.and (.le (.el (.var 15) (.lit 0) 0) (.var 1)) (.le (.var 1) (.el (.var 15) (.lit 0) 1)))))
  (.con 2 [(.num (.var 0)), (.num (.var 1)), (.num (.var 2)), (.var 3), (.var 4), (.num (.add (.add (.var 8) (.lit 1)) (.rem (.var 6) (.sub (.lit 1048576) (.var 8)))))] (.con 3 [(.num (.var 17)), (.num (.var 18)), (.num (.var 19)), (.var 20)] (.ite (.and (.and (.eq (.var 22) (.lit 0)) (.lt (.lit 0) (.len (.var 21)))) (.and (.le (.el (.var 21) (.lit 0) 0) (.var 1)) (.le (.var 1) (.el (.var 21) (.lit 0) 1))))
  (.ret [(.lit 0)])
  (.con 2 [(.num (.var 0)), (.num (.var 1)), (.num (.var 2)), (.var 3), (.var 4), (.num (.var 8))] (.con 3 [(.num (.var 23)), (.num (.var 24)), (.num (.var 25)), (.var 26)] (.ite (.and (.and (.eq (.var 28) (.lit 0)) (.lt (.lit 0) (.len (.var 27)))) (.and (.le (.el (.var 27) (.lit 0) 0) (.var 1)) (.le (.var 1) (.el (.var 27) (.lit 0) 1))))
  (.con 2 [(.num (.var 0)), (.num (.var 1)), (.num (.var 2)), (.var 3), (.var 4), (.num (.rem (.var 5) (.add (.var 8) (.lit 1))))] (.con 3 [(.num (.var 29)), (.num (.var 30)), (.num (.var 31)), (.var 32)] (.ite (.and (.and (.eq (.var 34) (.lit 0)) (.lt (.lit 0) (.len (.var 33)))) (.and (.le (.el (.var 33) (.lit 0) 0) (.var 1)) (.le (.var 1) (.el (.var 33) (.lit 0) 1))))
  (.ret [(.lit 1)])
  (.ret [(.lit 0)]))))
  (.ret [(.lit 0)])))))))
  (.ret [(.lit 0)]))))
  (.con 2 [(.num (.var 0)), (.num (.var 1)), (.num (.var 2)), (.var 3), (.var 4), (.num (.var 8))] (.con 3 [(.num (.var 11)), (.num (.var 12)), (.num (.var 13)), (.var 14)] (.ite (.and (.and (.eq (.var 16) (.lit 0)) (.lt (.lit 0) (.len (.var 15)))) (.and (.le (.el (.var 15) (.lit 0) 0) (.var 1)) (.le (.var 1) (.el (.var 15) (.lit 0) 1))))
  (.con 2 [(.num (.var 0)), (.num (.var 1)), (.num (.var 2)), (.var 3), (.var 4), (.num (.rem (.var 5) (.add (.var 8) (.lit 1))))] (.con 3 [(.num (.var 17)), (.num (.var 18)), (.num (.var 19)), (.var 20)] (.ite (.and (.and (.eq (.var 22) (.lit 0)) (.lt (.lit 0) (.len (.var 21)))) (.and (.le (.el (.var 21) (.lit 0) 0) (.var 1)) (.le (.var 1) (.el (.var 21) (.lit 0) 1))))
  (.ret [(.lit 1)])
  (.ret [(.lit 0)]))))
  (.ret [(.lit 0)])))))))))))) := by kernel_rfl
end Go.Proofs.Ytljggpbkggkcaaa
