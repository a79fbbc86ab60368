/- DERIVED. What the executor makes of functions. -/
import Derived.Test.YtljggpbkggkcaaaDconh
import Derived.KernelRfl
namespace Go.Proofs.Ytljggpbkggkcaaa
open Go.Dx
set_option linter.unusedVariables false
set_option maxRecDepth 100000
theorem tree_lwider : runC tb [lawCon 11 [], cRobust 12, lWid 20 11] 80 (lawCon 9 [.agg course, .c (.int .u8 0 255), .c (.int .u16 0 65535), .c (.int .u16 0 65535), .c (.int .u16 0 65535), .c (.int .u16 0 65535), .c (.int .u16 0 65535)]) = (.con 0 [] (.ite (.eq (.var 10) (.lit 0))
  (.ret [(.lit 0)])
  (.con 1 [(.num (.var 0)), (.num (.var 1)), (.num (.var 2)), (.var 3)] (.ite (.or (.not (.eq (.var 12) (.lit 0))) (.eq (.len (.var 3)) (.lit 0)))
  (.ret [(.lit 1)])
  (.ite (.le (.len (.var 3)) (.lit 3432621667203))
  (.ite (.and (.le (.lit 0) (.rem (.var 4) (.len (.var 3)))) (.lt (.rem (.var 4) (.len (.var 3))) (.len (.var 3))))
  (.dat (.set 0) [(.var 3), (.num (.rem (.var 4) (.len (.var 3)))), (.num (.min (.el (.var 3) (.rem (.var 4) (.len (.var 3))) 1) (.wrap .i64 (.add (.el (.var 3) (.rem (.var 4) (.len (.var 3))) 0) (.var 5)))))] (.dat (.set 1) [(.var 13), (.num (.rem (.var 4) (.len (.var 3)))), (.num (.max (.el (.var 13) (.rem (.var 4) (.len (.var 3))) 0) (.wrap .i64 (.sub (.el (.var 13) (.rem (.var 4) (.len (.var 3))) 1) (.var 6)))))] (.dat (.set 2) [(.var 14), (.num (.rem (.var 4) (.len (.var 3)))), (.num (.max (.lit 0) (.wrap .i64 (.sub (.el (.var 14) (.rem (.var 4) (.len (.var 3))) 2) (.var 7)))))] (.dat (.set 3) [(.var 15), (.num (.rem (.var 4) (.len (.var 3)))), (.num (.min (.lit 1099511627776) (.wrap .i64 (.add (.el (.var 15) (.rem (.var 4) (.len (.var 3))) 3) (.var 8)))))] (.dat (.set 4) [(.var 16), (.num (.rem (.var 4) (.len (.var 3)))), (.num (.min (.lit 1099511627776) (.wrap .i64 (.add (.el (.var 16) (.rem (.var 4) (.len (.var 3))) 4) (.var 9)))))] (.con 1 [(.num (.var 0)), (.num (.var 1)), (.num (.var 2)), (.var 17)] (.ite (.or (.not (.eq (.var 19) (.lit 0))) (.not (.eq (.len (.var 18)) (.len (.var 11)))))
  (.ret [(.lit 0)])
  (.lop 2 [(.num (.lit 0))] 178 (.ite (.lt (.var 20) (.len (.var 11)))
  (.ite (.le (.el (.var 11) (.var 20) 0) (.el (.var 11) (.var 20) 1))
  (.ite (.and (.le (.lit 0) (.var 20)) (.lt (.var 20) (.len (.var 18))))
  (.ite (.or (.lt (.el (.var 11) (.var 20) 0) (.el (.var 18) (.var 20) 0)) (.lt (.el (.var 18) (.var 20) 1) (.el (.var 11) (.var 20) 1)))
  (.ret [(.lit 0)])
  (.chk 2 20 [(.num (.add (.var 20) (.lit 1)))]))
  .fail)
  (.chk 2 20 [(.num (.add (.var 20) (.lit 1)))]))
  (.ret [(.lit 1)]))))))))))
  .fail)
  .fail))))) := by kernel_rfl
end Go.Proofs.Ytljggpbkggkcaaa
