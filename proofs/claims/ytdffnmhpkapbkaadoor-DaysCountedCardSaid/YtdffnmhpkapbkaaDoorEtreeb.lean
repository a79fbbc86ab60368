/- DERIVED. What the executor makes of functions. -/
import Derived.Test.YtdffnmhpkapbkaaDoorEconb
import Derived.KernelRfl
namespace Go.Proofs.YtdffnmhpkapbkaaDoor
open Go.Dx
set_option linter.unusedVariables false
set_option maxRecDepth 100000
theorem tree_chk : runC tb [lChk] 80 (cChk 21) = (.ite (.lt (.lit 256) (.len (.var 0)))
  (.ret [(.num (.lit 2))])
  (.lop 0 [(.num (.lit 0)), (.num (.lit 0))] 36 (.ite (.lt (.var 1) (.len (.var 0)))
  (.ite (.or (.or (.lt (.el (.var 0) (.var 1) 0) (.var 2)) (.lt (.el (.var 0) (.var 1) 1) (.el (.var 0) (.var 1) 0))) (.lt (.lit 73048) (.el (.var 0) (.var 1) 1)))
  (.ret [(.num (.lit 140))])
  (.chk 0 1 [(.num (.add (.var 1) (.lit 1))), (.num (.add (.el (.var 0) (.var 1) 1) (.lit 2)))]))
  (.ret [(.num (.lit 0))])))) := by kernel_rfl
theorem tree_chkR : runC tb [lChkR] 80 (cChk 22) = (.ite (.lt (.lit 256) (.len (.var 0)))
  (.ret [(.num (.lit 2))])
  (.lop 0 [(.num (.lit 0))] 61 (.ite (.lt (.var 1) (.len (.var 0)))
  (.ite (.and (.not (.or (.or (.not (.and (.le (.lit 0) (.el (.var 0) (.var 1) 0)) (.le (.el (.var 0) (.var 1) 0) (.lit 73048)))) (.not (.and (.le (.lit 0) (.el (.var 0) (.var 1) 1)) (.le (.el (.var 0) (.var 1) 1) (.lit 73048))))) (.lt (.el (.var 0) (.var 1) 1) (.el (.var 0) (.var 1) 0)))) (.lt (.lit 0) (.var 1)))
  (.ite (.and (.le (.lit 0) (.sub (.var 1) (.lit 1))) (.lt (.sub (.var 1) (.lit 1)) (.len (.var 0))))
  (.ite (.lt (.el (.var 0) (.var 1) 0) (.wrap .i64 (.add (.el (.var 0) (.sub (.var 1) (.lit 1)) 1) (.lit 2))))
  (.ret [(.num (.lit 140))])
  (.chk 0 1 [(.num (.add (.var 1) (.lit 1)))]))
  .fail)
  (.ite (.and (.not (.or (.or (.not (.and (.le (.lit 0) (.el (.var 0) (.var 1) 0)) (.le (.el (.var 0) (.var 1) 0) (.lit 73048)))) (.not (.and (.le (.lit 0) (.el (.var 0) (.var 1) 1)) (.le (.el (.var 0) (.var 1) 1) (.lit 73048))))) (.lt (.el (.var 0) (.var 1) 1) (.el (.var 0) (.var 1) 0)))) (.lt (.lit 0) (.var 1)))
  .fail
  (.ite (.and (.not (.or (.or (.not (.and (.le (.lit 0) (.el (.var 0) (.var 1) 0)) (.le (.el (.var 0) (.var 1) 0) (.lit 73048)))) (.not (.and (.le (.lit 0) (.el (.var 0) (.var 1) 1)) (.le (.el (.var 0) (.var 1) 1) (.lit 73048))))) (.lt (.el (.var 0) (.var 1) 1) (.el (.var 0) (.var 1) 0)))) (.lt (.lit 0) (.var 1)))
  .fail
  (.ite (.and (.not (.or (.or (.not (.and (.le (.lit 0) (.el (.var 0) (.var 1) 0)) (.le (.el (.var 0) (.var 1) 0) (.lit 73048)))) (.not (.and (.le (.lit 0) (.el (.var 0) (.var 1) 1)) (.le (.el (.var 0) (.var 1) 1) (.lit 73048))))) (.lt (.el (.var 0) (.var 1) 1) (.el (.var 0) (.var 1) 0)))) (.lt (.lit 0) (.var 1)))
  .fail
  (.ite (.and (.not (.or (.or (.not (.and (.le (.lit 0) (.el (.var 0) (.var 1) 0)) (.le (.el (.var 0) (.var 1) 0) (.lit 73048)))) (.not (.and (.le (.lit 0) (.el (.var 0) (.var 1) 1)) (.le (.el (.var 0) (.var 1) 1) (.lit 73048))))) (.lt (.el (.var 0) (.var 1) 1) (.el (.var 0) (.var 1) 0)))) (.lt (.lit 0) (.var 1)))
  .fail
  (.ite (.not (.or (.or (.not (.and (.le (.lit 0) (.el (.var 0) (.var 1) 0)) (.le (.el (.var 0) (.var 1) 0) (.lit 73048)))) (.not (.and (.le (.lit 0) (.el (.var 0) (.var 1) 1)) (.le (.el (.var 0) (.var 1) 1) (.lit 73048))))) (.lt (.el (.var 0) (.var 1) 1) (.el (.var 0) (.var 1) 0))))
  (.ite (.lt (.lit 0) (.var 1))
  .fail
  (.chk 0 1 [(.num (.add (.var 1) (.lit 1)))]))
  (.ret [(.num (.lit 140))])))))))
  (.ret [(.num (.lit 0))])))) := by kernel_rfl
theorem tree_cnt : runC tb [cChk 21, lCnt 5 23 13 2] 80 (cCnt 17) = (.con 0 [(.var 0)] (.ite (.not (.eq (.var 1) (.lit 0)))
  (.ret [(.num (.lit 0)), (.num (.var 1))])
  (.lop 1 [(.num (.lit 0)), (.num (.lit 0))] 23 (.ite (.lt (.var 2) (.len (.var 0)))
  (.ite (.and (.le (.lit 0) (.num (.wrap .i64 (.add (.var 3) (.wrap .i64 (.add (.wrap .i64 (.sub (.el (.var 0) (.var 2) 1) (.el (.var 0) (.var 2) 0))) (.lit 1))))))) (.le (.num (.wrap .i64 (.add (.var 3) (.wrap .i64 (.add (.wrap .i64 (.sub (.el (.var 0) (.var 2) 1) (.el (.var 0) (.var 2) 0))) (.lit 1)))))) (.lit 73050)))
  (.chk 1 2 [(.num (.add (.var 2) (.lit 1))), (.num (.wrap .i64 (.add (.var 3) (.wrap .i64 (.add (.wrap .i64 (.sub (.el (.var 0) (.var 2) 1) (.el (.var 0) (.var 2) 0))) (.lit 1))))))])
  .fail)
  (.ret [(.num (.var 3)), (.num (.lit 0))]))))) := by kernel_rfl
theorem tree_cntR : runC tb [cChk 22, lCnt 6 33 6 5] 80 (cCnt 18) = (.con 0 [(.var 0)] (.ite (.not (.eq (.var 1) (.lit 0)))
  (.ret [(.num (.lit 0)), (.num (.var 1))])
  (.lop 1 [(.num (.lit 0)), (.num (.lit 0))] 33 (.ite (.lt (.var 2) (.len (.var 0)))
  (.ite (.and (.le (.lit 0) (.num (.wrap .i64 (.add (.wrap .i64 (.sub (.wrap .i64 (.add (.var 3) (.el (.var 0) (.var 2) 1))) (.el (.var 0) (.var 2) 0))) (.lit 1))))) (.le (.num (.wrap .i64 (.add (.wrap .i64 (.sub (.wrap .i64 (.add (.var 3) (.el (.var 0) (.var 2) 1))) (.el (.var 0) (.var 2) 0))) (.lit 1)))) (.lit 73050)))
  (.chk 1 2 [(.num (.add (.var 2) (.lit 1))), (.num (.wrap .i64 (.add (.wrap .i64 (.sub (.wrap .i64 (.add (.var 3) (.el (.var 0) (.var 2) 1))) (.el (.var 0) (.var 2) 0))) (.lit 1))))])
  .fail)
  (.ret [(.num (.var 3)), (.num (.lit 0))]))))) := by kernel_rfl
theorem tree_nth : runC tb [cChk 21, lNth 7 35 18 1] 80 (cNth 19) = (.con 0 [(.var 0)] (.ite (.not (.eq (.var 2) (.lit 0)))
  (.ret [(.num (.lit 0)), (.lit 0), (.num (.var 2))])
  (.ite (.lt (.var 1) (.lit 0))
  (.ret [(.num (.lit 0)), (.lit 0), (.num (.lit 1))])
  (.lop 1 [(.num (.lit 0)), (.num (.var 1))] 35 (.ite (.lt (.var 3) (.len (.var 0)))
  (.ite (.lt (.var 4) (.wrap .i64 (.add (.wrap .i64 (.sub (.el (.var 0) (.var 3) 1) (.el (.var 0) (.var 3) 0))) (.lit 1))))
  (.ret [(.num (.wrap .i64 (.add (.el (.var 0) (.var 3) 0) (.var 4)))), (.lit 1), (.num (.lit 0))])
  (.ite (.and (.le (.lit 0) (.num (.wrap .i64 (.sub (.var 4) (.wrap .i64 (.add (.wrap .i64 (.sub (.el (.var 0) (.var 3) 1) (.el (.var 0) (.var 3) 0))) (.lit 1))))))) (.le (.num (.wrap .i64 (.sub (.var 4) (.wrap .i64 (.add (.wrap .i64 (.sub (.el (.var 0) (.var 3) 1) (.el (.var 0) (.var 3) 0))) (.lit 1)))))) (.lit 9223372036854775807)))
  (.chk 1 3 [(.num (.add (.var 3) (.lit 1))), (.num (.wrap .i64 (.sub (.var 4) (.wrap .i64 (.add (.wrap .i64 (.sub (.el (.var 0) (.var 3) 1) (.el (.var 0) (.var 3) 0))) (.lit 1))))))])
  .fail))
  (.ret [(.num (.lit 0)), (.lit 0), (.num (.lit 0))])))))) := by kernel_rfl
theorem tree_nthR : runC tb [cChk 22, lNth 7 48 8 1] 80 (cNth 20) = (.con 0 [(.var 0)] (.ite (.not (.eq (.var 2) (.lit 0)))
  (.ret [(.num (.lit 0)), (.lit 0), (.num (.var 2))])
  (.ite (.lt (.var 1) (.lit 0))
  (.ret [(.num (.lit 0)), (.lit 0), (.num (.lit 1))])
  (.lop 1 [(.num (.lit 0)), (.num (.var 1))] 48 (.ite (.lt (.var 3) (.len (.var 0)))
  (.ite (.lt (.var 4) (.wrap .i64 (.add (.wrap .i64 (.sub (.el (.var 0) (.var 3) 1) (.el (.var 0) (.var 3) 0))) (.lit 1))))
  (.ret [(.num (.wrap .i64 (.add (.el (.var 0) (.var 3) 0) (.var 4)))), (.lit 1), (.num (.lit 0))])
  (.ite (.and (.le (.lit 0) (.num (.wrap .i64 (.sub (.var 4) (.wrap .i64 (.add (.wrap .i64 (.sub (.el (.var 0) (.var 3) 1) (.el (.var 0) (.var 3) 0))) (.lit 1))))))) (.le (.num (.wrap .i64 (.sub (.var 4) (.wrap .i64 (.add (.wrap .i64 (.sub (.el (.var 0) (.var 3) 1) (.el (.var 0) (.var 3) 0))) (.lit 1)))))) (.lit 9223372036854775807)))
  (.chk 1 3 [(.num (.add (.var 3) (.lit 1))), (.num (.wrap .i64 (.sub (.var 4) (.wrap .i64 (.add (.wrap .i64 (.sub (.el (.var 0) (.var 3) 1) (.el (.var 0) (.var 3) 0))) (.lit 1))))))])
  .fail))
  (.ret [(.num (.lit 0)), (.lit 0), (.num (.lit 0))])))))) := by kernel_rfl
end Go.Proofs.YtdffnmhpkapbkaaDoor
