/- DERIVED. What the executor makes of functions. -/
import Derived.Test.YtalkhponnfggoaaDconc
import Derived.KernelRfl
namespace Go.Proofs.Ytalkhponnfggoaa
open Go.Dx
set_option linter.unusedVariables false
set_option maxRecDepth 100000
theorem tree_cons : runC tb [cSane, cSplit, cMix, cLose, cLeach, lCons] 80 (lawCon 6 [.agg wat, .c ints, .c i64s, .c i64s, .agg wat]) = (.con 0 [] (.ite (.eq (.var 7) (.lit 0))
  (.ret [(.lit 0)])
  (.con 1 [(.num (.var 0)), (.num (.var 1)), (.var 2)] (.ite (.eq (.var 9) (.lit 0))
  (.con 2 [(.var 8)] (.ite (.or (.or (.not (.eq (.var 12) (.lit 0))) (.not (.and (.eq (.var 10) (.var 0)) (.eq (.var 11) (.var 1))))) (.not (.eq (.len (.var 8)) (.len (.var 2)))))
  (.ret [(.lit 0)])
  (.lop 5 [(.num (.lit 0))] 183 (.ite (.lt (.var 13) (.len (.var 8)))
  (.ite (.and (.le (.lit 0) (.var 13)) (.lt (.var 13) (.len (.var 2))))
  (.ite (.or (.not (.eq (.el (.var 8) (.var 13) 0) (.el (.var 2) (.var 13) 0))) (.lt (.el (.var 8) (.var 13) 1) (.lit 0)))
  (.ret [(.lit 0)])
  (.chk 5 13 [(.num (.add (.var 13) (.lit 1)))]))
  .fail)
  (.con 3 [(.num (.var 0)), (.num (.var 1)), (.num (.var 3)), (.num (.var 4))] (.ite (.and (.eq (.var 201) (.lit 0)) (.or (.or (.or (.or (.not (.eq (.wrap .i64 (.add (.wrap .i64 (.add (.var 197) (.var 199))) (.var 3))) (.var 0))) (.not (.eq (.wrap .i64 (.add (.var 198) (.var 200))) (.var 1)))) (.not (.eq (.var 199) (.var 4)))) (.lt (.var 198) (.lit 0))) (.lt (.var 200) (.lit 0))))
  (.ret [(.lit 0)])
  (.con 4 [(.num (.var 5)), (.num (.var 6)), (.num (.var 0)), (.num (.var 1))] (.ite (.or (.and (.and (.not (.eq (.var 206) (.lit 0))) (.and (.eq (.var 204) (.lit 0)) (.eq (.var 205) (.lit 0)))) (.and (.eq (.var 202) (.lit 0)) (.eq (.var 203) (.lit 0)))) (.and (.and (.and (.and (.and (.eq (.var 206) (.lit 0)) (.eq (.var 202) (.var 5))) (.eq (.var 204) (.var 0))) (.eq (.wrap .i64 (.add (.var 203) (.var 205))) (.wrap .i64 (.add (.var 6) (.var 1))))) (.le (.lit 0) (.var 203))) (.le (.lit 0) (.var 205))))
  (.ret [(.lit 1)])
  (.ret [(.lit 0)])))))))))
  (.ite (.lt (.lit 0) (.len (.var 8)))
  (.ret [(.lit 0)])
  (.con 3 [(.num (.var 0)), (.num (.var 1)), (.num (.var 3)), (.num (.var 4))] (.ite (.and (.eq (.var 14) (.lit 0)) (.or (.or (.or (.or (.not (.eq (.wrap .i64 (.add (.wrap .i64 (.add (.var 10) (.var 12))) (.var 3))) (.var 0))) (.not (.eq (.wrap .i64 (.add (.var 11) (.var 13))) (.var 1)))) (.not (.eq (.var 12) (.var 4)))) (.lt (.var 11) (.lit 0))) (.lt (.var 13) (.lit 0))))
  (.ret [(.lit 0)])
  (.con 4 [(.num (.var 5)), (.num (.var 6)), (.num (.var 0)), (.num (.var 1))] (.ite (.or (.and (.and (.not (.eq (.var 19) (.lit 0))) (.and (.eq (.var 17) (.lit 0)) (.eq (.var 18) (.lit 0)))) (.and (.eq (.var 15) (.lit 0)) (.eq (.var 16) (.lit 0)))) (.and (.and (.and (.and (.and (.eq (.var 19) (.lit 0)) (.eq (.var 15) (.var 5))) (.eq (.var 17) (.var 0))) (.eq (.wrap .i64 (.add (.var 16) (.var 18))) (.wrap .i64 (.add (.var 6) (.var 1))))) (.le (.lit 0) (.var 16))) (.le (.lit 0) (.var 18))))
  (.ret [(.lit 1)])
  (.ret [(.lit 0)])))))))))) := by kernel_rfl
end Go.Proofs.Ytalkhponnfggoaa
