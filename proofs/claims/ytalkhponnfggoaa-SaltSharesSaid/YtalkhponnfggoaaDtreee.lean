/- DERIVED. What the executor makes of functions. -/
import Derived.Test.YtalkhponnfggoaaDcone
import Derived.KernelRfl
namespace Go.Proofs.Ytalkhponnfggoaa
open Go.Dx
set_option linter.unusedVariables false
set_option maxRecDepth 100000
theorem tree_shares : runC tb [cSane, cSplit, cLose, cLeach, lShr] 80 (lawCon 7 [.agg wat, .c ints, .c i64s, .c i64s, .agg wat]) = (.con 0 [] (.ite (.eq (.var 7) (.lit 0))
  (.ret [(.lit 0)])
  (.ite (.not (.and (.and (.and (.le (.lit 0) (.var 0)) (.le (.var 0) (.lit 1073741824))) (.and (.le (.lit 0) (.var 1)) (.le (.var 1) (.lit 1073741824)))) (.or (.lt (.lit 0) (.var 0)) (.eq (.var 1) (.lit 0)))))
  (.ret [(.lit 1)])
  (.con 1 [(.num (.var 0)), (.num (.var 1)), (.var 2)] (.lop 4 [(.num (.lit 0))] 172 (.ite (.lt (.var 10) (.len (.var 8)))
  (.ite (.or (.and (.lt (.lit 0) (.var 0)) (.or (.lt (.var 0) (.el (.var 8) (.var 10) 0)) (.not (.and (.lt (.sub (.lit 0) (.var 0)) (.wrap .i64 (.sub (.wrap .i64 (.mul (.el (.var 8) (.var 10) 1) (.var 0))) (.wrap .i64 (.mul (.var 1) (.el (.var 8) (.var 10) 0)))))) (.lt (.wrap .i64 (.sub (.wrap .i64 (.mul (.el (.var 8) (.var 10) 1) (.var 0))) (.wrap .i64 (.mul (.var 1) (.el (.var 8) (.var 10) 0))))) (.var 0)))))) (.and (.eq (.var 0) (.lit 0)) (.not (.eq (.el (.var 8) (.var 10) 1) (.lit 0)))))
  (.ret [(.lit 0)])
  (.chk 4 10 [(.num (.add (.var 10) (.lit 1)))]))
  (.ite (.and (.not (.eq (.var 9) (.lit 0))) (.lt (.lit 0) (.len (.var 8))))
  (.ret [(.lit 0)])
  (.con 2 [(.num (.var 0)), (.num (.var 1)), (.num (.var 3)), (.num (.var 4))] (.ite (.and (.eq (.var 187) (.lit 0)) (.lt (.var 3) (.var 0)))
  (.ite (.or (.or (.lt (.wrap .i64 (.sub (.var 0) (.var 3))) (.var 185)) (.not (.and (.lt (.wrap .i64 (.sub (.lit 0) (.wrap .i64 (.sub (.var 0) (.var 3))))) (.wrap .i64 (.sub (.wrap .i64 (.mul (.var 186) (.wrap .i64 (.sub (.var 0) (.var 3))))) (.wrap .i64 (.mul (.var 1) (.var 185)))))) (.lt (.wrap .i64 (.sub (.wrap .i64 (.mul (.var 186) (.wrap .i64 (.sub (.var 0) (.var 3))))) (.wrap .i64 (.mul (.var 1) (.var 185))))) (.wrap .i64 (.sub (.var 0) (.var 3))))))) (.lt (.wrap .i64 (.mul (.var 1) (.var 185))) (.wrap .i64 (.mul (.var 186) (.wrap .i64 (.sub (.var 0) (.var 3)))))))
  (.ret [(.lit 0)])
  (.con 3 [(.num (.var 5)), (.num (.var 6)), (.num (.var 0)), (.num (.var 1))] (.ite (.eq (.var 192) (.lit 0))
  (.ite (.or (.or (.lt (.wrap .i64 (.add (.var 5) (.var 0))) (.var 190)) (.not (.and (.lt (.wrap .i64 (.sub (.lit 0) (.wrap .i64 (.add (.var 5) (.var 0))))) (.wrap .i64 (.sub (.wrap .i64 (.mul (.var 191) (.wrap .i64 (.add (.var 5) (.var 0))))) (.wrap .i64 (.mul (.wrap .i64 (.add (.var 6) (.var 1))) (.var 190)))))) (.lt (.wrap .i64 (.sub (.wrap .i64 (.mul (.var 191) (.wrap .i64 (.add (.var 5) (.var 0))))) (.wrap .i64 (.mul (.wrap .i64 (.add (.var 6) (.var 1))) (.var 190))))) (.wrap .i64 (.add (.var 5) (.var 0))))))) (.lt (.wrap .i64 (.mul (.wrap .i64 (.add (.var 6) (.var 1))) (.var 190))) (.wrap .i64 (.mul (.var 191) (.wrap .i64 (.add (.var 5) (.var 0)))))))
  (.ret [(.lit 0)])
  (.ret [(.lit 1)]))
  (.ret [(.lit 1)]))))
  (.con 3 [(.num (.var 5)), (.num (.var 6)), (.num (.var 0)), (.num (.var 1))] (.ite (.eq (.var 192) (.lit 0))
  (.ite (.or (.or (.lt (.wrap .i64 (.add (.var 5) (.var 0))) (.var 190)) (.not (.and (.lt (.wrap .i64 (.sub (.lit 0) (.wrap .i64 (.add (.var 5) (.var 0))))) (.wrap .i64 (.sub (.wrap .i64 (.mul (.var 191) (.wrap .i64 (.add (.var 5) (.var 0))))) (.wrap .i64 (.mul (.wrap .i64 (.add (.var 6) (.var 1))) (.var 190)))))) (.lt (.wrap .i64 (.sub (.wrap .i64 (.mul (.var 191) (.wrap .i64 (.add (.var 5) (.var 0))))) (.wrap .i64 (.mul (.wrap .i64 (.add (.var 6) (.var 1))) (.var 190))))) (.wrap .i64 (.add (.var 5) (.var 0))))))) (.lt (.wrap .i64 (.mul (.wrap .i64 (.add (.var 6) (.var 1))) (.var 190))) (.wrap .i64 (.mul (.var 191) (.wrap .i64 (.add (.var 5) (.var 0)))))))
  (.ret [(.lit 0)])
  (.ret [(.lit 1)]))
  (.ret [(.lit 1)])))))))))))) := by kernel_rfl
end Go.Proofs.Ytalkhponnfggoaa
