/- DERIVED. What the executor makes of functions. -/
import Derived.Test.YtalkhponnfggoaaDcon
import Derived.KernelRfl
namespace Go.Proofs.Ytalkhponnfggoaa
open Go.Dx
set_option linter.unusedVariables false
set_option maxRecDepth 100000
theorem tree_mixR : runC tb [lMR] 80 cMixR = (.ite (.lt (.lit 64) (.len (.var 0)))
  (.ret [(.num (.lit 0)), (.num (.lit 0)), (.num (.lit 2))])
  (.lop 0 [(.num (.lit 0)), (.num (.lit 0)), (.num (.lit 0))] 51 (.ite (.lt (.var 1) (.len (.var 0)))
  (.ite (.not (.and (.and (.and (.le (.lit 0) (.el (.var 0) (.var 1) 0)) (.le (.el (.var 0) (.var 1) 0) (.lit 1073741824))) (.and (.le (.lit 0) (.el (.var 0) (.var 1) 1)) (.le (.el (.var 0) (.var 1) 1) (.lit 1073741824)))) (.or (.lt (.lit 0) (.el (.var 0) (.var 1) 0)) (.eq (.el (.var 0) (.var 1) 1) (.lit 0)))))
  (.ret [(.num (.lit 0)), (.num (.lit 0)), (.num (.lit 430))])
  (.ite (.and (.le (.lit 0) (.num (.add (.var 2) (.el (.var 0) (.var 1) 0)))) (.le (.num (.add (.var 2) (.el (.var 0) (.var 1) 0))) (.lit 68719476736)))
  (.ite (.and (.le (.lit 0) (.num (.add (.var 3) (.el (.var 0) (.var 1) 1)))) (.le (.num (.add (.var 3) (.el (.var 0) (.var 1) 1))) (.lit 68719476736)))
  (.chk 0 1 [(.num (.add (.var 1) (.lit 1))), (.num (.add (.var 2) (.el (.var 0) (.var 1) 0))), (.num (.add (.var 3) (.el (.var 0) (.var 1) 1)))])
  .fail)
  .fail))
  (.ite (.or (.lt (.lit 1073741824) (.var 2)) (.lt (.lit 1073741824) (.var 3)))
  (.ret [(.num (.lit 0)), (.num (.lit 0)), (.num (.lit 430))])
  (.ret [(.num (.var 2)), (.num (.var 3)), (.num (.lit 0))]))))) := by kernel_rfl
theorem tree_mix : runC tb [lIx, lSum] 80 cMix = (.ite (.lt (.lit 64) (.len (.var 0)))
  (.ret [(.num (.lit 0)), (.num (.lit 0)), (.num (.lit 2))])
  (.lop 0 [(.num (.lit 0))] 19 (.ite (.lt (.var 1) (.len (.var 0)))
  (.ite (.not (.and (.and (.and (.le (.lit 0) (.el (.var 0) (.var 1) 0)) (.le (.el (.var 0) (.var 1) 0) (.lit 1073741824))) (.and (.le (.lit 0) (.el (.var 0) (.var 1) 1)) (.le (.el (.var 0) (.var 1) 1) (.lit 1073741824)))) (.or (.lt (.lit 0) (.el (.var 0) (.var 1) 0)) (.eq (.el (.var 0) (.var 1) 1) (.lit 0)))))
  (.ret [(.num (.lit 0)), (.num (.lit 0)), (.num (.lit 430))])
  (.chk 0 1 [(.num (.add (.var 1) (.lit 1)))]))
  (.lop 1 [(.num (.lit 0)), (.num (.lit 0)), (.num (.lit 0))] 25 (.ite (.lt (.var 21) (.len (.var 0)))
  (.ite (.and (.le (.lit 0) (.num (.wrap .i64 (.add (.var 22) (.el (.var 0) (.var 21) 0))))) (.le (.num (.wrap .i64 (.add (.var 22) (.el (.var 0) (.var 21) 0)))) (.lit 68719476736)))
  (.ite (.and (.le (.lit 0) (.num (.wrap .i64 (.add (.var 23) (.el (.var 0) (.var 21) 1))))) (.le (.num (.wrap .i64 (.add (.var 23) (.el (.var 0) (.var 21) 1)))) (.lit 68719476736)))
  (.chk 1 21 [(.num (.add (.var 21) (.lit 1))), (.num (.wrap .i64 (.add (.var 22) (.el (.var 0) (.var 21) 0)))), (.num (.wrap .i64 (.add (.var 23) (.el (.var 0) (.var 21) 1))))])
  .fail)
  .fail)
  (.ite (.not (.and (.and (.le (.var 22) (.lit 1073741824)) (.le (.var 23) (.lit 1073741824))) (.or (.lt (.lit 0) (.var 22)) (.eq (.var 23) (.lit 0)))))
  (.ret [(.num (.lit 0)), (.num (.lit 0)), (.num (.lit 430))])
  (.ret [(.num (.var 22)), (.num (.var 23)), (.num (.lit 0))]))))))) := by kernel_rfl
theorem tree_lose : runC tb [] 80 cLose = (.ite (.not (.and (.and (.and (.le (.lit 0) (.var 0)) (.le (.var 0) (.lit 1073741824))) (.and (.le (.lit 0) (.var 1)) (.le (.var 1) (.lit 1073741824)))) (.or (.lt (.lit 0) (.var 0)) (.eq (.var 1) (.lit 0)))))
  (.ret [(.num (.lit 0)), (.num (.lit 0)), (.num (.lit 0)), (.num (.lit 0)), (.num (.lit 430))])
  (.ite (.or (.not (.and (.le (.lit 0) (.var 2)) (.le (.var 2) (.var 0)))) (.not (.and (.le (.lit 0) (.var 3)) (.le (.var 3) (.sub (.var 0) (.var 2))))))
  (.ret [(.num (.lit 0)), (.num (.lit 0)), (.num (.lit 0)), (.num (.lit 0)), (.num (.lit 1))])
  (.ite (.and (.eq (.var 2) (.var 0)) (.lt (.lit 0) (.var 1)))
  (.ret [(.num (.lit 0)), (.num (.lit 0)), (.num (.lit 0)), (.num (.lit 0)), (.num (.lit 430))])
  (.ite (.lt (.lit 0) (.sub (.var 0) (.var 2)))
  (.ret [(.num (.sub (.sub (.var 0) (.var 2)) (.var 3))), (.num (.sub (.var 1) (.quo (.mul (.var 1) (.var 3)) (.sub (.var 0) (.var 2))))), (.num (.var 3)), (.num (.quo (.mul (.var 1) (.var 3)) (.sub (.var 0) (.var 2)))), (.num (.lit 0))])
  (.ret [(.num (.sub (.sub (.var 0) (.var 2)) (.var 3))), (.num (.var 1)), (.num (.var 3)), (.num (.lit 0)), (.num (.lit 0))]))))) := by kernel_rfl
theorem tree_loseR : runC tb [] 80 cLoseR = (.ite (.not (.and (.and (.and (.le (.lit 0) (.var 0)) (.le (.var 0) (.lit 1073741824))) (.and (.le (.lit 0) (.var 1)) (.le (.var 1) (.lit 1073741824)))) (.or (.lt (.lit 0) (.var 0)) (.eq (.var 1) (.lit 0)))))
  (.ret [(.num (.lit 0)), (.num (.lit 0)), (.num (.lit 0)), (.num (.lit 0)), (.num (.lit 430))])
  (.ite (.or (.not (.and (.le (.lit 0) (.var 2)) (.le (.var 2) (.var 0)))) (.not (.and (.le (.lit 0) (.var 3)) (.le (.var 3) (.sub (.var 0) (.var 2))))))
  (.ret [(.num (.lit 0)), (.num (.lit 0)), (.num (.lit 0)), (.num (.lit 0)), (.num (.lit 1))])
  (.ite (.eq (.sub (.var 0) (.var 2)) (.lit 0))
  (.ite (.lt (.lit 0) (.var 1))
  (.ret [(.num (.lit 0)), (.num (.lit 0)), (.num (.lit 0)), (.num (.lit 0)), (.num (.lit 430))])
  (.ret [(.num (.lit 0)), (.num (.lit 0)), (.num (.lit 0)), (.num (.lit 0)), (.num (.lit 0))]))
  (.ret [(.num (.sub (.sub (.var 0) (.var 2)) (.var 3))), (.num (.sub (.var 1) (.quo (.mul (.var 1) (.var 3)) (.sub (.var 0) (.var 2))))), (.num (.var 3)), (.num (.quo (.mul (.var 1) (.var 3)) (.sub (.var 0) (.var 2)))), (.num (.lit 0))])))) := by kernel_rfl
theorem tree_leach : runC tb [] 80 cLeach = (.ite (.or (.not (.and (.and (.le (.lit 1) (.var 0)) (.le (.var 0) (.lit 1073741824))) (.and (.le (.lit 0) (.var 1)) (.le (.var 1) (.lit 1073741824))))) (.not (.and (.and (.and (.le (.lit 0) (.var 2)) (.le (.var 2) (.lit 1073741824))) (.and (.le (.lit 0) (.var 3)) (.le (.var 3) (.lit 1073741824)))) (.or (.lt (.lit 0) (.var 2)) (.eq (.var 3) (.lit 0))))))
  (.ret [(.num (.lit 0)), (.num (.lit 0)), (.num (.lit 0)), (.num (.lit 0)), (.num (.lit 430))])
  (.ite (.not (.and (.le (.add (.var 2) (.var 0)) (.lit 1073741824)) (.le (.add (.var 3) (.var 1)) (.lit 1073741824))))
  (.ret [(.num (.lit 0)), (.num (.lit 0)), (.num (.lit 0)), (.num (.lit 0)), (.num (.lit 430))])
  (.ret [(.num (.var 0)), (.num (.sub (.add (.var 3) (.var 1)) (.quo (.mul (.add (.var 3) (.var 1)) (.var 2)) (.add (.var 2) (.var 0))))), (.num (.var 2)), (.num (.quo (.mul (.add (.var 3) (.var 1)) (.var 2)) (.add (.var 2) (.var 0)))), (.num (.lit 0))]))) := by kernel_rfl
theorem tree_leachR : runC tb [] 80 cLeachR = (.ite (.or (.or (.or (.or (.not (.and (.le (.lit 1) (.var 0)) (.le (.var 0) (.lit 1073741824)))) (.not (.and (.le (.lit 0) (.var 1)) (.le (.var 1) (.lit 1073741824))))) (.not (.and (.and (.and (.le (.lit 0) (.var 2)) (.le (.var 2) (.lit 1073741824))) (.and (.le (.lit 0) (.var 3)) (.le (.var 3) (.lit 1073741824)))) (.or (.lt (.lit 0) (.var 2)) (.eq (.var 3) (.lit 0)))))) (.lt (.lit 1073741824) (.add (.var 0) (.var 2)))) (.lt (.lit 1073741824) (.add (.var 1) (.var 3))))
  (.ret [(.num (.lit 0)), (.num (.lit 0)), (.num (.lit 0)), (.num (.lit 0)), (.num (.lit 430))])
  (.ret [(.num (.var 0)), (.num (.sub (.add (.var 1) (.var 3)) (.quo (.mul (.add (.var 1) (.var 3)) (.var 2)) (.add (.var 0) (.var 2))))), (.num (.var 2)), (.num (.quo (.mul (.add (.var 1) (.var 3)) (.var 2)) (.add (.var 0) (.var 2)))), (.num (.lit 0))])) := by kernel_rfl
theorem tree_same : runC tb [lSame] 80 cSame = (.ite (.not (.eq (.len (.var 0)) (.len (.var 1))))
  (.ret [(.lit 0)])
  (.lop 0 [(.num (.lit 0))] 26 (.ite (.lt (.var 2) (.len (.var 0)))
  (.ite (.and (.le (.lit 0) (.var 2)) (.lt (.var 2) (.len (.var 1))))
  (.ite (.not (.and (.eq (.el (.var 0) (.var 2) 0) (.el (.var 1) (.var 2) 0)) (.eq (.el (.var 0) (.var 2) 1) (.el (.var 1) (.var 2) 1))))
  (.ret [(.lit 0)])
  (.chk 0 2 [(.num (.add (.var 2) (.lit 1)))]))
  .fail)
  (.ret [(.lit 1)])))) := by kernel_rfl
theorem tree_spec : runC tb [cSane, cMix, cMixR, cLose, cLoseR] 80 (lawCon 3 [.c wats, .agg wat, .c i64s, .c i64s]) = (.con 0 [] (.ite (.eq (.var 5) (.lit 0))
  (.ret [(.lit 0)])
  (.ite (.lt (.lit 200) (.len (.var 0)))
  (.ret [(.lit 1)])
  (.con 1 [(.var 0)] (.con 2 [(.var 0)] (.con 3 [(.num (.var 1)), (.num (.var 2)), (.num (.var 3)), (.num (.var 4))] (.con 4 [(.num (.var 1)), (.num (.var 2)), (.num (.var 3)), (.num (.var 4))] (.ite (.and (.and (.and (.and (.and (.eq (.var 6) (.var 9)) (.eq (.var 7) (.var 10))) (.eq (.var 8) (.var 11))) (.and (.eq (.var 12) (.var 17)) (.eq (.var 13) (.var 18)))) (.and (.eq (.var 14) (.var 19)) (.eq (.var 15) (.var 20)))) (.eq (.var 16) (.var 21)))
  (.ret [(.lit 1)])
  (.ret [(.lit 0)]))))))))) := by kernel_rfl
end Go.Proofs.Ytalkhponnfggoaa
