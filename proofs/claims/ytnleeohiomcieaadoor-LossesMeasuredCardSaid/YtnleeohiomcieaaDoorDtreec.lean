/- DERIVED. What the executor makes of functions. -/
import Derived.Test.YtnleeohiomcieaaDoorDconc
import Derived.KernelRfl
namespace Go.Proofs.YtnleeohiomcieaaDoor
open Go.Dx
set_option linter.unusedVariables false
set_option maxRecDepth 100000
theorem tree_seep0 : runC tb [cIsS, cMk 43, lSp] 80 (cSeepN 15 0 0) = (.ite (.or (.lt (.lit 16) (.len (.var 6))) (.lt (.lit 16) (.len (.var 7))))
  (.ret [(.num (.lit 0)), (.num (.lit 0)), (.num (.lit 0)), (.num (.lit 0)), (.num (.lit 2))])
  (.con 0 [(.num (.var 0)), (.num (.var 1)), (.num (.var 2)), (.num (.var 3)), (.num (.var 4)), (.num (.var 5)), (.var 6), (.var 7)] (.ite (.eq (.var 9) (.lit 0))
  (.ret [(.num (.lit 0)), (.num (.lit 0)), (.num (.lit 0)), (.num (.lit 0)), (.num (.lit 210))])
  (.ite (.or (.lt (.var 8) (.lit 1)) (.lt (.lit 16) (.var 8)))
  (.ret [(.num (.lit 0)), (.num (.lit 0)), (.num (.lit 0)), (.num (.lit 0)), (.num (.lit 1))])
  (.lop 2 [(.num (.lit 0)), (.num (.mul (.lit 0) (.var 8))), (.num (.mul (.lit 64) (.var 8)))] 16 (.ite (.lt (.var 10) (.len (.var 7)))
  (.ite (.eq (.wrap .i64 (.mul (.el (.var 7) (.var 10) 0) (.el (.var 7) (.var 10) 1))) (.lit 0))
  .fail
  (.ite (.eq (.wrap .i64 (.mul (.el (.var 7) (.var 10) 0) (.el (.var 7) (.var 10) 1))) (.lit 0))
  .fail
  (.chk 2 10 [(.num (.add (.var 10) (.lit 1))), (.num (.max (.var 11) (.wrap .i64 (.quo (.wrap .i64 (.mul (.wrap .i64 (.mul (.lit 1048576) (.el (.var 7) (.var 10) 2))) (.var 8))) (.wrap .i64 (.mul (.el (.var 7) (.var 10) 0) (.el (.var 7) (.var 10) 1))))))), (.num (.min (.var 12) (.wrap .i64 (.quo (.wrap .i64 (.sub (.wrap .i64 (.add (.wrap .i64 (.mul (.wrap .i64 (.mul (.lit 1048576) (.el (.var 7) (.var 10) 3))) (.var 8))) (.wrap .i64 (.mul (.el (.var 7) (.var 10) 0) (.el (.var 7) (.var 10) 1))))) (.lit 1))) (.wrap .i64 (.mul (.el (.var 7) (.var 10) 0) (.el (.var 7) (.var 10) 1)))))))])))
  (.ite (.lt (.min (.var 12) (.lit 1048576)) (.min (.var 11) (.lit 1048576)))
  (.ret [(.num (.lit 0)), (.num (.lit 0)), (.num (.lit 0)), (.num (.lit 0)), (.num (.lit 210))])
  (.ite (.and (.le (.lit 0) (.num (.min (.var 11) (.lit 1048576)))) (.le (.num (.min (.var 11) (.lit 1048576))) (.lit 1048576)))
  (.con 1 [(.num (.min (.var 11) (.lit 1048576))), (.num (.lit 1048576))] (.ite (.and (.le (.lit 0) (.num (.min (.var 12) (.lit 1048576)))) (.le (.num (.min (.var 12) (.lit 1048576))) (.lit 1048576)))
  (.con 1 [(.num (.min (.var 12) (.lit 1048576))), (.num (.lit 1048576))] (.ret [(.num (.var 29)), (.num (.var 30)), (.num (.var 32)), (.num (.var 33)), (.num (.lit 0))]))
  .fail))
  .fail)))))))) := by kernel_rfl
theorem tree_seep1 : runC tb [cIsS, cMk 43, lSp] 80 (cSeepN 15 1 1) = (.ite (.or (.lt (.lit 16) (.len (.var 6))) (.lt (.lit 16) (.len (.var 7))))
  (.ret [(.num (.lit 0)), (.num (.lit 0)), (.num (.lit 0)), (.num (.lit 0)), (.num (.lit 2))])
  (.con 0 [(.num (.var 0)), (.num (.var 1)), (.num (.var 2)), (.num (.var 3)), (.num (.var 4)), (.num (.var 5)), (.var 6), (.var 7)] (.ite (.eq (.var 9) (.lit 0))
  (.ret [(.num (.lit 0)), (.num (.lit 0)), (.num (.lit 0)), (.num (.lit 0)), (.num (.lit 210))])
  (.ite (.or (.lt (.var 8) (.lit 1)) (.lt (.lit 16) (.var 8)))
  (.ret [(.num (.lit 0)), (.num (.lit 0)), (.num (.lit 0)), (.num (.lit 0)), (.num (.lit 1))])
  (.lop 2 [(.num (.lit 0)), (.num (.mul (.lit 64) (.var 8))), (.num (.mul (.lit 512) (.var 8)))] 16 (.ite (.lt (.var 10) (.len (.var 7)))
  (.ite (.eq (.wrap .i64 (.mul (.el (.var 7) (.var 10) 0) (.el (.var 7) (.var 10) 1))) (.lit 0))
  .fail
  (.ite (.eq (.wrap .i64 (.mul (.el (.var 7) (.var 10) 0) (.el (.var 7) (.var 10) 1))) (.lit 0))
  .fail
  (.chk 2 10 [(.num (.add (.var 10) (.lit 1))), (.num (.max (.var 11) (.wrap .i64 (.quo (.wrap .i64 (.mul (.wrap .i64 (.mul (.lit 1048576) (.el (.var 7) (.var 10) 2))) (.var 8))) (.wrap .i64 (.mul (.el (.var 7) (.var 10) 0) (.el (.var 7) (.var 10) 1))))))), (.num (.min (.var 12) (.wrap .i64 (.quo (.wrap .i64 (.sub (.wrap .i64 (.add (.wrap .i64 (.mul (.wrap .i64 (.mul (.lit 1048576) (.el (.var 7) (.var 10) 3))) (.var 8))) (.wrap .i64 (.mul (.el (.var 7) (.var 10) 0) (.el (.var 7) (.var 10) 1))))) (.lit 1))) (.wrap .i64 (.mul (.el (.var 7) (.var 10) 0) (.el (.var 7) (.var 10) 1)))))))])))
  (.ite (.lt (.min (.var 12) (.lit 1048576)) (.min (.var 11) (.lit 1048576)))
  (.ret [(.num (.lit 0)), (.num (.lit 0)), (.num (.lit 0)), (.num (.lit 0)), (.num (.lit 210))])
  (.ite (.and (.le (.lit 0) (.num (.min (.var 11) (.lit 1048576)))) (.le (.num (.min (.var 11) (.lit 1048576))) (.lit 1048576)))
  (.con 1 [(.num (.min (.var 11) (.lit 1048576))), (.num (.lit 1048576))] (.ite (.and (.le (.lit 0) (.num (.min (.var 12) (.lit 1048576)))) (.le (.num (.min (.var 12) (.lit 1048576))) (.lit 1048576)))
  (.con 1 [(.num (.min (.var 12) (.lit 1048576))), (.num (.lit 1048576))] (.ret [(.num (.var 29)), (.num (.var 30)), (.num (.var 32)), (.num (.var 33)), (.num (.lit 0))]))
  .fail))
  .fail)))))))) := by kernel_rfl
theorem tree_seep2 : runC tb [cIsS, cMk 43, lSp] 80 (cSeepN 15 2 2) = (.ite (.or (.lt (.lit 16) (.len (.var 6))) (.lt (.lit 16) (.len (.var 7))))
  (.ret [(.num (.lit 0)), (.num (.lit 0)), (.num (.lit 0)), (.num (.lit 0)), (.num (.lit 2))])
  (.con 0 [(.num (.var 0)), (.num (.var 1)), (.num (.var 2)), (.num (.var 3)), (.num (.var 4)), (.num (.var 5)), (.var 6), (.var 7)] (.ite (.eq (.var 9) (.lit 0))
  (.ret [(.num (.lit 0)), (.num (.lit 0)), (.num (.lit 0)), (.num (.lit 0)), (.num (.lit 210))])
  (.ite (.or (.lt (.var 8) (.lit 1)) (.lt (.lit 16) (.var 8)))
  (.ret [(.num (.lit 0)), (.num (.lit 0)), (.num (.lit 0)), (.num (.lit 0)), (.num (.lit 1))])
  (.lop 2 [(.num (.lit 0)), (.num (.mul (.lit 256) (.var 8))), (.num (.mul (.lit 1024) (.var 8)))] 16 (.ite (.lt (.var 10) (.len (.var 7)))
  (.ite (.eq (.wrap .i64 (.mul (.el (.var 7) (.var 10) 0) (.el (.var 7) (.var 10) 1))) (.lit 0))
  .fail
  (.ite (.eq (.wrap .i64 (.mul (.el (.var 7) (.var 10) 0) (.el (.var 7) (.var 10) 1))) (.lit 0))
  .fail
  (.chk 2 10 [(.num (.add (.var 10) (.lit 1))), (.num (.max (.var 11) (.wrap .i64 (.quo (.wrap .i64 (.mul (.wrap .i64 (.mul (.lit 1048576) (.el (.var 7) (.var 10) 2))) (.var 8))) (.wrap .i64 (.mul (.el (.var 7) (.var 10) 0) (.el (.var 7) (.var 10) 1))))))), (.num (.min (.var 12) (.wrap .i64 (.quo (.wrap .i64 (.sub (.wrap .i64 (.add (.wrap .i64 (.mul (.wrap .i64 (.mul (.lit 1048576) (.el (.var 7) (.var 10) 3))) (.var 8))) (.wrap .i64 (.mul (.el (.var 7) (.var 10) 0) (.el (.var 7) (.var 10) 1))))) (.lit 1))) (.wrap .i64 (.mul (.el (.var 7) (.var 10) 0) (.el (.var 7) (.var 10) 1)))))))])))
  (.ite (.lt (.min (.var 12) (.lit 1048576)) (.min (.var 11) (.lit 1048576)))
  (.ret [(.num (.lit 0)), (.num (.lit 0)), (.num (.lit 0)), (.num (.lit 0)), (.num (.lit 210))])
  (.ite (.and (.le (.lit 0) (.num (.min (.var 11) (.lit 1048576)))) (.le (.num (.min (.var 11) (.lit 1048576))) (.lit 1048576)))
  (.con 1 [(.num (.min (.var 11) (.lit 1048576))), (.num (.lit 1048576))] (.ite (.and (.le (.lit 0) (.num (.min (.var 12) (.lit 1048576)))) (.le (.num (.min (.var 12) (.lit 1048576))) (.lit 1048576)))
  (.con 1 [(.num (.min (.var 12) (.lit 1048576))), (.num (.lit 1048576))] (.ret [(.num (.var 29)), (.num (.var 30)), (.num (.var 32)), (.num (.var 33)), (.num (.lit 0))]))
  .fail))
  .fail)))))))) := by kernel_rfl
theorem tree_seep3 : runC tb [cIsS, cMk 43, lSp] 80 (cSeepN 15 3 3) = (.ite (.or (.lt (.lit 16) (.len (.var 6))) (.lt (.lit 16) (.len (.var 7))))
  (.ret [(.num (.lit 0)), (.num (.lit 0)), (.num (.lit 0)), (.num (.lit 0)), (.num (.lit 2))])
  (.con 0 [(.num (.var 0)), (.num (.var 1)), (.num (.var 2)), (.num (.var 3)), (.num (.var 4)), (.num (.var 5)), (.var 6), (.var 7)] (.ite (.eq (.var 9) (.lit 0))
  (.ret [(.num (.lit 0)), (.num (.lit 0)), (.num (.lit 0)), (.num (.lit 0)), (.num (.lit 210))])
  (.ite (.or (.lt (.var 8) (.lit 1)) (.lt (.lit 16) (.var 8)))
  (.ret [(.num (.lit 0)), (.num (.lit 0)), (.num (.lit 0)), (.num (.lit 0)), (.num (.lit 1))])
  (.lop 2 [(.num (.lit 0)), (.num (.mul (.lit 512) (.var 8))), (.num (.mul (.lit 2048) (.var 8)))] 16 (.ite (.lt (.var 10) (.len (.var 7)))
  (.ite (.eq (.wrap .i64 (.mul (.el (.var 7) (.var 10) 0) (.el (.var 7) (.var 10) 1))) (.lit 0))
  .fail
  (.ite (.eq (.wrap .i64 (.mul (.el (.var 7) (.var 10) 0) (.el (.var 7) (.var 10) 1))) (.lit 0))
  .fail
  (.chk 2 10 [(.num (.add (.var 10) (.lit 1))), (.num (.max (.var 11) (.wrap .i64 (.quo (.wrap .i64 (.mul (.wrap .i64 (.mul (.lit 1048576) (.el (.var 7) (.var 10) 2))) (.var 8))) (.wrap .i64 (.mul (.el (.var 7) (.var 10) 0) (.el (.var 7) (.var 10) 1))))))), (.num (.min (.var 12) (.wrap .i64 (.quo (.wrap .i64 (.sub (.wrap .i64 (.add (.wrap .i64 (.mul (.wrap .i64 (.mul (.lit 1048576) (.el (.var 7) (.var 10) 3))) (.var 8))) (.wrap .i64 (.mul (.el (.var 7) (.var 10) 0) (.el (.var 7) (.var 10) 1))))) (.lit 1))) (.wrap .i64 (.mul (.el (.var 7) (.var 10) 0) (.el (.var 7) (.var 10) 1)))))))])))
  (.ite (.lt (.min (.var 12) (.lit 1048576)) (.min (.var 11) (.lit 1048576)))
  (.ret [(.num (.lit 0)), (.num (.lit 0)), (.num (.lit 0)), (.num (.lit 0)), (.num (.lit 210))])
  (.ite (.and (.le (.lit 0) (.num (.min (.var 11) (.lit 1048576)))) (.le (.num (.min (.var 11) (.lit 1048576))) (.lit 1048576)))
  (.con 1 [(.num (.min (.var 11) (.lit 1048576))), (.num (.lit 1048576))] (.ite (.and (.le (.lit 0) (.num (.min (.var 12) (.lit 1048576)))) (.le (.num (.min (.var 12) (.lit 1048576))) (.lit 1048576)))
  (.con 1 [(.num (.min (.var 12) (.lit 1048576))), (.num (.lit 1048576))] (.ret [(.num (.var 29)), (.num (.var 30)), (.num (.var 32)), (.num (.var 33)), (.num (.lit 0))]))
  .fail))
  .fail)))))))) := by kernel_rfl
theorem tree_seep4 : runC tb [cIsS, cMk 43, lSp] 80 (cSeepN 15 4 4) = (.ite (.or (.lt (.lit 16) (.len (.var 6))) (.lt (.lit 16) (.len (.var 7))))
  (.ret [(.num (.lit 0)), (.num (.lit 0)), (.num (.lit 0)), (.num (.lit 0)), (.num (.lit 2))])
  (.con 0 [(.num (.var 0)), (.num (.var 1)), (.num (.var 2)), (.num (.var 3)), (.num (.var 4)), (.num (.var 5)), (.var 6), (.var 7)] (.ite (.eq (.var 9) (.lit 0))
  (.ret [(.num (.lit 0)), (.num (.lit 0)), (.num (.lit 0)), (.num (.lit 0)), (.num (.lit 210))])
  (.ite (.or (.lt (.var 8) (.lit 1)) (.lt (.lit 16) (.var 8)))
  (.ret [(.num (.lit 0)), (.num (.lit 0)), (.num (.lit 0)), (.num (.lit 0)), (.num (.lit 1))])
  (.lop 2 [(.num (.lit 0)), (.num (.mul (.lit 1024) (.var 8))), (.num (.mul (.lit 4096) (.var 8)))] 16 (.ite (.lt (.var 10) (.len (.var 7)))
  (.ite (.eq (.wrap .i64 (.mul (.el (.var 7) (.var 10) 0) (.el (.var 7) (.var 10) 1))) (.lit 0))
  .fail
  (.ite (.eq (.wrap .i64 (.mul (.el (.var 7) (.var 10) 0) (.el (.var 7) (.var 10) 1))) (.lit 0))
  .fail
  (.chk 2 10 [(.num (.add (.var 10) (.lit 1))), (.num (.max (.var 11) (.wrap .i64 (.quo (.wrap .i64 (.mul (.wrap .i64 (.mul (.lit 1048576) (.el (.var 7) (.var 10) 2))) (.var 8))) (.wrap .i64 (.mul (.el (.var 7) (.var 10) 0) (.el (.var 7) (.var 10) 1))))))), (.num (.min (.var 12) (.wrap .i64 (.quo (.wrap .i64 (.sub (.wrap .i64 (.add (.wrap .i64 (.mul (.wrap .i64 (.mul (.lit 1048576) (.el (.var 7) (.var 10) 3))) (.var 8))) (.wrap .i64 (.mul (.el (.var 7) (.var 10) 0) (.el (.var 7) (.var 10) 1))))) (.lit 1))) (.wrap .i64 (.mul (.el (.var 7) (.var 10) 0) (.el (.var 7) (.var 10) 1)))))))])))
  (.ite (.lt (.min (.var 12) (.lit 1048576)) (.min (.var 11) (.lit 1048576)))
  (.ret [(.num (.lit 0)), (.num (.lit 0)), (.num (.lit 0)), (.num (.lit 0)), (.num (.lit 210))])
  (.ite (.and (.le (.lit 0) (.num (.min (.var 11) (.lit 1048576)))) (.le (.num (.min (.var 11) (.lit 1048576))) (.lit 1048576)))
  (.con 1 [(.num (.min (.var 11) (.lit 1048576))), (.num (.lit 1048576))] (.ite (.and (.le (.lit 0) (.num (.min (.var 12) (.lit 1048576)))) (.le (.num (.min (.var 12) (.lit 1048576))) (.lit 1048576)))
  (.con 1 [(.num (.min (.var 12) (.lit 1048576))), (.num (.lit 1048576))] (.ret [(.num (.var 29)), (.num (.var 30)), (.num (.var 32)), (.num (.var 33)), (.num (.lit 0))]))
  .fail))
  .fail)))))))) := by kernel_rfl
theorem tree_seep5 : runC tb [cIsS, cMk 43, lSp] 80 (cSeepN 15 5 5) = (.ite (.or (.lt (.lit 16) (.len (.var 6))) (.lt (.lit 16) (.len (.var 7))))
  (.ret [(.num (.lit 0)), (.num (.lit 0)), (.num (.lit 0)), (.num (.lit 0)), (.num (.lit 2))])
  (.con 0 [(.num (.var 0)), (.num (.var 1)), (.num (.var 2)), (.num (.var 3)), (.num (.var 4)), (.num (.var 5)), (.var 6), (.var 7)] (.ite (.eq (.var 9) (.lit 0))
  (.ret [(.num (.lit 0)), (.num (.lit 0)), (.num (.lit 0)), (.num (.lit 0)), (.num (.lit 210))])
  (.ite (.or (.lt (.var 8) (.lit 1)) (.lt (.lit 16) (.var 8)))
  (.ret [(.num (.lit 0)), (.num (.lit 0)), (.num (.lit 0)), (.num (.lit 0)), (.num (.lit 1))])
  (.lop 2 [(.num (.lit 0)), (.num (.mul (.lit 2048) (.var 8))), (.num (.mul (.lit 16384) (.var 8)))] 16 (.ite (.lt (.var 10) (.len (.var 7)))
  (.ite (.eq (.wrap .i64 (.mul (.el (.var 7) (.var 10) 0) (.el (.var 7) (.var 10) 1))) (.lit 0))
  .fail
  (.ite (.eq (.wrap .i64 (.mul (.el (.var 7) (.var 10) 0) (.el (.var 7) (.var 10) 1))) (.lit 0))
  .fail
  (.chk 2 10 [(.num (.add (.var 10) (.lit 1))), (.num (.max (.var 11) (.wrap .i64 (.quo (.wrap .i64 (.mul (.wrap .i64 (.mul (.lit 1048576) (.el (.var 7) (.var 10) 2))) (.var 8))) (.wrap .i64 (.mul (.el (.var 7) (.var 10) 0) (.el (.var 7) (.var 10) 1))))))), (.num (.min (.var 12) (.wrap .i64 (.quo (.wrap .i64 (.sub (.wrap .i64 (.add (.wrap .i64 (.mul (.wrap .i64 (.mul (.lit 1048576) (.el (.var 7) (.var 10) 3))) (.var 8))) (.wrap .i64 (.mul (.el (.var 7) (.var 10) 0) (.el (.var 7) (.var 10) 1))))) (.lit 1))) (.wrap .i64 (.mul (.el (.var 7) (.var 10) 0) (.el (.var 7) (.var 10) 1)))))))])))
  (.ite (.lt (.min (.var 12) (.lit 1048576)) (.min (.var 11) (.lit 1048576)))
  (.ret [(.num (.lit 0)), (.num (.lit 0)), (.num (.lit 0)), (.num (.lit 0)), (.num (.lit 210))])
  (.ite (.and (.le (.lit 0) (.num (.min (.var 11) (.lit 1048576)))) (.le (.num (.min (.var 11) (.lit 1048576))) (.lit 1048576)))
  (.con 1 [(.num (.min (.var 11) (.lit 1048576))), (.num (.lit 1048576))] (.ite (.and (.le (.lit 0) (.num (.min (.var 12) (.lit 1048576)))) (.le (.num (.min (.var 12) (.lit 1048576))) (.lit 1048576)))
  (.con 1 [(.num (.min (.var 12) (.lit 1048576))), (.num (.lit 1048576))] (.ret [(.num (.var 29)), (.num (.var 30)), (.num (.var 32)), (.num (.var 33)), (.num (.lit 0))]))
  .fail))
  .fail)))))))) := by kernel_rfl
theorem tree_seep6 : runC tb [cIsS, cMk 43, lSp] 80 (cSeepN 15 6 9223372036854775807) = (.ite (.or (.lt (.lit 16) (.len (.var 6))) (.lt (.lit 16) (.len (.var 7))))
  (.ret [(.num (.lit 0)), (.num (.lit 0)), (.num (.lit 0)), (.num (.lit 0)), (.num (.lit 2))])
  (.con 0 [(.num (.var 0)), (.num (.var 1)), (.num (.var 2)), (.num (.var 3)), (.num (.var 4)), (.num (.var 5)), (.var 6), (.var 7)] (.ite (.eq (.var 9) (.lit 0))
  (.ret [(.num (.lit 0)), (.num (.lit 0)), (.num (.lit 0)), (.num (.lit 0)), (.num (.lit 210))])
  (.ite (.or (.lt (.var 8) (.lit 1)) (.lt (.lit 16) (.var 8)))
  (.ret [(.num (.lit 0)), (.num (.lit 0)), (.num (.lit 0)), (.num (.lit 0)), (.num (.lit 1))])
  .fail)))) := by kernel_rfl
theorem tree_seep7 : runC tb [cIsS, cMk 43, lSp] 80 (cSeepN 15 (-9223372036854775808) (-1)) = (.ite (.or (.lt (.lit 16) (.len (.var 6))) (.lt (.lit 16) (.len (.var 7))))
  (.ret [(.num (.lit 0)), (.num (.lit 0)), (.num (.lit 0)), (.num (.lit 0)), (.num (.lit 2))])
  (.con 0 [(.num (.var 0)), (.num (.var 1)), (.num (.var 2)), (.num (.var 3)), (.num (.var 4)), (.num (.var 5)), (.var 6), (.var 7)] (.ite (.eq (.var 9) (.lit 0))
  (.ret [(.num (.lit 0)), (.num (.lit 0)), (.num (.lit 0)), (.num (.lit 0)), (.num (.lit 210))])
  (.ite (.or (.lt (.var 8) (.lit 1)) (.lt (.lit 16) (.var 8)))
  (.ret [(.num (.lit 0)), (.num (.lit 0)), (.num (.lit 0)), (.num (.lit 0)), (.num (.lit 1))])
  .fail)))) := by kernel_rfl
end Go.Proofs.YtnleeohiomcieaaDoor
