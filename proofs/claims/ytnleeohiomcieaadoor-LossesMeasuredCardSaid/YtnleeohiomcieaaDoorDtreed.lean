/- DERIVED. What the executor makes of functions. -/
import Derived.Test.YtnleeohiomcieaaDoorDconc
import Derived.KernelRfl
namespace Go.Proofs.YtnleeohiomcieaaDoor
open Go.Dx
set_option linter.unusedVariables false
set_option maxRecDepth 100000
theorem tree_seepR0 : runC tb [cIsSR, cMk 46, lSpR] 80 (cSeepN 16 0 0) = (.ite (.or (.lt (.lit 16) (.len (.var 6))) (.lt (.lit 16) (.len (.var 7))))
  (.ret [(.num (.lit 0)), (.num (.lit 0)), (.num (.lit 0)), (.num (.lit 0)), (.num (.lit 2))])
  (.con 0 [(.num (.var 0)), (.num (.var 1)), (.num (.var 2)), (.num (.var 3)), (.num (.var 4)), (.num (.var 5)), (.var 6), (.var 7)] (.ite (.eq (.var 9) (.lit 0))
  (.ret [(.num (.lit 0)), (.num (.lit 0)), (.num (.lit 0)), (.num (.lit 0)), (.num (.lit 210))])
  (.ite (.or (.lt (.var 8) (.lit 1)) (.lt (.lit 16) (.var 8)))
  (.ret [(.num (.lit 0)), (.num (.lit 0)), (.num (.lit 0)), (.num (.lit 0)), (.num (.lit 1))])
  (.lop 2 [(.num (.lit 0)), (.num (.mul (.lit 0) (.var 8))), (.num (.mul (.lit 64) (.var 8)))] 108 (.ite (.lt (.var 10) (.len (.var 7)))
  (.ite (.eq (.wrap .i64 (.mul (.el (.var 7) (.var 10) 0) (.el (.var 7) (.var 10) 1))) (.lit 0))
  .fail
  (.ite (.eq (.wrap .i64 (.mul (.el (.var 7) (.var 10) 0) (.el (.var 7) (.var 10) 1))) (.lit 0))
  .fail
  (.chk 2 10 [(.num (.add (.var 10) (.lit 1))), (.num (.max (.var 11) (.min (.lit 1048576) (.wrap .i64 (.quo (.wrap .i64 (.mul (.wrap .i64 (.mul (.lit 1048576) (.el (.var 7) (.var 10) 2))) (.var 8))) (.wrap .i64 (.mul (.el (.var 7) (.var 10) 0) (.el (.var 7) (.var 10) 1)))))))), (.num (.min (.var 12) (.wrap .i64 (.quo (.wrap .i64 (.sub (.wrap .i64 (.add (.wrap .i64 (.mul (.wrap .i64 (.mul (.lit 1048576) (.el (.var 7) (.var 10) 3))) (.var 8))) (.wrap .i64 (.mul (.el (.var 7) (.var 10) 0) (.el (.var 7) (.var 10) 1))))) (.lit 1))) (.wrap .i64 (.mul (.el (.var 7) (.var 10) 0) (.el (.var 7) (.var 10) 1)))))))])))
  (.ite (.lt (.var 12) (.var 11))
  (.ret [(.num (.lit 0)), (.num (.lit 0)), (.num (.lit 0)), (.num (.lit 0)), (.num (.lit 210))])
  (.ite (.and (.le (.lit 0) (.num (.var 11))) (.le (.num (.var 11)) (.lit 1048576)))
  (.con 1 [(.num (.var 11)), (.num (.lit 1048576))] (.ite (.and (.le (.lit 0) (.num (.var 12))) (.le (.num (.var 12)) (.lit 1048576)))
  (.con 1 [(.num (.var 12)), (.num (.lit 1048576))] (.ret [(.num (.var 121)), (.num (.var 122)), (.num (.var 124)), (.num (.var 125)), (.num (.lit 0))]))
  .fail))
  .fail)))))))) := by kernel_rfl
theorem tree_seepR1 : runC tb [cIsSR, cMk 46, lSpR] 80 (cSeepN 16 1 1) = (.ite (.or (.lt (.lit 16) (.len (.var 6))) (.lt (.lit 16) (.len (.var 7))))
  (.ret [(.num (.lit 0)), (.num (.lit 0)), (.num (.lit 0)), (.num (.lit 0)), (.num (.lit 2))])
  (.con 0 [(.num (.var 0)), (.num (.var 1)), (.num (.var 2)), (.num (.var 3)), (.num (.var 4)), (.num (.var 5)), (.var 6), (.var 7)] (.ite (.eq (.var 9) (.lit 0))
  (.ret [(.num (.lit 0)), (.num (.lit 0)), (.num (.lit 0)), (.num (.lit 0)), (.num (.lit 210))])
  (.ite (.or (.lt (.var 8) (.lit 1)) (.lt (.lit 16) (.var 8)))
  (.ret [(.num (.lit 0)), (.num (.lit 0)), (.num (.lit 0)), (.num (.lit 0)), (.num (.lit 1))])
  (.lop 2 [(.num (.lit 0)), (.num (.mul (.lit 64) (.var 8))), (.num (.mul (.lit 512) (.var 8)))] 108 (.ite (.lt (.var 10) (.len (.var 7)))
  (.ite (.eq (.wrap .i64 (.mul (.el (.var 7) (.var 10) 0) (.el (.var 7) (.var 10) 1))) (.lit 0))
  .fail
  (.ite (.eq (.wrap .i64 (.mul (.el (.var 7) (.var 10) 0) (.el (.var 7) (.var 10) 1))) (.lit 0))
  .fail
  (.chk 2 10 [(.num (.add (.var 10) (.lit 1))), (.num (.max (.var 11) (.min (.lit 1048576) (.wrap .i64 (.quo (.wrap .i64 (.mul (.wrap .i64 (.mul (.lit 1048576) (.el (.var 7) (.var 10) 2))) (.var 8))) (.wrap .i64 (.mul (.el (.var 7) (.var 10) 0) (.el (.var 7) (.var 10) 1)))))))), (.num (.min (.var 12) (.wrap .i64 (.quo (.wrap .i64 (.sub (.wrap .i64 (.add (.wrap .i64 (.mul (.wrap .i64 (.mul (.lit 1048576) (.el (.var 7) (.var 10) 3))) (.var 8))) (.wrap .i64 (.mul (.el (.var 7) (.var 10) 0) (.el (.var 7) (.var 10) 1))))) (.lit 1))) (.wrap .i64 (.mul (.el (.var 7) (.var 10) 0) (.el (.var 7) (.var 10) 1)))))))])))
  (.ite (.lt (.var 12) (.var 11))
  (.ret [(.num (.lit 0)), (.num (.lit 0)), (.num (.lit 0)), (.num (.lit 0)), (.num (.lit 210))])
  (.ite (.and (.le (.lit 0) (.num (.var 11))) (.le (.num (.var 11)) (.lit 1048576)))
  (.con 1 [(.num (.var 11)), (.num (.lit 1048576))] (.ite (.and (.le (.lit 0) (.num (.var 12))) (.le (.num (.var 12)) (.lit 1048576)))
  (.con 1 [(.num (.var 12)), (.num (.lit 1048576))] (.ret [(.num (.var 121)), (.num (.var 122)), (.num (.var 124)), (.num (.var 125)), (.num (.lit 0))]))
  .fail))
  .fail)))))))) := by kernel_rfl
theorem tree_seepR2 : runC tb [cIsSR, cMk 46, lSpR] 80 (cSeepN 16 2 2) = (.ite (.or (.lt (.lit 16) (.len (.var 6))) (.lt (.lit 16) (.len (.var 7))))
  (.ret [(.num (.lit 0)), (.num (.lit 0)), (.num (.lit 0)), (.num (.lit 0)), (.num (.lit 2))])
  (.con 0 [(.num (.var 0)), (.num (.var 1)), (.num (.var 2)), (.num (.var 3)), (.num (.var 4)), (.num (.var 5)), (.var 6), (.var 7)] (.ite (.eq (.var 9) (.lit 0))
  (.ret [(.num (.lit 0)), (.num (.lit 0)), (.num (.lit 0)), (.num (.lit 0)), (.num (.lit 210))])
  (.ite (.or (.lt (.var 8) (.lit 1)) (.lt (.lit 16) (.var 8)))
  (.ret [(.num (.lit 0)), (.num (.lit 0)), (.num (.lit 0)), (.num (.lit 0)), (.num (.lit 1))])
  (.lop 2 [(.num (.lit 0)), (.num (.mul (.lit 256) (.var 8))), (.num (.mul (.lit 1024) (.var 8)))] 108 (.ite (.lt (.var 10) (.len (.var 7)))
  (.ite (.eq (.wrap .i64 (.mul (.el (.var 7) (.var 10) 0) (.el (.var 7) (.var 10) 1))) (.lit 0))
  .fail
  (.ite (.eq (.wrap .i64 (.mul (.el (.var 7) (.var 10) 0) (.el (.var 7) (.var 10) 1))) (.lit 0))
  .fail
  (.chk 2 10 [(.num (.add (.var 10) (.lit 1))), (.num (.max (.var 11) (.min (.lit 1048576) (.wrap .i64 (.quo (.wrap .i64 (.mul (.wrap .i64 (.mul (.lit 1048576) (.el (.var 7) (.var 10) 2))) (.var 8))) (.wrap .i64 (.mul (.el (.var 7) (.var 10) 0) (.el (.var 7) (.var 10) 1)))))))), (.num (.min (.var 12) (.wrap .i64 (.quo (.wrap .i64 (.sub (.wrap .i64 (.add (.wrap .i64 (.mul (.wrap .i64 (.mul (.lit 1048576) (.el (.var 7) (.var 10) 3))) (.var 8))) (.wrap .i64 (.mul (.el (.var 7) (.var 10) 0) (.el (.var 7) (.var 10) 1))))) (.lit 1))) (.wrap .i64 (.mul (.el (.var 7) (.var 10) 0) (.el (.var 7) (.var 10) 1)))))))])))
  (.ite (.lt (.var 12) (.var 11))
  (.ret [(.num (.lit 0)), (.num (.lit 0)), (.num (.lit 0)), (.num (.lit 0)), (.num (.lit 210))])
  (.ite (.and (.le (.lit 0) (.num (.var 11))) (.le (.num (.var 11)) (.lit 1048576)))
  (.con 1 [(.num (.var 11)), (.num (.lit 1048576))] (.ite (.and (.le (.lit 0) (.num (.var 12))) (.le (.num (.var 12)) (.lit 1048576)))
  (.con 1 [(.num (.var 12)), (.num (.lit 1048576))] (.ret [(.num (.var 121)), (.num (.var 122)), (.num (.var 124)), (.num (.var 125)), (.num (.lit 0))]))
  .fail))
  .fail)))))))) := by kernel_rfl
theorem tree_seepR3 : runC tb [cIsSR, cMk 46, lSpR] 80 (cSeepN 16 3 3) = (.ite (.or (.lt (.lit 16) (.len (.var 6))) (.lt (.lit 16) (.len (.var 7))))
  (.ret [(.num (.lit 0)), (.num (.lit 0)), (.num (.lit 0)), (.num (.lit 0)), (.num (.lit 2))])
  (.con 0 [(.num (.var 0)), (.num (.var 1)), (.num (.var 2)), (.num (.var 3)), (.num (.var 4)), (.num (.var 5)), (.var 6), (.var 7)] (.ite (.eq (.var 9) (.lit 0))
  (.ret [(.num (.lit 0)), (.num (.lit 0)), (.num (.lit 0)), (.num (.lit 0)), (.num (.lit 210))])
  (.ite (.or (.lt (.var 8) (.lit 1)) (.lt (.lit 16) (.var 8)))
  (.ret [(.num (.lit 0)), (.num (.lit 0)), (.num (.lit 0)), (.num (.lit 0)), (.num (.lit 1))])
  (.lop 2 [(.num (.lit 0)), (.num (.mul (.lit 512) (.var 8))), (.num (.mul (.lit 2048) (.var 8)))] 108 (.ite (.lt (.var 10) (.len (.var 7)))
  (.ite (.eq (.wrap .i64 (.mul (.el (.var 7) (.var 10) 0) (.el (.var 7) (.var 10) 1))) (.lit 0))
  .fail
  (.ite (.eq (.wrap .i64 (.mul (.el (.var 7) (.var 10) 0) (.el (.var 7) (.var 10) 1))) (.lit 0))
  .fail
  (.chk 2 10 [(.num (.add (.var 10) (.lit 1))), (.num (.max (.var 11) (.min (.lit 1048576) (.wrap .i64 (.quo (.wrap .i64 (.mul (.wrap .i64 (.mul (.lit 1048576) (.el (.var 7) (.var 10) 2))) (.var 8))) (.wrap .i64 (.mul (.el (.var 7) (.var 10) 0) (.el (.var 7) (.var 10) 1)))))))), (.num (.min (.var 12) (.wrap .i64 (.quo (.wrap .i64 (.sub (.wrap .i64 (.add (.wrap .i64 (.mul (.wrap .i64 (.mul (.lit 1048576) (.el (.var 7) (.var 10) 3))) (.var 8))) (.wrap .i64 (.mul (.el (.var 7) (.var 10) 0) (.el (.var 7) (.var 10) 1))))) (.lit 1))) (.wrap .i64 (.mul (.el (.var 7) (.var 10) 0) (.el (.var 7) (.var 10) 1)))))))])))
  (.ite (.lt (.var 12) (.var 11))
  (.ret [(.num (.lit 0)), (.num (.lit 0)), (.num (.lit 0)), (.num (.lit 0)), (.num (.lit 210))])
  (.ite (.and (.le (.lit 0) (.num (.var 11))) (.le (.num (.var 11)) (.lit 1048576)))
  (.con 1 [(.num (.var 11)), (.num (.lit 1048576))] (.ite (.and (.le (.lit 0) (.num (.var 12))) (.le (.num (.var 12)) (.lit 1048576)))
  (.con 1 [(.num (.var 12)), (.num (.lit 1048576))] (.ret [(.num (.var 121)), (.num (.var 122)), (.num (.var 124)), (.num (.var 125)), (.num (.lit 0))]))
  .fail))
  .fail)))))))) := by kernel_rfl
theorem tree_seepR4 : runC tb [cIsSR, cMk 46, lSpR] 80 (cSeepN 16 4 4) = (.ite (.or (.lt (.lit 16) (.len (.var 6))) (.lt (.lit 16) (.len (.var 7))))
  (.ret [(.num (.lit 0)), (.num (.lit 0)), (.num (.lit 0)), (.num (.lit 0)), (.num (.lit 2))])
  (.con 0 [(.num (.var 0)), (.num (.var 1)), (.num (.var 2)), (.num (.var 3)), (.num (.var 4)), (.num (.var 5)), (.var 6), (.var 7)] (.ite (.eq (.var 9) (.lit 0))
  (.ret [(.num (.lit 0)), (.num (.lit 0)), (.num (.lit 0)), (.num (.lit 0)), (.num (.lit 210))])
  (.ite (.or (.lt (.var 8) (.lit 1)) (.lt (.lit 16) (.var 8)))
  (.ret [(.num (.lit 0)), (.num (.lit 0)), (.num (.lit 0)), (.num (.lit 0)), (.num (.lit 1))])
  (.lop 2 [(.num (.lit 0)), (.num (.mul (.lit 1024) (.var 8))), (.num (.mul (.lit 4096) (.var 8)))] 108 (.ite (.lt (.var 10) (.len (.var 7)))
  (.ite (.eq (.wrap .i64 (.mul (.el (.var 7) (.var 10) 0) (.el (.var 7) (.var 10) 1))) (.lit 0))
  .fail
  (.ite (.eq (.wrap .i64 (.mul (.el (.var 7) (.var 10) 0) (.el (.var 7) (.var 10) 1))) (.lit 0))
  .fail
  (.chk 2 10 [(.num (.add (.var 10) (.lit 1))), (.num (.max (.var 11) (.min (.lit 1048576) (.wrap .i64 (.quo (.wrap .i64 (.mul (.wrap .i64 (.mul (.lit 1048576) (.el (.var 7) (.var 10) 2))) (.var 8))) (.wrap .i64 (.mul (.el (.var 7) (.var 10) 0) (.el (.var 7) (.var 10) 1)))))))), (.num (.min (.var 12) (.wrap .i64 (.quo (.wrap .i64 (.sub (.wrap .i64 (.add (.wrap .i64 (.mul (.wrap .i64 (.mul (.lit 1048576) (.el (.var 7) (.var 10) 3))) (.var 8))) (.wrap .i64 (.mul (.el (.var 7) (.var 10) 0) (.el (.var 7) (.var 10) 1))))) (.lit 1))) (.wrap .i64 (.mul (.el (.var 7) (.var 10) 0) (.el (.var 7) (.var 10) 1)))))))])))
  (.ite (.lt (.var 12) (.var 11))
  (.ret [(.num (.lit 0)), (.num (.lit 0)), (.num (.lit 0)), (.num (.lit 0)), (.num (.lit 210))])
  (.ite (.and (.le (.lit 0) (.num (.var 11))) (.le (.num (.var 11)) (.lit 1048576)))
  (.con 1 [(.num (.var 11)), (.num (.lit 1048576))] (.ite (.and (.le (.lit 0) (.num (.var 12))) (.le (.num (.var 12)) (.lit 1048576)))
  (.con 1 [(.num (.var 12)), (.num (.lit 1048576))] (.ret [(.num (.var 121)), (.num (.var 122)), (.num (.var 124)), (.num (.var 125)), (.num (.lit 0))]))
  .fail))
  .fail)))))))) := by kernel_rfl
theorem tree_seepR5 : runC tb [cIsSR, cMk 46, lSpR] 80 (cSeepN 16 5 5) = (.ite (.or (.lt (.lit 16) (.len (.var 6))) (.lt (.lit 16) (.len (.var 7))))
  (.ret [(.num (.lit 0)), (.num (.lit 0)), (.num (.lit 0)), (.num (.lit 0)), (.num (.lit 2))])
  (.con 0 [(.num (.var 0)), (.num (.var 1)), (.num (.var 2)), (.num (.var 3)), (.num (.var 4)), (.num (.var 5)), (.var 6), (.var 7)] (.ite (.eq (.var 9) (.lit 0))
  (.ret [(.num (.lit 0)), (.num (.lit 0)), (.num (.lit 0)), (.num (.lit 0)), (.num (.lit 210))])
  (.ite (.or (.lt (.var 8) (.lit 1)) (.lt (.lit 16) (.var 8)))
  (.ret [(.num (.lit 0)), (.num (.lit 0)), (.num (.lit 0)), (.num (.lit 0)), (.num (.lit 1))])
  (.lop 2 [(.num (.lit 0)), (.num (.mul (.lit 2048) (.var 8))), (.num (.mul (.lit 16384) (.var 8)))] 108 (.ite (.lt (.var 10) (.len (.var 7)))
  (.ite (.eq (.wrap .i64 (.mul (.el (.var 7) (.var 10) 0) (.el (.var 7) (.var 10) 1))) (.lit 0))
  .fail
  (.ite (.eq (.wrap .i64 (.mul (.el (.var 7) (.var 10) 0) (.el (.var 7) (.var 10) 1))) (.lit 0))
  .fail
  (.chk 2 10 [(.num (.add (.var 10) (.lit 1))), (.num (.max (.var 11) (.min (.lit 1048576) (.wrap .i64 (.quo (.wrap .i64 (.mul (.wrap .i64 (.mul (.lit 1048576) (.el (.var 7) (.var 10) 2))) (.var 8))) (.wrap .i64 (.mul (.el (.var 7) (.var 10) 0) (.el (.var 7) (.var 10) 1)))))))), (.num (.min (.var 12) (.wrap .i64 (.quo (.wrap .i64 (.sub (.wrap .i64 (.add (.wrap .i64 (.mul (.wrap .i64 (.mul (.lit 1048576) (.el (.var 7) (.var 10) 3))) (.var 8))) (.wrap .i64 (.mul (.el (.var 7) (.var 10) 0) (.el (.var 7) (.var 10) 1))))) (.lit 1))) (.wrap .i64 (.mul (.el (.var 7) (.var 10) 0) (.el (.var 7) (.var 10) 1)))))))])))
  (.ite (.lt (.var 12) (.var 11))
  (.ret [(.num (.lit 0)), (.num (.lit 0)), (.num (.lit 0)), (.num (.lit 0)), (.num (.lit 210))])
  (.ite (.and (.le (.lit 0) (.num (.var 11))) (.le (.num (.var 11)) (.lit 1048576)))
  (.con 1 [(.num (.var 11)), (.num (.lit 1048576))] (.ite (.and (.le (.lit 0) (.num (.var 12))) (.le (.num (.var 12)) (.lit 1048576)))
  (.con 1 [(.num (.var 12)), (.num (.lit 1048576))] (.ret [(.num (.var 121)), (.num (.var 122)), (.num (.var 124)), (.num (.var 125)), (.num (.lit 0))]))
  .fail))
  .fail)))))))) := by kernel_rfl
theorem tree_seepR6 : runC tb [cIsSR, cMk 46, lSpR] 80 (cSeepN 16 6 9223372036854775807) = (.ite (.or (.lt (.lit 16) (.len (.var 6))) (.lt (.lit 16) (.len (.var 7))))
  (.ret [(.num (.lit 0)), (.num (.lit 0)), (.num (.lit 0)), (.num (.lit 0)), (.num (.lit 2))])
  (.con 0 [(.num (.var 0)), (.num (.var 1)), (.num (.var 2)), (.num (.var 3)), (.num (.var 4)), (.num (.var 5)), (.var 6), (.var 7)] (.ite (.eq (.var 9) (.lit 0))
  (.ret [(.num (.lit 0)), (.num (.lit 0)), (.num (.lit 0)), (.num (.lit 0)), (.num (.lit 210))])
  (.ite (.or (.lt (.var 8) (.lit 1)) (.lt (.lit 16) (.var 8)))
  (.ret [(.num (.lit 0)), (.num (.lit 0)), (.num (.lit 0)), (.num (.lit 0)), (.num (.lit 1))])
  (.lop 2 [(.num (.lit 0)), (.num (.mul (.lit 2048) (.var 8))), (.num (.mul (.lit 16384) (.var 8)))] 108 (.ite (.lt (.var 10) (.len (.var 7)))
  (.ite (.eq (.wrap .i64 (.mul (.el (.var 7) (.var 10) 0) (.el (.var 7) (.var 10) 1))) (.lit 0))
  .fail
  (.ite (.eq (.wrap .i64 (.mul (.el (.var 7) (.var 10) 0) (.el (.var 7) (.var 10) 1))) (.lit 0))
  .fail
  (.chk 2 10 [(.num (.add (.var 10) (.lit 1))), (.num (.max (.var 11) (.min (.lit 1048576) (.wrap .i64 (.quo (.wrap .i64 (.mul (.wrap .i64 (.mul (.lit 1048576) (.el (.var 7) (.var 10) 2))) (.var 8))) (.wrap .i64 (.mul (.el (.var 7) (.var 10) 0) (.el (.var 7) (.var 10) 1)))))))), (.num (.min (.var 12) (.wrap .i64 (.quo (.wrap .i64 (.sub (.wrap .i64 (.add (.wrap .i64 (.mul (.wrap .i64 (.mul (.lit 1048576) (.el (.var 7) (.var 10) 3))) (.var 8))) (.wrap .i64 (.mul (.el (.var 7) (.var 10) 0) (.el (.var 7) (.var 10) 1))))) (.lit 1))) (.wrap .i64 (.mul (.el (.var 7) (.var 10) 0) (.el (.var 7) (.var 10) 1)))))))])))
  (.ite (.lt (.var 12) (.var 11))
  (.ret [(.num (.lit 0)), (.num (.lit 0)), (.num (.lit 0)), (.num (.lit 0)), (.num (.lit 210))])
  (.ite (.and (.le (.lit 0) (.num (.var 11))) (.le (.num (.var 11)) (.lit 1048576)))
  (.con 1 [(.num (.var 11)), (.num (.lit 1048576))] (.ite (.and (.le (.lit 0) (.num (.var 12))) (.le (.num (.var 12)) (.lit 1048576)))
  (.con 1 [(.num (.var 12)), (.num (.lit 1048576))] (.ret [(.num (.var 121)), (.num (.var 122)), (.num (.var 124)), (.num (.var 125)), (.num (.lit 0))]))
  .fail))
  .fail)))))))) := by kernel_rfl
theorem tree_seepR7 : runC tb [cIsSR, cMk 46, lSpR] 80 (cSeepN 16 (-9223372036854775808) (-1)) = (.ite (.or (.lt (.lit 16) (.len (.var 6))) (.lt (.lit 16) (.len (.var 7))))
  (.ret [(.num (.lit 0)), (.num (.lit 0)), (.num (.lit 0)), (.num (.lit 0)), (.num (.lit 2))])
  (.con 0 [(.num (.var 0)), (.num (.var 1)), (.num (.var 2)), (.num (.var 3)), (.num (.var 4)), (.num (.var 5)), (.var 6), (.var 7)] (.ite (.eq (.var 9) (.lit 0))
  (.ret [(.num (.lit 0)), (.num (.lit 0)), (.num (.lit 0)), (.num (.lit 0)), (.num (.lit 210))])
  (.ite (.or (.lt (.var 8) (.lit 1)) (.lt (.lit 16) (.var 8)))
  (.ret [(.num (.lit 0)), (.num (.lit 0)), (.num (.lit 0)), (.num (.lit 0)), (.num (.lit 1))])
  (.lop 2 [(.num (.lit 0)), (.num (.mul (.lit 2048) (.var 8))), (.num (.mul (.lit 16384) (.var 8)))] 108 (.ite (.lt (.var 10) (.len (.var 7)))
  (.ite (.eq (.wrap .i64 (.mul (.el (.var 7) (.var 10) 0) (.el (.var 7) (.var 10) 1))) (.lit 0))
  .fail
  (.ite (.eq (.wrap .i64 (.mul (.el (.var 7) (.var 10) 0) (.el (.var 7) (.var 10) 1))) (.lit 0))
  .fail
  (.chk 2 10 [(.num (.add (.var 10) (.lit 1))), (.num (.max (.var 11) (.min (.lit 1048576) (.wrap .i64 (.quo (.wrap .i64 (.mul (.wrap .i64 (.mul (.lit 1048576) (.el (.var 7) (.var 10) 2))) (.var 8))) (.wrap .i64 (.mul (.el (.var 7) (.var 10) 0) (.el (.var 7) (.var 10) 1)))))))), (.num (.min (.var 12) (.wrap .i64 (.quo (.wrap .i64 (.sub (.wrap .i64 (.add (.wrap .i64 (.mul (.wrap .i64 (.mul (.lit 1048576) (.el (.var 7) (.var 10) 3))) (.var 8))) (.wrap .i64 (.mul (.el (.var 7) (.var 10) 0) (.el (.var 7) (.var 10) 1))))) (.lit 1))) (.wrap .i64 (.mul (.el (.var 7) (.var 10) 0) (.el (.var 7) (.var 10) 1)))))))])))
  (.ite (.lt (.var 12) (.var 11))
  (.ret [(.num (.lit 0)), (.num (.lit 0)), (.num (.lit 0)), (.num (.lit 0)), (.num (.lit 210))])
  (.ite (.and (.le (.lit 0) (.num (.var 11))) (.le (.num (.var 11)) (.lit 1048576)))
  (.con 1 [(.num (.var 11)), (.num (.lit 1048576))] (.ite (.and (.le (.lit 0) (.num (.var 12))) (.le (.num (.var 12)) (.lit 1048576)))
  (.con 1 [(.num (.var 12)), (.num (.lit 1048576))] (.ret [(.num (.var 121)), (.num (.var 122)), (.num (.var 124)), (.num (.var 125)), (.num (.lit 0))]))
  .fail))
  .fail)))))))) := by kernel_rfl
end Go.Proofs.YtnleeohiomcieaaDoor
