/- DERIVED. What the executor makes of functions. -/
import Derived.Test.YtbkjjehfidnagaaDoorDcon
import Derived.KernelRfl
namespace Go.Proofs.YtbkjjehfidnagaaDoor
open Go.Dx
set_option linter.unusedVariables false
set_option maxRecDepth 100000
theorem tree_jac : runC tb [lJac, cTz 37] 120 (cJac 32) = (.ite (.and (.le (.lit 1) (.num (.var 1))) (.le (.num (.var 1)) (.lit 2147483579)))
  (.lop 0 [(.num (.var 0)), (.num (.var 1)), (.num (.lit 1))] 48 (.ite (.eq (.rem (.var 2) (.var 3)) (.lit 0))
  (.ite (.not (.eq (.var 3) (.lit 1)))
  (.ret [(.num (.lit 0))])
  (.ret [(.num (.var 4))]))
  (.con 1 [(.num (.rem (.var 2) (.var 3)))] (.ite (.and (.eq (.rem (.var 53) (.lit 2)) (.lit 1)) (.or (.eq (.rem (.var 3) (.lit 8)) (.lit 3)) (.eq (.rem (.var 3) (.lit 8)) (.lit 5))))
  (.ite (.and (.eq (.rem (.quo (.rem (.var 2) (.var 3)) (.p2 .i64 (.var 53))) (.lit 4)) (.lit 3)) (.eq (.rem (.var 3) (.lit 4)) (.lit 3)))
  (.ite (.and (.le (.lit 1) (.num (.quo (.rem (.var 2) (.var 3)) (.p2 .i64 (.var 53))))) (.le (.num (.quo (.rem (.var 2) (.var 3)) (.p2 .i64 (.var 53)))) (.lit 2147483579)))
  (.chk 0 2 [(.num (.var 3)), (.num (.quo (.rem (.var 2) (.var 3)) (.p2 .i64 (.var 53)))), (.num (.sub (.lit 0) (.sub (.lit 0) (.var 4))))])
  .fail)
  (.ite (.and (.le (.lit 1) (.num (.quo (.rem (.var 2) (.var 3)) (.p2 .i64 (.var 53))))) (.le (.num (.quo (.rem (.var 2) (.var 3)) (.p2 .i64 (.var 53)))) (.lit 2147483579)))
  (.chk 0 2 [(.num (.var 3)), (.num (.quo (.rem (.var 2) (.var 3)) (.p2 .i64 (.var 53)))), (.num (.sub (.lit 0) (.var 4)))])
  .fail))
  (.ite (.and (.eq (.rem (.quo (.rem (.var 2) (.var 3)) (.p2 .i64 (.var 53))) (.lit 4)) (.lit 3)) (.eq (.rem (.var 3) (.lit 4)) (.lit 3)))
  (.ite (.and (.le (.lit 1) (.num (.quo (.rem (.var 2) (.var 3)) (.p2 .i64 (.var 53))))) (.le (.num (.quo (.rem (.var 2) (.var 3)) (.p2 .i64 (.var 53)))) (.lit 2147483579)))
  (.chk 0 2 [(.num (.var 3)), (.num (.quo (.rem (.var 2) (.var 3)) (.p2 .i64 (.var 53)))), (.num (.sub (.lit 0) (.var 4)))])
  .fail)
  (.ite (.and (.le (.lit 1) (.num (.quo (.rem (.var 2) (.var 3)) (.p2 .i64 (.var 53))))) (.le (.num (.quo (.rem (.var 2) (.var 3)) (.p2 .i64 (.var 53)))) (.lit 2147483579)))
  (.chk 0 2 [(.num (.var 3)), (.num (.quo (.rem (.var 2) (.var 3)) (.p2 .i64 (.var 53)))), (.num (.var 4))])
  .fail))))))
  .fail) := by kernel_rfl
theorem tree_val : runC tb [cJac 32] 120 (cVal 15) = (.ite (.or (.lt (.var 0) (.lit 1)) (.le (.lit 2147483579) (.var 0)))
  (.ret [(.lit 0)])
  (.con 0 [(.num (.var 0)), (.num (.lit 2147483579))] (.ite (.eq (.var 1) (.lit 1))
  (.ret [(.lit 1)])
  (.ret [(.lit 0)])))) := by kernel_rfl
theorem tree_pw : runC tb [lPw] 120 (cPw 30) = (.lop 0 [(.num (.var 0)), (.num (.var 1)), (.num (.lit 1))] 22 (.ite (.lt (.lit 0) (.var 3))
  (.ite (.eq (.rem (.var 3) (.lit 2)) (.lit 1))
  (.chk 0 2 [(.num (.rem (.mul (.var 2) (.var 2)) (.lit 2147483579))), (.num (.quo (.var 3) (.lit 2))), (.num (.rem (.mul (.var 4) (.var 2)) (.lit 2147483579)))])
  (.chk 0 2 [(.num (.rem (.mul (.var 2) (.var 2)) (.lit 2147483579))), (.num (.quo (.var 3) (.lit 2))), (.num (.var 4))]))
  (.ret [(.num (.var 4))]))) := by kernel_rfl
theorem tree_valR : runC tb [cPw 30] 120 (cVal 16) = (.ite (.and (.le (.lit 1) (.var 0)) (.lt (.var 0) (.lit 2147483579)))
  (.con 0 [(.num (.var 0)), (.num (.lit 1073741789))] (.ite (.eq (.var 1) (.lit 1))
  (.ret [(.lit 1)])
  (.ret [(.lit 0)])))
  (.ret [(.lit 0)])) := by kernel_rfl
theorem tree_mul : runC tb [cVal 15] 120 (cMul 11) = (.con 0 [(.num (.var 0))] (.ite (.not (.eq (.var 2) (.lit 0)))
  (.con 0 [(.num (.var 1))] (.ite (.eq (.var 3) (.lit 0))
  (.ret [(.num (.lit 0)), (.num (.lit 100))])
  (.ite (.and (.le (.lit 0) (.num (.rem (.wrap .i64 (.mul (.var 0) (.var 1))) (.lit 2147483579)))) (.le (.num (.rem (.wrap .i64 (.mul (.var 0) (.var 1))) (.lit 2147483579))) (.lit 2147483579)))
  (.ret [(.num (.rem (.wrap .i64 (.mul (.var 0) (.var 1))) (.lit 2147483579))), (.num (.lit 0))])
  .fail)))
  (.ret [(.num (.lit 0)), (.num (.lit 100))]))) := by kernel_rfl
theorem tree_mulR : runC tb [cVal 16] 120 (cMul 12) = (.con 0 [(.num (.var 0))] (.ite (.not (.eq (.var 2) (.lit 0)))
  (.con 0 [(.num (.var 1))] (.ite (.eq (.var 3) (.lit 0))
  (.ret [(.num (.lit 0)), (.num (.lit 100))])
  (.ite (.and (.le (.lit 0) (.num (.rem (.wrap .i64 (.mul (.var 0) (.var 1))) (.lit 2147483579)))) (.le (.num (.rem (.wrap .i64 (.mul (.var 0) (.var 1))) (.lit 2147483579))) (.lit 2147483579)))
  (.ret [(.num (.rem (.wrap .i64 (.mul (.var 0) (.var 1))) (.lit 2147483579))), (.num (.lit 0))])
  .fail)))
  (.ret [(.num (.lit 0)), (.num (.lit 100))]))) := by kernel_rfl
theorem tree_powR : runC tb [cVal 16, cPw 30] 120 (cPow 14) = (.con 0 [(.num (.var 0))] (.ite (.eq (.var 2) (.lit 0))
  (.ret [(.num (.lit 0)), (.num (.lit 100))])
  (.ite (.lt (.rem (.var 1) (.lit 1073741789)) (.lit 0))
  (.ite (.and (.le (.lit 0) (.num (.var 0))) (.le (.num (.var 0)) (.lit 2147483579)))
  (.con 1 [(.num (.var 0)), (.num (.add (.rem (.var 1) (.lit 1073741789)) (.lit 1073741789)))] (.ret [(.num (.var 3)), (.num (.lit 0))]))
  .fail)
  (.ite (.and (.le (.lit 0) (.num (.var 0))) (.le (.num (.var 0)) (.lit 2147483579)))
  (.con 1 [(.num (.var 0)), (.num (.rem (.var 1) (.lit 1073741789)))] (.ret [(.num (.var 3)), (.num (.lit 0))]))
  .fail)))) := by kernel_rfl
theorem tree_pow : runC tb [cVal 15, lPow] 160 (cPow 13) = (.con 0 [(.num (.var 0))] (.ite (.eq (.var 2) (.lit 0))
  (.ret [(.num (.lit 0)), (.num (.lit 100))])
  (.ite (.and (.le (.lit 0) (.num (.var 0))) (.le (.num (.var 0)) (.lit 2147483579)))
  (.lop 1 [(.num (.var 0)), (.num (.lit 0)), (.num (.lit 1)), (.num (.rem (.add (.rem (.var 1) (.lit 1073741789)) (.lit 1073741789)) (.lit 1073741789)))] 16 (.ite (.lt (.var 4) (.lit 30))
  (.ite (.eq (.rem (.var 6) (.lit 2)) (.lit 1))
  (.ite (.eq (.quo (.var 6) (.lit 2)) (.lit 0))
  (.ret [(.num (.rem (.mul (.var 5) (.var 3)) (.lit 2147483579))), (.num (.lit 0))])
  (.chk 1 3 [(.num (.rem (.mul (.var 3) (.var 3)) (.lit 2147483579))), (.num (.add (.var 4) (.lit 1))), (.num (.rem (.mul (.var 5) (.var 3)) (.lit 2147483579))), (.num (.quo (.var 6) (.lit 2)))]))
  (.ite (.eq (.quo (.var 6) (.lit 2)) (.lit 0))
  (.ret [(.num (.var 5)), (.num (.lit 0))])
  (.chk 1 3 [(.num (.rem (.mul (.var 3) (.var 3)) (.lit 2147483579))), (.num (.add (.var 4) (.lit 1))), (.num (.var 5)), (.num (.quo (.var 6) (.lit 2)))])))
  (.ret [(.num (.var 5)), (.num (.lit 0))])))
  .fail))) := by kernel_rfl
theorem tree_el : runC tb [cVal 15] 120 (cEl 17) = (.ite (.or (.lt (.var 0) (.lit 1)) (.lt (.lit 1073741789) (.var 0)))
  (.ret [(.num (.lit 0)), (.num (.lit 1))])
  (.con 0 [(.num (.var 0))] (.ite (.not (.eq (.var 1) (.lit 0)))
  (.ret [(.num (.var 0)), (.num (.lit 0))])
  (.ret [(.num (.sub (.lit 2147483579) (.var 0))), (.num (.lit 0))])))) := by kernel_rfl
theorem tree_elR : runC tb [cVal 16] 120 (cEl 18) = (.ite (.or (.lt (.var 0) (.lit 1)) (.lt (.lit 1073741789) (.var 0)))
  (.ret [(.num (.lit 0)), (.num (.lit 1))])
  (.con 0 [(.num (.var 0))] (.ite (.not (.eq (.var 1) (.lit 0)))
  (.ret [(.num (.var 0)), (.num (.lit 0))])
  (.ret [(.num (.sub (.lit 2147483579) (.var 0))), (.num (.lit 0))])))) := by kernel_rfl
theorem tree_num : runC tb [cVal 15] 120 (cNum 19) = (.con 0 [(.num (.var 0))] (.ite (.eq (.var 1) (.lit 0))
  (.ret [(.num (.lit 0)), (.num (.lit 100))])
  (.ite (.and (.le (.lit 0) (.num (.min (.var 0) (.wrap .i64 (.sub (.lit 2147483579) (.var 0)))))) (.le (.num (.min (.var 0) (.wrap .i64 (.sub (.lit 2147483579) (.var 0))))) (.lit 2147483579)))
  (.ret [(.num (.min (.var 0) (.wrap .i64 (.sub (.lit 2147483579) (.var 0))))), (.num (.lit 0))])
  .fail))) := by kernel_rfl
theorem tree_numR : runC tb [cVal 16] 120 (cNum 20) = (.con 0 [(.num (.var 0))] (.ite (.eq (.var 1) (.lit 0))
  (.ret [(.num (.lit 0)), (.num (.lit 100))])
  (.ite (.le (.var 0) (.lit 1073741789))
  (.ite (.and (.le (.lit 0) (.num (.var 0))) (.le (.num (.var 0)) (.lit 2147483579)))
  (.ret [(.num (.var 0)), (.num (.lit 0))])
  .fail)
  (.ite (.and (.le (.lit 0) (.num (.sub (.lit 2147483579) (.var 0)))) (.le (.num (.sub (.lit 2147483579) (.var 0))) (.lit 2147483579)))
  (.ret [(.num (.sub (.lit 2147483579) (.var 0))), (.num (.lit 0))])
  .fail)))) := by kernel_rfl
theorem tree_mulL : runC tb [cMul 11, lMul] 120 (cMulL 24) = (.lop 1 [(.num (.lit 1)), (.num (.lit 0))] 25 (.ite (.lt (.var 2) (.len (.var 0)))
  (.con 0 [(.num (.var 1)), (.num (.el (.var 0) (.var 2) 0))] (.ite (.not (.eq (.var 29) (.lit 0)))
  (.ret [(.num (.lit 0))])
  (.chk 1 1 [(.num (.var 28)), (.num (.add (.var 2) (.lit 1)))])))
  (.ret [(.num (.var 1))]))) := by kernel_rfl
theorem tree_powL : runC tb [cPow 13] 120 (cPowL 25) = (.con 0 [(.num (.var 0)), (.num (.var 1))] (.ite (.not (.eq (.var 3) (.lit 0)))
  (.ret [(.num (.lit 0))])
  (.ret [(.num (.var 2))]))) := by kernel_rfl
theorem tree_elL : runC tb [cEl 17] 120 (cElL 23) = (.ite (.lt (.rem (.var 0) (.lit 1073741789)) (.lit 0))
  (.con 0 [(.num (.add (.rem (.var 0) (.lit 1073741789)) (.lit 1073741790)))] (.ret [(.num (.var 1))]))
  (.con 0 [(.num (.add (.rem (.var 0) (.lit 1073741789)) (.lit 1)))] (.ret [(.num (.var 1))]))) := by kernel_rfl
end Go.Proofs.YtbkjjehfidnagaaDoor
