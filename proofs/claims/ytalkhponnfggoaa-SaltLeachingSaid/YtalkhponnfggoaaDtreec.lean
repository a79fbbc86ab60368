/- DERIVED. What the executor makes of functions. -/
import Derived.Test.YtalkhponnfggoaaDconc
import Derived.KernelRfl
namespace Go.Proofs.Ytalkhponnfggoaa
open Go.Dx
set_option linter.unusedVariables false
set_option maxRecDepth 100000
theorem tree_order : runC tb [cSane, cMix, lOrd] 80 (lawCon 9 [.c wats, .c u8s]) = (.con 0 [] (.ite (.eq (.var 2) (.lit 0))
  (.ret [(.lit 0)])
  (.con 1 [(.var 0)] (.ite (.not (.eq (.var 5) (.lit 0)))
  (.ite (.and (.eq (.var 3) (.lit 0)) (.eq (.var 4) (.lit 0)))
  (.ret [(.lit 1)])
  (.ret [(.lit 0)]))
  (.dat (.rows 2) [] (.lop 2 [(.num (.sub (.len (.var 0)) (.lit 1))), (.var 6)] 100 (.ite (.le (.lit 0) (.var 7))
  (.ite (.and (.le (.lit 0) (.var 7)) (.lt (.var 7) (.len (.var 0))))
  (.ite (.le (.add (.len (.var 8)) (.lit 1)) (.lit 8278675785607))
  (.dat (.rows 2) [(.num (.el (.var 0) (.var 7) 0)), (.num (.el (.var 0) (.var 7) 1))] (.dat .cat [(.var 8), (.var 109)] (.chk 2 7 [(.num (.sub (.var 7) (.lit 1))), (.var 110)])))
  .fail)
  .fail)
  (.ite (.eq (.wrap .i64 (.add (.len (.var 0)) (.lit 1))) (.lit 0))
  .fail
  (.ite (.and (.le (.lit 0) (.rem (.var 1) (.wrap .i64 (.add (.len (.var 0)) (.lit 1))))) (.le (.rem (.var 1) (.wrap .i64 (.add (.len (.var 0)) (.lit 1)))) (.len (.var 0))))
  (.dat .sub [(.var 0), (.num (.lit 0)), (.num (.rem (.var 1) (.wrap .i64 (.add (.len (.var 0)) (.lit 1)))))] (.con 1 [(.var 109)] (.ite (.and (.le (.lit 0) (.rem (.var 1) (.wrap .i64 (.add (.len (.var 0)) (.lit 1))))) (.le (.rem (.var 1) (.wrap .i64 (.add (.len (.var 0)) (.lit 1)))) (.len (.var 0))))
  (.dat .sub [(.var 0), (.num (.rem (.var 1) (.wrap .i64 (.add (.len (.var 0)) (.lit 1))))), (.num (.len (.var 0)))] (.con 1 [(.var 113)] (.con 1 [(.var 8)] (.dat (.rows 2) [(.num (.var 110)), (.num (.var 111)), (.num (.var 114)), (.num (.var 115))] (.con 1 [(.var 120)] (.ite (.and (.and (.and (.and (.and (.eq (.var 112) (.lit 0)) (.eq (.var 116) (.lit 0))) (.eq (.var 119) (.lit 0))) (.eq (.var 123) (.lit 0))) (.and (.eq (.var 117) (.var 3)) (.eq (.var 118) (.var 4)))) (.and (.eq (.var 121) (.var 3)) (.eq (.var 122) (.var 4))))
  (.ret [(.lit 1)])
  (.ret [(.lit 0)])))))))
  .fail)))
  .fail))))))))) := by kernel_rfl
end Go.Proofs.Ytalkhponnfggoaa
