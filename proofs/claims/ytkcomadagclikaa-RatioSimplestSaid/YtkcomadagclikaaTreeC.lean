/- DERIVED. What the executor makes of functions. -/
import Derived.Test.YtkcomadagclikaaOps
import Derived.Test.YtkcomadagclikaaCtB
import Derived.KernelRfl
namespace Go.Proofs.Ytkcomadagclikaa
open Go.Sx
set_option linter.unusedVariables false
set_option maxRecDepth 100000
theorem tree_fl : runP tb [] 1000 39 (argsOf [.int .i64, .int .i64] 0) ⟨[fb, (1, 1073741824)], [], []⟩ = (.ite (.lt (.rem (.var 0) (.var 1)) (.lit 0))
  (.ret (.p (.c (.k (.int .i64 (.sub (.quo (.var 0) (.var 1)) (.lit 1)))))))
  (.ret (.p (.c (.k (.int .i64 (.quo (.var 0) (.var 1)))))))) := by kernel_rfl
theorem tree_flR : runP tb [] 1000 40 (argsOf [.int .i64, .int .i64] 0) ⟨[fb, (1, 1073741824)], [], []⟩ = (.ite (.lt (.rem (.var 0) (.var 1)) (.lit 0))
  (.ret (.p (.c (.k (.int .i64 (.sub (.quo (.var 0) (.var 1)) (.lit 1)))))))
  (.ret (.p (.c (.k (.int .i64 (.quo (.var 0) (.var 1)))))))) := by kernel_rfl
theorem tree_tim : runP tb [cChk, cFl 39] 1000 25 (argsOf [two, .int .i64] 0) ⟨[i64b, i64b, i64b], [], []⟩ = (.con 0 [(.var 0), (.var 1)] (.ite (.not (.eq (.var 3) (.lit 0)))
  (.ret (.tup [(.c (.k (.int .i64 (.lit 0)))), (.c (.k (.int .i64 (.lit 0)))), (.c (.k (.int .i64 (.var 3))))]))
  (.ite (.or (.lt (.var 2) (.lit (-1073741824))) (.lt (.lit 1073741824) (.var 2)))
  (.ret (.tup [(.c (.k (.int .i64 (.lit 0)))), (.c (.k (.int .i64 (.lit 0)))), (.c (.k (.int .i64 (.lit 1))))]))
  (.con 1 [(.wrap .i64 (.mul (.var 0) (.var 2))), (.var 1)] (.con 1 [(.wrap .i64 (.mul (.wrap .i64 (.sub (.lit 0) (.var 0))) (.var 2))), (.var 1)] (.ret (.tup [(.c (.k (.int .i64 (.var 4)))), (.c (.k (.int .i64 (.sub (.lit 0) (.var 5))))), (.c (.k (.int .i64 (.lit 0))))]))))))) := by kernel_rfl
theorem tree_timR : runP tb [cVal, cFl 40] 1000 26 (argsOf [two, .int .i64] 0) ⟨[i64b, i64b, i64b], [], []⟩ = (.con 0 [(.var 0), (.var 1)] (.ite (.eq (.var 3) (.lit 0))
  (.ret (.tup [(.c (.k (.int .i64 (.lit 0)))), (.c (.k (.int .i64 (.lit 0)))), (.c (.k (.int .i64 (.lit 120))))]))
  (.ite (.or (.lt (.var 2) (.lit (-1073741824))) (.lt (.lit 1073741824) (.var 2)))
  (.ret (.tup [(.c (.k (.int .i64 (.lit 0)))), (.c (.k (.int .i64 (.lit 0)))), (.c (.k (.int .i64 (.lit 1))))]))
  (.con 1 [(.wrap .i64 (.mul (.var 0) (.var 2))), (.var 1)] (.con 1 [(.wrap .i64 (.mul (.wrap .i64 (.sub (.lit 0) (.var 0))) (.var 2))), (.var 1)] (.ret (.tup [(.c (.k (.int .i64 (.var 4)))), (.c (.k (.int .i64 (.sub (.lit 0) (.var 5))))), (.c (.k (.int .i64 (.lit 0))))]))))))) := by kernel_rfl
end Go.Proofs.Ytkcomadagclikaa
