/- DERIVED. What the executor makes of functions. -/
import Derived.Test.YtkcomadagclikaaOps
import Derived.KernelRfl
namespace Go.Proofs.Ytkcomadagclikaa
open Go.Sx
set_option linter.unusedVariables false
set_option maxRecDepth 100000
theorem tree_l3 : runP tb [trueCon 10, cChk, cVal, cMake, cMakeR] 1000 3 (argsOf [two, .int .i64, .int .i64] 0) ⟨[i64b, i64b, i64b, i64b], [], []⟩ = (.con 0 [] (.con 3 [(.var 2), (.var 3)] (.con 4 [(.var 2), (.var 3)] (.con 1 [(.var 0), (.var 1)] (.con 2 [(.var 0), (.var 1)] (.ite (.eq (.var 12) (.lit 0))
  (.ret (.p (.c (.k (.bool (.and (.and (.eq (.var 11) (.lit 120)) (.and (.eq (.var 5) (.var 8)) (.eq (.var 6) (.var 9)))) (.eq (.var 7) (.var 10))))))))
  (.ret (.p (.c (.k (.bool (.and (.and (.eq (.var 11) (.lit 0)) (.and (.eq (.var 5) (.var 8)) (.eq (.var 6) (.var 9)))) (.eq (.var 7) (.var 10)))))))))))))) := by kernel_rfl
theorem tree_l4 : runP tb [trueCon 10, cAdd 15, cAdd 16, cSub 17, cSub 18, cMul 19, cMul 20, cQuo 21, cQuo 22, cCmp 23, cCmp 24] 1000 4 (argsOf [two, two] 0) ⟨[i64b, i64b, i64b, i64b], [], []⟩ = (.con 0 [] (.con 1 [(.var 0), (.var 1), (.var 2), (.var 3)] (.con 2 [(.var 0), (.var 1), (.var 2), (.var 3)] (.ite (.or (.not (.and (.eq (.var 5) (.var 8)) (.eq (.var 6) (.var 9)))) (.not (.eq (.var 7) (.var 10))))
  (.ret (.p (.c (.k (.bool (.lit false))))))
  (.con 3 [(.var 0), (.var 1), (.var 2), (.var 3)] (.con 4 [(.var 0), (.var 1), (.var 2), (.var 3)] (.ite (.or (.not (.and (.eq (.var 11) (.var 14)) (.eq (.var 12) (.var 15)))) (.not (.eq (.var 13) (.var 16))))
  (.ret (.p (.c (.k (.bool (.lit false))))))
  (.con 5 [(.var 0), (.var 1), (.var 2), (.var 3)] (.con 6 [(.var 0), (.var 1), (.var 2), (.var 3)] (.ite (.or (.not (.and (.eq (.var 17) (.var 20)) (.eq (.var 18) (.var 21)))) (.not (.eq (.var 19) (.var 22))))
  (.ret (.p (.c (.k (.bool (.lit false))))))
  (.con 7 [(.var 0), (.var 1), (.var 2), (.var 3)] (.con 8 [(.var 0), (.var 1), (.var 2), (.var 3)] (.con 9 [(.var 0), (.var 1), (.var 2), (.var 3)] (.con 10 [(.var 0), (.var 1), (.var 2), (.var 3)] (.ret (.p (.c (.k (.bool (.and (.and (.and (.and (.eq (.var 23) (.var 26)) (.eq (.var 24) (.var 27))) (.eq (.var 25) (.var 28))) (.eq (.var 29) (.var 31))) (.eq (.var 30) (.var 32)))))))))))))))))))))) := by kernel_rfl
theorem tree_few : runP tb [cMake] 1000 29 (argsOf [.int .i16, .int .u16] 0) ⟨[(-32768, 32767), (0, 65535)], [], []⟩ = (.con 0 [(.rem (.var 0) (.lit 512)), (.add (.lit 1) (.rem (.var 1) (.lit 1024)))] (.ret (.tup [(.agg [(.k (.int .i64 (.var 2))), (.k (.int .i64 (.var 3)))]), (.c (.k (.bool (.eq (.var 4) (.lit 0)))))]))) := by kernel_rfl
end Go.Proofs.Ytkcomadagclikaa
