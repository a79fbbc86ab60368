/- DERIVED. What the executor makes of functions. -/
import Derived.Test.YtkcomadagclikaaBcon
import Derived.Test.YtkcomadagclikaaCtB
import Derived.KernelRfl
namespace Go.Proofs.Ytkcomadagclikaa
open Go.Sx
set_option linter.unusedVariables false
set_option maxRecDepth 100000
theorem tree_btw (K : Nat) : runP tb [cCmp 23, cSmp K, cLow] 1000 27 (argsOf [two, two] 0) ⟨[i64b, i64b, i64b, i64b], [], []⟩ = (.con 0 [(.var 0), (.var 1), (.var 2), (.var 3)] (.ite (.not (.eq (.var 5) (.lit 0)))
  (.ret (.tup [(.agg [(.k (.int .i64 (.lit 0))), (.k (.int .i64 (.lit 0)))]), (.c (.k (.int .i64 (.var 5))))]))
  (.ite (.le (.lit 0) (.var 4))
  (.ret (.tup [(.agg [(.k (.int .i64 (.lit 0))), (.k (.int .i64 (.lit 0)))]), (.c (.k (.int .i64 (.lit 1))))]))
  (.ite (.and (.lt (.var 0) (.lit 0)) (.lt (.lit 0) (.var 2)))
  (.con 2 [(.lit 0), (.lit 1)] (.ret (.tup [(.agg [(.k (.int .i64 (.var 6))), (.k (.int .i64 (.var 7)))]), (.c (.k (.int .i64 (.var 8))))])))
  (.ite (.le (.var 2) (.lit 0))
  (.con 1 [(.wrap .i64 (.sub (.lit 0) (.var 2))), (.var 3), (.wrap .i64 (.sub (.lit 0) (.var 0))), (.var 1)] (.con 2 [(.sub (.lit 0) (.var 6)), (.var 7)] (.ret (.tup [(.agg [(.k (.int .i64 (.var 8))), (.k (.int .i64 (.var 9)))]), (.c (.k (.int .i64 (.var 10))))]))))
  (.con 1 [(.var 0), (.var 1), (.var 2), (.var 3)] (.con 2 [(.var 6), (.var 7)] (.ret (.tup [(.agg [(.k (.int .i64 (.var 8))), (.k (.int .i64 (.var 9)))]), (.c (.k (.int .i64 (.var 10))))]))))))))) := by kernel_rfl
theorem tree_btwR (K : Nat) : runP tb [cVal, cSmpR K, cMakeR] 1000 28 (argsOf [two, two] 0) ⟨[i64b, i64b, i64b, i64b], [], []⟩ = (.con 0 [(.var 0), (.var 1)] (.ite (.not (.eq (.var 4) (.lit 0)))
  (.con 0 [(.var 2), (.var 3)] (.ite (.eq (.var 5) (.lit 0))
  (.ret (.tup [(.agg [(.k (.int .i64 (.lit 0))), (.k (.int .i64 (.lit 0)))]), (.c (.k (.int .i64 (.lit 120))))]))
  (.ite (.le (.wrap .i64 (.mul (.var 2) (.var 1))) (.wrap .i64 (.mul (.var 0) (.var 3))))
  (.ret (.tup [(.agg [(.k (.int .i64 (.lit 0))), (.k (.int .i64 (.lit 0)))]), (.c (.k (.int .i64 (.lit 1))))]))
  (.ite (.and (.lt (.var 0) (.lit 0)) (.lt (.lit 0) (.var 2)))
  (.ret (.tup [(.agg [(.k (.int .i64 (.lit 0))), (.k (.int .i64 (.lit 1)))]), (.c (.k (.int .i64 (.lit 0))))]))
  (.ite (.lt (.var 0) (.lit 0))
  (.con 1 [(.wrap .i64 (.sub (.lit 0) (.var 2))), (.var 3), (.wrap .i64 (.sub (.lit 0) (.var 0))), (.var 1)] (.con 2 [(.sub (.lit 0) (.var 6)), (.var 7)] (.ret (.tup [(.agg [(.k (.int .i64 (.var 8))), (.k (.int .i64 (.var 9)))]), (.c (.k (.int .i64 (.var 10))))]))))
  (.con 1 [(.var 0), (.var 1), (.var 2), (.var 3)] (.con 2 [(.var 6), (.var 7)] (.ret (.tup [(.agg [(.k (.int .i64 (.var 8))), (.k (.int .i64 (.var 9)))]), (.c (.k (.int .i64 (.var 10))))])))))))))
  (.ret (.tup [(.agg [(.k (.int .i64 (.lit 0))), (.k (.int .i64 (.lit 0)))]), (.c (.k (.int .i64 (.lit 120))))])))) := by kernel_rfl
theorem tree_l5 (K : Nat) : runP tb [trueCon 10, cTim 25, cTim 26, cBtw 27 K, cBtw 28 K] 1000 5 (argsOf [two, two, .int .i64] 0) ⟨[i64b, i64b, i64b, i64b, i64b], [], []⟩ = (.con 0 [] (.con 1 [(.var 0), (.var 1), (.var 4)] (.con 2 [(.var 0), (.var 1), (.var 4)] (.con 3 [(.var 0), (.var 1), (.var 2), (.var 3)] (.con 4 [(.var 0), (.var 1), (.var 2), (.var 3)] (.ret (.p (.c (.k (.bool (.and (.and (.and (.and (.eq (.var 6) (.var 9)) (.eq (.var 7) (.var 10))) (.eq (.var 8) (.var 11))) (.and (.eq (.var 12) (.var 15)) (.eq (.var 13) (.var 16)))) (.eq (.var 14) (.var 17))))))))))))) := by kernel_rfl
end Go.Proofs.Ytkcomadagclikaa
