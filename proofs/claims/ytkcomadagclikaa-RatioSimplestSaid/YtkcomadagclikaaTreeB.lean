/- DERIVED. What the executor makes of functions. -/
import Derived.Test.YtkcomadagclikaaOps
import Derived.KernelRfl
namespace Go.Proofs.Ytkcomadagclikaa
open Go.Sx
set_option linter.unusedVariables false
set_option maxRecDepth 100000
theorem tree_add : runP tb [cChk, cLow] 1000 15 (argsOf [two, two] 0) ⟨[i64b, i64b, i64b, i64b], [], []⟩ = (.con 0 [(.var 0), (.var 1)] (.ite (.not (.eq (.var 4) (.lit 0)))
  (.ret (.tup [(.agg [(.k (.int .i64 (.lit 0))), (.k (.int .i64 (.lit 0)))]), (.c (.k (.int .i64 (.var 4))))]))
  (.con 0 [(.var 2), (.var 3)] (.ite (.not (.eq (.var 5) (.lit 0)))
  (.ret (.tup [(.agg [(.k (.int .i64 (.lit 0))), (.k (.int .i64 (.lit 0)))]), (.c (.k (.int .i64 (.var 5))))]))
  (.con 1 [(.wrap .i64 (.add (.wrap .i64 (.mul (.var 0) (.var 3))) (.wrap .i64 (.mul (.var 2) (.var 1))))), (.wrap .i64 (.mul (.var 1) (.var 3)))] (.ret (.tup [(.agg [(.k (.int .i64 (.var 6))), (.k (.int .i64 (.var 7)))]), (.c (.k (.int .i64 (.var 8))))]))))))) := by kernel_rfl
theorem tree_mul : runP tb [cChk, cLow] 1000 19 (argsOf [two, two] 0) ⟨[i64b, i64b, i64b, i64b], [], []⟩ = (.con 0 [(.var 0), (.var 1)] (.ite (.not (.eq (.var 4) (.lit 0)))
  (.ret (.tup [(.agg [(.k (.int .i64 (.lit 0))), (.k (.int .i64 (.lit 0)))]), (.c (.k (.int .i64 (.var 4))))]))
  (.con 0 [(.var 2), (.var 3)] (.ite (.not (.eq (.var 5) (.lit 0)))
  (.ret (.tup [(.agg [(.k (.int .i64 (.lit 0))), (.k (.int .i64 (.lit 0)))]), (.c (.k (.int .i64 (.var 5))))]))
  (.con 1 [(.wrap .i64 (.mul (.var 0) (.var 2))), (.wrap .i64 (.mul (.var 1) (.var 3)))] (.ret (.tup [(.agg [(.k (.int .i64 (.var 6))), (.k (.int .i64 (.var 7)))]), (.c (.k (.int .i64 (.var 8))))]))))))) := by kernel_rfl
theorem tree_quo : runP tb [cChk, cLow] 1000 21 (argsOf [two, two] 0) ⟨[i64b, i64b, i64b, i64b], [], []⟩ = (.con 0 [(.var 0), (.var 1)] (.ite (.not (.eq (.var 4) (.lit 0)))
  (.ret (.tup [(.agg [(.k (.int .i64 (.lit 0))), (.k (.int .i64 (.lit 0)))]), (.c (.k (.int .i64 (.var 4))))]))
  (.con 0 [(.var 2), (.var 3)] (.ite (.not (.eq (.var 5) (.lit 0)))
  (.ret (.tup [(.agg [(.k (.int .i64 (.lit 0))), (.k (.int .i64 (.lit 0)))]), (.c (.k (.int .i64 (.var 5))))]))
  (.ite (.eq (.var 2) (.lit 0))
  (.ret (.tup [(.agg [(.k (.int .i64 (.lit 0))), (.k (.int .i64 (.lit 0)))]), (.c (.k (.int .i64 (.lit 120))))]))
  (.con 1 [(.wrap .i64 (.mul (.var 0) (.var 3))), (.wrap .i64 (.mul (.var 1) (.var 2)))] (.ret (.tup [(.agg [(.k (.int .i64 (.var 6))), (.k (.int .i64 (.var 7)))]), (.c (.k (.int .i64 (.var 8))))])))))))) := by kernel_rfl
theorem tree_sub : runP tb [cAdd 15] 1000 17 (argsOf [two, two] 0) ⟨[i64b, i64b, i64b, i64b], [], []⟩ = (.con 0 [(.var 0), (.var 1), (.wrap .i64 (.sub (.lit 0) (.var 2))), (.var 3)] (.ret (.tup [(.agg [(.k (.int .i64 (.var 4))), (.k (.int .i64 (.var 5)))]), (.c (.k (.int .i64 (.var 6))))]))) := by kernel_rfl
theorem tree_cmp : runP tb [cChk] 1000 23 (argsOf [two, two] 0) ⟨[i64b, i64b, i64b, i64b], [], []⟩ = (.con 0 [(.var 0), (.var 1)] (.ite (.not (.eq (.var 4) (.lit 0)))
  (.ret (.tup [(.c (.k (.int .i64 (.lit 0)))), (.c (.k (.int .i64 (.var 4))))]))
  (.con 0 [(.var 2), (.var 3)] (.ite (.not (.eq (.var 5) (.lit 0)))
  (.ret (.tup [(.c (.k (.int .i64 (.lit 0)))), (.c (.k (.int .i64 (.var 5))))]))
  (.ite (.lt (.wrap .i64 (.mul (.var 0) (.var 3))) (.wrap .i64 (.mul (.var 2) (.var 1))))
  (.ret (.tup [(.c (.k (.int .i64 (.lit (-1))))), (.c (.k (.int .i64 (.lit 0))))]))
  (.ite (.lt (.wrap .i64 (.mul (.var 2) (.var 1))) (.wrap .i64 (.mul (.var 0) (.var 3))))
  (.ret (.tup [(.c (.k (.int .i64 (.lit 1)))), (.c (.k (.int .i64 (.lit 0))))]))
  (.ret (.tup [(.c (.k (.int .i64 (.lit 0)))), (.c (.k (.int .i64 (.lit 0))))])))))))) := by kernel_rfl
theorem tree_addR : runP tb [cVal, cMakeR] 1000 16 (argsOf [two, two] 0) ⟨[i64b, i64b, i64b, i64b], [], []⟩ = (.con 0 [(.var 0), (.var 1)] (.ite (.not (.eq (.var 4) (.lit 0)))
  (.con 0 [(.var 2), (.var 3)] (.ite (.eq (.var 5) (.lit 0))
  (.ret (.tup [(.agg [(.k (.int .i64 (.lit 0))), (.k (.int .i64 (.lit 0)))]), (.c (.k (.int .i64 (.lit 120))))]))
  (.con 1 [(.wrap .i64 (.add (.wrap .i64 (.mul (.var 0) (.var 3))) (.wrap .i64 (.mul (.var 2) (.var 1))))), (.wrap .i64 (.mul (.var 1) (.var 3)))] (.ret (.tup [(.agg [(.k (.int .i64 (.var 6))), (.k (.int .i64 (.var 7)))]), (.c (.k (.int .i64 (.var 8))))])))))
  (.ret (.tup [(.agg [(.k (.int .i64 (.lit 0))), (.k (.int .i64 (.lit 0)))]), (.c (.k (.int .i64 (.lit 120))))])))) := by kernel_rfl
theorem tree_mulR : runP tb [cVal, cMakeR] 1000 20 (argsOf [two, two] 0) ⟨[i64b, i64b, i64b, i64b], [], []⟩ = (.con 0 [(.var 0), (.var 1)] (.ite (.not (.eq (.var 4) (.lit 0)))
  (.con 0 [(.var 2), (.var 3)] (.ite (.eq (.var 5) (.lit 0))
  (.ret (.tup [(.agg [(.k (.int .i64 (.lit 0))), (.k (.int .i64 (.lit 0)))]), (.c (.k (.int .i64 (.lit 120))))]))
  (.con 1 [(.wrap .i64 (.mul (.var 0) (.var 2))), (.wrap .i64 (.mul (.var 1) (.var 3)))] (.ret (.tup [(.agg [(.k (.int .i64 (.var 6))), (.k (.int .i64 (.var 7)))]), (.c (.k (.int .i64 (.var 8))))])))))
  (.ret (.tup [(.agg [(.k (.int .i64 (.lit 0))), (.k (.int .i64 (.lit 0)))]), (.c (.k (.int .i64 (.lit 120))))])))) := by kernel_rfl
theorem tree_quoR : runP tb [cVal, cMakeR] 1000 22 (argsOf [two, two] 0) ⟨[i64b, i64b, i64b, i64b], [], []⟩ = (.con 0 [(.var 0), (.var 1)] (.ite (.not (.eq (.var 4) (.lit 0)))
  (.con 0 [(.var 2), (.var 3)] (.ite (.or (.eq (.var 5) (.lit 0)) (.eq (.var 2) (.lit 0)))
  (.ret (.tup [(.agg [(.k (.int .i64 (.lit 0))), (.k (.int .i64 (.lit 0)))]), (.c (.k (.int .i64 (.lit 120))))]))
  (.con 1 [(.wrap .i64 (.mul (.var 0) (.var 3))), (.wrap .i64 (.mul (.var 1) (.var 2)))] (.ret (.tup [(.agg [(.k (.int .i64 (.var 6))), (.k (.int .i64 (.var 7)))]), (.c (.k (.int .i64 (.var 8))))])))))
  (.ret (.tup [(.agg [(.k (.int .i64 (.lit 0))), (.k (.int .i64 (.lit 0)))]), (.c (.k (.int .i64 (.lit 120))))])))) := by kernel_rfl
theorem tree_subR : runP tb [cVal, cMakeR] 1000 18 (argsOf [two, two] 0) ⟨[i64b, i64b, i64b, i64b], [], []⟩ = (.con 0 [(.var 0), (.var 1)] (.ite (.not (.eq (.var 4) (.lit 0)))
  (.con 0 [(.var 2), (.var 3)] (.ite (.eq (.var 5) (.lit 0))
  (.ret (.tup [(.agg [(.k (.int .i64 (.lit 0))), (.k (.int .i64 (.lit 0)))]), (.c (.k (.int .i64 (.lit 120))))]))
  (.con 1 [(.wrap .i64 (.sub (.wrap .i64 (.mul (.var 0) (.var 3))) (.wrap .i64 (.mul (.var 2) (.var 1))))), (.wrap .i64 (.mul (.var 1) (.var 3)))] (.ret (.tup [(.agg [(.k (.int .i64 (.var 6))), (.k (.int .i64 (.var 7)))]), (.c (.k (.int .i64 (.var 8))))])))))
  (.ret (.tup [(.agg [(.k (.int .i64 (.lit 0))), (.k (.int .i64 (.lit 0)))]), (.c (.k (.int .i64 (.lit 120))))])))) := by kernel_rfl
theorem tree_cmpR : runP tb [cVal] 1000 24 (argsOf [two, two] 0) ⟨[i64b, i64b, i64b, i64b], [], []⟩ = (.con 0 [(.var 0), (.var 1)] (.ite (.not (.eq (.var 4) (.lit 0)))
  (.con 0 [(.var 2), (.var 3)] (.ite (.eq (.var 5) (.lit 0))
  (.ret (.tup [(.c (.k (.int .i64 (.lit 0)))), (.c (.k (.int .i64 (.lit 120))))]))
  (.ite (.lt (.wrap .i64 (.mul (.var 0) (.var 3))) (.wrap .i64 (.mul (.var 2) (.var 1))))
  (.ret (.tup [(.c (.k (.int .i64 (.lit (-1))))), (.c (.k (.int .i64 (.lit 0))))]))
  (.ite (.lt (.wrap .i64 (.mul (.var 2) (.var 1))) (.wrap .i64 (.mul (.var 0) (.var 3))))
  (.ret (.tup [(.c (.k (.int .i64 (.lit 1)))), (.c (.k (.int .i64 (.lit 0))))]))
  (.ret (.tup [(.c (.k (.int .i64 (.lit 0)))), (.c (.k (.int .i64 (.lit 0))))]))))))
  (.ret (.tup [(.c (.k (.int .i64 (.lit 0)))), (.c (.k (.int .i64 (.lit 120))))])))) := by kernel_rfl
end Go.Proofs.Ytkcomadagclikaa
