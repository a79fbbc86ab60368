/- DERIVED. What the executor makes of functions. -/
import Derived.Test.YtgaaommfemgnnaaEconw
import Derived.KernelRfl
namespace Go.Proofs.Ytgaaommfemgnnaa
open Go.Dx
set_option linter.unusedVariables false
set_option maxRecDepth 100000
theorem tree_lroot : runC tb [lawCon 12 [], cSqr 21, cSqr 22, cRoot 23, cRoot 24, cScl 25, cScl 26] 80 (lawCon 4 [two, two]) = (.con 0 [] (.ite (.eq (.var 4) (.lit 0))
  (.ret [(.lit 0)])
  (.con 1 [(.num (.var 0)), (.num (.var 1))] (.con 2 [(.num (.var 0)), (.num (.var 1))] (.con 3 [(.num (.var 0)), (.num (.var 1))] (.con 4 [(.num (.var 0)), (.num (.var 1))] (.con 5 [(.num (.var 0)), (.num (.var 1)), (.num (.var 2)), (.num (.var 3))] (.con 6 [(.num (.var 0)), (.num (.var 1)), (.num (.var 2)), (.num (.var 3))] (.ite (.and (.and (.and (.and (.and (.and (.eq (.var 5) (.var 8)) (.eq (.var 6) (.var 9))) (.eq (.var 7) (.var 10))) (.and (.eq (.var 11) (.var 14)) (.eq (.var 12) (.var 15)))) (.eq (.var 13) (.var 16))) (.and (.eq (.var 17) (.var 20)) (.eq (.var 18) (.var 21)))) (.eq (.var 19) (.var 22)))
  (.ret [(.lit 1)])
  (.ret [(.lit 0)])))))))))) := by kernel_rfl
end Go.Proofs.Ytgaaommfemgnnaa
