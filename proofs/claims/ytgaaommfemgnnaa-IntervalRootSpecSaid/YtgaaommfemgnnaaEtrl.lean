/- DERIVED. What the executor makes of functions. -/
import Derived.Test.YtgaaommfemgnnaaEcon
import Derived.KernelRfl
namespace Go.Proofs.Ytgaaommfemgnnaa
open Go.Dx
set_option linter.unusedVariables false
set_option maxRecDepth 100000
theorem tree_lscl : runC tb [lawCon 12 [], cScl 25, cIn 31] 80 (lawCon 8 [two, two]) = (.con 0 [] (.ite (.eq (.var 4) (.lit 0))
  (.ret [(.lit 0)])
  (.con 1 [(.num (.var 0)), (.num (.var 1)), (.num (.var 2)), (.num (.var 3))] (.ite (.or (.or (.not (.eq (.var 7) (.lit 0))) (.lt (.var 0) (.lit (-1073741824)))) (.lt (.lit 1073741824) (.var 1)))
  (.ite (.or (.eq (.var 7) (.lit 0)) (.and (.eq (.var 5) (.lit 0)) (.eq (.var 6) (.lit 0))))
  (.ret [(.lit 1)])
  (.ret [(.lit 0)]))
  (.ite (.or (.or (.or (.lt (.var 3) (.lit 1)) (.lt (.lit 1073741824) (.var 3))) (.lt (.var 2) (.lit (-1073741824)))) (.lt (.lit 1073741824) (.var 2)))
  (.ret [(.lit 0)])
  (.ite (.or (.or (.or (.lt (.wrap .i64 (.add (.wrap .i64 (.quo (.min (.wrap .i64 (.mul (.var 2) (.var 0))) (.wrap .i64 (.mul (.var 2) (.var 1)))) (.var 3))) (.lit 1))) (.var 5)) (.lt (.var 5) (.wrap .i64 (.sub (.wrap .i64 (.quo (.min (.wrap .i64 (.mul (.var 2) (.var 0))) (.wrap .i64 (.mul (.var 2) (.var 1)))) (.var 3))) (.lit 1))))) (.lt (.wrap .i64 (.add (.wrap .i64 (.quo (.max (.wrap .i64 (.mul (.var 2) (.var 0))) (.wrap .i64 (.mul (.var 2) (.var 1)))) (.var 3))) (.lit 1))) (.var 6))) (.lt (.var 6) (.wrap .i64 (.sub (.wrap .i64 (.quo (.max (.wrap .i64 (.mul (.var 2) (.var 0))) (.wrap .i64 (.mul (.var 2) (.var 1)))) (.var 3))) (.lit 1)))))
  (.ret [(.lit 0)])
  (.ite (.or (.or (.or (.lt (.wrap .i64 (.sub (.min (.wrap .i64 (.mul (.var 2) (.var 0))) (.wrap .i64 (.mul (.var 2) (.var 1)))) (.wrap .i64 (.mul (.var 5) (.var 3))))) (.lit 0)) (.le (.var 3) (.wrap .i64 (.sub (.min (.wrap .i64 (.mul (.var 2) (.var 0))) (.wrap .i64 (.mul (.var 2) (.var 1)))) (.wrap .i64 (.mul (.var 5) (.var 3))))))) (.lt (.wrap .i64 (.sub (.wrap .i64 (.mul (.var 6) (.var 3))) (.max (.wrap .i64 (.mul (.var 2) (.var 0))) (.wrap .i64 (.mul (.var 2) (.var 1)))))) (.lit 0))) (.le (.var 3) (.wrap .i64 (.sub (.wrap .i64 (.mul (.var 6) (.var 3))) (.max (.wrap .i64 (.mul (.var 2) (.var 0))) (.wrap .i64 (.mul (.var 2) (.var 1))))))))
  (.ret [(.lit 0)])
  (.ite (.eq (.var 2) (.lit 0))
  (.ite (.and (.eq (.var 5) (.lit 0)) (.eq (.var 6) (.lit 0)))
  (.ret [(.lit 1)])
  (.ret [(.lit 0)]))
  (.ite (.lt (.var 2) (.lit 0))
  (.con 1 [(.num (.var 5)), (.num (.var 6)), (.num (.sub (.lit 0) (.var 3))), (.num (.sub (.lit 0) (.var 2)))] (.ite (.not (.eq (.var 10) (.lit 0)))
  (.ite (.eq (.var 10) (.lit 2))
  (.ret [(.lit 1)])
  (.ret [(.lit 0)]))
  (.con 2 [(.num (.var 0)), (.num (.var 1)), (.num (.var 8)), (.num (.var 9))] (.ite (.and (.eq (.var 12) (.lit 0)) (.not (.eq (.var 11) (.lit 0))))
  (.ret [(.lit 1)])
  (.ret [(.lit 0)])))))
  (.con 1 [(.num (.var 5)), (.num (.var 6)), (.num (.var 3)), (.num (.var 2))] (.ite (.not (.eq (.var 10) (.lit 0)))
  (.ite (.eq (.var 10) (.lit 2))
  (.ret [(.lit 1)])
  (.ret [(.lit 0)]))
  (.con 2 [(.num (.var 0)), (.num (.var 1)), (.num (.var 8)), (.num (.var 9))] (.ite (.and (.eq (.var 12) (.lit 0)) (.not (.eq (.var 11) (.lit 0))))
  (.ret [(.lit 1)])
  (.ret [(.lit 0)])))))))))))))) := by kernel_rfl
end Go.Proofs.Ytgaaommfemgnnaa
