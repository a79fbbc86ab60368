/- DERIVED. What the executor makes of functions. -/
import Derived.Test.YtkcomadagclikaaBcon
import Derived.Test.YtkcomadagclikaaCtB
import Derived.KernelRfl
namespace Go.Proofs.Ytkcomadagclikaa
open Go.Sx
set_option linter.unusedVariables false
set_option maxRecDepth 100000
theorem tree_l8 (K : Nat) : runP tb [trueCon 10, cVal, cBtw 27 K, cCmp 23] 1000 8 (argsOf [two, two, two] 0) ⟨[i64b, i64b, i64b, i64b, i64b, i64b], [], []⟩ = (.con 0 [] (.con 1 [(.var 0), (.var 1)] (.ite (.not (.eq (.var 7) (.lit 0)))
  (.con 1 [(.var 2), (.var 3)] (.ite (.not (.eq (.var 8) (.lit 0)))
  (.con 1 [(.var 4), (.var 5)] (.ite (.or (.eq (.var 9) (.lit 0)) (.le (.wrap .i64 (.mul (.var 2) (.var 1))) (.wrap .i64 (.mul (.var 0) (.var 3)))))
  (.ret (.p (.c (.k (.bool (.lit true))))))
  (.con 2 [(.var 0), (.var 1), (.var 2), (.var 3)] (.con 3 [(.var 0), (.var 1), (.var 4), (.var 5)] (.con 3 [(.var 4), (.var 5), (.var 2), (.var 3)] (.ite (.not (.eq (.var 14) (.lit 0)))
  (.ret (.p (.c (.k (.bool (.lit false))))))
  (.ite (.not (.eq (.var 16) (.lit 0)))
  (.ret (.p (.c (.k (.bool (.lit false))))))
  (.ite (.and (.not (.eq (.var 12) (.lit 0))) (.not (.eq (.var 12) (.lit 2))))
  (.ret (.p (.c (.k (.bool (.lit false))))))
  (.ite (.eq (.var 12) (.lit 2))
  (.ret (.p (.c (.k (.bool (.and (.and (.eq (.var 10) (.lit 0)) (.eq (.var 11) (.lit 0))) (.not (.and (.eq (.var 13) (.lit (-1))) (.eq (.var 15) (.lit (-1)))))))))))
  (.con 3 [(.var 0), (.var 1), (.var 10), (.var 11)] (.con 3 [(.var 10), (.var 11), (.var 2), (.var 3)] (.ite (.not (.eq (.var 18) (.lit 0)))
  (.ret (.p (.c (.k (.bool (.lit false))))))
  (.ite (.not (.eq (.var 20) (.lit 0)))
  (.ret (.p (.c (.k (.bool (.lit false))))))
  (.ite (.or (.not (.eq (.var 17) (.lit (-1)))) (.not (.eq (.var 19) (.lit (-1)))))
  (.ret (.p (.c (.k (.bool (.lit false))))))
  (.ite (.or (.not (.and (.eq (.var 13) (.lit (-1))) (.eq (.var 15) (.lit (-1))))) (.and (.eq (.var 4) (.var 10)) (.eq (.var 5) (.var 11))))
  (.ret (.p (.c (.k (.bool (.lit true))))))
  (.ret (.p (.c (.k (.bool (.or (.lt (.var 11) (.var 5)) (.and (.eq (.var 5) (.var 11)) (.lt (.max (.var 10) (.sub (.lit 0) (.var 10))) (.max (.var 4) (.wrap .i64 (.sub (.lit 0) (.var 4)))))))))))))))))))))))))))
  (.ret (.p (.c (.k (.bool (.lit true))))))))
  (.ret (.p (.c (.k (.bool (.lit true))))))))) := by kernel_rfl
end Go.Proofs.Ytkcomadagclikaa
