/- DERIVED. What the executor makes of functions. -/
import Derived.Test.YtpaphkpdnmalhaaDconb
import Derived.KernelRfl
namespace Go.Proofs.Ytpaphkpdnmalhaa
open Go.Dx
set_option linter.unusedVariables false
set_option maxRecDepth 100000
theorem tree_lspec : runC tb [lawCon 9 [], lFew 3, cClash 11, cClash 12, cChk 13, cChk 14] 200 (lawCon 3 [.agg book]) = (.con 0 [] (.ite (.eq (.var 2) (.lit 0))
  (.ret [(.lit 0)])
  (.ite (.or (.lt (.lit 100) (.len (.var 1))) (.lt (.lit 100) (.len (.var 0))))
  (.ret [(.lit 1)])
  (.lop 1 [(.num (.lit 0))] 39 (.ite (.lt (.var 3) (.len (.var 1)))
  (.ite (.or (.lt (.lit 60) (.len (.el (.var 1) (.var 3) 3))) (.lt (.lit 60) (.len (.el (.var 1) (.var 3) 4))))
  (.ret [(.lit 1)])
  (.chk 1 3 [(.num (.add (.var 3) (.lit 1)))]))
  (.con 2 [(.var 0), (.var 1)] (.con 3 [(.var 0), (.var 1)] (.con 4 [(.var 0), (.var 1)] (.con 5 [(.var 0), (.var 1)] (.ite (.and (.and (.and (.and (.eq (.var 51) (.var 52)) (.eq (.var 43) (.var 47))) (.eq (.var 44) (.var 48))) (.or (.and (.not (.eq (.var 45) (.lit 0))) (.not (.eq (.var 49) (.lit 0)))) (.and (.eq (.var 45) (.lit 0)) (.eq (.var 49) (.lit 0))))) (.eq (.var 46) (.var 50)))
  (.ret [(.lit 1)])
  (.ret [(.lit 0)]))))))))))) := by kernel_rfl
theorem tree_lbinds : runC tb [lawCon 9 [], lFew 7, cBinds 15, cBinds 16, cMay 17, cMay 18, cDis 19, cDis 20, cSame 21] 300 (lawCon 4 [.agg book, .c ints, .c ints, aI, aI]) = (.con 0 [] (.ite (.eq (.var 6) (.lit 0))
  (.ret [(.lit 0)])
  (.ite (.or (.lt (.lit 100) (.len (.var 1))) (.lt (.lit 100) (.len (.var 0))))
  (.ret [(.lit 1)])
  (.lop 1 [(.num (.lit 0))] 39 (.ite (.lt (.var 7) (.len (.var 1)))
  (.ite (.or (.lt (.lit 60) (.len (.el (.var 1) (.var 7) 3))) (.lt (.lit 60) (.len (.el (.var 1) (.var 7) 4))))
  (.ret [(.lit 1)])
  (.chk 1 7 [(.num (.add (.var 7) (.lit 1)))]))
  (.ite (.or (.lt (.lit 60) (.len (.var 2))) (.lt (.lit 60) (.len (.var 3))))
  (.ret [(.lit 1)])
  (.con 2 [(.var 0), (.var 1), (.var 2), (.num (.var 4))] (.con 3 [(.var 0), (.var 1), (.var 2), (.num (.var 4))] (.con 4 [(.var 0), (.var 1), (.var 2), (.var 3), (.num (.var 4))] (.con 5 [(.var 0), (.var 1), (.var 2), (.var 3), (.num (.var 4))] (.con 6 [(.var 0), (.var 1), (.num (.var 5)), (.var 2)] (.con 7 [(.var 0), (.var 1), (.num (.var 5)), (.var 2)] (.ite (.and (.and (.and (.and (.and (.eq (.var 47) (.var 50)) (.or (.and (.not (.eq (.var 48) (.lit 0))) (.not (.eq (.var 51) (.lit 0)))) (.and (.eq (.var 48) (.lit 0)) (.eq (.var 51) (.lit 0))))) (.eq (.var 49) (.var 52))) (.eq (.var 53) (.var 56))) (.or (.and (.not (.eq (.var 54) (.lit 0))) (.not (.eq (.var 57) (.lit 0)))) (.and (.eq (.var 54) (.lit 0)) (.eq (.var 57) (.lit 0))))) (.eq (.var 55) (.var 58)))
  (.con 8 [(.var 59), (.var 62)] (.ite (.and (.and (.not (.eq (.var 65) (.lit 0))) (.or (.and (.not (.eq (.var 60) (.lit 0))) (.not (.eq (.var 63) (.lit 0)))) (.and (.eq (.var 60) (.lit 0)) (.eq (.var 63) (.lit 0))))) (.eq (.var 61) (.var 64)))
  (.ret [(.lit 1)])
  (.ret [(.lit 0)])))
  (.ret [(.lit 0)])))))))))))))) := by kernel_rfl
end Go.Proofs.Ytpaphkpdnmalhaa
