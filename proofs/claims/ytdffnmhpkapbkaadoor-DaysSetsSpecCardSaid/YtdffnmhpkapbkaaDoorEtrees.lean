/- DERIVED. What the executor makes of functions. -/
import Derived.Test.YtdffnmhpkapbkaaDoorEcone
import Derived.KernelRfl
namespace Go.Proofs.YtdffnmhpkapbkaaDoor
open Go.Dx
set_option linter.unusedVariables false
set_option maxRecDepth 100000
theorem tree_sane : runC tb [cOf 10, cNum 12, cWk 14, cCnt 17, cNth 19, cChk 21, cUni 23 1, cUni 25 2, cUni 27 3, cSam 29] 200 (lawCon 9 []) = (.con 0 [(.num (.lit 59))] (.con 0 [(.num (.lit 73048))] (.con 0 [(.num (.lit 366))] (.con 1 [(.num (.lit 2100)), (.num (.lit 2)), (.num (.lit 29))] (.con 2 [(.num (.lit 0))] (.dat (.rows 2) [(.num (.lit 1)), (.num (.lit 9))] (.dat (.rows 2) [(.num (.lit 3)), (.num (.lit 5))] (.con 8 [(.var 16), (.var 17)] (.dat (.rows 2) [(.num (.lit 1)), (.num (.lit 3))] (.dat (.rows 2) [(.num (.lit 4)), (.num (.lit 6))] (.con 6 [(.var 20), (.var 21)] (.dat (.rows 2) [(.num (.lit 1)), (.num (.lit 5))] (.dat (.rows 2) [(.num (.lit 3)), (.num (.lit 9))] (.con 7 [(.var 24), (.var 25)] (.con 3 [(.var 18)] (.con 4 [(.var 18), (.num (.lit 2))] (.con 4 [(.var 18), (.num (.lit 6))] (.con 4 [(.var 18), (.num (.lit (-1)))] (.ite (.or (.or (.or (.or (.or (.or (.or (.or (.or (.or (.or (.not (.eq (.var 3) (.lit 0))) (.not (.eq (.var 7) (.lit 0)))) (.not (.eq (.var 11) (.lit 0)))) (.not (.eq (.var 13) (.lit 140)))) (.not (.eq (.var 15) (.lit 0)))) (.not (.eq (.var 19) (.lit 0)))) (.not (.eq (.var 23) (.lit 0)))) (.not (.eq (.var 27) (.lit 0)))) (.not (.eq (.var 29) (.lit 0)))) (.not (.eq (.var 32) (.lit 0)))) (.not (.eq (.var 35) (.lit 0)))) (.not (.eq (.var 38) (.lit 1))))
  (.ret [(.lit 0)])
  (.ite (.or (.or (.or (.or (.or (.or (.or (.not (.and (.eq (.var 0) (.lit 2000)) (.and (.eq (.var 1) (.lit 2)) (.eq (.var 2) (.lit 29))))) (.not (.and (.eq (.var 4) (.lit 2199)) (.and (.eq (.var 5) (.lit 12)) (.eq (.var 6) (.lit 31)))))) (.not (.and (.eq (.var 8) (.lit 2001)) (.and (.eq (.var 9) (.lit 1)) (.eq (.var 10) (.lit 1)))))) (.not (.eq (.var 14) (.lit 5)))) (.not (.eq (.var 28) (.lit 6)))) (.not (.eq (.var 30) (.lit 6)))) (.eq (.var 31) (.lit 0))) (.not (.eq (.var 34) (.lit 0))))
  (.ret [(.lit 0)])
  (.dat (.rows 2) [(.num (.lit 1)), (.num (.lit 3)), (.num (.lit 4)), (.num (.lit 6))] (.con 5 [(.var 39)] (.ite (.eq (.var 40) (.lit 140))
  (.dat (.rows 2) [(.num (.lit 1)), (.num (.lit 2)), (.num (.lit 6)), (.num (.lit 9))] (.con 9 [(.var 18), (.var 41)] (.ite (.not (.eq (.var 42) (.lit 0)))
  (.dat (.rows 2) [(.num (.lit 1)), (.num (.lit 6))] (.con 9 [(.var 22), (.var 43)] (.ite (.not (.eq (.var 44) (.lit 0)))
  (.dat (.rows 2) [(.num (.lit 3)), (.num (.lit 5))] (.con 9 [(.var 26), (.var 45)] (.ret [(.num (.var 46))])))
  (.ret [(.lit 0)]))))
  (.ret [(.lit 0)]))))
  (.ret [(.lit 0)])))))))))))))))))))))))) := by kernel_rfl
end Go.Proofs.YtdffnmhpkapbkaaDoor
