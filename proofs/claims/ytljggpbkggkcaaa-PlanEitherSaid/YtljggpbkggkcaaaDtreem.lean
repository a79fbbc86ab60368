/- DERIVED. What the executor makes of functions. -/
import Derived.Test.YtljggpbkggkcaaaDcond
import Derived.KernelRfl
namespace Go.Proofs.Ytljggpbkggkcaaa
open Go.Dx
set_option linter.unusedVariables false
set_option maxRecDepth 100000
theorem tree_sane : runC tb [cRobust 12, cRel 17, cNext 19, cSpo 21, cFirm 23, cChk 14] 200 (lawCon 11 []) = (.dat (.rows 5) [(.num (.lit 3)), (.num (.lit 5)), (.num (.lit 4)), (.num (.lit 6)), (.num (.lit 0))] (.con 0 [(.num (.lit 10)), (.num (.lit 4)), (.num (.lit 2)), (.var 0)] (.dat (.rows 5) [(.num (.lit 3)), (.num (.lit 5)), (.num (.lit 4)), (.num (.lit 6)), (.num (.lit 0))] (.con 1 [(.num (.lit 10)), (.num (.lit 4)), (.num (.lit 2)), (.var 3), (.num (.lit 0)), (.num (.lit 4))] (.dat (.rows 5) [(.num (.lit 3)), (.num (.lit 5)), (.num (.lit 4)), (.num (.lit 6)), (.num (.lit 0))] (.con 1 [(.num (.lit 10)), (.num (.lit 4)), (.num (.lit 2)), (.var 6), (.num (.lit 0)), (.num (.lit 10))] (.dat (.rows 5) [(.num (.lit 3)), (.num (.lit 5)), (.num (.lit 4)), (.num (.lit 6)), (.num (.lit 0))] (.con 1 [(.num (.lit 10)), (.num (.lit 4)), (.num (.lit 2)), (.var 9), (.num (.lit 0)), (.num (.lit 3))] (.ite (.not (.or (.or (.or (.or (.or (.not (.eq (.var 2) (.lit 0))) (.not (.eq (.var 5) (.lit 0)))) (.not (.eq (.var 8) (.lit 0)))) (.not (.eq (.var 11) (.lit 390)))) (.not (.eq (.var 4) (.lit 4)))) (.not (.eq (.var 7) (.lit 5)))))
  (.ite (.not (.eq (.len (.var 1)) (.lit 2)))
  (.ret [(.lit 0)])
  (.ite (.not (.and (.eq (.el (.var 1) (.lit 0) 0) (.lit 4)) (.eq (.el (.var 1) (.lit 0) 1) (.lit 10))))
  (.ret [(.lit 0)])
  (.ite (.not (.and (.eq (.el (.var 1) (.lit 1) 0) (.lit 2)) (.eq (.el (.var 1) (.lit 1) 1) (.lit 10))))
  (.ret [(.lit 0)])
  (.dat (.rows 5) [(.num (.lit 3)), (.num (.lit 5)), (.num (.lit 4)), (.num (.lit 6)), (.num (.lit 0))] (.con 2 [(.num (.lit 10)), (.num (.lit 4)), (.num (.lit 2)), (.var 12), (.num (.lit 0)), (.num (.lit 10)), (.num (.lit 5)), (.num (.lit 5))] (.dat (.rows 5) [(.num (.lit 3)), (.num (.lit 5)), (.num (.lit 4)), (.num (.lit 6)), (.num (.lit 0))] (.con 2 [(.num (.lit 10)), (.num (.lit 4)), (.num (.lit 2)), (.var 17), (.num (.lit 0)), (.num (.lit 10)), (.num (.lit 4)), (.num (.lit 5))] (.dat (.rows 5) [(.num (.lit 3)), (.num (.lit 5)), (.num (.lit 4)), (.num (.lit 6)), (.num (.lit 1))] (.con 2 [(.num (.lit 10)), (.num (.lit 4)), (.num (.lit 2)), (.var 22), (.num (.lit 0)), (.num (.lit 10)), (.num (.lit 4)), (.num (.lit 5))] (.ite (.or (.or (.or (.or (.or (.or (.or (.or (.or (.not (.eq (.var 16) (.lit 0))) (.not (.eq (.var 21) (.lit 0)))) (.not (.eq (.var 26) (.lit 0)))) (.eq (.var 15) (.lit 0))) (.not (.eq (.var 20) (.lit 0)))) (.eq (.var 25) (.lit 0))) (.not (.eq (.var 13) (.lit 10)))) (.not (.eq (.var 14) (.lit 0)))) (.not (.eq (.var 23) (.lit 10)))) (.not (.eq (.var 24) (.lit 1))))
  (.ret [(.lit 0)])
  (.dat (.rows 5) [(.num (.lit 3)), (.num (.lit 5)), (.num (.lit 4)), (.num (.lit 6)), (.num (.lit 0))] (.con 3 [(.num (.lit 10)), (.num (.lit 4)), (.num (.lit 4)), (.var 27), (.num (.lit 0)), (.num (.lit 4)), (.num (.lit 4))] (.dat (.rows 5) [(.num (.lit 3)), (.num (.lit 9)), (.num (.lit 4)), (.num (.lit 4)), (.num (.lit 0))] (.con 3 [(.num (.lit 10)), (.num (.lit 4)), (.num (.lit 4)), (.var 30), (.num (.lit 0)), (.num (.lit 10)), (.num (.lit 4))] (.dat (.rows 5) [(.num (.lit 3)), (.num (.lit 5)), (.num (.lit 4)), (.num (.lit 6)), (.num (.lit 0))] (.dat (.rows 1) [(.num (.lit 1))] (.con 4 [(.num (.lit 10)), (.num (.lit 4)), (.num (.lit 2)), (.var 33), (.var 34)] (.dat (.rows 5) [] (.dat (.rows 1) [] (.con 4 [(.num (.lit 5)), (.num (.lit 0)), (.num (.lit 1)), (.var 38), (.var 39)] (.ite (.and (.and (.and (.and (.and (.and (.and (.and (.eq (.var 29) (.lit 0)) (.eq (.var 32) (.lit 0))) (.eq (.var 37) (.lit 0))) (.eq (.var 42) (.lit 0))) (.eq (.var 28) (.lit 3))) (.eq (.var 31) (.lit 9))) (.eq (.var 35) (.lit 4))) (.not (.eq (.var 36) (.lit 0)))) (.eq (.var 41) (.lit 0)))
  (.dat (.rows 5) [] (.con 5 [(.num (.lit 0)), (.num (.lit 0)), (.num (.lit 0)), (.var 43)] (.ite (.eq (.var 44) (.lit 0))
  (.dat (.rows 5) [] (.con 5 [(.num (.lit 0)), (.num (.lit 0)), (.num (.lit 1)), (.var 45)] (.ite (.eq (.var 46) (.lit 390))
  (.ret [(.lit 1)])
  (.ret [(.lit 0)]))))
  (.ret [(.lit 0)]))))
  (.ret [(.lit 0)]))))))))))))))))))))))
  (.ret [(.lit 0)])))))))))) := by kernel_rfl
end Go.Proofs.Ytljggpbkggkcaaa
