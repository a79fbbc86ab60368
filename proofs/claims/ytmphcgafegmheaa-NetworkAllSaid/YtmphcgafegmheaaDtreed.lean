/- DERIVED. What the executor makes of functions. -/
import Derived.Test.YtmphcgafegmheaaDconc
import Derived.KernelRfl
namespace Go.Proofs.Ytmphcgafegmheaa
open Go.Dx
set_option linter.unusedVariables false
set_option maxRecDepth 100000
theorem tree_hap : runC tb [cSend 11, cDel 20, cLos 23, cRep 25, cCut 18] 200 (cHap 27) = (.ite (.lt (.lit 0) (.len (.var 0)))
  (.ite (.eq (.rem (.var 2) (.lit 6)) (.lit 0))
  (.dat (.rows 1) [(.num (.var 6))] (.con 0 [(.var 0), (.var 1), (.num (.rem (.var 4) (.lit 24))), (.num (.rem (.var 5) (.lit 24))), (.var 7)] (.dat (.rows 1) [] (.ret [(.var 8), (.var 9), (.num (.lit 0)), (.num (.lit 0)), (.var 11), (.num (.var 10))]))))
  (.ite (.eq (.rem (.var 2) (.lit 6)) (.lit 1))
  (.con 1 [(.var 0), (.var 1), (.num (.rem (.var 3) (.len (.var 0))))] (.ret [(.var 10), (.var 11), (.num (.var 7)), (.num (.var 8)), (.var 9), (.num (.var 12))]))
  (.ite (.eq (.rem (.var 2) (.lit 6)) (.lit 2))
  (.con 2 [(.var 0), (.var 1), (.num (.rem (.var 3) (.len (.var 0))))] (.dat (.rows 1) [] (.ret [(.var 7), (.var 8), (.num (.lit 0)), (.num (.lit 0)), (.var 10), (.num (.var 9))])))
  (.ite (.eq (.rem (.var 2) (.lit 6)) (.lit 3))
  (.con 3 [(.var 0), (.var 1), (.num (.rem (.var 3) (.len (.var 0))))] (.dat (.rows 1) [] (.ret [(.var 7), (.var 8), (.num (.lit 0)), (.num (.lit 0)), (.var 10), (.num (.var 9))])))
  (.ite (.eq (.rem (.var 2) (.lit 6)) (.lit 4))
  (.con 4 [(.var 0), (.var 1), (.num (.rem (.var 4) (.lit 24))), (.num (.rem (.var 5) (.lit 24))), (.lit 1)] (.dat (.rows 1) [] (.ret [(.var 7), (.var 8), (.num (.lit 0)), (.num (.lit 0)), (.var 10), (.num (.var 9))])))
  (.con 4 [(.var 0), (.var 1), (.num (.rem (.var 4) (.lit 24))), (.num (.rem (.var 5) (.lit 24))), (.lit 0)] (.dat (.rows 1) [] (.ret [(.var 7), (.var 8), (.num (.lit 0)), (.num (.lit 0)), (.var 10), (.num (.var 9))]))))))))
  (.ite (.eq (.rem (.var 2) (.lit 6)) (.lit 0))
  (.dat (.rows 1) [(.num (.var 6))] (.con 0 [(.var 0), (.var 1), (.num (.rem (.var 4) (.lit 24))), (.num (.rem (.var 5) (.lit 24))), (.var 7)] (.dat (.rows 1) [] (.ret [(.var 8), (.var 9), (.num (.lit 0)), (.num (.lit 0)), (.var 11), (.num (.var 10))]))))
  (.ite (.eq (.rem (.var 2) (.lit 6)) (.lit 1))
  (.con 1 [(.var 0), (.var 1), (.num (.lit 0))] (.ret [(.var 10), (.var 11), (.num (.var 7)), (.num (.var 8)), (.var 9), (.num (.var 12))]))
  (.ite (.eq (.rem (.var 2) (.lit 6)) (.lit 2))
  (.con 2 [(.var 0), (.var 1), (.num (.lit 0))] (.dat (.rows 1) [] (.ret [(.var 7), (.var 8), (.num (.lit 0)), (.num (.lit 0)), (.var 10), (.num (.var 9))])))
  (.ite (.eq (.rem (.var 2) (.lit 6)) (.lit 3))
  (.con 3 [(.var 0), (.var 1), (.num (.lit 0))] (.dat (.rows 1) [] (.ret [(.var 7), (.var 8), (.num (.lit 0)), (.num (.lit 0)), (.var 10), (.num (.var 9))])))
  (.ite (.eq (.rem (.var 2) (.lit 6)) (.lit 4))
  (.con 4 [(.var 0), (.var 1), (.num (.rem (.var 4) (.lit 24))), (.num (.rem (.var 5) (.lit 24))), (.lit 1)] (.dat (.rows 1) [] (.ret [(.var 7), (.var 8), (.num (.lit 0)), (.num (.lit 0)), (.var 10), (.num (.var 9))])))
  (.con 4 [(.var 0), (.var 1), (.num (.rem (.var 4) (.lit 24))), (.num (.rem (.var 5) (.lit 24))), (.lit 0)] (.dat (.rows 1) [] (.ret [(.var 7), (.var 8), (.num (.lit 0)), (.num (.lit 0)), (.var 10), (.num (.var 9))]))))))))) := by kernel_rfl
theorem tree_sane : runC tb [cSend 11, cDel 20, cCut 18, cRep 25, cChk 13, cSameP 22, cSame 15] 400 (lawCon 9 []) = (.dat (.rows 3) [] (.dat (.rows 2) [] (.con 1 [(.var 0), (.var 1), (.num (.lit 0))] (.dat (.rows 3) [] (.dat (.rows 2) [] (.dat (.rows 1) [] (.con 0 [(.var 8), (.var 9), (.num (.lit 3)), (.num (.lit 3)), (.var 10)] (.dat (.rows 3) [] (.dat (.rows 2) [] (.con 2 [(.var 14), (.var 15), (.num (.lit 2)), (.num (.lit 2)), (.lit 1)] (.dat (.rows 3) [] (.dat (.rows 2) [] (.dat (.rows 1) [(.num (.lit 7))] (.con 0 [(.var 19), (.var 20), (.num (.lit 1)), (.num (.lit 3)), (.var 21)] (.con 3 [(.var 22), (.var 23), (.num (.lit 0))] (.con 2 [(.var 25), (.var 26), (.num (.lit 3)), (.num (.lit 1)), (.lit 1)] (.con 1 [(.var 25), (.var 26), (.num (.lit 0))] (.con 1 [(.var 28), (.var 29), (.num (.lit 1))] (.dat (.rows 3) [] (.dat (.rows 2) [] (.con 4 [(.var 43), (.var 44)] (.ite (.and (.and (.and (.and (.and (.and (.and (.and (.eq (.var 45) (.lit 0)) (.eq (.var 7) (.lit 1))) (.eq (.var 13) (.lit 60))) (.eq (.var 18) (.lit 1))) (.eq (.var 24) (.lit 0))) (.eq (.var 27) (.lit 0))) (.eq (.var 30) (.lit 0))) (.eq (.var 36) (.lit 0))) (.eq (.var 42) (.lit 0)))
  (.dat (.rows 1) [(.num (.lit 7))] (.con 5 [(.num (.lit 1)), (.num (.lit 3)), (.var 46), (.num (.var 31)), (.num (.var 32)), (.var 33)] (.ite (.not (.eq (.var 47) (.lit 0)))
  (.dat (.rows 1) [] (.con 5 [(.num (.var 37)), (.num (.var 38)), (.var 39), (.num (.lit 0)), (.num (.lit 0)), (.var 48)] (.ite (.not (.eq (.var 49) (.lit 0)))
  (.con 6 [(.var 34), (.var 35), (.var 22), (.var 23)] (.ite (.and (.and (.and (.not (.eq (.var 50) (.lit 0))) (.eq (.len (.var 29)) (.lit 1))) (.and (.eq (.el (.var 29) (.lit 0) 0) (.lit 1)) (.eq (.el (.var 29) (.lit 0) 1) (.lit 3)))) (.eq (.len (.var 28)) (.lit 2)))
  (.ret [(.lit 1)])
  (.ret [(.lit 0)])))
  (.ret [(.lit 0)]))))
  (.ret [(.lit 0)]))))
  (.ret [(.lit 0)]))))))))))))))))))))))) := by kernel_rfl
theorem tree_lspec : runC tb [lawCon 9 [], cFew 10, cSend 11, cSend 12, cChk 13, cChk 14, cSame 15] 200 (lawCon 3 [.agg net, .agg pkt]) = (.con 0 [] (.ite (.eq (.var 5) (.lit 0))
  (.ret [(.lit 0)])
  (.con 1 [(.var 0), (.var 1)] (.ite (.eq (.var 6) (.lit 0))
  (.ret [(.lit 1)])
  (.con 2 [(.var 0), (.var 1), (.num (.var 2)), (.num (.var 3)), (.var 4)] (.con 3 [(.var 0), (.var 1), (.num (.var 2)), (.num (.var 3)), (.var 4)] (.con 4 [(.var 0), (.var 1)] (.con 5 [(.var 0), (.var 1)] (.ite (.eq (.var 13) (.var 14))
  (.con 6 [(.var 7), (.var 8), (.var 10), (.var 11)] (.ite (.and (.not (.eq (.var 15) (.lit 0))) (.eq (.var 9) (.var 12)))
  (.dat (.rows 3) [] (.dat (.rows 2) [] (.dat (.rows 3) [] (.dat (.rows 2) [] (.con 6 [(.var 16), (.var 17), (.var 18), (.var 19)] (.ret [(.num (.var 20))]))))))
  (.ret [(.lit 0)])))
  (.ret [(.lit 0)])))))))))) := by kernel_rfl
end Go.Proofs.Ytmphcgafegmheaa
