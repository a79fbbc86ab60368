/- DERIVED. What the executor makes of functions. -/
import Derived.Test.YtcjdheaaddaagaaDcon
import Derived.KernelRfl
namespace Go.Proofs.Ytcjdheaaddaagaa
open Go.Dx
set_option linter.unusedVariables false
set_option maxRecDepth 100000
theorem tree_same : runC tb [lSame] 60 cSame = (.ite (.not (.eq (.len (.var 0)) (.len (.var 1))))
  (.ret [(.lit 0)])
  (.lop 0 [(.num (.lit 0))] 26 (.ite (.lt (.var 2) (.len (.var 0)))
  (.ite (.and (.le (.lit 0) (.var 2)) (.lt (.var 2) (.len (.var 1))))
  (.ite (.not (.eq (.el (.var 0) (.var 2) 0) (.el (.var 1) (.var 2) 0)))
  (.ret [(.lit 0)])
  (.chk 0 2 [(.num (.add (.var 2) (.lit 1)))]))
  .fail)
  (.ret [(.lit 1)])))) := by kernel_rfl
theorem tree_few : runC tb [] 60 cFew = (.ite (.or (.le (.len (.var 0)) (.lit 60)) (.and (.lt (.lit 664) (.len (.var 0))) (.le (.len (.var 0)) (.lit 1000))))
  (.ret [(.lit 1)])
  (.ret [(.lit 0)])) := by kernel_rfl
theorem tree_sane : runC tb [cAw 12, cThr 14, cPr 19, cOwn 17, cSame] 100 (lawCon 10 []) = (.dat (.rows 1) [(.num (.lit 2)), (.num (.lit 4))] (.con 0 [(.num (.lit 3)), (.var 0)] (.dat (.rows 1) [(.num (.lit 2)), (.num (.lit 4))] (.con 1 [(.num (.lit 3)), (.var 3)] (.dat (.rows 1) [] (.con 0 [(.num (.lit 0)), (.var 9)] (.dat (.rows 1) [] (.con 0 [(.num (.lit 1)), (.var 12)] (.dat (.rows 1) [(.num (.lit 1)), (.num (.lit 1))] (.con 0 [(.num (.lit 1)), (.var 15)] (.con 2 [(.num (.lit 3)), (.num (.lit 2)), (.num (.lit 4))] (.con 2 [(.num (.lit 5)), (.num (.lit 2)), (.num (.lit 2))] (.con 3 [(.lit 0), (.num (.lit 0)), (.num (.lit 0)), (.num (.lit 0)), (.num (.lit 0)), (.num (.lit 5))] (.con 3 [(.lit 0), (.num (.lit 2)), (.num (.lit 4)), (.num (.lit 1)), (.num (.lit 0)), (.num (.lit 100))] (.con 3 [(.lit 0), (.num (.lit 2)), (.num (.lit 4)), (.num (.lit 1)), (.num (.lit 5)), (.num (.lit 100))] (.con 3 [(.lit 0), (.num (.lit 2)), (.num (.lit 4)), (.num (.lit 1)), (.num (.lit 5)), (.num (.lit 4))] (.ite (.or (.or (.or (.or (.or (.or (.or (.or (.or (.or (.not (.eq (.var 2) (.lit 0))) (.not (.eq (.var 8) (.lit 0)))) (.not (.eq (.var 11) (.lit 0)))) (.not (.eq (.var 14) (.lit 400)))) (.not (.eq (.var 17) (.lit 0)))) (.not (.eq (.var 20) (.lit 0)))) (.not (.eq (.var 23) (.lit 400)))) (.not (.eq (.var 25) (.lit 0)))) (.not (.eq (.var 27) (.lit 0)))) (.not (.eq (.var 29) (.lit 0)))) (.not (.eq (.var 31) (.lit 0))))
  (.ret [(.lit 0)])
  (.dat (.rows 1) [(.num (.lit 1)), (.num (.lit 2))] (.con 4 [(.var 1), (.var 32)] (.ite (.and (.and (.not (.eq (.var 33) (.lit 0))) (.and (.eq (.var 4) (.lit 0)) (.and (.eq (.var 5) (.lit 2)) (.and (.eq (.var 6) (.lit 4)) (.eq (.var 7) (.lit 1)))))) (.eq (.len (.var 10)) (.lit 0)))
  (.dat (.rows 1) [(.num (.lit 0)), (.num (.lit 1))] (.con 4 [(.var 16), (.var 34)] (.ite (.and (.and (.and (.and (.and (.not (.eq (.var 35) (.lit 0))) (.and (.eq (.var 18) (.lit 1)) (.eq (.var 19) (.lit 1)))) (.eq (.var 24) (.lit 0))) (.eq (.var 26) (.lit 2))) (.eq (.var 28) (.lit 2))) (.eq (.var 30) (.lit 1)))
  (.ret [(.lit 1)])
  (.ret [(.lit 0)]))))
  (.ret [(.lit 0)]))))))))))))))))))))) := by kernel_rfl
theorem tree_lspec : runC tb [lawCon 10 [], cFew, cAw 12, cAw 13, cThr 14, cThr 15, cSame] 80 (lawCon 3 [aI, .c ints]) = (.con 0 [] (.ite (.eq (.var 2) (.lit 0))
  (.ret [(.lit 0)])
  (.con 1 [(.var 1)] (.ite (.eq (.var 3) (.lit 0))
  (.ret [(.lit 1)])
  (.con 2 [(.num (.var 0)), (.var 1)] (.con 3 [(.num (.var 0)), (.var 1)] (.con 4 [(.num (.var 0)), (.var 1)] (.con 5 [(.num (.var 0)), (.var 1)] (.con 6 [(.var 4), (.var 6)] (.ite (.and (.and (.and (.not (.eq (.var 18) (.lit 0))) (.eq (.var 5) (.var 7))) (.and (.or (.and (.not (.eq (.var 8) (.lit 0))) (.not (.eq (.var 13) (.lit 0)))) (.and (.eq (.var 8) (.lit 0)) (.eq (.var 13) (.lit 0)))) (.and (.eq (.var 9) (.var 14)) (.and (.eq (.var 10) (.var 15)) (.eq (.var 11) (.var 16)))))) (.eq (.var 12) (.var 17)))
  (.ret [(.lit 1)])
  (.ret [(.lit 0)]))))))))))) := by kernel_rfl
theorem tree_lown : runC tb [lawCon 10 [], cOwn 17, cOwn 18, cPr 19, cPr 20] 80 (lawCon 4 [.agg mkSh, aI, aI, aI, aI]) = (.con 0 [] (.ite (.eq (.var 8) (.lit 0))
  (.ret [(.lit 0)])
  (.con 1 [(.num (.var 0)), (.num (.var 1)), (.num (.var 2)), (.num (.var 3)), (.num (.var 4)), (.num (.var 5))] (.con 2 [(.num (.var 0)), (.num (.var 1)), (.num (.var 2)), (.num (.var 3)), (.num (.var 4)), (.num (.var 5))] (.con 3 [(.num (.var 6)), (.num (.var 5)), (.num (.var 7))] (.con 4 [(.num (.var 6)), (.num (.var 5)), (.num (.var 7))] (.ite (.and (.and (.and (.eq (.var 9) (.var 11)) (.eq (.var 10) (.var 12))) (.and (.eq (.var 13) (.var 16)) (.eq (.var 14) (.var 17)))) (.eq (.var 15) (.var 18)))
  (.ret [(.lit 1)])
  (.ret [(.lit 0)])))))))) := by kernel_rfl
end Go.Proofs.Ytcjdheaaddaagaa
