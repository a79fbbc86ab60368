/- DERIVED. What the executor makes of functions. -/
import Derived.Test.YtkophklnleodcaaDcond
import Derived.KernelRfl
namespace Go.Proofs.Ytkophklnleodcaa
open Go.Dx
set_option linter.unusedVariables false
set_option maxRecDepth 100000
theorem tree_lstuck : runC tb [lawCon 10 [], cFew, cNext 20] 80 (lawCon 8 [.agg plantS, .agg [lines], .agg stateS, .agg shockS, .c u8s]) = (.con 0 [] (.ite (.eq (.var 22) (.lit 0))
  (.ret [(.lit 0)])
  (.con 1 [(.var 12)] (.ite (.or (.eq (.var 23) (.lit 0)) (.lt (.lit 60) (.len (.var 12))))
  (.ret [(.lit 1)])
  (.dat (.rows 2) [] (.con 2 [(.num (.var 0)), (.num (.var 1)), (.num (.var 2)), (.num (.var 3)), (.num (.var 4)), (.num (.var 5)), (.num (.var 6)), (.num (.var 7)), (.num (.var 8)), (.num (.var 9)), (.num (.var 10)), (.num (.var 11)), (.var 24), (.num (.var 13)), (.num (.var 14)), (.num (.var 15)), (.num (.var 16)), (.num (.var 17)), (.num (.var 18)), (.num (.var 19)), (.num (.var 20))] (.ite (.and (.eq (.var 32) (.lit 0)) (.not (.eq (.var 26) (.var 14))))
  (.ret [(.lit 0)])
  (.con 2 [(.num (.var 0)), (.num (.var 1)), (.num (.var 2)), (.num (.var 3)), (.num (.var 4)), (.num (.var 5)), (.num (.var 6)), (.num (.var 7)), (.num (.var 8)), (.num (.var 9)), (.num (.var 10)), (.num (.var 11)), (.var 12), (.num (.var 13)), (.num (.var 14)), (.num (.var 15)), (.num (.var 16)), (.num (.var 17)), (.num (.var 18)), (.num (.var 19)), (.num (.var 20))] (.dat (.rows 3) [(.num (.lit 0)), (.num (.lit 1)), (.num (.lit 0))] (.adr (.var 41) (.dat (.rows 2) [(.el (.var 42) (.lit 0) 0), (.num (.var 21))] (.dat .cat [(.var 43), (.var 12)] (.con 2 [(.num (.var 0)), (.num (.var 1)), (.num (.var 2)), (.num (.var 3)), (.num (.var 4)), (.num (.var 5)), (.num (.var 6)), (.num (.var 7)), (.num (.var 8)), (.num (.var 9)), (.num (.var 10)), (.num (.var 11)), (.var 44), (.num (.var 13)), (.num (.var 14)), (.num (.var 15)), (.num (.var 16)), (.num (.var 17)), (.num (.var 18)), (.num (.var 19)), (.num (.var 20))] (.ite (.not (.eq (.var 40) (.lit 0)))
  (.ret [(.lit 1)])
  (.ite (.or (.or (.not (.eq (.var 52) (.lit 0))) (.not (.and (.eq (.var 33) (.var 45)) (.and (.eq (.var 34) (.var 46)) (.and (.and (.eq (.var 35) (.var 47)) (.eq (.var 36) (.var 48))) (.and (.eq (.var 37) (.var 49)) (.eq (.var 38) (.var 50)))))))) (.not (.eq (.var 39) (.var 51))))
  (.ret [(.lit 0)])
  (.dat (.rows 2) [.emp, (.num (.var 21))] (.con 2 [(.num (.var 0)), (.num (.var 1)), (.num (.var 2)), (.num (.var 3)), (.num (.var 4)), (.num (.var 5)), (.num (.var 6)), (.num (.var 7)), (.num (.var 8)), (.num (.var 9)), (.num (.var 10)), (.num (.var 11)), (.var 53), (.num (.var 13)), (.num (.var 14)), (.num (.var 15)), (.num (.var 16)), (.num (.var 17)), (.num (.var 18)), (.num (.var 19)), (.num (.var 20))] (.dat (.rows 2) [.emp, (.num (.var 21))] (.dat .cat [(.var 62), (.var 12)] (.con 2 [(.num (.var 0)), (.num (.var 1)), (.num (.var 2)), (.num (.var 3)), (.num (.var 4)), (.num (.var 5)), (.num (.var 6)), (.num (.var 7)), (.num (.var 8)), (.num (.var 9)), (.num (.var 10)), (.num (.var 11)), (.var 63), (.num (.var 13)), (.num (.var 14)), (.num (.var 15)), (.num (.var 16)), (.num (.var 17)), (.num (.var 18)), (.num (.var 19)), (.num (.var 20))] (.ite (.and (.and (.and (.eq (.var 61) (.lit 0)) (.eq (.var 71) (.lit 0))) (.and (.eq (.var 54) (.var 64)) (.and (.eq (.var 55) (.var 65)) (.and (.and (.eq (.var 56) (.var 66)) (.eq (.var 57) (.var 67))) (.and (.eq (.var 58) (.var 68)) (.eq (.var 59) (.var 69))))))) (.eq (.var 60) (.var 70)))
  (.ret [(.lit 1)])
  (.ret [(.lit 0)])))))))))))))))))))))) := by kernel_rfl
end Go.Proofs.Ytkophklnleodcaa
