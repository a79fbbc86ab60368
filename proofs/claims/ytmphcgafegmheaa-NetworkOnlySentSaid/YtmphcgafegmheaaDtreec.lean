/- DERIVED. What the executor makes of functions. -/
import Derived.Test.YtmphcgafegmheaaDconb
import Derived.KernelRfl
namespace Go.Proofs.Ytmphcgafegmheaa
open Go.Dx
set_option linter.unusedVariables false
set_option maxRecDepth 100000
theorem tree_cut : runC tb [cChk 13, lCut] 120 (cCut 18) = (.con 0 [(.var 0), (.var 1)] (.ite (.not (.eq (.var 5) (.lit 0)))
  (.dat (.rows 3) [] (.dat (.rows 2) [] (.ret [(.var 6), (.var 7), (.num (.lit 60))])))
  (.ite (.not (.and (.and (.and (.le (.lit 0) (.min (.var 2) (.var 3))) (.lt (.min (.var 2) (.var 3)) (.lit 24))) (.and (.le (.lit 0) (.max (.var 2) (.var 3))) (.lt (.max (.var 2) (.var 3)) (.lit 24)))) (.lt (.min (.var 2) (.var 3)) (.max (.var 2) (.var 3)))))
  (.dat (.rows 3) [] (.dat (.rows 2) [] (.ret [(.var 6), (.var 7), (.num (.lit 1))])))
  (.dat (.rows 2) [] (.lop 1 [(.num (.lit 0)), (.var 6), (.num (.var 4))] 22 (.ite (.lt (.var 7) (.len (.var 1)))
  (.ite (.not (.and (.eq (.el (.var 1) (.var 7) 0) (.min (.var 2) (.var 3))) (.eq (.el (.var 1) (.var 7) 1) (.max (.var 2) (.var 3)))))
  (.ite (.not (.eq (.var 9) (.lit 0)))
  (.ite (.or (.lt (.min (.var 2) (.var 3)) (.el (.var 1) (.var 7) 0)) (.and (.eq (.min (.var 2) (.var 3)) (.el (.var 1) (.var 7) 0)) (.lt (.max (.var 2) (.var 3)) (.el (.var 1) (.var 7) 1))))
  (.ite (.le (.add (.len (.var 8)) (.lit 1)) (.lit 8278675785607))
  (.dat (.rows 2) [(.num (.min (.var 2) (.var 3))), (.num (.max (.var 2) (.var 3)))] (.dat .cat [(.var 8), (.var 32)] (.ite (.le (.add (.len (.var 8)) (.lit 2)) (.lit 8278675785607))
  (.dat (.rows 2) [(.num (.el (.var 1) (.var 7) 0)), (.num (.el (.var 1) (.var 7) 1))] (.dat .cat [(.var 33), (.var 34)] (.chk 1 7 [(.num (.add (.var 7) (.lit 1))), (.var 35), (.lit 0)])))
  .fail)))
  .fail)
  (.ite (.le (.add (.len (.var 8)) (.lit 1)) (.lit 8278675785607))
  (.dat (.rows 2) [(.num (.el (.var 1) (.var 7) 0)), (.num (.el (.var 1) (.var 7) 1))] (.dat .cat [(.var 8), (.var 32)] (.chk 1 7 [(.num (.add (.var 7) (.lit 1))), (.var 33), (.num (.var 9))])))
  .fail))
  (.ite (.le (.add (.len (.var 8)) (.lit 1)) (.lit 8278675785607))
  (.dat (.rows 2) [(.num (.el (.var 1) (.var 7) 0)), (.num (.el (.var 1) (.var 7) 1))] (.dat .cat [(.var 8), (.var 32)] (.chk 1 7 [(.num (.add (.var 7) (.lit 1))), (.var 33), (.num (.var 9))])))
  .fail))
  (.chk 1 7 [(.num (.add (.var 7) (.lit 1))), (.var 8), (.num (.var 9))]))
  (.ite (.not (.eq (.var 9) (.lit 0)))
  (.ite (.le (.add (.len (.var 8)) (.lit 1)) (.lit 8278675785607))
  (.dat (.rows 2) [(.num (.min (.var 2) (.var 3))), (.num (.max (.var 2) (.var 3)))] (.dat .cat [(.var 8), (.var 32)] (.ret [(.var 0), (.var 33), (.num (.lit 0))])))
  .fail)
  (.ret [(.var 0), (.var 8), (.num (.lit 0))])))))))) := by kernel_rfl
theorem tree_cutR : runC tb [cChk 14, cIsR 36, lCutR, lCutR2] 120 (cCut 19) = (.con 0 [(.var 0), (.var 1)] (.ite (.not (.eq (.var 5) (.lit 0)))
  (.dat (.rows 3) [] (.dat (.rows 2) [] (.ret [(.var 6), (.var 7), (.num (.lit 60))])))
  (.ite (.or (.or (.not (.and (.le (.lit 0) (.var 2)) (.lt (.var 2) (.lit 24)))) (.not (.and (.le (.lit 0) (.var 3)) (.lt (.var 3) (.lit 24))))) (.eq (.var 2) (.var 3)))
  (.dat (.rows 3) [] (.dat (.rows 2) [] (.ret [(.var 6), (.var 7), (.num (.lit 1))])))
  (.dat (.rows 2) [] (.lop 2 [(.var 6), (.num (.lit 0))] 69 (.ite (.lt (.var 8) (.lit 24))
  (.lop 3 [(.var 7), (.num (.add (.var 8) (.lit 1)))] 69 (.ite (.lt (.var 79) (.lit 24))
  (.con 1 [(.var 0), (.var 1), (.num (.var 8)), (.num (.var 79))] (.ite (.and (.eq (.var 8) (.min (.var 2) (.var 3))) (.eq (.var 79) (.max (.var 2) (.var 3))))
  (.ite (.not (.eq (.var 4) (.lit 0)))
  (.ite (.le (.add (.len (.var 78)) (.lit 1)) (.lit 8278675785607))
  (.dat (.rows 2) [(.num (.var 8)), (.num (.var 79))] (.dat .cat [(.var 78), (.var 150)] (.chk 3 78 [(.var 151), (.num (.add (.var 79) (.lit 1)))])))
  .fail)
  (.chk 3 78 [(.var 78), (.num (.add (.var 79) (.lit 1)))]))
  (.ite (.not (.eq (.var 149) (.lit 0)))
  (.ite (.le (.add (.len (.var 78)) (.lit 1)) (.lit 8278675785607))
  (.dat (.rows 2) [(.num (.var 8)), (.num (.var 79))] (.dat .cat [(.var 78), (.var 150)] (.chk 3 78 [(.var 151), (.num (.add (.var 79) (.lit 1)))])))
  .fail)
  (.chk 3 78 [(.var 78), (.num (.add (.var 79) (.lit 1)))]))))
  (.chk 2 7 [(.var 78), (.num (.add (.var 8) (.lit 1)))])))
  (.ret [(.var 0), (.var 7), (.num (.lit 0))]))))))) := by kernel_rfl
end Go.Proofs.Ytmphcgafegmheaa
