/- DERIVED. What the executor makes of functions. -/
import Derived.Test.YtcidomlhmdefaaaDdisc
import Derived.KernelRfl
namespace Go.Proofs.Ytcidomlhmdefaaa
open Go.Dx
set_option linter.unusedVariables false
set_option maxRecDepth 100000
theorem tree_wel : runC tb [cDis 21, cIsW 26, lAllW] 100 (cWel 12) = (.con 0 [(.var 0), (.num (.var 1)), (.num (.var 2)), (.num (.var 3)), (.var 4), (.var 5), (.var 6), (.var 7), (.var 8), (.var 9)] (.ite (.not (.eq (.var 10) (.lit 0)))
  (.ret [(.num (.var 10))])
  (.ite (.le (.len (.var 9)) (.lit 64))
  (.lop 2 [(.num (.lit 0))] 18 (.ite (.lt (.var 11) (.len (.var 9)))
  (.ite (.lt (.lit 64) (.len (.el (.var 9) (.var 11) 3)))
  (.ret [(.num (.lit 2))])
  (.chk 2 11 [(.num (.add (.var 11) (.lit 1)))]))
  (.lop 2 [(.num (.lit 0))] 18 (.ite (.lt (.var 30) (.len (.var 9)))
  (.dat .sub [(.el (.var 9) (.var 30) 3), (.num (.lit 0)), (.num (.len (.el (.var 9) (.var 30) 3)))] (.con 1 [(.num (.el (.var 9) (.var 30) 0)), (.num (.el (.var 9) (.var 30) 1)), (.num (.el (.var 9) (.var 30) 2)), (.var 49), (.num (.len (.var 5))), (.num (.len (.var 4)))] (.ite (.eq (.var 50) (.lit 0))
  (.ret [(.num (.lit 420))])
  (.chk 2 30 [(.num (.add (.var 30) (.lit 1)))]))))
  (.ret [(.num (.lit 0))])))))
  (.ret [(.num (.lit 2))])))) := by kernel_rfl
theorem tree_welR : runC tb [cDis 27, cKern 28, lW1, lW2] 80 (cWel 13) = (.con 0 [(.var 0), (.num (.var 1)), (.num (.var 2)), (.num (.var 3)), (.var 4), (.var 5), (.var 6), (.var 7), (.var 8), (.var 9)] (.ite (.not (.eq (.var 10) (.lit 0)))
  (.ret [(.num (.var 10))])
  (.ite (.lt (.lit 64) (.len (.var 9)))
  (.ret [(.num (.lit 2))])
  (.lop 2 [(.num (.lit 0))] 72 (.ite (.lt (.var 11) (.len (.var 9)))
  (.ite (.lt (.lit 64) (.len (.el (.var 9) (.var 11) 3)))
  (.ret [(.num (.lit 2))])
  (.chk 2 11 [(.num (.add (.var 11) (.lit 1)))]))
  (.lop 3 [(.num (.lit 0))] 72 (.ite (.lt (.var 84) (.len (.var 9)))
  (.ite (.not (.or (.or (.or (.lt (.el (.var 9) (.var 84) 0) (.lit 0)) (.le (.len (.var 5)) (.el (.var 9) (.var 84) 0))) (.lt (.el (.var 9) (.var 84) 1) (.lit 0))) (.le (.len (.var 4)) (.el (.var 9) (.var 84) 1))))
  (.dat .sub [(.el (.var 9) (.var 84) 3), (.num (.lit 0)), (.num (.len (.el (.var 9) (.var 84) 3)))] (.con 1 [(.num (.el (.var 9) (.var 84) 0)), (.num (.el (.var 9) (.var 84) 1)), (.num (.el (.var 9) (.var 84) 2)), (.var 157)] (.ite (.eq (.var 158) (.lit 0))
  (.ret [(.num (.lit 420))])
  (.chk 3 84 [(.num (.add (.var 84) (.lit 1)))]))))
  (.ret [(.num (.lit 420))]))
  (.ret [(.num (.lit 0))])))))))) := by kernel_rfl
theorem tree_fewW : runC tb [lFewW] 80 (cFewW 11) = (.ite (.or (.not (.and (.and (.and (.and (.and (.le (.len (.var 4)) (.lit 100)) (.le (.len (.var 5)) (.lit 700))) (.le (.len (.var 6)) (.lit 100))) (.le (.len (.var 7)) (.lit 300))) (.le (.len (.var 8)) (.lit 300))) (.le (.len (.var 9)) (.lit 100)))) (.lt (.lit 80) (.len (.var 9))))
  (.ret [(.lit 0)])
  (.lop 0 [(.num (.lit 0))] 30 (.ite (.lt (.var 10) (.len (.var 9)))
  (.ite (.lt (.lit 80) (.len (.el (.var 9) (.var 10) 3)))
  (.ret [(.lit 0)])
  (.chk 0 10 [(.num (.add (.var 10) (.lit 1)))]))
  (.ret [(.lit 1)])))) := by kernel_rfl
theorem tree_lwsp : runC tb [lawCon 10 [], cFewW 11, cWel 12, cWel 13] 80 (lawCon 3 [.agg distS]) = (.con 0 [] (.ite (.eq (.var 10) (.lit 0))
  (.ret [(.lit 0)])
  (.con 1 [(.var 0), (.num (.var 1)), (.num (.var 2)), (.num (.var 3)), (.var 4), (.var 5), (.var 6), (.var 7), (.var 8), (.var 9)] (.ite (.not (.eq (.var 11) (.lit 0)))
  (.con 2 [(.var 0), (.num (.var 1)), (.num (.var 2)), (.num (.var 3)), (.var 4), (.var 5), (.var 6), (.var 7), (.var 8), (.var 9)] (.con 3 [(.var 0), (.num (.var 1)), (.num (.var 2)), (.num (.var 3)), (.var 4), (.var 5), (.var 6), (.var 7), (.var 8), (.var 9)] (.ite (.eq (.var 12) (.var 13))
  (.ret [(.lit 1)])
  (.ret [(.lit 0)]))))
  (.ret [(.lit 1)]))))) := by kernel_rfl
theorem tree_lwall : runC tb [lawCon 10 [], cFewW 11, cWel 12, cDis 21, lLit9, cOwe 15, lWls9] 80 (lawCon 9 [.agg distS, .c (slS u32s)]) = (.con 0 [] (.ite (.eq (.var 11) (.lit 0))
  (.ret [(.lit 0)])
  (.con 1 [(.var 0), (.num (.var 1)), (.num (.var 2)), (.num (.var 3)), (.var 4), (.var 5), (.var 6), (.var 7), (.var 8), (.var 9)] (.ite (.not (.or (.eq (.var 12) (.lit 0)) (.lt (.lit 30) (.len (.var 10)))))
  (.con 2 [(.var 0), (.num (.var 1)), (.num (.var 2)), (.num (.var 3)), (.var 4), (.var 5), (.var 6), (.var 7), (.var 8), (.var 9)] (.ite (.not (.eq (.var 13) (.lit 0)))
  (.ret [(.lit 1)])
  (.con 3 [(.var 0), (.num (.var 1)), (.num (.var 2)), (.num (.var 3)), (.var 4), (.var 5), (.var 6), (.var 7), (.var 8), (.var 9)] (.ite (.not (.eq (.var 14) (.lit 0)))
  (.ret [(.lit 0)])
  (.dat (.rows 1) [] (.lop 4 [(.var 15), (.num (.lit 0))] 85 (.ite (.lt (.var 17) (.len (.var 10)))
  (.ite (.le (.add (.len (.var 16)) (.lit 1)) (.lit 15637498706147))
  (.dat (.rows 1) [(.num (.rem (.el (.var 10) (.var 17) 0) (.lit 1073741825)))] (.dat .cat [(.var 16), (.var 103)] (.chk 4 16 [(.var 104), (.num (.add (.var 17) (.lit 1)))])))
  .fail)
  (.lop 6 [(.num (.lit 0))] 85 (.ite (.lt (.var 103) (.len (.var 9)))
  (.dat .sub [(.el (.var 9) (.var 103) 3), (.num (.lit 0)), (.num (.len (.el (.var 9) (.var 103) 3)))] (.con 5 [(.num (.el (.var 9) (.var 103) 0)), (.num (.el (.var 9) (.var 103) 1)), (.num (.el (.var 9) (.var 103) 2)), (.var 189), (.var 16)] (.ite (.or (.or (.or (.or (.not (.eq (.var 191) (.lit 0))) (.lt (.el (.var 9) (.var 103) 0) (.lit 0))) (.le (.len (.var 5)) (.el (.var 9) (.var 103) 0))) (.lt (.el (.var 9) (.var 103) 1) (.lit 0))) (.le (.len (.var 4)) (.el (.var 9) (.var 103) 1)))
  (.ret [(.lit 0)])
  (.chk 6 103 [(.num (.add (.var 103) (.lit 1)))]))))
  (.ret [(.lit 1)]))))))))))
  (.ret [(.lit 1)]))))) := by kernel_rfl
end Go.Proofs.Ytcidomlhmdefaaa
