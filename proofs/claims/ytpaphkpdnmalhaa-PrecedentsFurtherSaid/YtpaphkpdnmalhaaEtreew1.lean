/- DERIVED. What the executor makes of functions. -/
import Derived.Test.YtpaphkpdnmalhaaEcond
import Derived.KernelRfl
namespace Go.Proofs.Ytpaphkpdnmalhaa
open Go.Dx
set_option linter.unusedVariables false
set_option maxRecDepth 100000
theorem tree_fw1 : runC tb [lawCon 9 [], cRight 22, cBinds 15, cAll 24, cChk0 14, cFew 10, lEachN 17, lAdd] 300 (lawCon 8 [.agg book, .c ints, .c (.int .u8 0 255), .agg case1]) = (.con 0 [] (.ite (.eq (.var 9) (.lit 0))
  (.ret [(.lit 0)])
  (.con 1 [(.var 0), (.var 1), (.var 2)] (.ite (.or (.eq (.var 10) (.lit 0)) (.lt (.lit 60) (.len (.var 1))))
  (.ret [(.lit 1)])
  (.adr (.var 7) (.adr (.var 8) (.dat (.rows 5) [(.num (.var 4)), (.num (.var 5)), (.num (.var 6)), (.el (.var 11) (.lit 0) 0), (.el (.var 12) (.lit 0) 0)] (.dat .cat [(.var 1), (.var 13)] (.con 5 [(.var 0), (.var 14)] (.ite (.not (.eq (.var 15) (.lit 0)))
  (.con 4 [(.var 0), (.var 14)] (.lop 6 [(.num (.lit 0)), (.num (.var 16))] 139 (.ite (.lt (.var 17) (.lit 2))
  (.con 2 [(.var 0), (.var 1), (.var 2), (.num (.var 17))] (.ite (.not (.eq (.var 160) (.lit 0)))
  (.ret [(.lit 0)])
  (.ite (.eq (.var 159) (.lit 0))
  (.chk 6 17 [(.num (.add (.var 17) (.lit 1))), (.num (.var 18))])
  (.con 2 [(.var 0), (.var 14), (.var 2), (.num (.var 17))] (.ite (.or (.or (.not (.eq (.var 163) (.lit 0))) (.eq (.var 162) (.lit 0))) (.not (.eq (.var 158) (.var 161))))
  (.ret [(.lit 0)])
  (.ite (.eq (.len (.var 0)) (.lit 0))
  (.chk 6 17 [(.num (.add (.var 17) (.lit 1))), (.num (.var 18))])
  (.ite (.and (.le (.lit 0) (.rem (.var 3) (.len (.var 0)))) (.lt (.rem (.var 3) (.len (.var 0))) (.len (.var 0))))
  (.ite (.not (.eq (.el (.var 0) (.rem (.var 3) (.len (.var 0))) 0) (.var 17)))
  (.chk 6 17 [(.num (.add (.var 17) (.lit 1))), (.num (.var 18))])
  (.dat (.rows 1) [] (.lop 7 [(.var 164), (.num (.lit 0))] 139 (.ite (.lt (.var 166) (.len (.var 0)))
  (.ite (.not (.eq (.var 166) (.rem (.var 3) (.len (.var 0)))))
  (.dat (.rows 1) [(.num (.var 166))] (.con 3 [(.var 306), (.var 2)] (.ite (.not (.eq (.var 307) (.lit 0)))
  (.ite (.le (.add (.len (.var 165)) (.lit 1)) (.lit 15637498706147))
  (.dat (.rows 1) [(.num (.var 166))] (.dat .cat [(.var 165), (.var 308)] (.chk 7 165 [(.var 309), (.num (.add (.var 166) (.lit 1)))])))
  .fail)
  (.chk 7 165 [(.var 165), (.num (.add (.var 166) (.lit 1)))]))))
  (.ite (.le (.add (.len (.var 165)) (.lit 1)) (.lit 15637498706147))
  (.dat (.rows 1) [(.num (.var 166))] (.dat .cat [(.var 165), (.var 306)] (.chk 7 165 [(.var 307), (.num (.add (.var 166) (.lit 1)))])))
  .fail))
  (.con 2 [(.var 0), (.var 1), (.var 165), (.num (.var 17))] (.ite (.or (.not (.eq (.var 308) (.lit 0))) (.eq (.var 307) (.lit 0)))
  (.ret [(.lit 0)])
  (.chk 6 17 [(.num (.add (.var 17) (.lit 1))), (.num (.var 18))])))))))
  .fail)))))))
  (.ret [(.lit 1)]))))
  .fail)))))))))) := by kernel_rfl
end Go.Proofs.Ytpaphkpdnmalhaa
