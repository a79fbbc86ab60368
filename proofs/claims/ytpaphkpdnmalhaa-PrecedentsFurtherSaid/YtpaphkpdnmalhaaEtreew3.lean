/- DERIVED. What the executor makes of functions. -/
import Derived.Test.YtpaphkpdnmalhaaEcond
import Derived.KernelRfl
namespace Go.Proofs.Ytpaphkpdnmalhaa
open Go.Dx
set_option linter.unusedVariables false
set_option maxRecDepth 100000
theorem tree_fw3 : runC tb [lawCon 9 [], cRight 22, cBinds 15, cAll 24, cBad 14, cFew 10, lEach 16, lAdd] 300 (lawCon 8 [.agg book, .c ints, .c (.int .u8 0 255), .agg case1]) = (.con 0 [] (.ite (.eq (.var 9) (.lit 0))
  (.ret [(.lit 0)])
  (.con 1 [(.var 0), (.var 1), (.var 2)] (.ite (.or (.eq (.var 10) (.lit 0)) (.lt (.lit 60) (.len (.var 1))))
  (.ret [(.lit 1)])
  (.adr (.var 7) (.adr (.var 8) (.dat (.rows 5) [(.num (.var 4)), (.num (.var 5)), (.num (.var 6)), (.el (.var 11) (.lit 0) 0), (.el (.var 12) (.lit 0) 0)] (.dat .cat [(.var 1), (.var 13)] (.con 5 [(.var 0), (.var 14)] (.ite (.not (.eq (.var 15) (.lit 0)))
  .fail
  (.lop 6 [(.num (.lit 0))] 139 (.ite (.lt (.var 16) (.lit 2))
  (.con 2 [(.var 0), (.var 1), (.var 2), (.num (.var 16))] (.ite (.not (.eq (.var 158) (.lit 0)))
  (.ret [(.lit 0)])
  (.ite (.eq (.var 157) (.lit 0))
  (.chk 6 16 [(.num (.add (.var 16) (.lit 1)))])
  (.ite (.eq (.len (.var 0)) (.lit 0))
  (.chk 6 16 [(.num (.add (.var 16) (.lit 1)))])
  (.ite (.and (.le (.lit 0) (.rem (.var 3) (.len (.var 0)))) (.lt (.rem (.var 3) (.len (.var 0))) (.len (.var 0))))
  (.ite (.not (.eq (.el (.var 0) (.rem (.var 3) (.len (.var 0))) 0) (.var 16)))
  (.chk 6 16 [(.num (.add (.var 16) (.lit 1)))])
  (.dat (.rows 1) [] (.lop 7 [(.var 159), (.num (.lit 0))] 139 (.ite (.lt (.var 161) (.len (.var 0)))
  (.ite (.not (.eq (.var 161) (.rem (.var 3) (.len (.var 0)))))
  (.dat (.rows 1) [(.num (.var 161))] (.con 3 [(.var 301), (.var 2)] (.ite (.not (.eq (.var 302) (.lit 0)))
  (.ite (.le (.add (.len (.var 160)) (.lit 1)) (.lit 15637498706147))
  (.dat (.rows 1) [(.num (.var 161))] (.dat .cat [(.var 160), (.var 303)] (.chk 7 160 [(.var 304), (.num (.add (.var 161) (.lit 1)))])))
  .fail)
  (.chk 7 160 [(.var 160), (.num (.add (.var 161) (.lit 1)))]))))
  (.ite (.le (.add (.len (.var 160)) (.lit 1)) (.lit 15637498706147))
  (.dat (.rows 1) [(.num (.var 161))] (.dat .cat [(.var 160), (.var 301)] (.chk 7 160 [(.var 302), (.num (.add (.var 161) (.lit 1)))])))
  .fail))
  (.con 2 [(.var 0), (.var 1), (.var 160), (.num (.var 16))] (.ite (.or (.not (.eq (.var 303) (.lit 0))) (.eq (.var 302) (.lit 0)))
  (.ret [(.lit 0)])
  (.chk 6 16 [(.num (.add (.var 16) (.lit 1)))])))))))
  .fail)))))
  (.ret [(.lit 1)]))))))))))))) := by kernel_rfl
end Go.Proofs.Ytpaphkpdnmalhaa
