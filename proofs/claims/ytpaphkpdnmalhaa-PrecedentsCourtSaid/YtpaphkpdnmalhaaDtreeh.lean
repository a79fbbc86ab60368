/- DERIVED. What the executor makes of functions. -/
import Derived.Test.YtpaphkpdnmalhaaDcone
import Derived.KernelRfl
namespace Go.Proofs.Ytpaphkpdnmalhaa
open Go.Dx
set_option linter.unusedVariables false
set_option maxRecDepth 100000
theorem tree_lfor2 : runC tb [lawCon 9 [], cRight 22, cBinds 15, cFavR 23, cMay 17, lSome2] 400 (lawCon 5 [.agg book, .c ints, aU, aB]) = (.con 0 [] (.ite (.eq (.var 5) (.lit 0))
  (.ret [(.lit 0)])
  (.con 1 [(.var 0), (.var 1), (.var 2)] (.ite (.eq (.var 6) (.lit 0))
  (.ret [(.lit 1)])
  (.con 2 [(.var 0), (.var 1), (.var 2), (.num (.lit 0))] (.con 3 [(.var 0), (.var 1), (.var 2), (.num (.lit 1))] (.con 4 [(.var 0), (.var 1), (.var 2), (.var 10), (.num (.lit 1))] (.ite (.or (.or (.not (.eq (.var 9) (.lit 0))) (.not (.eq (.var 13) (.lit 0)))) (.or (.and (.not (.eq (.var 8) (.lit 0))) (.not (.eq (.var 12) (.lit 0)))) (.and (.eq (.var 8) (.lit 0)) (.eq (.var 12) (.lit 0)))))
  (.ret [(.lit 0)])
  (.dat (.rows 1) [] (.lop 5 [(.var 14), (.num (.lit 0))] 103 (.ite (.lt (.var 16) (.len (.var 10)))
  (.ite (.eq (.rem (.quo (.var 3) (.p2 .u32 (.var 16))) (.lit 2)) (.lit 1))
  (.ite (.le (.add (.len (.var 15)) (.lit 1)) (.lit 15637498706147))
  (.dat (.rows 1) [(.num (.el (.var 10) (.var 16) 0))] (.dat .cat [(.var 15), (.var 120)] (.chk 5 15 [(.var 121), (.num (.add (.var 16) (.lit 1)))])))
  .fail)
  (.chk 5 15 [(.var 15), (.num (.add (.var 16) (.lit 1)))]))
  (.con 4 [(.var 0), (.var 1), (.var 2), (.var 15), (.num (.lit 1))] (.ite (.or (.not (.eq (.var 122) (.lit 0))) (.and (.not (.eq (.var 121) (.lit 0))) (.eq (.var 12) (.lit 0))))
  (.ret [(.lit 0)])
  (.con 2 [(.var 0), (.var 1), (.var 2), (.num (.lit 1))] (.con 3 [(.var 0), (.var 1), (.var 2), (.num (.lit 0))] (.con 4 [(.var 0), (.var 1), (.var 2), (.var 126), (.num (.lit 0))] (.ite (.or (.or (.not (.eq (.var 125) (.lit 0))) (.not (.eq (.var 129) (.lit 0)))) (.or (.and (.not (.eq (.var 124) (.lit 0))) (.not (.eq (.var 128) (.lit 0)))) (.and (.eq (.var 124) (.lit 0)) (.eq (.var 128) (.lit 0)))))
  (.ret [(.lit 0)])
  (.dat (.rows 1) [] (.lop 5 [(.var 130), (.num (.lit 0))] 103 (.ite (.lt (.var 132) (.len (.var 126)))
  (.ite (.eq (.rem (.quo (.var 3) (.p2 .u32 (.var 132))) (.lit 2)) (.lit 1))
  (.ite (.le (.add (.len (.var 131)) (.lit 1)) (.lit 15637498706147))
  (.dat (.rows 1) [(.num (.el (.var 126) (.var 132) 0))] (.dat .cat [(.var 131), (.var 236)] (.chk 5 131 [(.var 237), (.num (.add (.var 132) (.lit 1)))])))
  .fail)
  (.chk 5 131 [(.var 131), (.num (.add (.var 132) (.lit 1)))]))
  (.con 4 [(.var 0), (.var 1), (.var 2), (.var 131), (.num (.lit 0))] (.ite (.or (.not (.eq (.var 238) (.lit 0))) (.and (.not (.eq (.var 237) (.lit 0))) (.eq (.var 128) (.lit 0))))
  (.ret [(.lit 0)])
  (.ret [(.lit 1)]))))))))))))))))))))))) := by kernel_rfl
end Go.Proofs.Ytpaphkpdnmalhaa
