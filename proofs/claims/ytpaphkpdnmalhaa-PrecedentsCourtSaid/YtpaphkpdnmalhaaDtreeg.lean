/- DERIVED. What the executor makes of functions. -/
import Derived.Test.YtpaphkpdnmalhaaDconc
import Derived.KernelRfl
namespace Go.Proofs.Ytpaphkpdnmalhaa
open Go.Dx
set_option linter.unusedVariables false
set_option maxRecDepth 100000
theorem tree_lcourt : runC tb [lawCon 9 [], cRight 22, cClash 11, cBinds 15, cFavR 23, cMay 17, lSomeC] 400 (lawCon 6 [.agg book, .c ints, aU, aB]) = (.con 0 [] (.ite (.eq (.var 5) (.lit 0))
  (.ret [(.lit 0)])
  (.con 1 [(.var 0), (.var 1), (.var 2)] (.ite (.or (.eq (.var 6) (.lit 0)) (.lt (.lit 60) (.len (.var 1))))
  (.ret [(.lit 1)])
  (.con 2 [(.var 0), (.var 1)] (.ite (.or (.not (.eq (.var 10) (.lit 0))) (.not (.eq (.var 9) (.lit 0))))
  (.ite (.eq (.var 10) (.lit 0))
  (.ret [(.lit 1)])
  (.ret [(.lit 0)]))
  (.con 3 [(.var 0), (.var 1), (.var 2), (.num (.lit 0))] (.con 3 [(.var 0), (.var 1), (.var 2), (.num (.lit 1))] (.ite (.or (.or (.not (.eq (.var 13) (.lit 0))) (.not (.eq (.var 16) (.lit 0)))) (.and (.not (.eq (.var 12) (.lit 0))) (.not (.eq (.var 15) (.lit 0)))))
  (.ret [(.lit 0)])
  (.con 4 [(.var 0), (.var 1), (.var 2), (.num (.lit 0))] (.con 5 [(.var 0), (.var 1), (.var 2), (.var 17), (.num (.lit 0))] (.con 4 [(.var 0), (.var 1), (.var 2), (.num (.lit 1))] (.con 5 [(.var 0), (.var 1), (.var 2), (.var 21), (.num (.lit 1))] (.ite (.or (.or (.not (.eq (.var 20) (.lit 0))) (.not (.eq (.var 24) (.lit 0)))) (.and (.eq (.var 19) (.lit 0)) (.eq (.var 23) (.lit 0))))
  (.ret [(.lit 0)])
  (.con 4 [(.var 0), (.var 1), (.var 2), (.num (.rem (.var 4) (.lit 2)))] (.dat (.rows 1) [] (.lop 6 [(.var 26), (.num (.lit 0))] 210 (.ite (.lt (.var 28) (.len (.var 25)))
  (.ite (.eq (.rem (.quo (.var 3) (.p2 .u32 (.var 28))) (.lit 2)) (.lit 1))
  (.ite (.le (.add (.len (.var 27)) (.lit 1)) (.lit 15637498706147))
  (.dat (.rows 1) [(.num (.el (.var 25) (.var 28) 0))] (.dat .cat [(.var 27), (.var 239)] (.chk 6 27 [(.var 240), (.num (.add (.var 28) (.lit 1)))])))
  .fail)
  (.chk 6 27 [(.var 27), (.num (.add (.var 28) (.lit 1)))]))
  (.con 5 [(.var 0), (.var 1), (.var 2), (.var 27), (.num (.rem (.var 4) (.lit 2)))] (.ite (.not (.eq (.var 241) (.lit 0)))
  (.ret [(.lit 0)])
  (.ite (.lt (.lit 0) (.len (.var 1)))
  (.ite (.and (.le (.lit 0) (.sub (.len (.var 1)) (.lit 1))) (.lt (.sub (.len (.var 1)) (.lit 1)) (.len (.var 1))))
  (.adr (.var 2) (.adr (.var 27) (.dat (.rows 5) [(.num (.wrap .i64 (.add (.el (.var 1) (.sub (.len (.var 1)) (.lit 1)) 0) (.lit 1)))), (.num (.el (.var 1) (.sub (.len (.var 1)) (.lit 1)) 1)), (.num (.rem (.var 4) (.lit 2))), (.el (.var 242) (.lit 0) 0), (.el (.var 243) (.lit 0) 0)] (.dat .cat [(.var 1), (.var 244)] (.ite (.lt (.lit 1048576) (.wrap .i64 (.add (.el (.var 1) (.sub (.len (.var 1)) (.lit 1)) 0) (.lit 1))))
  (.ret [(.lit 1)])
  (.con 2 [(.var 0), (.var 245)] (.ite (.and (.eq (.var 249) (.lit 0)) (.not (.or (.and (.not (.eq (.var 248) (.lit 0))) (.not (.eq (.var 240) (.lit 0)))) (.and (.eq (.var 248) (.lit 0)) (.eq (.var 240) (.lit 0))))))
  (.ret [(.lit 1)])
  (.ret [(.lit 0)]))))))))
  .fail)
  (.adr (.var 2) (.adr (.var 27) (.dat (.rows 5) [(.num (.lit 0)), (.num (.lit 0)), (.num (.rem (.var 4) (.lit 2))), (.el (.var 242) (.lit 0) 0), (.el (.var 243) (.lit 0) 0)] (.dat .cat [(.var 1), (.var 244)] (.con 2 [(.var 0), (.var 245)] (.ite (.and (.eq (.var 249) (.lit 0)) (.not (.or (.and (.not (.eq (.var 248) (.lit 0))) (.not (.eq (.var 240) (.lit 0)))) (.and (.eq (.var 248) (.lit 0)) (.eq (.var 240) (.lit 0))))))
  (.ret [(.lit 1)])
  (.ret [(.lit 0)])))))))))))))))))))))))))))) := by kernel_rfl
end Go.Proofs.Ytpaphkpdnmalhaa
