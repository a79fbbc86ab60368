/- DERIVED. What the executor makes of functions. -/
import Derived.Test.YtdhdpgdifphfkaaEcon
import Derived.KernelRfl
namespace Go.Proofs.Ytdhdpgdifphfkaa
open Go.Dx
set_option linter.unusedVariables false
set_option maxRecDepth 100000
theorem tree_sync : runC tb [cRun 30, cPad 31, lSync] 120 (cSync 23) = (.con 0 [(.var 0), (.var 1), (.num (.var 2)), (.num (.var 3))] (.ite (.eq (.var 4) (.lit 0))
  (.dat (.rows 1) [] (.dat (.rows 2) [] (.ret [(.var 5), (.var 6), (.num (.lit 0)), (.lit 0), (.num (.lit 40))])))
  (.ite (.and (.le (.lit 0) (.var 2)) (.lt (.var 2) (.len (.var 1))))
  (.ite (.le (.len (.var 0)) (.lit 5629499534213))
  (.dat .sub [(.var 1), (.num (.lit 0)), (.num (.var 2))] (.lop 2 [(.var 0), (.num (.lit 0))] 73 (.ite (.lt (.var 7) (.var 2))
  (.dat .sub [(.el (.var 5) (.var 7) 1), (.num (.lit 0)), (.num (.len (.el (.var 5) (.var 7) 1)))] (.con 1 [(.var 81)] (.ite (.and (.le (.lit 0) (.el (.var 5) (.var 7) 0)) (.lt (.el (.var 5) (.var 7) 0) (.len (.var 6))))
  (.adr (.var 82) (.dat (.set 0) [(.var 6), (.num (.el (.var 5) (.var 7) 0)), (.el (.var 83) (.lit 0) 0)] (.chk 2 6 [(.var 84), (.num (.add (.var 7) (.lit 1)))])))
  .fail)))
  (.ite (.and (.le (.lit 0) (.el (.var 1) (.var 2) 0)) (.lt (.el (.var 1) (.var 2) 0) (.len (.var 6))))
  (.dat .sub [(.el (.var 6) (.el (.var 1) (.var 2) 0) 0), (.num (.lit 0)), (.num (.len (.el (.var 6) (.el (.var 1) (.var 2) 0) 0)))] (.con 1 [(.var 81)] (.ite (.le (.lit 64) (.len (.var 82)))
  (.dat .sub [(.var 82), (.num (.lit 0)), (.num (.lit 64))] (.dat .sub [(.el (.var 1) (.var 2) 1), (.num (.lit 0)), (.num (.min (.lit 64) (.len (.el (.var 1) (.var 2) 1))))] (.dat .sub [(.var 82), (.num (.min (.lit 64) (.len (.el (.var 1) (.var 2) 1)))), (.num (.len (.var 82)))] (.dat .cat [(.var 84), (.var 85)] (.adr (.var 86) (.dat (.set 0) [(.var 6), (.num (.el (.var 1) (.var 2) 0)), (.el (.var 87) (.lit 0) 0)] (.dat (.rows 2) [] (.ret [(.var 88), (.var 89), (.num (.lit 0)), (.lit 1), (.num (.lit 40))]))))))))
  .fail)))
  .fail))))
  .fail)
  (.ite (.le (.len (.var 0)) (.lit 5629499534213))
  (.dat .sub [(.var 1), (.num (.lit 0)), (.num (.len (.var 1)))] (.lop 2 [(.var 0), (.num (.lit 0))] 73 (.ite (.lt (.var 7) (.len (.var 1)))
  (.dat .sub [(.el (.var 5) (.var 7) 1), (.num (.lit 0)), (.num (.len (.el (.var 5) (.var 7) 1)))] (.con 1 [(.var 81)] (.ite (.and (.le (.lit 0) (.el (.var 5) (.var 7) 0)) (.lt (.el (.var 5) (.var 7) 0) (.len (.var 6))))
  (.adr (.var 82) (.dat (.set 0) [(.var 6), (.num (.el (.var 5) (.var 7) 0)), (.el (.var 83) (.lit 0) 0)] (.chk 2 6 [(.var 84), (.num (.add (.var 7) (.lit 1)))])))
  .fail)))
  (.ite (.le (.lit 0) (.var 2))
  (.dat (.rows 2) [] (.ret [(.var 6), (.var 81), (.num (.sub (.var 2) (.len (.var 1)))), (.lit 0), (.num (.lit 0))]))
  (.dat (.rows 2) [] (.ret [(.var 6), (.var 81), (.num (.var 2)), (.lit 0), (.num (.lit 0))]))))))
  .fail)))) := by kernel_rfl
end Go.Proofs.Ytdhdpgdifphfkaa
