/- DERIVED. What the executor makes of functions. -/
import Derived.Test.YtdhdpgdifphfkaaEcon
import Derived.KernelRfl
namespace Go.Proofs.Ytdhdpgdifphfkaa
open Go.Dx
set_option linter.unusedVariables false
set_option maxRecDepth 100000
theorem tree_write : runC tb [cRun 30, cPad 31] 120 (cWrite 19) = (.con 0 [(.var 0), (.var 1), (.num (.var 2)), (.num (.var 3))] (.ite (.or (.eq (.var 6) (.lit 0)) (.not (.and (.le (.lit 0) (.var 4)) (.lt (.var 4) (.len (.var 0))))))
  (.dat (.rows 1) [] (.dat (.rows 2) [] (.ret [(.var 7), (.var 8), (.num (.lit 0)), (.lit 0), (.num (.lit 40))])))
  (.ite (.lt (.lit 128) (.len (.var 5)))
  (.dat (.rows 1) [] (.dat (.rows 2) [] (.ret [(.var 7), (.var 8), (.num (.lit 0)), (.lit 0), (.num (.lit 1))])))
  (.ite (.eq (.len (.var 1)) (.lit 4096))
  (.dat (.rows 1) [] (.dat (.rows 2) [] (.ret [(.var 7), (.var 8), (.num (.lit 0)), (.lit 0), (.num (.lit 2))])))
  (.both (.dat .sub [(.var 1), (.num (.lit 0)), (.num (.len (.var 1)))] (.con 1 [(.var 5)] (.adr (.var 8) (.ite (.le (.add (.len (.var 1)) (.lit 1)) (.lit 4264772374403))
  (.dat (.rows 2) [(.num (.var 4)), (.el (.var 9) (.lit 0) 0)] (.dat .cat [(.var 7), (.var 10)] (.ret [(.var 0), (.var 11), (.num (.var 2)), (.num (.var 3)), (.num (.lit 0))])))
  .fail)))) (.con 1 [(.var 5)] (.both (.dat .sub [(.var 1), (.num (.lit 0)), (.num (.len (.var 1)))] (.adr (.var 7) (.ite (.le (.add (.len (.var 1)) (.lit 1)) (.lit 4264772374403))
  (.dat (.rows 2) [(.num (.var 4)), (.el (.var 9) (.lit 0) 0)] (.dat .cat [(.var 8), (.var 10)] (.ret [(.var 0), (.var 11), (.num (.var 2)), (.num (.var 3)), (.num (.lit 0))])))
  .fail))) (.adr (.var 7) (.dat .sub [(.var 1), (.num (.lit 0)), (.num (.len (.var 1)))] (.ite (.le (.add (.len (.var 1)) (.lit 1)) (.lit 4264772374403))
  (.dat (.rows 2) [(.num (.var 4)), (.el (.var 8) (.lit 0) 0)] (.dat .cat [(.var 9), (.var 10)] (.ret [(.var 0), (.var 11), (.num (.var 2)), (.num (.var 3)), (.num (.lit 0))])))
  .fail)))))))))) := by kernel_rfl
theorem tree_writeR : runC tb [cChk 16, lWriteR] 120 (cWrite 20) = (.con 0 [(.var 0), (.var 1), (.num (.var 2)), (.num (.var 3))] (.ite (.or (.or (.or (.not (.eq (.var 6) (.lit 0))) (.not (.eq (.var 3) (.lit 0)))) (.lt (.var 4) (.lit 0))) (.le (.len (.var 0)) (.var 4)))
  (.dat (.rows 1) [] (.dat (.rows 2) [] (.ret [(.var 7), (.var 8), (.num (.lit 0)), (.lit 0), (.num (.lit 40))])))
  (.ite (.lt (.lit 128) (.len (.var 5)))
  (.dat (.rows 1) [] (.dat (.rows 2) [] (.ret [(.var 7), (.var 8), (.num (.lit 0)), (.lit 0), (.num (.lit 1))])))
  (.ite (.eq (.len (.var 1)) (.lit 4096))
  (.dat (.rows 1) [] (.dat (.rows 2) [] (.ret [(.var 7), (.var 8), (.num (.lit 0)), (.lit 0), (.num (.lit 2))])))
  (.lop 1 [(.var 5)] 57 (.ite (.lt (.len (.var 7)) (.lit 128))
  (.dat (.rows 1) [(.num (.lit 0))] (.dat .cat [(.var 7), (.var 65)] (.chk 1 7 [(.var 66)])))
  (.ite (.le (.len (.var 1)) (.lit 4264772374403))
  (.adr (.var 7) (.ite (.le (.add (.len (.var 1)) (.lit 1)) (.lit 4264772374403))
  (.dat (.rows 2) [(.num (.var 4)), (.el (.var 65) (.lit 0) 0)] (.dat .cat [(.var 1), (.var 66)] (.ret [(.var 0), (.var 67), (.num (.var 2)), (.num (.var 3)), (.num (.lit 0))])))
  .fail))
  .fail))))))) := by kernel_rfl
end Go.Proofs.Ytdhdpgdifphfkaa
