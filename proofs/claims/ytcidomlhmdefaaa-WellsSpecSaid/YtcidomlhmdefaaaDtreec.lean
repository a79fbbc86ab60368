/- DERIVED. What the executor makes of functions. -/
import Derived.Test.YtcidomlhmdefaaaDcon
import Derived.KernelRfl
namespace Go.Proofs.Ytcidomlhmdefaaa
open Go.Dx
set_option linter.unusedVariables false
set_option maxRecDepth 100000
theorem tree_sane : runC tb [cOwe 15, cRep 17] 300 (lawCon 10 []) = (.dat (.rows 1) [(.num (.lit 1)), (.num (.lit 1))] (.dat (.rows 1) [(.num (.lit 3)), (.num (.lit 0))] (.con 0 [(.num (.lit 0)), (.num (.lit 0)), (.num (.lit 2)), (.var 0), (.var 1)] (.dat (.rows 1) [(.num (.lit 1)), (.num (.lit 1))] (.dat (.rows 1) [(.num (.lit 3)), (.num (.lit 0))] (.dat (.rows 1) [(.num (.lit 0)), (.num (.lit 1)), (.num (.lit 0))] (.con 1 [(.num (.lit 0)), (.num (.lit 0)), (.num (.lit 2)), (.var 4), (.var 5), (.var 6)] (.dat (.rows 1) [] (.dat (.rows 1) [] (.con 0 [(.num (.lit 0)), (.num (.lit 0)), (.num (.lit 0)), (.var 9), (.var 10)] (.dat (.rows 1) [(.num (.lit 1)), (.num (.lit 1))] (.dat (.rows 1) [] (.con 0 [(.num (.lit 0)), (.num (.lit 0)), (.num (.lit 2)), (.var 13), (.var 14)] (.dat (.rows 1) [(.num (.lit 1)), (.num (.lit 1))] (.dat (.rows 1) [(.num (.lit 5))] (.dat (.rows 1) [] (.con 1 [(.num (.lit 0)), (.num (.lit 0)), (.num (.lit 2)), (.var 17), (.var 18), (.var 19)] (.ite (.or (.or (.or (.or (.not (.eq (.var 3) (.lit 0))) (.not (.eq (.var 8) (.lit 0)))) (.not (.eq (.var 12) (.lit 420)))) (.not (.eq (.var 16) (.lit 0)))) (.not (.eq (.var 21) (.lit 420))))
  (.ret [(.lit 0)])
  (.dat (.rows 1) [(.num (.lit 1)), (.num (.lit 1))] (.adr (.var 22) (.ite (.not (.eq (.len (.var 2)) (.lit 3)))
  (.ret [(.lit 0)])
  (.ite (.not (.eq (.el (.var 2) (.lit 0) 0) (.lit 1)))
  (.ret [(.lit 0)])
  (.ite (.not (.eq (.el (.var 2) (.lit 1) 0) (.lit 2)))
  (.ret [(.lit 0)])
  (.ite (.not (.eq (.el (.var 2) (.lit 2) 0) (.lit 0)))
  (.ret [(.lit 0)])
  (.ite (.not (.eq (.len (.var 7)) (.lit 3)))
  (.ret [(.lit 0)])
  (.ite (.not (.eq (.el (.var 7) (.lit 0) 0) (.lit 1)))
  (.ret [(.lit 0)])
  (.ite (.not (.eq (.el (.var 7) (.lit 1) 0) (.lit 2)))
  (.ret [(.lit 0)])
  (.ite (.not (.eq (.el (.var 7) (.lit 2) 0) (.lit 2)))
  (.ret [(.lit 0)])
  (.ite (.eq (.len (.var 15)) (.lit 0))
  (.ret [(.lit 1)])
  (.ret [(.lit 0)])))))))))))))))))))))))))))))) := by kernel_rfl
end Go.Proofs.Ytcidomlhmdefaaa
