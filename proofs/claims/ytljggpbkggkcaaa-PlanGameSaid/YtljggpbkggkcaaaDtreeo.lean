/- DERIVED. What the executor makes of functions. -/
import Derived.Test.YtljggpbkggkcaaaDcone
import Derived.KernelRfl
namespace Go.Proofs.Ytljggpbkggkcaaa
open Go.Dx
set_option linter.unusedVariables false
set_option maxRecDepth 100000
theorem tree_firmR : runC tb [cChk 15, cMet 48, lLook 6, lHalf 62] 80 (cFirm 24) = (.con 0 [(.num (.var 0)), (.num (.var 1)), (.num (.var 2)), (.var 3)] (.ite (.not (.eq (.var 5) (.lit 0)))
  (.ret [(.num (.lit 0)), (.lit 0), (.num (.var 5))])
  (.ite (.not (.eq (.len (.var 4)) (.len (.var 3))))
  (.ret [(.num (.lit 0)), (.lit 0), (.num (.lit 390))])
  (.lop 2 [(.num (.lit 0))] 54 (.ite (.lt (.var 6) (.len (.var 4)))
  (.ite (.not (.and (.le (.lit 0) (.el (.var 4) (.var 6) 0)) (.le (.el (.var 4) (.var 6) 0) (.lit 1048576))))
  (.ret [(.num (.lit 0)), (.lit 0), (.num (.lit 390))])
  (.chk 2 6 [(.num (.add (.var 6) (.lit 1)))]))
  (.con 1 [(.num (.var 0)), (.num (.var 1)), (.num (.var 2)), (.var 3), (.var 4), (.num (.lit 0))] (.ite (.eq (.var 61) (.lit 0))
  (.ret [(.num (.lit 0)), (.lit 0), (.num (.lit 0))])
  (.lop 3 [(.num (.lit 0)), (.num (.lit 1048577))] 54 (.ite (.lt (.add (.var 62) (.lit 1)) (.var 63))
  (.con 1 [(.num (.var 0)), (.num (.var 1)), (.num (.var 2)), (.var 3), (.var 4), (.num (.quo (.add (.var 62) (.var 63)) (.lit 2)))] (.ite (.not (.eq (.var 118) (.lit 0)))
  (.chk 3 62 [(.num (.quo (.add (.var 62) (.var 63)) (.lit 2))), (.num (.var 63))])
  (.chk 3 62 [(.num (.var 62)), (.num (.quo (.add (.var 62) (.var 63)) (.lit 2)))])))
  (.ret [(.num (.var 62)), (.lit 1), (.num (.lit 0))])))))))))) := by kernel_rfl
end Go.Proofs.Ytljggpbkggkcaaa
