/- DERIVED. What the executor makes of functions. -/
import Derived.Test.YtnleeohiomcieaaDoorDconb
import Derived.KernelRfl
namespace Go.Proofs.YtnleeohiomcieaaDoor
open Go.Dx
set_option linter.unusedVariables false
set_option maxRecDepth 100000
theorem tree_isS : runC tb [cShr, lAll PanOk 4 91 48 6 9, lAll PondOk 10 91 60 7 101] 80 cIsS = (.ite (.not (.or (.or (.or (.lt (.var 0) (.lit 0)) (.lt (.lit 1048576) (.var 0))) (.lt (.var 1) (.lit 0))) (.le (.lit 6) (.var 1))))
  (.con 0 [(.num (.var 2)), (.num (.var 3)), (.num (.var 4)), (.num (.var 5))] (.ite (.or (.or (.eq (.var 8) (.lit 0)) (.lt (.lit 1000) (.var 3))) (.lt (.lit 1000) (.var 5)))
  (.ret [(.lit 0)])
  (.lop 1 [(.num (.lit 0))] 91 (.ite (.lt (.var 9) (.len (.var 6)))
  (.ite (.not (.and (.and (.le (.lit 0) (.el (.var 6) (.var 9) 0)) (.le (.el (.var 6) (.var 9) 0) (.el (.var 6) (.var 9) 1))) (.le (.el (.var 6) (.var 9) 1) (.lit 1000))))
  (.ret [(.lit 0)])
  (.chk 1 9 [(.num (.add (.var 9) (.lit 1)))]))
  (.lop 2 [(.num (.lit 0))] 91 (.ite (.lt (.var 101) (.len (.var 7)))
  (.ite (.or (.or (.or (.or (.lt (.el (.var 7) (.var 101) 0) (.lit 1)) (.lt (.lit 1073741824) (.el (.var 7) (.var 101) 0))) (.lt (.el (.var 7) (.var 101) 1) (.lit 1))) (.lt (.lit 4096) (.el (.var 7) (.var 101) 1))) (.not (.and (.and (.le (.lit 0) (.el (.var 7) (.var 101) 2)) (.le (.el (.var 7) (.var 101) 2) (.el (.var 7) (.var 101) 3))) (.le (.el (.var 7) (.var 101) 3) (.el (.var 7) (.var 101) 0)))))
  (.ret [(.lit 0)])
  (.chk 2 101 [(.num (.add (.var 101) (.lit 1)))]))
  (.ret [(.lit 1)])))))))
  (.ret [(.lit 0)])) := by kernel_rfl
theorem tree_isSR : runC tb [cShrR, lAll PanOk 4 97 3 6 9, lAll PondOk 9 97 4 7 107] 80 cIsSR = (.ite (.not (.or (.or (.or (.lt (.var 0) (.lit 0)) (.lt (.lit 1048576) (.var 0))) (.lt (.var 1) (.lit 0))) (.lt (.lit 5) (.var 1))))
  (.con 0 [(.num (.var 2)), (.num (.var 3)), (.num (.var 4)), (.num (.var 5))] (.ite (.or (.or (.eq (.var 8) (.lit 0)) (.lt (.lit 1000) (.var 3))) (.lt (.lit 1000) (.var 5)))
  (.ret [(.lit 0)])
  (.lop 1 [(.num (.lit 0))] 97 (.ite (.lt (.var 9) (.len (.var 6)))
  (.ite (.not (.and (.and (.le (.lit 0) (.el (.var 6) (.var 9) 0)) (.le (.el (.var 6) (.var 9) 0) (.el (.var 6) (.var 9) 1))) (.le (.el (.var 6) (.var 9) 1) (.lit 1000))))
  (.ret [(.lit 0)])
  (.chk 1 9 [(.num (.add (.var 9) (.lit 1)))]))
  (.lop 2 [(.num (.lit 0))] 97 (.ite (.lt (.var 107) (.len (.var 7)))
  (.ite (.or (.or (.or (.or (.lt (.el (.var 7) (.var 107) 0) (.lit 1)) (.lt (.lit 1073741824) (.el (.var 7) (.var 107) 0))) (.lt (.el (.var 7) (.var 107) 1) (.lit 1))) (.lt (.lit 4096) (.el (.var 7) (.var 107) 1))) (.not (.and (.and (.le (.lit 0) (.el (.var 7) (.var 107) 2)) (.le (.el (.var 7) (.var 107) 2) (.el (.var 7) (.var 107) 3))) (.le (.el (.var 7) (.var 107) 3) (.el (.var 7) (.var 107) 0)))))
  (.ret [(.lit 0)])
  (.chk 2 107 [(.num (.add (.var 107) (.lit 1)))]))
  (.ret [(.lit 1)])))))))
  (.ret [(.lit 0)])) := by kernel_rfl
theorem tree_mk : runC tb [cDiv] 80 (cMk 43) = (.con 0 [(.num (.var 0)), (.num (.var 1))] (.ret [(.num (.quo (.var 0) (.var 2))), (.num (.quo (.var 1) (.var 2))), (.num (.lit 0))])) := by kernel_rfl
theorem tree_mkR : runC tb [lMkR] 80 (cMk 46) = (.ite (.lt (.lit 0) (.var 0))
  (.lop 0 [(.num (.sub (.lit 0) (.var 0))), (.num (.sub (.lit 0) (.var 1)))] 69 (.ite (.lt (.var 3) (.lit (-1)))
  (.ite (.and (.le (.lit (-1048576)) (.num (.rem (.var 2) (.var 3)))) (.le (.num (.rem (.var 2) (.var 3))) (.lit 0)))
  (.chk 0 2 [(.num (.var 3)), (.num (.rem (.var 2) (.var 3)))])
  .fail)
  (.ite (.eq (.var 3) (.lit (-1)))
  (.ret [(.num (.quo (.sub (.lit 0) (.var 0)) (.lit (-1)))), (.num (.quo (.sub (.lit 0) (.var 1)) (.lit (-1)))), (.num (.lit 0))])
  (.ite (.eq (.var 2) (.lit 0))
  .fail
  (.ret [(.num (.quo (.sub (.lit 0) (.var 0)) (.var 2))), (.num (.quo (.sub (.lit 0) (.var 1)) (.var 2))), (.num (.lit 0))])))))
  (.lop 0 [(.num (.var 0)), (.num (.sub (.lit 0) (.var 1)))] 69 (.ite (.lt (.var 3) (.lit (-1)))
  (.ite (.and (.le (.lit (-1048576)) (.num (.rem (.var 2) (.var 3)))) (.le (.num (.rem (.var 2) (.var 3))) (.lit 0)))
  (.chk 0 2 [(.num (.var 3)), (.num (.rem (.var 2) (.var 3)))])
  .fail)
  (.ite (.eq (.var 3) (.lit (-1)))
  (.ret [(.num (.quo (.var 0) (.lit (-1)))), (.num (.quo (.sub (.lit 0) (.var 1)) (.lit (-1)))), (.num (.lit 0))])
  (.ite (.eq (.var 2) (.lit 0))
  .fail
  (.ret [(.num (.quo (.var 0) (.var 2))), (.num (.quo (.sub (.lit 0) (.var 1)) (.var 2))), (.num (.lit 0))])))))) := by kernel_rfl
theorem tree_evap : runC tb [cIsS, lEv] 80 (cEvap 13) = (.ite (.or (.lt (.lit 16) (.len (.var 6))) (.lt (.lit 16) (.len (.var 7))))
  (.ret [(.num (.lit 0)), (.num (.lit 0)), (.num (.lit 2))])
  (.con 0 [(.num (.var 0)), (.num (.var 1)), (.num (.var 2)), (.num (.var 3)), (.num (.var 4)), (.num (.var 5)), (.var 6), (.var 7)] (.ite (.eq (.var 9) (.lit 0))
  (.ret [(.num (.lit 0)), (.num (.lit 0)), (.num (.lit 210))])
  (.ite (.or (.lt (.var 8) (.lit 1)) (.lt (.lit 16) (.var 8)))
  (.ret [(.num (.lit 0)), (.num (.lit 0)), (.num (.lit 1))])
  (.ite (.eq (.len (.var 6)) (.lit 0))
  (.both (.ite (.eq (.wrap .i64 (.mul (.lit 240) (.var 3))) (.lit 0))
  .fail
  (.ite (.eq (.wrap .i64 (.mul (.lit 240) (.var 5))) (.lit 0))
  .fail
  (.ite (.lt (.min (.lit 1073741824) (.wrap .i64 (.quo (.wrap .i64 (.sub (.wrap .i64 (.add (.wrap .i64 (.mul (.wrap .i64 (.mul (.wrap .i64 (.mul (.var 4) (.lit 240))) (.var 0))) (.var 8))) (.wrap .i64 (.mul (.lit 240) (.var 5))))) (.lit 1))) (.wrap .i64 (.mul (.lit 240) (.var 5)))))) (.quo (.mul (.mul (.mul (.var 2) (.lit 0)) (.var 0)) (.var 8)) (.wrap .i64 (.mul (.lit 240) (.var 3)))))
  (.ret [(.num (.lit 0)), (.num (.lit 0)), (.num (.lit 210))])
  (.ret [(.num (.quo (.mul (.mul (.mul (.var 2) (.lit 0)) (.var 0)) (.var 8)) (.wrap .i64 (.mul (.lit 240) (.var 3))))), (.num (.min (.lit 1073741824) (.wrap .i64 (.quo (.wrap .i64 (.sub (.wrap .i64 (.add (.wrap .i64 (.mul (.wrap .i64 (.mul (.wrap .i64 (.mul (.var 4) (.lit 240))) (.var 0))) (.var 8))) (.wrap .i64 (.mul (.lit 240) (.var 5))))) (.lit 1))) (.wrap .i64 (.mul (.lit 240) (.var 5))))))), (.num (.lit 0))])))) (.ite (.eq (.wrap .i64 (.mul (.lit 240) (.var 5))) (.lit 0))
  .fail
  (.ite (.eq (.wrap .i64 (.mul (.lit 240) (.var 3))) (.lit 0))
  .fail
  (.ite (.lt (.min (.lit 1073741824) (.wrap .i64 (.quo (.wrap .i64 (.sub (.wrap .i64 (.add (.wrap .i64 (.mul (.wrap .i64 (.mul (.wrap .i64 (.mul (.var 4) (.lit 240))) (.var 0))) (.var 8))) (.wrap .i64 (.mul (.lit 240) (.var 5))))) (.lit 1))) (.wrap .i64 (.mul (.lit 240) (.var 5)))))) (.quo (.mul (.mul (.mul (.var 2) (.lit 0)) (.var 0)) (.var 8)) (.wrap .i64 (.mul (.lit 240) (.var 3)))))
  (.ret [(.num (.lit 0)), (.num (.lit 0)), (.num (.lit 210))])
  (.ret [(.num (.quo (.mul (.mul (.mul (.var 2) (.lit 0)) (.var 0)) (.var 8)) (.wrap .i64 (.mul (.lit 240) (.var 3))))), (.num (.min (.lit 1073741824) (.wrap .i64 (.quo (.wrap .i64 (.sub (.wrap .i64 (.add (.wrap .i64 (.mul (.wrap .i64 (.mul (.wrap .i64 (.mul (.var 4) (.lit 240))) (.var 0))) (.var 8))) (.wrap .i64 (.mul (.lit 240) (.var 5))))) (.lit 1))) (.wrap .i64 (.mul (.lit 240) (.var 5))))))), (.num (.lit 0))])))))
  (.lop 1 [(.num (.lit 0)), (.num (.lit 0)), (.num (.lit 1073741824))] 23 (.ite (.lt (.var 10) (.len (.var 6)))
  (.both (.ite (.eq (.wrap .i64 (.mul (.lit 240) (.var 3))) (.lit 0))
  .fail
  (.ite (.eq (.wrap .i64 (.mul (.lit 240) (.var 5))) (.lit 0))
  .fail
  (.chk 1 10 [(.num (.add (.var 10) (.lit 1))), (.num (.max (.var 11) (.wrap .i64 (.quo (.wrap .i64 (.mul (.wrap .i64 (.mul (.wrap .i64 (.mul (.var 2) (.el (.var 6) (.var 10) 0))) (.var 0))) (.var 8))) (.wrap .i64 (.mul (.lit 240) (.var 3))))))), (.num (.min (.var 12) (.wrap .i64 (.quo (.wrap .i64 (.sub (.wrap .i64 (.add (.wrap .i64 (.mul (.wrap .i64 (.mul (.wrap .i64 (.mul (.var 4) (.el (.var 6) (.var 10) 1))) (.var 0))) (.var 8))) (.wrap .i64 (.mul (.lit 240) (.var 5))))) (.lit 1))) (.wrap .i64 (.mul (.lit 240) (.var 5)))))))]))) (.ite (.eq (.wrap .i64 (.mul (.lit 240) (.var 5))) (.lit 0))
  .fail
  (.ite (.eq (.wrap .i64 (.mul (.lit 240) (.var 3))) (.lit 0))
  .fail
  (.chk 1 10 [(.num (.add (.var 10) (.lit 1))), (.num (.max (.var 11) (.wrap .i64 (.quo (.wrap .i64 (.mul (.wrap .i64 (.mul (.wrap .i64 (.mul (.var 2) (.el (.var 6) (.var 10) 0))) (.var 0))) (.var 8))) (.wrap .i64 (.mul (.lit 240) (.var 3))))))), (.num (.min (.var 12) (.wrap .i64 (.quo (.wrap .i64 (.sub (.wrap .i64 (.add (.wrap .i64 (.mul (.wrap .i64 (.mul (.wrap .i64 (.mul (.var 4) (.el (.var 6) (.var 10) 1))) (.var 0))) (.var 8))) (.wrap .i64 (.mul (.lit 240) (.var 5))))) (.lit 1))) (.wrap .i64 (.mul (.lit 240) (.var 5)))))))]))))
  (.ite (.lt (.var 12) (.var 11))
  (.ret [(.num (.lit 0)), (.num (.lit 0)), (.num (.lit 210))])
  (.ret [(.num (.var 11)), (.num (.var 12)), (.num (.lit 0))]))))))))) := by kernel_rfl
theorem tree_evapR : runC tb [cIsSR, lEvR] 80 (cEvap 14) = (.ite (.or (.lt (.lit 16) (.len (.var 6))) (.lt (.lit 16) (.len (.var 7))))
  (.ret [(.num (.lit 0)), (.num (.lit 0)), (.num (.lit 2))])
  (.con 0 [(.num (.var 0)), (.num (.var 1)), (.num (.var 2)), (.num (.var 3)), (.num (.var 4)), (.num (.var 5)), (.var 6), (.var 7)] (.ite (.eq (.var 9) (.lit 0))
  (.ret [(.num (.lit 0)), (.num (.lit 0)), (.num (.lit 210))])
  (.ite (.or (.lt (.var 8) (.lit 1)) (.lt (.lit 16) (.var 8)))
  (.ret [(.num (.lit 0)), (.num (.lit 0)), (.num (.lit 1))])
  (.ite (.eq (.len (.var 6)) (.lit 0))
  (.ite (.eq (.wrap .i64 (.mul (.lit 240) (.var 3))) (.lit 0))
  .fail
  (.ite (.eq (.wrap .i64 (.mul (.lit 240) (.var 5))) (.lit 0))
  .fail
  (.lop 1 [(.num (.lit 1)), (.num (.quo (.mul (.mul (.mul (.var 2) (.lit 0)) (.var 0)) (.var 8)) (.wrap .i64 (.mul (.lit 240) (.var 3))))), (.num (.wrap .i64 (.quo (.wrap .i64 (.sub (.wrap .i64 (.add (.wrap .i64 (.mul (.wrap .i64 (.mul (.wrap .i64 (.mul (.var 4) (.lit 240))) (.var 0))) (.var 8))) (.wrap .i64 (.mul (.lit 240) (.var 5))))) (.lit 1))) (.wrap .i64 (.mul (.lit 240) (.var 5))))))] 68 (.ite (.lt (.var 12) (.var 11))
  (.ret [(.num (.lit 0)), (.num (.lit 0)), (.num (.lit 210))])
  (.ret [(.num (.var 11)), (.num (.var 12)), (.num (.lit 0))])))))
  (.ite (.eq (.wrap .i64 (.mul (.lit 240) (.var 3))) (.lit 0))
  .fail
  (.ite (.eq (.wrap .i64 (.mul (.lit 240) (.var 5))) (.lit 0))
  .fail
  (.lop 1 [(.num (.lit 1)), (.num (.wrap .i64 (.quo (.wrap .i64 (.mul (.wrap .i64 (.mul (.wrap .i64 (.mul (.var 2) (.el (.var 6) (.lit 0) 0))) (.var 0))) (.var 8))) (.wrap .i64 (.mul (.lit 240) (.var 3)))))), (.num (.wrap .i64 (.quo (.wrap .i64 (.sub (.wrap .i64 (.add (.wrap .i64 (.mul (.wrap .i64 (.mul (.wrap .i64 (.mul (.var 4) (.el (.var 6) (.lit 0) 1))) (.var 0))) (.var 8))) (.wrap .i64 (.mul (.lit 240) (.var 5))))) (.lit 1))) (.wrap .i64 (.mul (.lit 240) (.var 5))))))] 68 (.ite (.lt (.var 10) (.len (.var 6)))
  (.ite (.eq (.wrap .i64 (.mul (.lit 240) (.var 3))) (.lit 0))
  .fail
  (.ite (.eq (.wrap .i64 (.mul (.lit 240) (.var 5))) (.lit 0))
  .fail
  (.chk 1 10 [(.num (.add (.var 10) (.lit 1))), (.num (.max (.var 11) (.wrap .i64 (.quo (.wrap .i64 (.mul (.wrap .i64 (.mul (.wrap .i64 (.mul (.var 2) (.el (.var 6) (.var 10) 0))) (.var 0))) (.var 8))) (.wrap .i64 (.mul (.lit 240) (.var 3))))))), (.num (.min (.var 12) (.wrap .i64 (.quo (.wrap .i64 (.sub (.wrap .i64 (.add (.wrap .i64 (.mul (.wrap .i64 (.mul (.wrap .i64 (.mul (.var 4) (.el (.var 6) (.var 10) 1))) (.var 0))) (.var 8))) (.wrap .i64 (.mul (.lit 240) (.var 5))))) (.lit 1))) (.wrap .i64 (.mul (.lit 240) (.var 5)))))))])))
  (.ite (.lt (.var 12) (.var 11))
  (.ret [(.num (.lit 0)), (.num (.lit 0)), (.num (.lit 210))])
  (.ret [(.num (.var 11)), (.num (.var 12)), (.num (.lit 0))]))))))))))) := by kernel_rfl
end Go.Proofs.YtnleeohiomcieaaDoor
