/- DERIVED. What the executor makes of functions. -/
import Derived.Test.YtkophklnleodcaaDconb
import Derived.KernelRfl
namespace Go.Proofs.Ytkophklnleodcaa
open Go.Dx
set_option linter.unusedVariables false
set_option maxRecDepth 100000
theorem tree_nxR2 : runC tb [cChkR, cRunR] 80 (cNextN 21 2 2) = (.ite (.or (.or (.or (.not (.and (.le (.lit 1) (.var 0)) (.le (.var 0) (.lit 63)))) (.not (.and (.le (.lit 0) (.var 1)) (.le (.var 1) (.sub (.var 0) (.lit 1)))))) (.not (.and (.le (.lit 0) (.var 2)) (.le (.var 2) (.var 1))))) (.not (.and (.le (.lit 0) (.var 3)) (.le (.var 3) (.var 0)))))
  (.ret [(.num (.lit 0)), (.num (.lit 0)), (.num (.lit 0)), (.num (.lit 0)), (.num (.lit 0)), (.num (.lit 0)), (.num (.lit 0)), (.num (.lit 320))])
  (.ite (.or (.or (.or (.not (.and (.le (.lit 1) (.var 4)) (.le (.var 4) (.lit 15)))) (.not (.and (.le (.lit 1) (.var 5)) (.le (.var 5) (.lit 15))))) (.not (.and (.le (.lit 1) (.var 6)) (.le (.var 6) (.lit 15))))) (.not (.and (.le (.lit 0) (.var 7)) (.le (.var 7) (.lit 1048576)))))
  (.ret [(.num (.lit 0)), (.num (.lit 0)), (.num (.lit 0)), (.num (.lit 0)), (.num (.lit 0)), (.num (.lit 0)), (.num (.lit 0)), (.num (.lit 320))])
  (.ite (.not (.and (.and (.and (.le (.lit 0) (.var 8)) (.le (.var 8) (.lit 15))) (.and (.le (.lit 0) (.var 10)) (.le (.var 10) (.lit 7)))) (.and (.le (.lit 0) (.var 11)) (.le (.var 11) (.lit 7)))))
  (.ret [(.num (.lit 0)), (.num (.lit 0)), (.num (.lit 0)), (.num (.lit 0)), (.num (.lit 0)), (.num (.lit 0)), (.num (.lit 0)), (.num (.lit 320))])
  (.ite (.lt (.lit 4096) (.mul (.mul (.mul (.mul (.mul (.add (.var 0) (.lit 1)) (.add (.var 4) (.lit 1))) (.add (.var 10) (.lit 1))) (.add (.var 11) (.lit 1))) (.add (.var 8) (.lit 1))) (.add (.var 8) (.lit 1))))
  (.ret [(.num (.lit 0)), (.num (.lit 0)), (.num (.lit 0)), (.num (.lit 0)), (.num (.lit 0)), (.num (.lit 0)), (.num (.lit 0)), (.num (.lit 2))])
  (.con 0 [(.var 12)] (.ite (.not (.eq (.var 21) (.lit 0)))
  (.ret [(.num (.lit 0)), (.num (.lit 0)), (.num (.lit 0)), (.num (.lit 0)), (.num (.lit 0)), (.num (.lit 0)), (.num (.lit 0)), (.num (.var 21))])
  (.ite (.not (.and (.le (.lit 0) (.var 15)) (.le (.var 15) (.var 8))))
  (.ret [(.num (.lit 0)), (.num (.lit 0)), (.num (.lit 0)), (.num (.lit 0)), (.num (.lit 0)), (.num (.lit 0)), (.num (.lit 0)), (.num (.lit 320))])
  (.ite (.not (.and (.le (.lit 0) (.var 16)) (.le (.var 16) (.var 8))))
  (.ret [(.num (.lit 0)), (.num (.lit 0)), (.num (.lit 0)), (.num (.lit 0)), (.num (.lit 0)), (.num (.lit 0)), (.num (.lit 0)), (.num (.lit 320))])
  (.ite (.not (.and (.and (.and (.and (.le (.lit 0) (.var 13)) (.le (.var 13) (.var 0))) (.and (.le (.lit 0) (.var 14)) (.le (.var 14) (.var 4)))) (.and (.le (.lit 0) (.var 17)) (.le (.var 17) (.var 10)))) (.and (.le (.lit 0) (.var 18)) (.le (.var 18) (.var 11)))))
  (.ret [(.num (.lit 0)), (.num (.lit 0)), (.num (.lit 0)), (.num (.lit 0)), (.num (.lit 0)), (.num (.lit 0)), (.num (.lit 0)), (.num (.lit 320))])
  (.ite (.not (.and (.and (.le (.lit 0) (.var 19)) (.le (.var 19) (.var 8))) (.and (.le (.lit (-1)) (.var 20)) (.le (.var 20) (.var 10)))))
  (.ret [(.num (.lit 0)), (.num (.lit 0)), (.num (.lit 0)), (.num (.lit 0)), (.num (.lit 0)), (.num (.lit 0)), (.num (.lit 0)), (.num (.lit 1))])
  (.ite (.le (.lit 0) (.var 20))
  (.con 1 [(.var 12), (.num (.var 13)), (.num (.var 14)), (.num (.var 20)), (.num (.lit 0)), (.num (.var 15))] (.ite (.not (.eq (.var 23) (.lit 0)))
  (.ret [(.num (.min (.var 0) (.sub (.add (.var 13) (.var 15)) (.min (.add (.var 13) (.var 15)) (.mul (.var 5) (.max (.sub (.var 14) (.var 6)) (.min (.add (.var 14) (.var 6)) (.min (.var 22) (.var 4))))))))), (.num (.max (.sub (.var 14) (.var 6)) (.min (.add (.var 14) (.var 6)) (.min (.var 22) (.var 4))))), (.num (.var 16)), (.num (.var 19)), (.num (.var 20)), (.num (.lit 0)), (.num (.min (.add (.var 13) (.var 15)) (.mul (.var 5) (.max (.sub (.var 14) (.var 6)) (.min (.add (.var 14) (.var 6)) (.min (.var 22) (.var 4))))))), (.num (.lit 0))])
  (.ret [(.num (.min (.var 0) (.sub (.add (.var 13) (.var 15)) (.min (.add (.var 13) (.var 15)) (.mul (.var 5) (.var 14)))))), (.num (.var 14)), (.num (.var 16)), (.num (.var 19)), (.num (.var 20)), (.num (.lit 0)), (.num (.min (.add (.var 13) (.var 15)) (.mul (.var 5) (.var 14)))), (.num (.lit 0))])))
  (.con 1 [(.var 12), (.num (.var 13)), (.num (.var 14)), (.num (.var 17)), (.num (.min (.add (.var 18) (.lit 1)) (.var 11))), (.num (.var 15))] (.ite (.not (.eq (.var 23) (.lit 0)))
  (.ret [(.num (.min (.var 0) (.sub (.add (.var 13) (.var 15)) (.min (.add (.var 13) (.var 15)) (.mul (.var 5) (.max (.sub (.var 14) (.var 6)) (.min (.add (.var 14) (.var 6)) (.min (.var 22) (.var 4))))))))), (.num (.max (.sub (.var 14) (.var 6)) (.min (.add (.var 14) (.var 6)) (.min (.var 22) (.var 4))))), (.num (.var 16)), (.num (.var 19)), (.num (.var 17)), (.num (.min (.add (.var 18) (.lit 1)) (.var 11))), (.num (.min (.add (.var 13) (.var 15)) (.mul (.var 5) (.max (.sub (.var 14) (.var 6)) (.min (.add (.var 14) (.var 6)) (.min (.var 22) (.var 4))))))), (.num (.lit 0))])
  (.ret [(.num (.min (.var 0) (.sub (.add (.var 13) (.var 15)) (.min (.add (.var 13) (.var 15)) (.mul (.var 5) (.var 14)))))), (.num (.var 14)), (.num (.var 16)), (.num (.var 19)), (.num (.var 17)), (.num (.min (.add (.var 18) (.lit 1)) (.var 11))), (.num (.min (.add (.var 13) (.var 15)) (.mul (.var 5) (.var 14)))), (.num (.lit 0))])))))))))))))) := by kernel_rfl
end Go.Proofs.Ytkophklnleodcaa
