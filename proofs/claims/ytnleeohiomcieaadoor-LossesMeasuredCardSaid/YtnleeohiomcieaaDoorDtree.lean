/- DERIVED. What the executor makes of functions. -/
import Derived.Test.YtnleeohiomcieaaDoorDcon
import Derived.KernelRfl
namespace Go.Proofs.YtnleeohiomcieaaDoor
open Go.Dx
set_option linter.unusedVariables false
set_option maxRecDepth 100000
theorem tree_div : runC tb [lDiv] 80 cDiv = (.lop 0 [(.num (.var 0)), (.num (.var 1)), (.num (.lit 0))] 18 (.ite (.not (.eq (.var 3) (.lit 0)))
  (.chk 0 2 [(.num (.var 3)), (.num (.rem (.var 2) (.var 3))), (.num (.var 3))])
  (.ite (.and (.le (.lit 1) (.num (.var 4))) (.le (.num (.var 4)) (.lit 18446744073709551615)))
  (.ret [(.num (.var 4))])
  .fail))) := by kernel_rfl
theorem tree_divR : runC tb [lDivR] 80 cDivR = (.lop 0 [(.num (.var 0)), (.num (.var 1))] 14 (.ite (.lt (.lit 0) (.var 3))
  (.chk 0 2 [(.num (.var 3)), (.num (.rem (.var 2) (.var 3)))])
  (.ret [(.num (.var 2))]))) := by kernel_rfl
theorem tree_chk : runC tb [cDiv] 80 cChk = (.ite (.not (.or (.or (.or (.lt (.var 1) (.lit 1)) (.lt (.lit 1073741824) (.var 1))) (.lt (.var 0) (.lit (-1073741824)))) (.lt (.lit 1073741824) (.var 0))))
  (.ite (.lt (.var 0) (.lit 0))
  (.con 0 [(.num (.wrap .u64 (.sub (.lit 0) (.wrap .u64 (.var 0))))), (.num (.var 1))] (.ite (.not (.eq (.var 2) (.lit 1)))
  (.ret [(.num (.lit 120))])
  (.ret [(.num (.lit 0))])))
  (.con 0 [(.num (.var 0)), (.num (.var 1))] (.ite (.not (.eq (.var 2) (.lit 1)))
  (.ret [(.num (.lit 120))])
  (.ret [(.num (.lit 0))]))))
  (.ret [(.num (.lit 120))])) := by kernel_rfl
theorem tree_val : runC tb [cDivR] 80 cVal = (.ite (.and (.and (.and (.le (.lit 1) (.var 1)) (.le (.var 1) (.lit 1073741824))) (.le (.lit (-1073741824)) (.var 0))) (.le (.var 0) (.lit 1073741824)))
  (.ite (.lt (.var 0) (.lit 0))
  (.con 0 [(.num (.sub (.lit 0) (.var 0))), (.num (.var 1))] (.ite (.eq (.var 2) (.lit 1))
  (.ret [(.lit 1)])
  (.ret [(.lit 0)])))
  (.con 0 [(.num (.var 0)), (.num (.var 1))] (.ite (.eq (.var 2) (.lit 1))
  (.ret [(.lit 1)])
  (.ret [(.lit 0)]))))
  (.ret [(.lit 0)])) := by kernel_rfl
theorem tree_shr : runC tb [cChk] 80 cShr = (.con 0 [(.num (.var 0)), (.num (.var 1))] (.ite (.not (.eq (.var 4) (.lit 0)))
  (.ret [(.lit 0)])
  (.con 0 [(.num (.var 2)), (.num (.var 3))] (.ite (.not (.eq (.var 5) (.lit 0)))
  (.ret [(.lit 0)])
  (.ite (.lt (.wrap .i64 (.mul (.var 0) (.var 3))) (.wrap .i64 (.mul (.var 2) (.var 1))))
  (.ite (.and (.le (.lit 0) (.var 0)) (.le (.var 2) (.var 3)))
  (.ret [(.lit 1)])
  (.ret [(.lit 0)]))
  (.ite (.lt (.wrap .i64 (.mul (.var 2) (.var 1))) (.wrap .i64 (.mul (.var 0) (.var 3))))
  (.ret [(.lit 0)])
  (.ite (.and (.le (.lit 0) (.var 0)) (.le (.var 2) (.var 3)))
  (.ret [(.lit 1)])
  (.ret [(.lit 0)])))))))) := by kernel_rfl
theorem tree_shrR : runC tb [cVal] 80 cShrR = (.con 0 [(.num (.var 0)), (.num (.var 1))] (.ite (.and (.and (.not (.eq (.var 4) (.lit 0))) (.le (.lit 0) (.var 0))) (.le (.var 0) (.var 1)))
  (.con 0 [(.num (.var 2)), (.num (.var 3))] (.ite (.and (.and (.and (.not (.eq (.var 5) (.lit 0))) (.le (.lit 0) (.var 2))) (.le (.var 2) (.var 3))) (.le (.wrap .i64 (.mul (.var 0) (.var 3))) (.wrap .i64 (.mul (.var 2) (.var 1)))))
  (.ret [(.lit 1)])
  (.ret [(.lit 0)])))
  (.ret [(.lit 0)]))) := by kernel_rfl
theorem tree_check : runC tb [cShr] 80 cCheck = (.ite (.and (.and (.le (.lit 0) (.var 6)) (.le (.var 6) (.var 7))) (.le (.var 7) (.lit 1073741824)))
  (.con 0 [(.num (.var 8)), (.num (.var 9)), (.num (.var 10)), (.num (.var 11))] (.ite (.eq (.var 13) (.lit 0))
  (.ret [(.num (.lit 210))])
  (.ite (.or (.lt (.var 12) (.lit 0)) (.lt (.lit 1073741824) (.var 12)))
  (.ret [(.num (.lit 1))])
  (.ret [(.num (.lit 0))]))))
  (.ret [(.num (.lit 210))])) := by kernel_rfl
theorem tree_lost : runC tb [] 80 cLost = (.ite (.eq (.var 9) (.lit 0))
  .fail
  (.ite (.eq (.var 11) (.lit 0))
  .fail
  (.ite (.and (.le (.lit 0) (.num (.min (.var 12) (.wrap .i64 (.add (.var 6) (.wrap .i64 (.quo (.wrap .i64 (.mul (.var 12) (.var 8))) (.var 9)))))))) (.le (.num (.min (.var 12) (.wrap .i64 (.add (.var 6) (.wrap .i64 (.quo (.wrap .i64 (.mul (.var 12) (.var 8))) (.var 9))))))) (.lit 1073741824)))
  (.ite (.and (.le (.lit 0) (.num (.min (.var 12) (.wrap .i64 (.add (.var 7) (.wrap .i64 (.quo (.wrap .i64 (.sub (.wrap .i64 (.add (.wrap .i64 (.mul (.var 12) (.var 10))) (.var 11))) (.lit 1))) (.var 11)))))))) (.le (.num (.min (.var 12) (.wrap .i64 (.add (.var 7) (.wrap .i64 (.quo (.wrap .i64 (.sub (.wrap .i64 (.add (.wrap .i64 (.mul (.var 12) (.var 10))) (.var 11))) (.lit 1))) (.var 11))))))) (.lit 1073741824)))
  (.ret [(.num (.min (.var 12) (.wrap .i64 (.add (.var 6) (.wrap .i64 (.quo (.wrap .i64 (.mul (.var 12) (.var 8))) (.var 9))))))), (.num (.min (.var 12) (.wrap .i64 (.add (.var 7) (.wrap .i64 (.quo (.wrap .i64 (.sub (.wrap .i64 (.add (.wrap .i64 (.mul (.var 12) (.var 10))) (.var 11))) (.lit 1))) (.var 11)))))))])
  .fail)
  .fail))) := by kernel_rfl
theorem tree_lostR : runC tb [] 80 cLostR = (.ite (.eq (.var 12) (.lit 0))
  (.ret [(.num (.lit 0)), (.num (.lit 0))])
  (.ite (.eq (.var 9) (.lit 0))
  .fail
  (.ite (.eq (.var 11) (.lit 0))
  .fail
  (.ite (.and (.le (.lit 0) (.num (.min (.var 12) (.wrap .i64 (.add (.var 6) (.wrap .i64 (.quo (.wrap .i64 (.mul (.var 12) (.var 8))) (.var 9)))))))) (.le (.num (.min (.var 12) (.wrap .i64 (.add (.var 6) (.wrap .i64 (.quo (.wrap .i64 (.mul (.var 12) (.var 8))) (.var 9))))))) (.lit 1073741824)))
  (.ite (.and (.le (.lit 0) (.num (.min (.var 12) (.wrap .i64 (.add (.var 7) (.wrap .i64 (.quo (.wrap .i64 (.sub (.wrap .i64 (.add (.wrap .i64 (.mul (.var 12) (.var 10))) (.var 11))) (.lit 1))) (.var 11)))))))) (.le (.num (.min (.var 12) (.wrap .i64 (.add (.var 7) (.wrap .i64 (.quo (.wrap .i64 (.sub (.wrap .i64 (.add (.wrap .i64 (.mul (.var 12) (.var 10))) (.var 11))) (.lit 1))) (.var 11))))))) (.lit 1073741824)))
  (.ret [(.num (.min (.var 12) (.wrap .i64 (.add (.var 6) (.wrap .i64 (.quo (.wrap .i64 (.mul (.var 12) (.var 8))) (.var 9))))))), (.num (.min (.var 12) (.wrap .i64 (.add (.var 7) (.wrap .i64 (.quo (.wrap .i64 (.sub (.wrap .i64 (.add (.wrap .i64 (.mul (.var 12) (.var 10))) (.var 11))) (.lit 1))) (.var 11)))))))])
  .fail)
  .fail)))) := by kernel_rfl
theorem tree_worst : runC tb [cLost] 80 cWorst = (.con 0 [(.var 0), (.num (.var 1)), (.num (.var 2)), (.num (.var 3)), (.num (.var 4)), (.num (.var 5)), (.num (.var 6)), (.num (.var 7)), (.num (.var 8)), (.num (.var 9)), (.num (.var 10)), (.num (.var 11)), (.num (.var 12))] (.ite (.and (.le (.lit 0) (.num (.wrap .i64 (.sub (.var 12) (.var 14))))) (.le (.num (.wrap .i64 (.sub (.var 12) (.var 14)))) (.lit 1073741824)))
  (.ret [(.num (.wrap .i64 (.sub (.var 12) (.var 14))))])
  .fail)) := by kernel_rfl
theorem tree_best : runC tb [cLost] 80 cBest = (.con 0 [(.var 0), (.num (.var 1)), (.num (.var 2)), (.num (.var 3)), (.num (.var 4)), (.num (.var 5)), (.num (.var 6)), (.num (.var 7)), (.num (.var 8)), (.num (.var 9)), (.num (.var 10)), (.num (.var 11)), (.num (.var 12))] (.ite (.and (.le (.lit 0) (.num (.wrap .i64 (.sub (.var 12) (.var 13))))) (.le (.num (.wrap .i64 (.sub (.var 12) (.var 13)))) (.lit 1073741824)))
  (.ret [(.num (.wrap .i64 (.sub (.var 12) (.var 13))))])
  .fail)) := by kernel_rfl
theorem tree_arr : runC tb [cLostR] 80 cArr = (.con 0 [(.var 0), (.num (.var 1)), (.num (.var 2)), (.num (.var 3)), (.num (.var 4)), (.num (.var 5)), (.num (.var 6)), (.num (.var 7)), (.num (.var 8)), (.num (.var 9)), (.num (.var 10)), (.num (.var 11)), (.num (.var 12))] (.ite (.not (.eq (.var 13) (.lit 0)))
  (.ite (.and (.le (.lit 0) (.num (.wrap .i64 (.sub (.var 12) (.var 14))))) (.le (.num (.wrap .i64 (.sub (.var 12) (.var 14)))) (.lit 1073741824)))
  (.ret [(.num (.wrap .i64 (.sub (.var 12) (.var 14))))])
  .fail)
  (.ite (.and (.le (.lit 0) (.num (.wrap .i64 (.sub (.var 12) (.var 15))))) (.le (.num (.wrap .i64 (.sub (.var 12) (.var 15)))) (.lit 1073741824)))
  (.ret [(.num (.wrap .i64 (.sub (.var 12) (.var 15))))])
  .fail))) := by kernel_rfl
theorem tree_needW : runC tb [cCheck, cWorst, lLst false 0 14] 80 (cNeed 23 false) = (.con 0 [(.var 0), (.num (.var 1)), (.num (.var 2)), (.num (.var 3)), (.num (.var 4)), (.num (.var 5)), (.num (.var 6)), (.num (.var 7)), (.num (.var 8)), (.num (.var 9)), (.num (.var 10)), (.num (.var 11)), (.num (.var 12))] (.ite (.not (.eq (.var 13) (.lit 0)))
  (.ret [(.num (.lit 0)), (.lit 0), (.num (.var 13))])
  (.lop 2 [(.num (.lit 0)), (.num (.lit 1073741825))] 20 (.ite (.lt (.var 14) (.var 15))
  (.con 1 [(.var 0), (.num (.var 1)), (.num (.var 2)), (.num (.var 3)), (.num (.var 4)), (.num (.var 5)), (.num (.var 6)), (.num (.var 7)), (.num (.var 8)), (.num (.var 9)), (.num (.var 10)), (.num (.var 11)), (.num (.quo (.add (.var 14) (.var 15)) (.lit 2)))] (.ite (.le (.var 12) (.var 36))
  (.chk 2 14 [(.num (.var 14)), (.num (.quo (.add (.var 14) (.var 15)) (.lit 2)))])
  (.chk 2 14 [(.num (.add (.quo (.add (.var 14) (.var 15)) (.lit 2)) (.lit 1))), (.num (.var 15))])))
  (.ite (.lt (.lit 1073741824) (.var 14))
  (.ret [(.num (.lit 0)), (.lit 0), (.num (.lit 0))])
  (.ret [(.num (.var 14)), (.lit 1), (.num (.lit 0))])))))) := by kernel_rfl
theorem tree_needB : runC tb [cCheck, cBest, lLst true 0 14] 80 (cNeed 25 true) = (.con 0 [(.var 0), (.num (.var 1)), (.num (.var 2)), (.num (.var 3)), (.num (.var 4)), (.num (.var 5)), (.num (.var 6)), (.num (.var 7)), (.num (.var 8)), (.num (.var 9)), (.num (.var 10)), (.num (.var 11)), (.num (.var 12))] (.ite (.not (.eq (.var 13) (.lit 0)))
  (.ret [(.num (.lit 0)), (.lit 0), (.num (.var 13))])
  (.lop 2 [(.num (.lit 0)), (.num (.lit 1073741825))] 20 (.ite (.lt (.var 14) (.var 15))
  (.con 1 [(.var 0), (.num (.var 1)), (.num (.var 2)), (.num (.var 3)), (.num (.var 4)), (.num (.var 5)), (.num (.var 6)), (.num (.var 7)), (.num (.var 8)), (.num (.var 9)), (.num (.var 10)), (.num (.var 11)), (.num (.quo (.add (.var 14) (.var 15)) (.lit 2)))] (.ite (.le (.var 12) (.var 36))
  (.chk 2 14 [(.num (.var 14)), (.num (.quo (.add (.var 14) (.var 15)) (.lit 2)))])
  (.chk 2 14 [(.num (.add (.quo (.add (.var 14) (.var 15)) (.lit 2)) (.lit 1))), (.num (.var 15))])))
  (.ite (.lt (.lit 1073741824) (.var 14))
  (.ret [(.num (.lit 0)), (.lit 0), (.num (.lit 0))])
  (.ret [(.num (.var 14)), (.lit 1), (.num (.lit 0))])))))) := by kernel_rfl
theorem tree_most : runC tb [cCheck, cWorst, lLst false 1 14] 80 (cMost 27) = (.con 0 [(.var 0), (.num (.var 1)), (.num (.var 2)), (.num (.var 3)), (.num (.var 4)), (.num (.var 5)), (.num (.var 6)), (.num (.var 7)), (.num (.var 8)), (.num (.var 9)), (.num (.var 10)), (.num (.var 11)), (.num (.var 12))] (.ite (.not (.eq (.var 13) (.lit 0)))
  (.ret [(.num (.lit 0)), (.num (.var 13))])
  (.lop 2 [(.num (.lit 0)), (.num (.lit 1073741825))] 20 (.ite (.lt (.var 14) (.var 15))
  (.con 1 [(.var 0), (.num (.var 1)), (.num (.var 2)), (.num (.var 3)), (.num (.var 4)), (.num (.var 5)), (.num (.var 6)), (.num (.var 7)), (.num (.var 8)), (.num (.var 9)), (.num (.var 10)), (.num (.var 11)), (.num (.quo (.add (.var 14) (.var 15)) (.lit 2)))] (.ite (.lt (.var 12) (.var 36))
  (.chk 2 14 [(.num (.var 14)), (.num (.quo (.add (.var 14) (.var 15)) (.lit 2)))])
  (.chk 2 14 [(.num (.add (.quo (.add (.var 14) (.var 15)) (.lit 2)) (.lit 1))), (.num (.var 15))])))
  (.ite (.and (.le (.lit 0) (.num (.sub (.var 14) (.lit 1)))) (.le (.num (.sub (.var 14) (.lit 1))) (.lit 1073741824)))
  (.ret [(.num (.sub (.var 14) (.lit 1))), (.num (.lit 0))])
  .fail))))) := by kernel_rfl
theorem tree_lst : runC tb [cArr, lLstR] 80 cLst = (.con 0 [(.var 0), (.num (.var 1)), (.num (.var 2)), (.num (.var 3)), (.num (.var 4)), (.num (.var 5)), (.num (.var 6)), (.num (.var 7)), (.num (.var 8)), (.num (.var 9)), (.num (.var 10)), (.num (.var 11)), (.num (.lit 1073741824)), (.num (.var 13))] (.ite (.lt (.var 14) (.var 12))
  (.ret [(.num (.lit (-1)))])
  (.lop 1 [(.num (.lit 0)), (.num (.lit 1073741824))] 32 (.ite (.lt (.var 15) (.var 16))
  (.con 0 [(.var 0), (.num (.var 1)), (.num (.var 2)), (.num (.var 3)), (.num (.var 4)), (.num (.var 5)), (.num (.var 6)), (.num (.var 7)), (.num (.var 8)), (.num (.var 9)), (.num (.var 10)), (.num (.var 11)), (.num (.quo (.add (.var 15) (.var 16)) (.lit 2))), (.num (.var 13))] (.ite (.le (.var 12) (.var 49))
  (.chk 1 15 [(.num (.var 15)), (.num (.quo (.add (.var 15) (.var 16)) (.lit 2)))])
  (.chk 1 15 [(.num (.add (.quo (.add (.var 15) (.var 16)) (.lit 2)) (.lit 1))), (.num (.var 16))])))
  (.ret [(.num (.var 15))]))))) := by kernel_rfl
theorem tree_lostX : runC tb [cCheck, cLost] 80 (cLostX 17) = (.con 0 [(.var 0), (.num (.var 1)), (.num (.var 2)), (.num (.var 3)), (.num (.var 4)), (.num (.var 5)), (.num (.var 6)), (.num (.var 7)), (.num (.var 8)), (.num (.var 9)), (.num (.var 10)), (.num (.var 11)), (.num (.var 12))] (.ite (.not (.eq (.var 13) (.lit 0)))
  (.ret [(.num (.lit 0)), (.num (.lit 0)), (.num (.var 13))])
  (.con 1 [(.var 0), (.num (.var 1)), (.num (.var 2)), (.num (.var 3)), (.num (.var 4)), (.num (.var 5)), (.num (.var 6)), (.num (.var 7)), (.num (.var 8)), (.num (.var 9)), (.num (.var 10)), (.num (.var 11)), (.num (.var 12))] (.ret [(.num (.var 14)), (.num (.var 15)), (.num (.lit 0))])))) := by kernel_rfl
theorem tree_worstX : runC tb [cCheck, cWorst] 80 (cWayX 19 false) = (.con 0 [(.var 0), (.num (.var 1)), (.num (.var 2)), (.num (.var 3)), (.num (.var 4)), (.num (.var 5)), (.num (.var 6)), (.num (.var 7)), (.num (.var 8)), (.num (.var 9)), (.num (.var 10)), (.num (.var 11)), (.num (.var 12))] (.ite (.not (.eq (.var 13) (.lit 0)))
  (.ret [(.num (.lit 0)), (.num (.var 13))])
  (.con 1 [(.var 0), (.num (.var 1)), (.num (.var 2)), (.num (.var 3)), (.num (.var 4)), (.num (.var 5)), (.num (.var 6)), (.num (.var 7)), (.num (.var 8)), (.num (.var 9)), (.num (.var 10)), (.num (.var 11)), (.num (.var 12))] (.ret [(.num (.var 14)), (.num (.lit 0))])))) := by kernel_rfl
theorem tree_bestX : runC tb [cCheck, cBest] 80 (cWayX 21 true) = (.con 0 [(.var 0), (.num (.var 1)), (.num (.var 2)), (.num (.var 3)), (.num (.var 4)), (.num (.var 5)), (.num (.var 6)), (.num (.var 7)), (.num (.var 8)), (.num (.var 9)), (.num (.var 10)), (.num (.var 11)), (.num (.var 12))] (.ite (.not (.eq (.var 13) (.lit 0)))
  (.ret [(.num (.lit 0)), (.num (.var 13))])
  (.con 1 [(.var 0), (.num (.var 1)), (.num (.var 2)), (.num (.var 3)), (.num (.var 4)), (.num (.var 5)), (.num (.var 6)), (.num (.var 7)), (.num (.var 8)), (.num (.var 9)), (.num (.var 10)), (.num (.var 11)), (.num (.var 12))] (.ret [(.num (.var 14)), (.num (.lit 0))])))) := by kernel_rfl
theorem tree_lostXR : runC tb [cShrR, cLostR] 80 (cLostX 18) = (.ite (.and (.and (.le (.lit 0) (.var 6)) (.le (.var 6) (.var 7))) (.le (.var 7) (.lit 1073741824)))
  (.con 0 [(.num (.var 8)), (.num (.var 9)), (.num (.var 10)), (.num (.var 11))] (.ite (.eq (.var 13) (.lit 0))
  (.ret [(.num (.lit 0)), (.num (.lit 0)), (.num (.lit 210))])
  (.ite (.or (.lt (.var 12) (.lit 0)) (.lt (.lit 1073741824) (.var 12)))
  (.ret [(.num (.lit 0)), (.num (.lit 0)), (.num (.lit 1))])
  (.con 1 [(.var 0), (.num (.var 1)), (.num (.var 2)), (.num (.var 3)), (.num (.var 4)), (.num (.var 5)), (.num (.var 6)), (.num (.var 7)), (.num (.var 8)), (.num (.var 9)), (.num (.var 10)), (.num (.var 11)), (.num (.var 12))] (.ret [(.num (.var 14)), (.num (.var 15)), (.num (.lit 0))])))))
  (.ret [(.num (.lit 0)), (.num (.lit 0)), (.num (.lit 210))])) := by kernel_rfl
theorem tree_worstXR : runC tb [cLostX 18] 80 (cWayX 20 false) = (.con 0 [(.var 0), (.num (.var 1)), (.num (.var 2)), (.num (.var 3)), (.num (.var 4)), (.num (.var 5)), (.num (.var 6)), (.num (.var 7)), (.num (.var 8)), (.num (.var 9)), (.num (.var 10)), (.num (.var 11)), (.num (.var 12))] (.ite (.not (.eq (.var 15) (.lit 0)))
  (.ret [(.num (.lit 0)), (.num (.var 15))])
  (.ite (.and (.le (.lit 0) (.num (.wrap .i64 (.sub (.var 12) (.var 14))))) (.le (.num (.wrap .i64 (.sub (.var 12) (.var 14)))) (.lit 1073741824)))
  (.ret [(.num (.wrap .i64 (.sub (.var 12) (.var 14)))), (.num (.lit 0))])
  .fail))) := by kernel_rfl
theorem tree_bestXR : runC tb [cLostX 18] 80 (cWayX 22 true) = (.con 0 [(.var 0), (.num (.var 1)), (.num (.var 2)), (.num (.var 3)), (.num (.var 4)), (.num (.var 5)), (.num (.var 6)), (.num (.var 7)), (.num (.var 8)), (.num (.var 9)), (.num (.var 10)), (.num (.var 11)), (.num (.var 12))] (.ite (.not (.eq (.var 15) (.lit 0)))
  (.ret [(.num (.lit 0)), (.num (.var 15))])
  (.ite (.and (.le (.lit 0) (.num (.wrap .i64 (.sub (.var 12) (.var 13))))) (.le (.num (.wrap .i64 (.sub (.var 12) (.var 13)))) (.lit 1073741824)))
  (.ret [(.num (.wrap .i64 (.sub (.var 12) (.var 13)))), (.num (.lit 0))])
  .fail))) := by kernel_rfl
theorem tree_needWR : runC tb [cShrR, cLst] 80 (cNeed 24 false) = (.ite (.and (.and (.le (.lit 0) (.var 6)) (.le (.var 6) (.var 7))) (.le (.var 7) (.lit 1073741824)))
  (.con 0 [(.num (.var 8)), (.num (.var 9)), (.num (.var 10)), (.num (.var 11))] (.ite (.eq (.var 13) (.lit 0))
  (.ret [(.num (.lit 0)), (.lit 0), (.num (.lit 210))])
  (.ite (.or (.lt (.var 12) (.lit 0)) (.lt (.lit 1073741824) (.var 12)))
  (.ret [(.num (.lit 0)), (.lit 0), (.num (.lit 1))])
  (.con 1 [(.var 0), (.num (.var 1)), (.num (.var 2)), (.num (.var 3)), (.num (.var 4)), (.num (.var 5)), (.num (.var 6)), (.num (.var 7)), (.num (.var 8)), (.num (.var 9)), (.num (.var 10)), (.num (.var 11)), (.num (.var 12)), (.lit 0)] (.ite (.lt (.var 14) (.lit 0))
  (.ret [(.num (.lit 0)), (.lit 0), (.num (.lit 0))])
  (.ret [(.num (.var 14)), (.lit 1), (.num (.lit 0))]))))))
  (.ret [(.num (.lit 0)), (.lit 0), (.num (.lit 210))])) := by kernel_rfl
theorem tree_needBR : runC tb [cShrR, cLst] 80 (cNeed 26 true) = (.ite (.and (.and (.le (.lit 0) (.var 6)) (.le (.var 6) (.var 7))) (.le (.var 7) (.lit 1073741824)))
  (.con 0 [(.num (.var 8)), (.num (.var 9)), (.num (.var 10)), (.num (.var 11))] (.ite (.eq (.var 13) (.lit 0))
  (.ret [(.num (.lit 0)), (.lit 0), (.num (.lit 210))])
  (.ite (.or (.lt (.var 12) (.lit 0)) (.lt (.lit 1073741824) (.var 12)))
  (.ret [(.num (.lit 0)), (.lit 0), (.num (.lit 1))])
  (.con 1 [(.var 0), (.num (.var 1)), (.num (.var 2)), (.num (.var 3)), (.num (.var 4)), (.num (.var 5)), (.num (.var 6)), (.num (.var 7)), (.num (.var 8)), (.num (.var 9)), (.num (.var 10)), (.num (.var 11)), (.num (.var 12)), (.lit 1)] (.ite (.lt (.var 14) (.lit 0))
  (.ret [(.num (.lit 0)), (.lit 0), (.num (.lit 0))])
  (.ret [(.num (.var 14)), (.lit 1), (.num (.lit 0))]))))))
  (.ret [(.num (.lit 0)), (.lit 0), (.num (.lit 210))])) := by kernel_rfl
theorem tree_mostR : runC tb [cShrR, cLst] 80 (cMost 28) = (.ite (.and (.and (.le (.lit 0) (.var 6)) (.le (.var 6) (.var 7))) (.le (.var 7) (.lit 1073741824)))
  (.con 0 [(.num (.var 8)), (.num (.var 9)), (.num (.var 10)), (.num (.var 11))] (.ite (.eq (.var 13) (.lit 0))
  (.ret [(.num (.lit 0)), (.num (.lit 210))])
  (.ite (.or (.lt (.var 12) (.lit 0)) (.lt (.lit 1073741824) (.var 12)))
  (.ret [(.num (.lit 0)), (.num (.lit 1))])
  (.con 1 [(.var 0), (.num (.var 1)), (.num (.var 2)), (.num (.var 3)), (.num (.var 4)), (.num (.var 5)), (.num (.var 6)), (.num (.var 7)), (.num (.var 8)), (.num (.var 9)), (.num (.var 10)), (.num (.var 11)), (.num (.var 12)), (.lit 0)] (.ite (.lt (.var 14) (.lit 0))
  (.con 1 [(.var 0), (.num (.var 1)), (.num (.var 2)), (.num (.var 3)), (.num (.var 4)), (.num (.var 5)), (.num (.var 6)), (.num (.var 7)), (.num (.var 8)), (.num (.var 9)), (.num (.var 10)), (.num (.var 11)), (.num (.add (.var 12) (.lit 1))), (.lit 0)] (.ite (.lt (.var 15) (.lit 0))
  (.ret [(.num (.lit 1073741824)), (.num (.lit 0))])
  (.ite (.and (.le (.lit 0) (.num (.sub (.var 15) (.lit 1)))) (.le (.num (.sub (.var 15) (.lit 1))) (.lit 1073741824)))
  (.ret [(.num (.sub (.var 15) (.lit 1))), (.num (.lit 0))])
  .fail)))
  (.con 1 [(.var 0), (.num (.var 1)), (.num (.var 2)), (.num (.var 3)), (.num (.var 4)), (.num (.var 5)), (.num (.var 6)), (.num (.var 7)), (.num (.var 8)), (.num (.var 9)), (.num (.var 10)), (.num (.var 11)), (.num (.add (.var 12) (.lit 1))), (.lit 0)] (.ite (.lt (.var 15) (.lit 0))
  (.ret [(.num (.lit 1073741824)), (.num (.lit 0))])
  (.ite (.and (.le (.lit 0) (.num (.sub (.var 15) (.lit 1)))) (.le (.num (.sub (.var 15) (.lit 1))) (.lit 1073741824)))
  (.ret [(.num (.sub (.var 15) (.lit 1))), (.num (.lit 0))])
  .fail))))))))
  (.ret [(.num (.lit 0)), (.num (.lit 210))])) := by kernel_rfl
end Go.Proofs.YtnleeohiomcieaaDoor
