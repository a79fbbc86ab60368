/- DERIVED. What the executor makes of functions. -/
import Derived.Test.YtnleeohiomcieaaDoorDcon
import Derived.KernelRfl
namespace Go.Proofs.YtnleeohiomcieaaDoor
open Go.Dx
set_option linter.unusedVariables false
set_option maxRecDepth 100000
theorem tree_lspec : runC tb [lawCon 11 [], cLostX 17, cLostX 18, cWayX 19 false, cWayX 20 false, cWayX 21 true, cWayX 22 true, cNeed 23 false, cNeed 24 false, cNeed 25 true, cNeed 26 true, cMost 27, cMost 28] 80 (lawCon 4 [.agg reach, .c i64s, .c i64s]) = (.con 0 [] (.ite (.eq (.var 14) (.lit 0))
  (.ret [(.lit 0)])
  (.con 1 [(.var 0), (.num (.var 1)), (.num (.var 2)), (.num (.var 3)), (.num (.var 4)), (.num (.var 5)), (.num (.var 6)), (.num (.var 7)), (.num (.var 8)), (.num (.var 9)), (.num (.var 10)), (.num (.var 11)), (.num (.var 12))] (.con 2 [(.var 0), (.num (.var 1)), (.num (.var 2)), (.num (.var 3)), (.num (.var 4)), (.num (.var 5)), (.num (.var 6)), (.num (.var 7)), (.num (.var 8)), (.num (.var 9)), (.num (.var 10)), (.num (.var 11)), (.num (.var 12))] (.ite (.or (.not (.and (.eq (.var 15) (.var 18)) (.eq (.var 16) (.var 19)))) (.not (.eq (.var 17) (.var 20))))
  (.ret [(.lit 0)])
  (.con 3 [(.var 0), (.num (.var 1)), (.num (.var 2)), (.num (.var 3)), (.num (.var 4)), (.num (.var 5)), (.num (.var 6)), (.num (.var 7)), (.num (.var 8)), (.num (.var 9)), (.num (.var 10)), (.num (.var 11)), (.num (.var 12))] (.con 4 [(.var 0), (.num (.var 1)), (.num (.var 2)), (.num (.var 3)), (.num (.var 4)), (.num (.var 5)), (.num (.var 6)), (.num (.var 7)), (.num (.var 8)), (.num (.var 9)), (.num (.var 10)), (.num (.var 11)), (.num (.var 12))] (.ite (.or (.not (.eq (.var 21) (.var 23))) (.not (.eq (.var 22) (.var 24))))
  (.ret [(.lit 0)])
  (.con 5 [(.var 0), (.num (.var 1)), (.num (.var 2)), (.num (.var 3)), (.num (.var 4)), (.num (.var 5)), (.num (.var 6)), (.num (.var 7)), (.num (.var 8)), (.num (.var 9)), (.num (.var 10)), (.num (.var 11)), (.num (.var 12))] (.con 6 [(.var 0), (.num (.var 1)), (.num (.var 2)), (.num (.var 3)), (.num (.var 4)), (.num (.var 5)), (.num (.var 6)), (.num (.var 7)), (.num (.var 8)), (.num (.var 9)), (.num (.var 10)), (.num (.var 11)), (.num (.var 12))] (.ite (.or (.not (.eq (.var 25) (.var 27))) (.not (.eq (.var 26) (.var 28))))
  (.ret [(.lit 0)])
  (.con 7 [(.var 0), (.num (.var 1)), (.num (.var 2)), (.num (.var 3)), (.num (.var 4)), (.num (.var 5)), (.num (.var 6)), (.num (.var 7)), (.num (.var 8)), (.num (.var 9)), (.num (.var 10)), (.num (.var 11)), (.num (.var 13))] (.con 8 [(.var 0), (.num (.var 1)), (.num (.var 2)), (.num (.var 3)), (.num (.var 4)), (.num (.var 5)), (.num (.var 6)), (.num (.var 7)), (.num (.var 8)), (.num (.var 9)), (.num (.var 10)), (.num (.var 11)), (.num (.var 13))] (.ite (.or (.or (.not (.eq (.var 29) (.var 32))) (.not (.or (.and (.not (.eq (.var 30) (.lit 0))) (.not (.eq (.var 33) (.lit 0)))) (.and (.eq (.var 30) (.lit 0)) (.eq (.var 33) (.lit 0)))))) (.not (.eq (.var 31) (.var 34))))
  (.ret [(.lit 0)])
  (.con 9 [(.var 0), (.num (.var 1)), (.num (.var 2)), (.num (.var 3)), (.num (.var 4)), (.num (.var 5)), (.num (.var 6)), (.num (.var 7)), (.num (.var 8)), (.num (.var 9)), (.num (.var 10)), (.num (.var 11)), (.num (.var 13))] (.con 10 [(.var 0), (.num (.var 1)), (.num (.var 2)), (.num (.var 3)), (.num (.var 4)), (.num (.var 5)), (.num (.var 6)), (.num (.var 7)), (.num (.var 8)), (.num (.var 9)), (.num (.var 10)), (.num (.var 11)), (.num (.var 13))] (.ite (.or (.or (.not (.eq (.var 35) (.var 38))) (.not (.or (.and (.not (.eq (.var 36) (.lit 0))) (.not (.eq (.var 39) (.lit 0)))) (.and (.eq (.var 36) (.lit 0)) (.eq (.var 39) (.lit 0)))))) (.not (.eq (.var 37) (.var 40))))
  (.ret [(.lit 0)])
  (.con 11 [(.var 0), (.num (.var 1)), (.num (.var 2)), (.num (.var 3)), (.num (.var 4)), (.num (.var 5)), (.num (.var 6)), (.num (.var 7)), (.num (.var 8)), (.num (.var 9)), (.num (.var 10)), (.num (.var 11)), (.num (.var 13))] (.con 12 [(.var 0), (.num (.var 1)), (.num (.var 2)), (.num (.var 3)), (.num (.var 4)), (.num (.var 5)), (.num (.var 6)), (.num (.var 7)), (.num (.var 8)), (.num (.var 9)), (.num (.var 10)), (.num (.var 11)), (.num (.var 13))] (.ite (.and (.eq (.var 41) (.var 43)) (.eq (.var 42) (.var 44)))
  (.ret [(.lit 1)])
  (.ret [(.lit 0)]))))))))))))))))))))) := by kernel_rfl
theorem tree_lneed : runC tb [lawCon 11 [], cWayX 19 false, cNeed 23 false] 80 (lawCon 5 [.agg reach, .c i64s, .c i64s]) = (.con 0 [] (.ite (.eq (.var 14) (.lit 0))
  (.ret [(.lit 0)])
  (.con 1 [(.var 0), (.num (.var 1)), (.num (.var 2)), (.num (.var 3)), (.num (.var 4)), (.num (.var 5)), (.num (.var 6)), (.num (.var 7)), (.num (.var 8)), (.num (.var 9)), (.num (.var 10)), (.num (.var 11)), (.num (.var 12))] (.con 2 [(.var 0), (.num (.var 1)), (.num (.var 2)), (.num (.var 3)), (.num (.var 4)), (.num (.var 5)), (.num (.var 6)), (.num (.var 7)), (.num (.var 8)), (.num (.var 9)), (.num (.var 10)), (.num (.var 11)), (.num (.var 13))] (.ite (.or (.not (.eq (.var 16) (.lit 0))) (.not (.eq (.var 19) (.lit 0))))
  (.ite (.and (.or (.eq (.var 16) (.lit 0)) (.eq (.var 15) (.lit 0))) (.or (.eq (.var 19) (.lit 0)) (.and (.eq (.var 17) (.lit 0)) (.eq (.var 18) (.lit 0)))))
  (.ret [(.lit 1)])
  (.ret [(.lit 0)]))
  (.ite (.eq (.var 18) (.lit 0))
  (.ite (.and (.eq (.var 17) (.lit 0)) (.lt (.var 15) (.var 13)))
  (.ret [(.lit 1)])
  (.ret [(.lit 0)]))
  (.ite (.or (.and (.le (.var 13) (.var 15)) (.le (.var 17) (.var 12))) (.and (.lt (.var 15) (.var 13)) (.lt (.var 12) (.var 17))))
  (.ret [(.lit 1)])
  (.ret [(.lit 0)])))))))) := by kernel_rfl
theorem tree_lways : runC tb [lawCon 11 [], cWayX 19 false, cWayX 21 true, cNeed 25 true, cMost 27] 80 (lawCon 6 [.agg reach, .c i64s, .c i64s]) = (.con 0 [] (.ite (.eq (.var 14) (.lit 0))
  (.ret [(.lit 0)])
  (.con 1 [(.var 0), (.num (.var 1)), (.num (.var 2)), (.num (.var 3)), (.num (.var 4)), (.num (.var 5)), (.num (.var 6)), (.num (.var 7)), (.num (.var 8)), (.num (.var 9)), (.num (.var 10)), (.num (.var 11)), (.num (.var 12))] (.con 2 [(.var 0), (.num (.var 1)), (.num (.var 2)), (.num (.var 3)), (.num (.var 4)), (.num (.var 5)), (.num (.var 6)), (.num (.var 7)), (.num (.var 8)), (.num (.var 9)), (.num (.var 10)), (.num (.var 11)), (.num (.var 12))] (.con 3 [(.var 0), (.num (.var 1)), (.num (.var 2)), (.num (.var 3)), (.num (.var 4)), (.num (.var 5)), (.num (.var 6)), (.num (.var 7)), (.num (.var 8)), (.num (.var 9)), (.num (.var 10)), (.num (.var 11)), (.num (.var 13))] (.con 4 [(.var 0), (.num (.var 1)), (.num (.var 2)), (.num (.var 3)), (.num (.var 4)), (.num (.var 5)), (.num (.var 6)), (.num (.var 7)), (.num (.var 8)), (.num (.var 9)), (.num (.var 10)), (.num (.var 11)), (.num (.var 13))] (.ite (.or (.or (.or (.not (.eq (.var 16) (.lit 0))) (.not (.eq (.var 18) (.lit 0)))) (.not (.eq (.var 21) (.lit 0)))) (.not (.eq (.var 23) (.lit 0))))
  (.ite (.and (.and (.eq (.var 16) (.var 18)) (.eq (.var 21) (.var 23))) (.or (.eq (.var 21) (.lit 0)) (.and (.and (.eq (.var 19) (.lit 0)) (.eq (.var 22) (.lit 0))) (.eq (.var 20) (.lit 0)))))
  (.ret [(.lit 1)])
  (.ret [(.lit 0)]))
  (.ite (.and (.or (.and (.le (.var 15) (.var 13)) (.le (.var 12) (.var 22))) (.and (.lt (.var 13) (.var 15)) (.lt (.var 22) (.var 12)))) (.or (.and (.le (.var 13) (.var 17)) (.and (.not (.eq (.var 20) (.lit 0))) (.le (.var 19) (.var 12)))) (.and (.lt (.var 17) (.var 13)) (.not (.and (.not (.eq (.var 20) (.lit 0))) (.le (.var 19) (.var 12)))))))
  (.ret [(.lit 1)])
  (.ret [(.lit 0)]))))))))) := by kernel_rfl
theorem tree_lmono : runC tb [lawCon 11 [], cWayX 19 false, cWayX 21 true, cLostX 17] 80 (lawCon 7 [.agg reach, .c i64s, .c i64s]) = (.con 0 [] (.ite (.eq (.var 14) (.lit 0))
  (.ret [(.lit 0)])
  (.con 1 [(.var 0), (.num (.var 1)), (.num (.var 2)), (.num (.var 3)), (.num (.var 4)), (.num (.var 5)), (.num (.var 6)), (.num (.var 7)), (.num (.var 8)), (.num (.var 9)), (.num (.var 10)), (.num (.var 11)), (.num (.min (.var 12) (.var 13)))] (.con 1 [(.var 0), (.num (.var 1)), (.num (.var 2)), (.num (.var 3)), (.num (.var 4)), (.num (.var 5)), (.num (.var 6)), (.num (.var 7)), (.num (.var 8)), (.num (.var 9)), (.num (.var 10)), (.num (.var 11)), (.num (.max (.var 12) (.var 13)))] (.con 2 [(.var 0), (.num (.var 1)), (.num (.var 2)), (.num (.var 3)), (.num (.var 4)), (.num (.var 5)), (.num (.var 6)), (.num (.var 7)), (.num (.var 8)), (.num (.var 9)), (.num (.var 10)), (.num (.var 11)), (.num (.min (.var 12) (.var 13)))] (.con 2 [(.var 0), (.num (.var 1)), (.num (.var 2)), (.num (.var 3)), (.num (.var 4)), (.num (.var 5)), (.num (.var 6)), (.num (.var 7)), (.num (.var 8)), (.num (.var 9)), (.num (.var 10)), (.num (.var 11)), (.num (.max (.var 12) (.var 13)))] (.con 3 [(.var 0), (.num (.var 1)), (.num (.var 2)), (.num (.var 3)), (.num (.var 4)), (.num (.var 5)), (.num (.var 6)), (.num (.var 7)), (.num (.var 8)), (.num (.var 9)), (.num (.var 10)), (.num (.var 11)), (.num (.min (.var 12) (.var 13)))] (.ite (.or (.or (.or (.or (.not (.eq (.var 16) (.lit 0))) (.not (.eq (.var 18) (.lit 0)))) (.not (.eq (.var 20) (.lit 0)))) (.not (.eq (.var 22) (.lit 0)))) (.not (.eq (.var 25) (.lit 0))))
  (.ite (.or (.not (.eq (.var 16) (.lit 0))) (.not (.eq (.var 18) (.lit 0))))
  (.ret [(.lit 1)])
  (.ret [(.lit 0)]))
  (.ite (.and (.and (.and (.and (.and (.and (.and (.le (.var 15) (.var 17)) (.le (.var 19) (.var 21))) (.le (.var 15) (.var 19))) (.le (.var 19) (.min (.var 12) (.var 13)))) (.le (.var 23) (.var 24))) (.le (.var 24) (.min (.var 12) (.var 13)))) (.eq (.var 15) (.wrap .i64 (.sub (.min (.var 12) (.var 13)) (.var 24))))) (.eq (.var 19) (.wrap .i64 (.sub (.min (.var 12) (.var 13)) (.var 23)))))
  (.ret [(.lit 1)])
  (.ret [(.lit 0)])))))))))) := by kernel_rfl
theorem tree_ltog : runC tb [lawCon 11 [], cWayX 19 false] 80 (lawCon 8 [.agg reach, .c i64s, .c i64s]) = (.con 0 [] (.ite (.eq (.var 14) (.lit 0))
  (.ret [(.lit 0)])
  (.con 1 [(.var 0), (.num (.var 1)), (.num (.var 2)), (.num (.var 3)), (.num (.var 4)), (.num (.var 5)), (.num (.var 6)), (.num (.var 7)), (.num (.var 8)), (.num (.var 9)), (.num (.var 10)), (.num (.var 11)), (.num (.var 12))] (.con 1 [(.var 0), (.num (.var 1)), (.num (.var 2)), (.num (.var 3)), (.num (.var 4)), (.num (.var 5)), (.num (.var 6)), (.num (.var 7)), (.num (.var 8)), (.num (.var 9)), (.num (.var 10)), (.num (.var 11)), (.num (.var 13))] (.ite (.or (.or (.not (.eq (.var 16) (.lit 0))) (.not (.eq (.var 18) (.lit 0)))) (.lt (.lit 1073741824) (.wrap .i64 (.add (.var 12) (.var 13)))))
  (.ret [(.lit 1)])
  (.con 1 [(.var 0), (.num (.var 1)), (.num (.var 2)), (.num (.var 3)), (.num (.var 4)), (.num (.var 5)), (.num (.var 6)), (.num (.var 7)), (.num (.var 8)), (.num (.var 9)), (.num (.var 10)), (.num (.var 11)), (.num (.wrap .i64 (.add (.var 12) (.var 13))))] (.ite (.and (.eq (.var 20) (.lit 0)) (.le (.add (.var 15) (.var 17)) (.var 19)))
  (.ret [(.lit 1)])
  (.ret [(.lit 0)])))))))) := by kernel_rfl
end Go.Proofs.YtnleeohiomcieaaDoor
