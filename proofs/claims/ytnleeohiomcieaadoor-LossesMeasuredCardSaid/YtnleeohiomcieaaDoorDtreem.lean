/- DERIVED. What the executor makes of functions. -/
import Derived.Test.YtnleeohiomcieaaDoorDcond
import Derived.KernelRfl
namespace Go.Proofs.YtnleeohiomcieaaDoor
open Go.Dx
set_option linter.unusedVariables false
set_option maxRecDepth 100000
theorem tree_cmp : runC tb [cChk] 80 cCmp = (.con 0 [(.num (.var 0)), (.num (.var 1))] (.ite (.not (.eq (.var 4) (.lit 0)))
  (.ret [(.num (.lit 0)), (.num (.var 4))])
  (.con 0 [(.num (.var 2)), (.num (.var 3))] (.ite (.not (.eq (.var 5) (.lit 0)))
  (.ret [(.num (.lit 0)), (.num (.var 5))])
  (.ite (.lt (.wrap .i64 (.mul (.var 0) (.var 3))) (.wrap .i64 (.mul (.var 2) (.var 1))))
  (.ret [(.num (.lit (-1))), (.num (.lit 0))])
  (.ite (.lt (.wrap .i64 (.mul (.var 2) (.var 1))) (.wrap .i64 (.mul (.var 0) (.var 3))))
  (.ret [(.num (.lit 1)), (.num (.lit 0))])
  (.ret [(.num (.lit 0)), (.num (.lit 0))]))))))) := by kernel_rfl
theorem tree_times : runC tb [cChk] 80 cTimes = (.con 0 [(.num (.var 0)), (.num (.var 1))] (.ite (.not (.eq (.var 3) (.lit 0)))
  (.ret [(.num (.lit 0)), (.num (.lit 0)), (.num (.var 3))])
  (.ite (.lt (.rem (.mul (.sub (.lit 0) (.var 0)) (.var 2)) (.var 1)) (.lit 0))
  (.ret [(.num (.quo (.mul (.var 0) (.var 2)) (.var 1))), (.num (.sub (.lit 0) (.sub (.quo (.mul (.sub (.lit 0) (.var 0)) (.var 2)) (.var 1)) (.lit 1)))), (.num (.lit 0))])
  (.ret [(.num (.quo (.mul (.var 0) (.var 2)) (.var 1))), (.num (.sub (.lit 0) (.quo (.mul (.sub (.lit 0) (.var 0)) (.var 2)) (.var 1)))), (.num (.lit 0))])))) := by kernel_rfl
theorem tree_lsv : runC tb [lawCon 11 [], cEvap 13, cEvap 14, cSeep 15, cSeep 16] 80 (lawCon 3 [.agg survey, .c i64s]) = (.con 0 [] (.ite (.eq (.var 9) (.lit 0))
  (.ret [(.lit 0)])
  (.ite (.not (.and (.le (.len (.var 6)) (.lit 100)) (.le (.len (.var 7)) (.lit 100))))
  (.ret [(.lit 1)])
  (.con 1 [(.num (.var 0)), (.num (.var 1)), (.num (.var 2)), (.num (.var 3)), (.num (.var 4)), (.num (.var 5)), (.var 6), (.var 7), (.num (.var 8))] (.con 2 [(.num (.var 0)), (.num (.var 1)), (.num (.var 2)), (.num (.var 3)), (.num (.var 4)), (.num (.var 5)), (.var 6), (.var 7), (.num (.var 8))] (.con 3 [(.num (.var 0)), (.num (.var 1)), (.num (.var 2)), (.num (.var 3)), (.num (.var 4)), (.num (.var 5)), (.var 6), (.var 7), (.num (.var 8))] (.con 4 [(.num (.var 0)), (.num (.var 1)), (.num (.var 2)), (.num (.var 3)), (.num (.var 4)), (.num (.var 5)), (.var 6), (.var 7), (.num (.var 8))] (.ite (.and (.and (.and (.and (.eq (.var 10) (.var 13)) (.eq (.var 11) (.var 14))) (.eq (.var 12) (.var 15))) (.and (.and (.eq (.var 16) (.var 21)) (.eq (.var 17) (.var 22))) (.and (.eq (.var 18) (.var 23)) (.eq (.var 19) (.var 24))))) (.eq (.var 20) (.var 25)))
  (.ret [(.lit 1)])
  (.ret [(.lit 0)]))))))))) := by kernel_rfl
theorem tree_lsd : runC tb [lawCon 11 [], cEvap 13, cSeep 15, cLostX 17, cTimes] 80 (lawCon 10 [.agg survey, .c i64s, .c i64s]) = (.con 0 [] (.ite (.eq (.var 10) (.lit 0))
  (.ret [(.lit 0)])
  (.ite (.not (.and (.le (.len (.var 6)) (.lit 100)) (.le (.len (.var 7)) (.lit 100))))
  (.ret [(.lit 1)])
  (.con 1 [(.num (.var 0)), (.num (.var 1)), (.num (.var 2)), (.num (.var 3)), (.num (.var 4)), (.num (.var 5)), (.var 6), (.var 7), (.num (.var 8))] (.con 2 [(.num (.var 0)), (.num (.var 1)), (.num (.var 2)), (.num (.var 3)), (.num (.var 4)), (.num (.var 5)), (.var 6), (.var 7), (.num (.var 8))] (.ite (.or (.not (.eq (.var 13) (.lit 0))) (.not (.eq (.var 18) (.lit 0))))
  (.ret [(.lit 1)])
  (.con 3 [(.str ⟨⟨[]⟩⟩), (.num (.lit 0)), (.num (.lit 0)), (.num (.lit 0)), (.num (.lit 0)), (.num (.lit 0)), (.num (.var 11)), (.num (.var 12)), (.num (.var 14)), (.num (.var 15)), (.num (.var 16)), (.num (.var 17)), (.num (.var 9))] (.ite (.not (.eq (.var 21) (.lit 0)))
  (.ite (.and (.eq (.var 21) (.lit 1)) (.or (.lt (.var 9) (.lit 0)) (.lt (.lit 1073741824) (.var 9))))
  (.ret [(.lit 1)])
  (.ret [(.lit 0)]))
  (.ite (.eq (.var 9) (.lit 0))
  (.ite (.and (.eq (.var 19) (.lit 0)) (.eq (.var 20) (.lit 0)))
  (.ret [(.lit 1)])
  (.ret [(.lit 0)]))
  (.ite (.and (.le (.lit 0) (.num (.var 14))) (.le (.num (.var 14)) (.lit 1048576)))
  (.ite (.and (.le (.lit 1) (.num (.var 15))) (.le (.num (.var 15)) (.lit 1048576)))
  (.ite (.and (.le (.lit 0) (.num (.var 9))) (.le (.num (.var 9)) (.lit 1073741824)))
  (.con 4 [(.num (.var 14)), (.num (.var 15)), (.num (.var 9))] (.ite (.and (.le (.lit 0) (.num (.var 16))) (.le (.num (.var 16)) (.lit 1048576)))
  (.ite (.and (.le (.lit 1) (.num (.var 17))) (.le (.num (.var 17)) (.lit 1048576)))
  (.ite (.and (.le (.lit 0) (.num (.var 9))) (.le (.num (.var 9)) (.lit 1073741824)))
  (.con 4 [(.num (.var 16)), (.num (.var 17)), (.num (.var 9))] (.ite (.and (.and (.and (.eq (.var 24) (.lit 0)) (.eq (.var 27) (.lit 0))) (.eq (.var 19) (.min (.var 9) (.wrap .i64 (.add (.var 11) (.var 22)))))) (.eq (.var 20) (.min (.var 9) (.wrap .i64 (.add (.var 12) (.var 26))))))
  (.ret [(.lit 1)])
  (.ret [(.lit 0)])))
  .fail)
  .fail)
  .fail))
  .fail)
  .fail)
  .fail)))))))))) := by kernel_rfl
end Go.Proofs.YtnleeohiomcieaaDoor
