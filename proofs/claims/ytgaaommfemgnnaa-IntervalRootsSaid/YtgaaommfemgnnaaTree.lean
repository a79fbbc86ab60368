/- DERIVED. What the executor makes of functions. -/
import Derived.Test.YtgaaommfemgnnaaCon
import Derived.KernelRfl
namespace Go.Proofs.Ytgaaommfemgnnaa
open Go.Sx
set_option linter.unusedVariables false
set_option maxRecDepth 100000
theorem tree_mul64 : runP tb [] 1000 cMul64.f (argsOf cMul64.args 0) ⟨[u64b, u64b], [], []⟩ = (.ret (.tup [(.c (.k (.int .u64 (.add (.add (.mul (.quo (.var 0) (.lit 4294967296)) (.quo (.var 1) (.lit 4294967296))) (.quo (.add (.mul (.quo (.var 0) (.lit 4294967296)) (.rem (.var 1) (.lit 4294967296))) (.quo (.mul (.rem (.var 0) (.lit 4294967296)) (.rem (.var 1) (.lit 4294967296))) (.lit 4294967296))) (.lit 4294967296))) (.quo (.add (.rem (.add (.mul (.quo (.var 0) (.lit 4294967296)) (.rem (.var 1) (.lit 4294967296))) (.quo (.mul (.rem (.var 0) (.lit 4294967296)) (.rem (.var 1) (.lit 4294967296))) (.lit 4294967296))) (.lit 4294967296)) (.mul (.rem (.var 0) (.lit 4294967296)) (.quo (.var 1) (.lit 4294967296)))) (.lit 4294967296)))))), (.c (.k (.int .u64 (.wrap .u64 (.mul (.var 0) (.var 1))))))])) := by kernel_rfl
theorem tree_prod : runP tb [cMul64] 1000 cProd.f (argsOf cProd.args 0) ⟨[mm, mm], [], []⟩ = (.con 0 [(.wrap .u64 (.max (.var 0) (.sub (.lit 0) (.var 0)))), (.wrap .u64 (.max (.var 1) (.sub (.lit 0) (.var 1))))] (.ite (.le (.lit 1) (.var 2))
  (.ite (.not (.or (.and (.lt (.var 0) (.lit 0)) (.lt (.var 1) (.lit 0))) (.and (.le (.lit 0) (.var 0)) (.le (.lit 0) (.var 1)))))
  (.ret (.p (.c (.k (.int .i64 (.lit (-2199023255552)))))))
  (.ret (.p (.c (.k (.int .i64 (.lit 2199023255552)))))))
  (.ite (.lt (.lit 2199023255552) (.quo (.var 3) (.lit 1)))
  (.ite (.not (.or (.and (.lt (.var 0) (.lit 0)) (.lt (.var 1) (.lit 0))) (.and (.le (.lit 0) (.var 0)) (.le (.lit 0) (.var 1)))))
  (.ret (.p (.c (.k (.int .i64 (.lit (-2199023255552)))))))
  (.ret (.p (.c (.k (.int .i64 (.lit 2199023255552)))))))
  (.ite (.not (.or (.and (.lt (.var 0) (.lit 0)) (.lt (.var 1) (.lit 0))) (.and (.le (.lit 0) (.var 0)) (.le (.lit 0) (.var 1)))))
  (.ret (.p (.c (.k (.int .i64 (.sub (.lit 0) (.quo (.var 3) (.lit 1))))))))
  (.ret (.p (.c (.k (.int .i64 (.quo (.var 3) (.lit 1))))))))))) := by kernel_rfl
theorem tree_fitsN : runP tb [] 1000 cFits.f (argsOf cFits.args 0) ⟨[(-1099511627776, -1), mm], [], []⟩ = (.ret (.p (.c (.k (.bool (.le (.max (.var 1) (.sub (.lit 0) (.var 1))) (.quo (.lit 1099511627776) (.sub (.lit 0) (.var 0))))))))) := by kernel_rfl
theorem tree_fitsZ : runP tb [] 1000 cFits.f (argsOf cFits.args 0) ⟨[(0, 0), mm], [], []⟩ = (.ret (.p (.c (.k (.bool (.lit true)))))) := by kernel_rfl
theorem tree_fitsP : runP tb [] 1000 cFits.f (argsOf cFits.args 0) ⟨[(1, 1099511627776), mm], [], []⟩ = (.ret (.p (.c (.k (.bool (.le (.max (.var 1) (.sub (.lit 0) (.var 1))) (.quo (.lit 1099511627776) (.var 0)))))))) := by kernel_rfl
theorem tree_rt : runP tb [lRt] 1000 44 (argsOf (cRt 44).args 0) ⟨[(0, 1099511627776)], [], []⟩ = (.lop 0 [(.lit 0), (.lit 1048576)] 22 (.ite (.lt (.lit 0) (.var 2))
  (.ite (.le (.mul (.add (.var 1) (.var 2)) (.add (.var 1) (.var 2))) (.var 0))
  (.chk 0 1 [(.add (.var 1) (.var 2)), (.quo (.var 2) (.lit 2))])
  (.chk 0 1 [(.var 1), (.quo (.var 2) (.lit 2))]))
  (.ret (.p (.c (.k (.int .i64 (.var 1)))))))) := by kernel_rfl
theorem tree_rtR : runP tb [lRt] 1000 45 (argsOf (cRt 45).args 0) ⟨[(0, 1099511627776)], [], []⟩ = (.lop 0 [(.lit 0), (.lit 1048576)] 22 (.ite (.lt (.lit 0) (.var 2))
  (.ite (.le (.mul (.add (.var 1) (.var 2)) (.add (.var 1) (.var 2))) (.var 0))
  (.chk 0 1 [(.add (.var 1) (.var 2)), (.quo (.var 2) (.lit 2))])
  (.chk 0 1 [(.var 1), (.quo (.var 2) (.lit 2))]))
  (.ret (.p (.c (.k (.int .i64 (.var 1)))))))) := by kernel_rfl
theorem tree_add : runP tb [] 1000 13 (argsOf (cAdd 13).args 0) ⟨[i64b, i64b, i64b, i64b], [], []⟩ = (.ite (.or (.or (.lt (.var 0) (.lit (-1099511627776))) (.lt (.var 1) (.var 0))) (.lt (.lit 1099511627776) (.var 1)))
  (.ret (.tup [(.agg [(.k (.int .i64 (.lit 0))), (.k (.int .i64 (.lit 0)))]), (.c (.k (.int .i64 (.lit 130))))]))
  (.ite (.or (.or (.lt (.var 2) (.lit (-1099511627776))) (.lt (.var 3) (.var 2))) (.lt (.lit 1099511627776) (.var 3)))
  (.ret (.tup [(.agg [(.k (.int .i64 (.lit 0))), (.k (.int .i64 (.lit 0)))]), (.c (.k (.int .i64 (.lit 130))))]))
  (.ite (.or (.or (.lt (.min (.wrap .i64 (.add (.var 0) (.var 2))) (.add (.var 1) (.var 3))) (.lit (-1099511627776))) (.lt (.max (.wrap .i64 (.add (.var 0) (.var 2))) (.add (.var 1) (.var 3))) (.min (.wrap .i64 (.add (.var 0) (.var 2))) (.add (.var 1) (.var 3))))) (.lt (.lit 1099511627776) (.max (.wrap .i64 (.add (.var 0) (.var 2))) (.add (.var 1) (.var 3)))))
  (.ret (.tup [(.agg [(.k (.int .i64 (.lit 0))), (.k (.int .i64 (.lit 0)))]), (.c (.k (.int .i64 (.lit 2))))]))
  (.ret (.tup [(.agg [(.k (.int .i64 (.min (.wrap .i64 (.add (.var 0) (.var 2))) (.add (.var 1) (.var 3))))), (.k (.int .i64 (.max (.wrap .i64 (.add (.var 0) (.var 2))) (.add (.var 1) (.var 3)))))]), (.c (.k (.int .i64 (.lit 0))))]))))) := by kernel_rfl
theorem tree_addR : runP tb [] 1000 14 (argsOf (cAdd 14).args 0) ⟨[i64b, i64b, i64b, i64b], [], []⟩ = (.ite (.or (.not (.and (.and (.le (.lit (-1099511627776)) (.var 0)) (.le (.var 0) (.var 1))) (.le (.var 1) (.lit 1099511627776)))) (.not (.and (.and (.le (.lit (-1099511627776)) (.var 2)) (.le (.var 2) (.var 3))) (.le (.var 3) (.lit 1099511627776)))))
  (.ret (.tup [(.agg [(.k (.int .i64 (.lit 0))), (.k (.int .i64 (.lit 0)))]), (.c (.k (.int .i64 (.lit 130))))]))
  (.ite (.not (.and (.and (.le (.lit (-1099511627776)) (.wrap .i64 (.add (.var 0) (.var 2)))) (.le (.wrap .i64 (.add (.var 0) (.var 2))) (.add (.var 1) (.var 3)))) (.le (.add (.var 1) (.var 3)) (.lit 1099511627776))))
  (.ret (.tup [(.agg [(.k (.int .i64 (.lit 0))), (.k (.int .i64 (.lit 0)))]), (.c (.k (.int .i64 (.lit 2))))]))
  (.ret (.tup [(.agg [(.k (.int .i64 (.wrap .i64 (.add (.var 0) (.var 2))))), (.k (.int .i64 (.add (.var 1) (.var 3))))]), (.c (.k (.int .i64 (.lit 0))))])))) := by kernel_rfl
theorem tree_sub : runP tb [] 1000 15 (argsOf (cSub 15).args 0) ⟨[i64b, i64b, i64b, i64b], [], []⟩ = (.ite (.or (.or (.lt (.var 0) (.lit (-1099511627776))) (.lt (.var 1) (.var 0))) (.lt (.lit 1099511627776) (.var 1)))
  (.ret (.tup [(.agg [(.k (.int .i64 (.lit 0))), (.k (.int .i64 (.lit 0)))]), (.c (.k (.int .i64 (.lit 130))))]))
  (.ite (.or (.or (.lt (.var 2) (.lit (-1099511627776))) (.lt (.var 3) (.var 2))) (.lt (.lit 1099511627776) (.var 3)))
  (.ret (.tup [(.agg [(.k (.int .i64 (.lit 0))), (.k (.int .i64 (.lit 0)))]), (.c (.k (.int .i64 (.lit 130))))]))
  (.ite (.or (.or (.lt (.min (.wrap .i64 (.sub (.var 0) (.var 3))) (.wrap .i64 (.sub (.var 1) (.var 2)))) (.lit (-1099511627776))) (.lt (.max (.wrap .i64 (.sub (.var 0) (.var 3))) (.wrap .i64 (.sub (.var 1) (.var 2)))) (.min (.wrap .i64 (.sub (.var 0) (.var 3))) (.wrap .i64 (.sub (.var 1) (.var 2)))))) (.lt (.lit 1099511627776) (.max (.wrap .i64 (.sub (.var 0) (.var 3))) (.wrap .i64 (.sub (.var 1) (.var 2))))))
  (.ret (.tup [(.agg [(.k (.int .i64 (.lit 0))), (.k (.int .i64 (.lit 0)))]), (.c (.k (.int .i64 (.lit 2))))]))
  (.ret (.tup [(.agg [(.k (.int .i64 (.min (.wrap .i64 (.sub (.var 0) (.var 3))) (.wrap .i64 (.sub (.var 1) (.var 2)))))), (.k (.int .i64 (.max (.wrap .i64 (.sub (.var 0) (.var 3))) (.wrap .i64 (.sub (.var 1) (.var 2))))))]), (.c (.k (.int .i64 (.lit 0))))]))))) := by kernel_rfl
theorem tree_subR : runP tb [] 1000 16 (argsOf (cSub 16).args 0) ⟨[i64b, i64b, i64b, i64b], [], []⟩ = (.ite (.or (.not (.and (.and (.le (.lit (-1099511627776)) (.var 0)) (.le (.var 0) (.var 1))) (.le (.var 1) (.lit 1099511627776)))) (.not (.and (.and (.le (.lit (-1099511627776)) (.var 2)) (.le (.var 2) (.var 3))) (.le (.var 3) (.lit 1099511627776)))))
  (.ret (.tup [(.agg [(.k (.int .i64 (.lit 0))), (.k (.int .i64 (.lit 0)))]), (.c (.k (.int .i64 (.lit 130))))]))
  (.ite (.not (.and (.and (.le (.lit (-1099511627776)) (.wrap .i64 (.sub (.var 0) (.var 3)))) (.le (.wrap .i64 (.sub (.var 0) (.var 3))) (.wrap .i64 (.sub (.var 1) (.var 2))))) (.le (.wrap .i64 (.sub (.var 1) (.var 2))) (.lit 1099511627776))))
  (.ret (.tup [(.agg [(.k (.int .i64 (.lit 0))), (.k (.int .i64 (.lit 0)))]), (.c (.k (.int .i64 (.lit 2))))]))
  (.ret (.tup [(.agg [(.k (.int .i64 (.wrap .i64 (.sub (.var 0) (.var 3))))), (.k (.int .i64 (.wrap .i64 (.sub (.var 1) (.var 2)))))]), (.c (.k (.int .i64 (.lit 0))))])))) := by kernel_rfl
theorem tree_mul : runP tb [cProd] 1000 17 (argsOf (cMul 17).args 0) ⟨[i64b, i64b, i64b, i64b], [], []⟩ = (.ite (.or (.or (.lt (.var 0) (.lit (-1099511627776))) (.lt (.var 1) (.var 0))) (.lt (.lit 1099511627776) (.var 1)))
  (.ret (.tup [(.agg [(.k (.int .i64 (.lit 0))), (.k (.int .i64 (.lit 0)))]), (.c (.k (.int .i64 (.lit 130))))]))
  (.ite (.or (.or (.lt (.var 2) (.lit (-1099511627776))) (.lt (.var 3) (.var 2))) (.lt (.lit 1099511627776) (.var 3)))
  (.ret (.tup [(.agg [(.k (.int .i64 (.lit 0))), (.k (.int .i64 (.lit 0)))]), (.c (.k (.int .i64 (.lit 130))))]))
  (.con 0 [(.var 0), (.var 2)] (.con 0 [(.var 0), (.var 2)] (.con 0 [(.var 0), (.var 3)] (.con 0 [(.var 1), (.var 2)] (.con 0 [(.var 1), (.var 3)] (.ite (.or (.or (.lt (.min (.min (.var 8) (.min (.min (.var 7) (.min (.min (.var 6) (.min (.min (.var 5) (.var 4)) (.var 4))) (.max (.max (.var 5) (.var 4)) (.var 4)))) (.max (.max (.var 6) (.min (.min (.var 5) (.var 4)) (.var 4))) (.max (.max (.var 5) (.var 4)) (.var 4))))) (.max (.max (.var 7) (.min (.min (.var 6) (.min (.min (.var 5) (.var 4)) (.var 4))) (.max (.max (.var 5) (.var 4)) (.var 4)))) (.max (.max (.var 6) (.min (.min (.var 5) (.var 4)) (.var 4))) (.max (.max (.var 5) (.var 4)) (.var 4))))) (.lit (-1099511627776))) (.lt (.max (.max (.var 8) (.min (.min (.var 7) (.min (.min (.var 6) (.min (.min (.var 5) (.var 4)) (.var 4))) (.max (.max (.var 5) (.var 4)) (.var 4)))) (.max (.max (.var 6) (.min (.min (.var 5) (.var 4)) (.var 4))) (.max (.max (.var 5) (.var 4)) (.var 4))))) (.max (.max (.var 7) (.min (.min (.var 6) (.min (.min (.var 5) (.var 4)) (.var 4))) (.max (.max (.var 5) (.var 4)) (.var 4)))) (.max (.max (.var 6) (.min (.min (.var 5) (.var 4)) (.var 4))) (.max (.max (.var 5) (.var 4)) (.var 4))))) (.min (.min (.var 8) (.min (.min (.var 7) (.min (.min (.var 6) (.min (.min (.var 5) (.var 4)) (.var 4))) (.max (.max (.var 5) (.var 4)) (.var 4)))) (.max (.max (.var 6) (.min (.min (.var 5) (.var 4)) (.var 4))) (.max (.max (.var 5) (.var 4)) (.var 4))))) (.max (.max (.var 7) (.min (.min (.var 6) (.min (.min (.var 5) (.var 4)) (.var 4))) (.max (.max (.var 5) (.var 4)) (.var 4)))) (.max (.max (.var 6) (.min (.min (.var 5) (.var 4)) (.var 4))) (.max (.max (.var 5) (.var 4)) (.var 4))))))) (.lt (.lit 1099511627776) (.max (.max (.var 8) (.min (.min (.var 7) (.min (.min (.var 6) (.min (.min (.var 5) (.var 4)) (.var 4))) (.max (.max (.var 5) (.var 4)) (.var 4)))) (.max (.max (.var 6) (.min (.min (.var 5) (.var 4)) (.var 4))) (.max (.max (.var 5) (.var 4)) (.var 4))))) (.max (.max (.var 7) (.min (.min (.var 6) (.min (.min (.var 5) (.var 4)) (.var 4))) (.max (.max (.var 5) (.var 4)) (.var 4)))) (.max (.max (.var 6) (.min (.min (.var 5) (.var 4)) (.var 4))) (.max (.max (.var 5) (.var 4)) (.var 4)))))))
  (.ret (.tup [(.agg [(.k (.int .i64 (.lit 0))), (.k (.int .i64 (.lit 0)))]), (.c (.k (.int .i64 (.lit 2))))]))
  (.ret (.tup [(.agg [(.k (.int .i64 (.min (.min (.var 8) (.min (.min (.var 7) (.min (.min (.var 6) (.min (.min (.var 5) (.var 4)) (.var 4))) (.max (.max (.var 5) (.var 4)) (.var 4)))) (.max (.max (.var 6) (.min (.min (.var 5) (.var 4)) (.var 4))) (.max (.max (.var 5) (.var 4)) (.var 4))))) (.max (.max (.var 7) (.min (.min (.var 6) (.min (.min (.var 5) (.var 4)) (.var 4))) (.max (.max (.var 5) (.var 4)) (.var 4)))) (.max (.max (.var 6) (.min (.min (.var 5) (.var 4)) (.var 4))) (.max (.max (.var 5) (.var 4)) (.var 4))))))), (.k (.int .i64 (.max (.max (.var 8) (.min (.min (.var 7) (.min (.min (.var 6) (.min (.min (.var 5) (.var 4)) (.var 4))) (.max (.max (.var 5) (.var 4)) (.var 4)))) (.max (.max (.var 6) (.min (.min (.var 5) (.var 4)) (.var 4))) (.max (.max (.var 5) (.var 4)) (.var 4))))) (.max (.max (.var 7) (.min (.min (.var 6) (.min (.min (.var 5) (.var 4)) (.var 4))) (.max (.max (.var 5) (.var 4)) (.var 4)))) (.max (.max (.var 6) (.min (.min (.var 5) (.var 4)) (.var 4))) (.max (.max (.var 5) (.var 4)) (.var 4)))))))]), (.c (.k (.int .i64 (.lit 0))))])))))))))) := by kernel_rfl
theorem tree_mulR : runP tb [cFits] 1000 18 (argsOf (cMul 18).args 0) ⟨[i64b, i64b, i64b, i64b], [], []⟩ = (.ite (.or (.not (.and (.and (.le (.lit (-1099511627776)) (.var 0)) (.le (.var 0) (.var 1))) (.le (.var 1) (.lit 1099511627776)))) (.not (.and (.and (.le (.lit (-1099511627776)) (.var 2)) (.le (.var 2) (.var 3))) (.le (.var 3) (.lit 1099511627776)))))
  (.ret (.tup [(.agg [(.k (.int .i64 (.lit 0))), (.k (.int .i64 (.lit 0)))]), (.c (.k (.int .i64 (.lit 130))))]))
  (.con 0 [(.var 0), (.var 2)] (.ite (.not (.eq (.var 4) (.lit 0)))
  (.con 0 [(.var 0), (.var 3)] (.ite (.not (.eq (.var 5) (.lit 0)))
  (.con 0 [(.var 1), (.var 2)] (.ite (.not (.eq (.var 6) (.lit 0)))
  (.con 0 [(.var 1), (.var 3)] (.ite (.eq (.var 7) (.lit 0))
  (.ret (.tup [(.agg [(.k (.int .i64 (.lit 0))), (.k (.int .i64 (.lit 0)))]), (.c (.k (.int .i64 (.lit 2))))]))
  (.ret (.tup [(.agg [(.k (.int .i64 (.min (.min (.min (.wrap .i64 (.mul (.var 0) (.var 2))) (.wrap .i64 (.mul (.var 0) (.var 3)))) (.wrap .i64 (.mul (.var 1) (.var 2)))) (.wrap .i64 (.mul (.var 1) (.var 3)))))), (.k (.int .i64 (.max (.max (.max (.wrap .i64 (.mul (.var 0) (.var 2))) (.wrap .i64 (.mul (.var 0) (.var 3)))) (.wrap .i64 (.mul (.var 1) (.var 2)))) (.wrap .i64 (.mul (.var 1) (.var 3))))))]), (.c (.k (.int .i64 (.lit 0))))]))))
  (.ret (.tup [(.agg [(.k (.int .i64 (.lit 0))), (.k (.int .i64 (.lit 0)))]), (.c (.k (.int .i64 (.lit 2))))]))))
  (.ret (.tup [(.agg [(.k (.int .i64 (.lit 0))), (.k (.int .i64 (.lit 0)))]), (.c (.k (.int .i64 (.lit 2))))]))))
  (.ret (.tup [(.agg [(.k (.int .i64 (.lit 0))), (.k (.int .i64 (.lit 0)))]), (.c (.k (.int .i64 (.lit 2))))]))))) := by kernel_rfl
theorem tree_sqr : runP tb [cProd] 1000 21 (argsOf (cSqr 21).args 0) ⟨[i64b, i64b], [], []⟩ = (.ite (.or (.or (.lt (.var 0) (.lit (-1099511627776))) (.lt (.var 1) (.var 0))) (.lt (.lit 1099511627776) (.var 1)))
  (.ret (.tup [(.agg [(.k (.int .i64 (.lit 0))), (.k (.int .i64 (.lit 0)))]), (.c (.k (.int .i64 (.lit 130))))]))
  (.con 0 [(.var 0), (.var 0)] (.con 0 [(.var 1), (.var 1)] (.ite (.and (.le (.var 0) (.lit 0)) (.le (.lit 0) (.var 1)))
  (.ite (.or (.lt (.max (.var 2) (.var 3)) (.lit 0)) (.lt (.lit 1099511627776) (.max (.var 2) (.var 3))))
  (.ret (.tup [(.agg [(.k (.int .i64 (.lit 0))), (.k (.int .i64 (.lit 0)))]), (.c (.k (.int .i64 (.lit 2))))]))
  (.ret (.tup [(.agg [(.k (.int .i64 (.lit 0))), (.k (.int .i64 (.max (.var 2) (.var 3))))]), (.c (.k (.int .i64 (.lit 0))))])))
  (.ite (.or (.or (.lt (.min (.var 2) (.var 3)) (.lit (-1099511627776))) (.lt (.max (.var 2) (.var 3)) (.min (.var 2) (.var 3)))) (.lt (.lit 1099511627776) (.max (.var 2) (.var 3))))
  (.ret (.tup [(.agg [(.k (.int .i64 (.lit 0))), (.k (.int .i64 (.lit 0)))]), (.c (.k (.int .i64 (.lit 2))))]))
  (.ret (.tup [(.agg [(.k (.int .i64 (.min (.var 2) (.var 3)))), (.k (.int .i64 (.max (.var 2) (.var 3))))]), (.c (.k (.int .i64 (.lit 0))))]))))))) := by kernel_rfl
theorem tree_sqrR : runP tb [cMul 18] 1000 22 (argsOf (cSqr 22).args 0) ⟨[i64b, i64b], [], []⟩ = (.con 0 [(.var 0), (.var 1), (.var 0), (.var 1)] (.ite (.not (.eq (.var 4) (.lit 0)))
  (.ret (.tup [(.agg [(.k (.int .i64 (.var 2))), (.k (.int .i64 (.var 3)))]), (.c (.k (.int .i64 (.var 4))))]))
  (.ite (.lt (.lit 0) (.var 0))
  (.ite (.lt (.var 1) (.lit 0))
  (.ret (.tup [(.agg [(.k (.int .i64 (.wrap .i64 (.mul (.var 1) (.var 1))))), (.k (.int .i64 (.var 3)))]), (.c (.k (.int .i64 (.lit 0))))]))
  (.ret (.tup [(.agg [(.k (.int .i64 (.wrap .i64 (.mul (.var 0) (.var 0))))), (.k (.int .i64 (.var 3)))]), (.c (.k (.int .i64 (.lit 0))))])))
  (.ite (.lt (.var 1) (.lit 0))
  (.ret (.tup [(.agg [(.k (.int .i64 (.wrap .i64 (.mul (.var 1) (.var 1))))), (.k (.int .i64 (.var 3)))]), (.c (.k (.int .i64 (.lit 0))))]))
  (.ret (.tup [(.agg [(.k (.int .i64 (.lit 0))), (.k (.int .i64 (.var 3)))]), (.c (.k (.int .i64 (.lit 0))))])))))) := by kernel_rfl
theorem tree_root : runP tb [cRt 44] 1000 23 (argsOf (cRoot 23).args 0) ⟨[i64b, i64b], [], []⟩ = (.ite (.or (.or (.lt (.var 0) (.lit (-1099511627776))) (.lt (.var 1) (.var 0))) (.lt (.lit 1099511627776) (.var 1)))
  (.ret (.tup [(.agg [(.k (.int .i64 (.lit 0))), (.k (.int .i64 (.lit 0)))]), (.c (.k (.int .i64 (.lit 130))))]))
  (.ite (.lt (.var 0) (.lit 0))
  (.ret (.tup [(.agg [(.k (.int .i64 (.lit 0))), (.k (.int .i64 (.lit 0)))]), (.c (.k (.int .i64 (.lit 1))))]))
  (.con 0 [(.var 0)] (.con 0 [(.var 1)] (.ite (.lt (.mul (.var 3) (.var 3)) (.var 1))
  (.ret (.tup [(.agg [(.k (.int .i64 (.var 2))), (.k (.int .i64 (.add (.var 3) (.lit 1))))]), (.c (.k (.int .i64 (.lit 0))))]))
  (.ret (.tup [(.agg [(.k (.int .i64 (.var 2))), (.k (.int .i64 (.var 3)))]), (.c (.k (.int .i64 (.lit 0))))]))))))) := by kernel_rfl
theorem tree_rootR : runP tb [cRt 45] 1000 24 (argsOf (cRoot 24).args 0) ⟨[i64b, i64b], [], []⟩ = (.ite (.not (.and (.and (.le (.lit (-1099511627776)) (.var 0)) (.le (.var 0) (.var 1))) (.le (.var 1) (.lit 1099511627776))))
  (.ret (.tup [(.agg [(.k (.int .i64 (.lit 0))), (.k (.int .i64 (.lit 0)))]), (.c (.k (.int .i64 (.lit 130))))]))
  (.ite (.lt (.var 0) (.lit 0))
  (.ret (.tup [(.agg [(.k (.int .i64 (.lit 0))), (.k (.int .i64 (.lit 0)))]), (.c (.k (.int .i64 (.lit 1))))]))
  (.con 0 [(.var 1)] (.ite (.lt (.mul (.var 2) (.var 2)) (.var 1))
  (.con 0 [(.var 0)] (.ret (.tup [(.agg [(.k (.int .i64 (.var 3))), (.k (.int .i64 (.add (.var 2) (.lit 1))))]), (.c (.k (.int .i64 (.lit 0))))])))
  (.con 0 [(.var 0)] (.ret (.tup [(.agg [(.k (.int .i64 (.var 3))), (.k (.int .i64 (.var 2)))]), (.c (.k (.int .i64 (.lit 0))))]))))))) := by kernel_rfl
theorem tree_meet : runP tb [] 1000 27 (argsOf (cMeet 27).args 0) ⟨[i64b, i64b, i64b, i64b], [], []⟩ = (.ite (.or (.or (.lt (.var 0) (.lit (-1099511627776))) (.lt (.var 1) (.var 0))) (.lt (.lit 1099511627776) (.var 1)))
  (.ret (.tup [(.agg [(.k (.int .i64 (.lit 0))), (.k (.int .i64 (.lit 0)))]), (.c (.k (.bool (.lit false)))), (.c (.k (.int .i64 (.lit 130))))]))
  (.ite (.or (.or (.lt (.var 2) (.lit (-1099511627776))) (.lt (.var 3) (.var 2))) (.lt (.lit 1099511627776) (.var 3)))
  (.ret (.tup [(.agg [(.k (.int .i64 (.lit 0))), (.k (.int .i64 (.lit 0)))]), (.c (.k (.bool (.lit false)))), (.c (.k (.int .i64 (.lit 130))))]))
  (.ite (.lt (.min (.var 1) (.var 3)) (.max (.var 0) (.var 2)))
  (.ret (.tup [(.agg [(.k (.int .i64 (.lit 0))), (.k (.int .i64 (.lit 0)))]), (.c (.k (.bool (.lit false)))), (.c (.k (.int .i64 (.lit 0))))]))
  (.ret (.tup [(.agg [(.k (.int .i64 (.max (.var 0) (.var 2)))), (.k (.int .i64 (.min (.var 1) (.var 3))))]), (.c (.k (.bool (.lit true)))), (.c (.k (.int .i64 (.lit 0))))]))))) := by kernel_rfl
theorem tree_meetR : runP tb [] 1000 28 (argsOf (cMeet 28).args 0) ⟨[i64b, i64b, i64b, i64b], [], []⟩ = (.ite (.or (.not (.and (.and (.le (.lit (-1099511627776)) (.var 0)) (.le (.var 0) (.var 1))) (.le (.var 1) (.lit 1099511627776)))) (.not (.and (.and (.le (.lit (-1099511627776)) (.var 2)) (.le (.var 2) (.var 3))) (.le (.var 3) (.lit 1099511627776)))))
  (.ret (.tup [(.agg [(.k (.int .i64 (.lit 0))), (.k (.int .i64 (.lit 0)))]), (.c (.k (.bool (.lit false)))), (.c (.k (.int .i64 (.lit 130))))]))
  (.ite (.lt (.min (.var 1) (.var 3)) (.max (.var 0) (.var 2)))
  (.ret (.tup [(.agg [(.k (.int .i64 (.lit 0))), (.k (.int .i64 (.lit 0)))]), (.c (.k (.bool (.lit false)))), (.c (.k (.int .i64 (.lit 0))))]))
  (.ret (.tup [(.agg [(.k (.int .i64 (.max (.var 0) (.var 2)))), (.k (.int .i64 (.min (.var 1) (.var 3))))]), (.c (.k (.bool (.lit true)))), (.c (.k (.int .i64 (.lit 0))))])))) := by kernel_rfl
theorem tree_hull : runP tb [] 1000 29 (argsOf (cHull 29).args 0) ⟨[i64b, i64b, i64b, i64b], [], []⟩ = (.ite (.or (.or (.lt (.var 0) (.lit (-1099511627776))) (.lt (.var 1) (.var 0))) (.lt (.lit 1099511627776) (.var 1)))
  (.ret (.tup [(.agg [(.k (.int .i64 (.lit 0))), (.k (.int .i64 (.lit 0)))]), (.c (.k (.int .i64 (.lit 130))))]))
  (.ite (.or (.or (.lt (.var 2) (.lit (-1099511627776))) (.lt (.var 3) (.var 2))) (.lt (.lit 1099511627776) (.var 3)))
  (.ret (.tup [(.agg [(.k (.int .i64 (.lit 0))), (.k (.int .i64 (.lit 0)))]), (.c (.k (.int .i64 (.lit 130))))]))
  (.ret (.tup [(.agg [(.k (.int .i64 (.min (.min (.min (.var 0) (.var 1)) (.var 2)) (.var 3)))), (.k (.int .i64 (.max (.max (.max (.var 0) (.var 1)) (.var 2)) (.var 3))))]), (.c (.k (.int .i64 (.lit 0))))])))) := by kernel_rfl
theorem tree_hullR : runP tb [] 1000 30 (argsOf (cHull 30).args 0) ⟨[i64b, i64b, i64b, i64b], [], []⟩ = (.ite (.or (.not (.and (.and (.le (.lit (-1099511627776)) (.var 0)) (.le (.var 0) (.var 1))) (.le (.var 1) (.lit 1099511627776)))) (.not (.and (.and (.le (.lit (-1099511627776)) (.var 2)) (.le (.var 2) (.var 3))) (.le (.var 3) (.lit 1099511627776)))))
  (.ret (.tup [(.agg [(.k (.int .i64 (.lit 0))), (.k (.int .i64 (.lit 0)))]), (.c (.k (.int .i64 (.lit 130))))]))
  (.ret (.tup [(.agg [(.k (.int .i64 (.min (.var 0) (.var 2)))), (.k (.int .i64 (.max (.var 1) (.var 3))))]), (.c (.k (.int .i64 (.lit 0))))]))) := by kernel_rfl
theorem tree_in : runP tb [] 1000 31 (argsOf (cIn 31).args 0) ⟨[i64b, i64b, i64b, i64b], [], []⟩ = (.ite (.or (.or (.lt (.var 0) (.lit (-1099511627776))) (.lt (.var 1) (.var 0))) (.lt (.lit 1099511627776) (.var 1)))
  (.ret (.tup [(.c (.k (.bool (.lit false)))), (.c (.k (.int .i64 (.lit 130))))]))
  (.ite (.or (.or (.lt (.var 2) (.lit (-1099511627776))) (.lt (.var 3) (.var 2))) (.lt (.lit 1099511627776) (.var 3)))
  (.ret (.tup [(.c (.k (.bool (.lit false)))), (.c (.k (.int .i64 (.lit 130))))]))
  (.ret (.tup [(.c (.k (.bool (.and (.le (.var 2) (.var 0)) (.le (.var 1) (.var 3)))))), (.c (.k (.int .i64 (.lit 0))))])))) := by kernel_rfl
theorem tree_inR : runP tb [] 1000 32 (argsOf (cIn 32).args 0) ⟨[i64b, i64b, i64b, i64b], [], []⟩ = (.ite (.or (.not (.and (.and (.le (.lit (-1099511627776)) (.var 0)) (.le (.var 0) (.var 1))) (.le (.var 1) (.lit 1099511627776)))) (.not (.and (.and (.le (.lit (-1099511627776)) (.var 2)) (.le (.var 2) (.var 3))) (.le (.var 3) (.lit 1099511627776)))))
  (.ret (.tup [(.c (.k (.bool (.lit false)))), (.c (.k (.int .i64 (.lit 130))))]))
  (.ret (.tup [(.c (.k (.bool (.and (.le (.var 2) (.var 0)) (.le (.var 1) (.var 3)))))), (.c (.k (.int .i64 (.lit 0))))]))) := by kernel_rfl
end Go.Proofs.Ytgaaommfemgnnaa
