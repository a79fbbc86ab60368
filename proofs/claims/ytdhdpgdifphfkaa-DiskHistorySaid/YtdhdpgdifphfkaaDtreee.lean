/- DERIVED. What the executor makes of functions. -/
import Derived.Test.YtdhdpgdifphfkaaDconb
import Derived.KernelRfl
namespace Go.Proofs.Ytdhdpgdifphfkaa
open Go.Dx
set_option linter.unusedVariables false
set_option maxRecDepth 100000
theorem tree_dbl : runC tb [] 120 cDbl = (.dat .rep [(.num (.lit 128)), (.lit 0)] (.dat (.set 0) [(.var 1), (.num (.lit 0)), (.num (.var 0))] (.dat (.set 0) [(.var 2), (.num (.lit 64)), (.num (.var 0))] (.ret [(.var 3)])))) := by kernel_rfl
theorem tree_lnew : runC tb [lawCon 10 [], cFew 11, cNew 12, cNew 13, cSame 14, cChk 15, cChk 16, cRes 17, cRes 18] 200 (lawCon 3 [aI, .agg disk]) = (.con 0 [] (.ite (.eq (.var 5) (.lit 0))
  (.ret [(.lit 0)])
  (.ite (.not (.and (.lt (.lit 60) (.var 0)) (.le (.var 0) (.lit 4096))))
  (.con 1 [(.var 1), (.var 2), (.num (.var 3)), (.num (.var 4))] (.ite (.eq (.var 6) (.lit 0))
  (.ret [(.lit 1)])
  (.con 2 [(.num (.var 0))] (.con 3 [(.num (.var 0))] (.con 4 [(.var 7), (.var 8), (.num (.var 9)), (.num (.var 10)), (.var 12), (.var 13), (.num (.var 14)), (.num (.var 15))] (.ite (.and (.not (.eq (.var 17) (.lit 0))) (.eq (.var 11) (.var 16)))
  (.con 5 [(.var 1), (.var 2), (.num (.var 3)), (.num (.var 4))] (.con 6 [(.var 1), (.var 2), (.num (.var 3)), (.num (.var 4))] (.ite (.eq (.var 18) (.var 19))
  (.con 7 [(.var 1), (.var 2), (.num (.var 3)), (.num (.var 4))] (.con 8 [(.var 1), (.var 2), (.num (.var 3)), (.num (.var 4))] (.con 4 [(.var 20), (.var 21), (.num (.var 22)), (.num (.var 23)), (.var 24), (.var 25), (.num (.var 26)), (.num (.var 27))] (.ret [(.num (.var 28))]))))
  (.ret [(.lit 0)]))))
  (.ret [(.lit 0)])))))))
  (.ret [(.lit 1)])))) := by kernel_rfl
theorem tree_lwrite : runC tb [lawCon 10 [], cFew 11, cWrite 19, cWrite 20, cRead 21, cRead 22, cSame 14] 200 (lawCon 4 [.agg disk, aI, .c bytes]) = (.con 0 [] (.ite (.eq (.var 6) (.lit 0))
  (.ret [(.lit 0)])
  (.con 1 [(.var 0), (.var 1), (.num (.var 2)), (.num (.var 3))] (.ite (.or (.eq (.var 7) (.lit 0)) (.lt (.lit 1000) (.len (.var 5))))
  (.ret [(.lit 1)])
  (.con 2 [(.var 0), (.var 1), (.num (.var 2)), (.num (.var 3)), (.num (.var 4)), (.var 5)] (.con 3 [(.var 0), (.var 1), (.num (.var 2)), (.num (.var 3)), (.num (.var 4)), (.var 5)] (.con 4 [(.var 0), (.var 1), (.num (.var 2)), (.num (.var 3)), (.num (.var 4))] (.con 5 [(.var 0), (.var 1), (.num (.var 2)), (.num (.var 3)), (.num (.var 4))] (.con 6 [(.var 8), (.var 9), (.num (.var 10)), (.num (.var 11)), (.var 13), (.var 14), (.num (.var 15)), (.num (.var 16))] (.ite (.and (.not (.eq (.var 22) (.lit 0))) (.eq (.var 12) (.var 17)))
  (.dat .bstr [(.var 18)] (.dat .bstr [(.var 20)] (.ite (.and (.seq (.var 23) (.var 24)) (.eq (.var 19) (.var 21)))
  (.ret [(.lit 1)])
  (.ret [(.lit 0)]))))
  (.ret [(.lit 0)]))))))))))) := by kernel_rfl
theorem tree_lsync : runC tb [lawCon 10 [], cFew 11, cSync 23, cSync 24, cStop 25, cStop 26, cSame 14] 200 (lawCon 5 [.agg disk, aI]) = (.con 0 [] (.ite (.eq (.var 5) (.lit 0))
  (.ret [(.lit 0)])
  (.con 1 [(.var 0), (.var 1), (.num (.var 2)), (.num (.var 3))] (.ite (.eq (.var 6) (.lit 0))
  (.ret [(.lit 1)])
  (.con 2 [(.var 0), (.var 1), (.num (.var 2)), (.num (.var 3))] (.con 3 [(.var 0), (.var 1), (.num (.var 2)), (.num (.var 3))] (.con 4 [(.var 0), (.var 1), (.num (.var 2)), (.num (.var 3)), (.num (.var 4))] (.con 5 [(.var 0), (.var 1), (.num (.var 2)), (.num (.var 3)), (.num (.var 4))] (.con 6 [(.var 7), (.var 8), (.num (.var 9)), (.num (.var 10)), (.var 12), (.var 13), (.num (.var 14)), (.num (.var 15))] (.ite (.and (.not (.eq (.var 27) (.lit 0))) (.eq (.var 11) (.var 16)))
  (.con 6 [(.var 17), (.var 18), (.num (.var 19)), (.num (.var 20)), (.var 22), (.var 23), (.num (.var 24)), (.num (.var 25))] (.ite (.and (.not (.eq (.var 28) (.lit 0))) (.eq (.var 21) (.var 26)))
  (.ret [(.lit 1)])
  (.ret [(.lit 0)])))
  (.ret [(.lit 0)]))))))))))) := by kernel_rfl
theorem tree_lstop : runC tb [lawCon 10 [], cFew 11, cRes 17, cSame 14, cRead 21, cWrite 19, cSync 23, cStop 25, lStp] 200 (lawCon 9 [.agg disk, aI, aI, .c bytes]) = (.con 0 [] (.ite (.eq (.var 7) (.lit 0))
  (.ret [(.lit 0)])
  (.con 1 [(.var 0), (.var 1), (.num (.var 2)), (.num (.var 3))] (.ite (.or (.eq (.var 8) (.lit 0)) (.lt (.lit 1000) (.len (.var 6))))
  (.ret [(.lit 1)])
  (.con 2 [(.var 0), (.var 1), (.num (.var 2)), (.num (.var 3))] (.con 2 [(.var 9), (.var 10), (.num (.var 11)), (.num (.var 12))] (.ite (.not (.or (.or (.not (.eq (.var 12) (.lit 0))) (.not (.eq (.var 11) (.lit (-1))))) (.not (.eq (.len (.var 10)) (.lit 0)))))
  (.con 3 [(.var 9), (.var 10), (.num (.var 11)), (.num (.var 12)), (.var 13), (.var 14), (.num (.var 15)), (.num (.var 16))] (.ite (.or (.eq (.var 17) (.lit 0)) (.not (.eq (.len (.var 9)) (.len (.var 0)))))
  (.ret [(.lit 0)])
  (.lop 8 [(.num (.lit 0))] 121 (.ite (.lt (.var 18) (.len (.var 0)))
  (.both (.ite (.and (.le (.lit 0) (.var 18)) (.lt (.var 18) (.len (.var 9))))
  (.both (.dat .bstr [(.el (.var 9) (.var 18) 0)] (.dat .bstr [(.el (.var 0) (.var 18) 0)] (.ite (.not (.seq (.var 140) (.var 141)))
  (.ret [(.lit 0)])
  (.chk 8 18 [(.num (.add (.var 18) (.lit 1)))])))) (.dat .bstr [(.el (.var 0) (.var 18) 0)] (.dat .bstr [(.el (.var 9) (.var 18) 0)] (.ite (.not (.seq (.var 141) (.var 140)))
  (.ret [(.lit 0)])
  (.chk 8 18 [(.num (.add (.var 18) (.lit 1)))])))))
  .fail) (.dat .bstr [(.el (.var 0) (.var 18) 0)] (.ite (.and (.le (.lit 0) (.var 18)) (.lt (.var 18) (.len (.var 9))))
  (.dat .bstr [(.el (.var 9) (.var 18) 0)] (.ite (.not (.seq (.var 141) (.var 140)))
  (.ret [(.lit 0)])
  (.chk 8 18 [(.num (.add (.var 18) (.lit 1)))])))
  .fail)))
  (.con 4 [(.var 0), (.var 1), (.num (.var 2)), (.lit 1), (.num (.var 4))] (.con 5 [(.var 0), (.var 1), (.num (.var 2)), (.lit 1), (.num (.var 4)), (.var 6)] (.con 6 [(.var 0), (.var 1), (.num (.var 2)), (.lit 1)] (.con 7 [(.var 0), (.var 1), (.num (.var 2)), (.lit 1), (.num (.var 5))] (.ite (.and (.and (.and (.eq (.var 141) (.lit 40)) (.eq (.var 146) (.lit 40))) (.eq (.var 151) (.lit 40))) (.eq (.var 156) (.lit 40)))
  (.ret [(.lit 1)])
  (.ret [(.lit 0)]))))))))))
  (.ret [(.lit 0)])))))))) := by kernel_rfl
end Go.Proofs.Ytdhdpgdifphfkaa
