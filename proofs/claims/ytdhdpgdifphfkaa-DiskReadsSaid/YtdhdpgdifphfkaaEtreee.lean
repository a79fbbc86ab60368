/- DERIVED. What the executor makes of functions. -/
import Derived.Test.YtdhdpgdifphfkaaEconb
import Derived.KernelRfl
namespace Go.Proofs.Ytdhdpgdifphfkaa
open Go.Dx
set_option linter.unusedVariables false
set_option maxRecDepth 100000
theorem tree_dbl : runC tb [] 120 cDbl = (.dat .rep [(.num (.lit 128)), (.lit 0)] (.dat (.set 0) [(.var 1), (.num (.lit 0)), (.num (.var 0))] (.dat (.set 0) [(.var 2), (.num (.lit 64)), (.num (.var 0))] (.ret [(.var 3)])))) := by kernel_rfl
theorem tree_lreads : runC tb [lawCon 10 [], cFew 11, cRead 21, cWrite 19, cSync 23, cChk 15, lRds] 200 (lawCon 7 [.agg disk, aI, aI, .c bytes, .c bytes]) = (.con 0 [] (.ite (.eq (.var 8) (.lit 0))
  (.ret [(.lit 0)])
  (.con 1 [(.var 0), (.var 1), (.num (.var 2)), (.num (.var 3))] (.ite (.or (.or (.eq (.var 9) (.lit 0)) (.lt (.lit 128) (.len (.var 6)))) (.lt (.lit 128) (.len (.var 7))))
  (.ret [(.lit 1)])
  (.con 2 [(.var 0), (.var 1), (.num (.var 2)), (.num (.var 3)), (.num (.var 5))] (.con 3 [(.var 0), (.var 1), (.num (.var 2)), (.num (.var 3)), (.num (.var 4)), (.var 6)] (.ite (.or (.not (.eq (.var 11) (.lit 0))) (.not (.eq (.var 16) (.lit 0))))
  (.ret [(.lit 1)])
  (.con 2 [(.var 12), (.var 13), (.num (.var 14)), (.num (.var 15)), (.num (.var 5))] (.con 2 [(.var 12), (.var 13), (.num (.var 14)), (.num (.var 15)), (.num (.var 4))] (.ite (.not (.or (.or (.not (.eq (.var 18) (.lit 0))) (.not (.eq (.var 20) (.lit 0)))) (.not (.eq (.len (.var 19)) (.lit 128)))))
  (.dat .sub [(.var 19), (.num (.lit 0)), (.num (.len (.var 6)))] (.ite (.or (.not (.seq (.bs (.var 21)) (.bs (.var 6)))) (.and (.not (.eq (.var 4) (.var 5))) (.not (.seq (.bs (.var 10)) (.bs (.var 17))))))
  (.ret [(.lit 0)])
  (.con 3 [(.var 12), (.var 13), (.num (.var 14)), (.num (.var 15)), (.num (.var 5)), (.var 7)] (.ite (.not (.eq (.var 26) (.lit 0)))
  (.ite (.eq (.var 26) (.lit 2))
  (.ret [(.lit 1)])
  (.ret [(.lit 0)]))
  (.con 4 [(.var 22), (.var 23), (.num (.var 24)), (.num (.var 25))] (.ite (.not (.eq (.var 31) (.lit 0)))
  (.ite (.and (.eq (.var 31) (.lit 40)) (.not (.eq (.var 30) (.lit 0))))
  (.ret [(.lit 1)])
  (.ret [(.lit 0)]))
  (.lop 6 [(.num (.lit 0))] 172 (.ite (.lt (.var 32) (.len (.var 0)))
  (.con 2 [(.var 22), (.var 23), (.num (.var 24)), (.num (.var 25)), (.num (.var 32))] (.con 2 [(.var 27), (.var 28), (.num (.var 29)), (.num (.var 30)), (.num (.var 32))] (.ite (.or (.or (.not (.eq (.var 206) (.lit 0))) (.not (.eq (.var 208) (.lit 0)))) (.not (.seq (.bs (.var 205)) (.bs (.var 207)))))
  (.ret [(.lit 0)])
  (.chk 6 32 [(.num (.add (.var 32) (.lit 1)))]))))
  (.ite (.eq (.len (.var 28)) (.lit 0))
  (.con 5 [(.var 27), (.var 28), (.num (.var 29)), (.num (.var 30))] (.ite (.eq (.var 205) (.lit 0))
  (.ret [(.lit 1)])
  (.ret [(.lit 0)])))
  (.ret [(.lit 0)]))))))))))
  (.ret [(.lit 0)]))))))))))) := by kernel_rfl
end Go.Proofs.Ytdhdpgdifphfkaa
