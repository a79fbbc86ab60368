/- DERIVED. What the executor makes of functions. -/
import Derived.Test.YtdhdpgdifphfkaaEconb
import Derived.KernelRfl
namespace Go.Proofs.Ytdhdpgdifphfkaa
open Go.Dx
set_option linter.unusedVariables false
set_option maxRecDepth 100000
theorem tree_sane : runC tb [cNew 12, cWrite 19, cRead 21, cStop 25, cSync 23, cRes 17, cChk 15, cDbl] 400 (lawCon 10 []) = (.con 0 [(.num (.lit 0))] (.con 0 [(.num (.lit 2))] (.dat (.rows 1) [(.num (.lit 7))] (.con 1 [(.var 5), (.var 6), (.num (.var 7)), (.num (.var 8)), (.num (.lit 1)), (.var 10)] (.con 2 [(.var 11), (.var 12), (.num (.var 13)), (.num (.var 14)), (.num (.lit 1))] (.con 2 [(.var 5), (.var 6), (.num (.var 7)), (.num (.var 8)), (.num (.lit 2))] (.dat .rep [(.num (.lit 129)), (.lit 0)] (.con 1 [(.var 5), (.var 6), (.num (.var 7)), (.num (.var 8)), (.num (.lit 0)), (.var 20)] (.con 3 [(.var 11), (.var 12), (.num (.var 13)), (.num (.var 14)), (.num (.lit 1))] (.con 7 [(.num (.lit 8))] (.con 1 [(.var 26), (.var 27), (.num (.var 28)), (.num (.var 29)), (.num (.lit 0)), (.var 31)] (.con 4 [(.var 32), (.var 33), (.num (.var 34)), (.num (.var 35))] (.ite (.or (.or (.or (.or (.or (.or (.or (.or (.or (.not (.eq (.var 4) (.lit 1))) (.not (.eq (.var 9) (.lit 0)))) (.not (.eq (.var 15) (.lit 0)))) (.not (.eq (.var 17) (.lit 0)))) (.not (.eq (.var 19) (.lit 40)))) (.not (.eq (.var 25) (.lit 1)))) (.not (.eq (.var 30) (.lit 0)))) (.not (.eq (.var 36) (.lit 0)))) (.not (.eq (.var 41) (.lit 40)))) (.eq (.var 40) (.lit 0)))
  (.ret [(.lit 0)])
  (.con 5 [(.var 37), (.var 38), (.num (.var 39)), (.num (.var 40))] (.con 2 [(.var 42), (.var 43), (.num (.var 44)), (.num (.var 45)), (.num (.lit 1))] (.con 2 [(.var 42), (.var 43), (.num (.var 44)), (.num (.var 45)), (.num (.lit 0))] (.con 5 [(.var 11), (.var 12), (.num (.var 13)), (.num (.var 14))] (.con 2 [(.var 50), (.var 51), (.num (.var 52)), (.num (.var 53)), (.num (.lit 1))] (.ite (.and (.and (.and (.and (.and (.and (.and (.and (.and (.and (.and (.eq (.var 47) (.lit 0)) (.eq (.var 49) (.lit 0))) (.eq (.var 55) (.lit 0))) (.eq (.len (.var 16)) (.lit 128))) (.eq (.el (.var 16) (.lit 0) 0) (.lit 7))) (.eq (.len (.var 46)) (.lit 128))) (.eq (.el (.var 46) (.lit 0) 0) (.lit 7))) (.eq (.len (.var 48)) (.lit 128))) (.eq (.el (.var 48) (.lit 0) 0) (.lit 8))) (.eq (.el (.var 48) (.lit 64) 0) (.lit 0))) (.eq (.len (.var 54)) (.lit 128))) (.eq (.el (.var 54) (.lit 0) 0) (.lit 0)))
  (.dat (.rows 1) [] (.dat (.rows 2) [] (.con 6 [(.var 56), (.var 57), (.num (.lit 0)), (.lit 0)] (.ite (.eq (.var 58) (.lit 40))
  (.dat (.rows 1) [] (.dat (.rows 2) [] (.con 5 [(.var 59), (.var 60), (.num (.lit 0)), (.lit 0)] (.ite (.eq (.var 63) (.lit (-1)))
  (.ret [(.lit 1)])
  (.ret [(.lit 0)])))))
  (.ret [(.lit 0)])))))
  (.ret [(.lit 0)])))))))))))))))))))) := by kernel_rfl
end Go.Proofs.Ytdhdpgdifphfkaa
