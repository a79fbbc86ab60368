/- DERIVED. What the executor makes of functions. -/
import Derived.Test.YtdhdpgdifphfkaaDconc
import Derived.KernelRfl
namespace Go.Proofs.Ytdhdpgdifphfkaa
open Go.Dx
set_option linter.unusedVariables false
set_option maxRecDepth 100000
theorem tree_ltog : runC tb [lawCon 10 [], cFew 11, cChk 15, cWrite 19, cSync 23, cSame 14, lTog, lTog2] 200 (lawCon 8 [.agg disk, .c mvS]) = (.con 0 [] (.ite (.eq (.var 5) (.lit 0))
  (.ret [(.lit 0)])
  (.con 1 [(.var 0), (.var 1), (.num (.var 2)), (.num (.var 3))] (.ite (.not (.or (.or (.or (.eq (.var 6) (.lit 0)) (.lt (.lit 20) (.len (.var 4)))) (.lt (.lit 0) (.len (.var 1)))) (.eq (.len (.var 0)) (.lit 0))))
  (.con 2 [(.var 0), (.var 1), (.num (.var 2)), (.num (.var 3))] (.ite (.or (.not (.eq (.var 7) (.lit 0))) (.not (.eq (.var 3) (.lit 0))))
  (.ret [(.lit 1)])
  (.lop 6 [(.var 0), (.var 1), (.num (.var 2)), (.num (.var 3)), (.num (.lit 0)), (.num (.lit 0))] 131 (.ite (.and (.lt (.var 13) (.len (.var 4))) (.eq (.var 12) (.lit 0)))
  (.dat (.rows 1) [(.num (.el (.var 4) (.var 13) 2))] (.con 3 [(.var 8), (.var 9), (.num (.var 10)), (.num (.var 11)), (.num (.rem (.el (.var 4) (.var 13) 1) (.len (.var 0)))), (.var 145)] (.ite (.not (.eq (.var 150) (.lit 0)))
  (.ret [(.lit 0)])
  (.con 4 [(.var 146), (.var 147), (.num (.var 148)), (.num (.var 149))] (.chk 6 8 [(.var 151), (.var 152), (.num (.var 153)), (.num (.var 154)), (.num (.var 155)), (.num (.add (.var 13) (.lit 1)))])))))
  (.lop 7 [(.var 0), (.var 1), (.num (.var 2)), (.num (.var 3)), (.num (.lit 0))] 131 (.ite (.lt (.var 149) (.len (.var 4)))
  (.dat (.rows 1) [(.num (.el (.var 4) (.var 149) 2))] (.con 3 [(.var 145), (.var 146), (.num (.var 147)), (.num (.var 148)), (.num (.rem (.el (.var 4) (.var 149) 1) (.len (.var 0)))), (.var 281)] (.ite (.not (.eq (.var 286) (.lit 0)))
  (.ret [(.lit 0)])
  (.chk 7 145 [(.var 282), (.var 283), (.num (.var 284)), (.num (.var 285)), (.num (.add (.var 149) (.lit 1)))]))))
  (.con 4 [(.var 145), (.var 146), (.num (.var 147)), (.num (.var 148))] (.ite (.eq (.var 12) (.var 285))
  (.con 5 [(.var 8), (.var 9), (.num (.var 10)), (.num (.var 11)), (.var 281), (.var 282), (.num (.var 283)), (.num (.var 284))] (.ret [(.num (.var 286))]))
  (.ret [(.lit 0)])))))))))
  (.ret [(.lit 1)]))))) := by kernel_rfl
end Go.Proofs.Ytdhdpgdifphfkaa
