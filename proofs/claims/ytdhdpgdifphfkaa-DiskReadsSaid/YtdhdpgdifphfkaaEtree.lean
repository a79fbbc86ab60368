/- DERIVED. What the executor makes of functions. -/
import Derived.Test.YtdhdpgdifphfkaaEcon
import Derived.KernelRfl
namespace Go.Proofs.Ytdhdpgdifphfkaa
open Go.Dx
set_option linter.unusedVariables false
set_option maxRecDepth 100000
theorem tree_pad : runC tb [] 120 (cPad 31) = (.dat .rep [(.num (.lit 128)), (.lit 0)] (.dat .sub [(.var 0), (.num (.lit 0)), (.num (.min (.lit 128) (.len (.var 0))))] (.dat .sub [(.var 1), (.num (.min (.lit 128) (.len (.var 0)))), (.num (.lit 128))] (.dat .cat [(.var 2), (.var 3)] (.ret [(.var 4)]))))) := by kernel_rfl
theorem tree_chk : runC tb [lChk, lChk2] 120 (cChk 15) = (.ite (.or (.or (.or (.or (.lt (.len (.var 0)) (.lit 1)) (.lt (.lit 4096) (.len (.var 0)))) (.lt (.lit 4096) (.len (.var 1)))) (.lt (.var 2) (.lit (-1)))) (.lt (.lit 65536) (.var 2)))
  (.ret [(.num (.lit 40))])
  (.lop 0 [(.num (.lit 0))] 63 (.ite (.lt (.var 4) (.len (.var 0)))
  (.ite (.not (.eq (.len (.el (.var 0) (.var 4) 0)) (.lit 128)))
  (.ret [(.num (.lit 40))])
  (.chk 0 4 [(.num (.add (.var 4) (.lit 1)))]))
  (.lop 1 [(.num (.lit 0))] 63 (.ite (.lt (.var 68) (.len (.var 1)))
  (.ite (.or (.not (.and (.le (.lit 0) (.el (.var 1) (.var 68) 0)) (.lt (.el (.var 1) (.var 68) 0) (.len (.var 0))))) (.not (.eq (.len (.el (.var 1) (.var 68) 1)) (.lit 128))))
  (.ret [(.num (.lit 40))])
  (.chk 1 68 [(.num (.add (.var 68) (.lit 1)))]))
  (.ret [(.num (.lit 0))])))))) := by kernel_rfl
theorem tree_chkR : runC tb [lChkR, lChkR2] 120 (cChk 16) = (.ite (.or (.or (.or (.or (.lt (.len (.var 0)) (.lit 1)) (.lt (.lit 4096) (.len (.var 0)))) (.lt (.lit 4096) (.len (.var 1)))) (.lt (.var 2) (.lit (-1)))) (.lt (.lit 65536) (.var 2)))
  (.ret [(.num (.lit 40))])
  (.lop 0 [(.num (.lit 0))] 71 (.ite (.lt (.var 4) (.len (.var 0)))
  (.ite (.not (.eq (.len (.el (.var 0) (.var 4) 0)) (.lit 128)))
  (.ret [(.num (.lit 40))])
  (.chk 0 4 [(.num (.add (.var 4) (.lit 1)))]))
  (.lop 1 [(.num (.lit 0))] 71 (.ite (.lt (.var 76) (.len (.var 1)))
  (.ite (.or (.or (.lt (.el (.var 1) (.var 76) 0) (.lit 0)) (.le (.len (.var 0)) (.el (.var 1) (.var 76) 0))) (.not (.eq (.len (.el (.var 1) (.var 76) 1)) (.lit 128))))
  (.ret [(.num (.lit 40))])
  (.chk 1 76 [(.num (.add (.var 76) (.lit 1)))]))
  (.ret [(.num (.lit 0))])))))) := by kernel_rfl
theorem tree_run : runC tb [cChk 15] 120 (cRun 30) = (.con 0 [(.var 0), (.var 1), (.num (.var 2)), (.num (.var 3))] (.ite (.and (.eq (.var 4) (.lit 0)) (.eq (.var 3) (.lit 0)))
  (.ret [(.lit 1)])
  (.ret [(.lit 0)]))) := by kernel_rfl
theorem tree_same : runC tb [lSame, lSame2] 120 (cSame 14) = (.ite (.or (.or (.or (.not (.eq (.len (.var 0)) (.len (.var 4)))) (.not (.eq (.len (.var 1)) (.len (.var 5))))) (.not (.eq (.var 2) (.var 6)))) (.not (.or (.and (.not (.eq (.var 3) (.lit 0))) (.not (.eq (.var 7) (.lit 0)))) (.and (.eq (.var 3) (.lit 0)) (.eq (.var 7) (.lit 0))))))
  (.ret [(.lit 0)])
  (.lop 0 [(.num (.lit 0))] 94 (.ite (.lt (.var 8) (.len (.var 0)))
  (.both (.dat .bstr [(.el (.var 0) (.var 8) 0)] (.ite (.and (.le (.lit 0) (.var 8)) (.lt (.var 8) (.len (.var 4))))
  (.dat .bstr [(.el (.var 4) (.var 8) 0)] (.ite (.not (.seq (.var 103) (.var 104)))
  (.ret [(.lit 0)])
  (.chk 0 8 [(.num (.add (.var 8) (.lit 1)))])))
  .fail)) (.ite (.and (.le (.lit 0) (.var 8)) (.lt (.var 8) (.len (.var 4))))
  (.both (.dat .bstr [(.el (.var 0) (.var 8) 0)] (.dat .bstr [(.el (.var 4) (.var 8) 0)] (.ite (.not (.seq (.var 103) (.var 104)))
  (.ret [(.lit 0)])
  (.chk 0 8 [(.num (.add (.var 8) (.lit 1)))])))) (.dat .bstr [(.el (.var 4) (.var 8) 0)] (.dat .bstr [(.el (.var 0) (.var 8) 0)] (.ite (.not (.seq (.var 104) (.var 103)))
  (.ret [(.lit 0)])
  (.chk 0 8 [(.num (.add (.var 8) (.lit 1)))])))))
  .fail))
  (.lop 1 [(.num (.lit 0))] 94 (.ite (.lt (.var 103) (.len (.var 1)))
  (.ite (.and (.le (.lit 0) (.var 103)) (.lt (.var 103) (.len (.var 5))))
  (.both (.ite (.eq (.el (.var 1) (.var 103) 0) (.el (.var 5) (.var 103) 0))
  (.dat .bstr [(.el (.var 1) (.var 103) 1)] (.dat .bstr [(.el (.var 5) (.var 103) 1)] (.ite (.not (.seq (.var 198) (.var 199)))
  (.ret [(.lit 0)])
  (.chk 1 103 [(.num (.add (.var 103) (.lit 1)))]))))
  (.ret [(.lit 0)])) (.ite (.eq (.el (.var 1) (.var 103) 0) (.el (.var 5) (.var 103) 0))
  (.dat .bstr [(.el (.var 5) (.var 103) 1)] (.dat .bstr [(.el (.var 1) (.var 103) 1)] (.ite (.not (.seq (.var 199) (.var 198)))
  (.ret [(.lit 0)])
  (.chk 1 103 [(.num (.add (.var 103) (.lit 1)))]))))
  (.ret [(.lit 0)])))
  .fail)
  (.ret [(.lit 1)])))))) := by kernel_rfl
theorem tree_few : runC tb [lFew, lFew2] 120 (cFew 11) = (.lop 0 [(.num (.lit 0)), (.num (.lit 0))] 49 (.ite (.and (.lt (.var 5) (.len (.var 0))) (.le (.var 4) (.lit 9000)))
  (.chk 0 4 [(.num (.wrap .i64 (.add (.add (.var 4) (.lit 1)) (.len (.el (.var 0) (.var 5) 0))))), (.num (.add (.var 5) (.lit 1)))])
  (.lop 1 [(.num (.var 4)), (.num (.lit 0))] 49 (.ite (.and (.lt (.var 56) (.len (.var 1))) (.le (.var 55) (.lit 9000)))
  (.chk 1 55 [(.num (.wrap .i64 (.add (.add (.var 55) (.lit 1)) (.len (.el (.var 1) (.var 56) 1))))), (.num (.add (.var 56) (.lit 1)))])
  (.ite (.le (.var 55) (.lit 9000))
  (.ret [(.lit 1)])
  (.ret [(.lit 0)])))))) := by kernel_rfl
theorem tree_read : runC tb [cRun 30, cPad 31, lRead] 120 (cRead 21) = (.con 0 [(.var 0), (.var 1), (.num (.var 2)), (.num (.var 3))] (.ite (.or (.eq (.var 5) (.lit 0)) (.not (.and (.le (.lit 0) (.var 4)) (.lt (.var 4) (.len (.var 0))))))
  (.dat (.rows 1) [] (.ret [(.var 6), (.num (.lit 40))]))
  (.lop 2 [(.num (.sub (.len (.var 1)) (.lit 1)))] 18 (.ite (.le (.lit 0) (.var 6))
  (.ite (.and (.le (.lit 0) (.var 6)) (.lt (.var 6) (.len (.var 1))))
  (.ite (.eq (.el (.var 1) (.var 6) 0) (.var 4))
  (.dat .sub [(.el (.var 1) (.var 6) 1), (.num (.lit 0)), (.num (.len (.el (.var 1) (.var 6) 1)))] (.con 1 [(.var 25)] (.ret [(.var 26), (.num (.lit 0))])))
  (.chk 2 6 [(.num (.sub (.var 6) (.lit 1)))]))
  .fail)
  (.dat .sub [(.el (.var 0) (.var 4) 0), (.num (.lit 0)), (.num (.len (.el (.var 0) (.var 4) 0)))] (.con 1 [(.var 25)] (.ret [(.var 26), (.num (.lit 0))]))))))) := by kernel_rfl
theorem tree_readR : runC tb [cChk 16, lReadR] 120 (cRead 22) = (.con 0 [(.var 0), (.var 1), (.num (.var 2)), (.num (.var 3))] (.ite (.or (.or (.or (.not (.eq (.var 5) (.lit 0))) (.not (.eq (.var 3) (.lit 0)))) (.lt (.var 4) (.lit 0))) (.le (.len (.var 0)) (.var 4)))
  (.dat (.rows 1) [] (.ret [(.var 6), (.num (.lit 40))]))
  (.dat .sub [(.el (.var 0) (.var 4) 0), (.num (.lit 0)), (.num (.len (.el (.var 0) (.var 4) 0)))] (.lop 1 [(.var 6), (.num (.lit 0))] 53 (.ite (.lt (.var 8) (.len (.var 1)))
  (.ite (.eq (.el (.var 1) (.var 8) 0) (.var 4))
  (.dat .sub [(.el (.var 1) (.var 8) 1), (.num (.lit 0)), (.num (.len (.el (.var 1) (.var 8) 1)))] (.chk 1 7 [(.var 62), (.num (.add (.var 8) (.lit 1)))]))
  (.chk 1 7 [(.var 7), (.num (.add (.var 8) (.lit 1)))]))
  (.ret [(.var 7), (.num (.lit 0))])))))) := by kernel_rfl
theorem tree_stop : runC tb [cRun 30] 120 (cStop 25) = (.con 0 [(.var 0), (.var 1), (.num (.var 2)), (.num (.var 3))] (.ite (.eq (.var 5) (.lit 0))
  (.dat (.rows 1) [] (.dat (.rows 2) [] (.ret [(.var 6), (.var 7), (.num (.lit 0)), (.lit 0), (.num (.lit 40))])))
  (.ite (.or (.lt (.var 4) (.lit 0)) (.lt (.lit 65536) (.var 4)))
  (.dat (.rows 1) [] (.dat (.rows 2) [] (.ret [(.var 6), (.var 7), (.num (.lit 0)), (.lit 0), (.num (.lit 1))])))
  (.ret [(.var 0), (.var 1), (.num (.var 4)), (.num (.var 3)), (.num (.lit 0))])))) := by kernel_rfl
theorem tree_stopR : runC tb [cChk 16] 120 (cStop 26) = (.con 0 [(.var 0), (.var 1), (.num (.var 2)), (.num (.var 3))] (.ite (.or (.not (.eq (.var 5) (.lit 0))) (.not (.eq (.var 3) (.lit 0))))
  (.dat (.rows 1) [] (.dat (.rows 2) [] (.ret [(.var 6), (.var 7), (.num (.lit 0)), (.lit 0), (.num (.lit 40))])))
  (.ite (.or (.lt (.var 4) (.lit 0)) (.lt (.lit 65536) (.var 4)))
  (.dat (.rows 1) [] (.dat (.rows 2) [] (.ret [(.var 6), (.var 7), (.num (.lit 0)), (.lit 0), (.num (.lit 1))])))
  (.ret [(.var 0), (.var 1), (.num (.var 4)), (.num (.var 3)), (.num (.lit 0))])))) := by kernel_rfl
theorem tree_res : runC tb [] 120 (cRes 17) = (.dat (.rows 2) [] (.ret [(.var 0), (.var 4), (.num (.lit (-1))), (.lit 0)])) := by kernel_rfl
theorem tree_resR : runC tb [] 120 (cRes 18) = (.dat (.rows 2) [] (.ret [(.var 0), (.var 4), (.num (.lit (-1))), (.lit 0)])) := by kernel_rfl
theorem tree_new : runC tb [lNew] 120 (cNew 12) = (.ite (.or (.lt (.var 0) (.lit 1)) (.lt (.lit 4096) (.var 0)))
  (.dat (.rows 1) [] (.dat (.rows 2) [] (.ret [(.var 1), (.var 2), (.num (.lit 0)), (.lit 0), (.num (.lit 1))])))
  (.dat .rep [(.num (.var 0)), .emp] (.lop 0 [(.var 1), (.num (.lit 0))] 29 (.ite (.lt (.var 3) (.var 0))
  (.dat .rep [(.num (.lit 128)), (.lit 0)] (.ite (.and (.le (.lit 0) (.var 3)) (.lt (.var 3) (.len (.var 2))))
  (.adr (.var 33) (.dat (.set 0) [(.var 2), (.num (.var 3)), (.el (.var 34) (.lit 0) 0)] (.chk 0 2 [(.var 35), (.num (.add (.var 3) (.lit 1)))])))
  .fail))
  (.dat (.rows 2) [] (.ret [(.var 2), (.var 33), (.num (.lit (-1))), (.lit 0), (.num (.lit 0))])))))) := by kernel_rfl
theorem tree_newR : runC tb [lNewR] 120 (cNew 13) = (.ite (.or (.lt (.var 0) (.lit 1)) (.lt (.lit 4096) (.var 0)))
  (.dat (.rows 1) [] (.dat (.rows 2) [] (.ret [(.var 1), (.var 2), (.num (.lit 0)), (.lit 0), (.num (.lit 1))])))
  (.dat (.rows 1) [] (.lop 0 [(.var 1), (.num (.lit 0))] 26 (.ite (.lt (.var 3) (.var 0))
  (.dat .rep [(.num (.lit 128)), (.lit 0)] (.adr (.var 30) (.ite (.le (.add (.len (.var 2)) (.lit 1)) (.lit 5629499534213))
  (.dat (.rows 1) [(.el (.var 31) (.lit 0) 0)] (.dat .cat [(.var 2), (.var 32)] (.chk 0 2 [(.var 33), (.num (.add (.var 3) (.lit 1)))])))
  .fail)))
  (.dat (.rows 2) [] (.ret [(.var 2), (.var 30), (.num (.lit (-1))), (.lit 0), (.num (.lit 0))])))))) := by kernel_rfl
end Go.Proofs.Ytdhdpgdifphfkaa
