/- DERIVED. What the executor makes of the examples. -/
import Derived.Test.YtdffnmhpkapbkaaDoorDtcut
namespace Go.Proofs.YtdffnmhpkapbkaaDoor
open Go Go.Dx
set_option linter.unusedVariables false
set_option maxRecDepth 100000
theorem exec_cut' (C : List Con) {F G n : Nat} (c : Code) (s : St) (h1 : F = G + n) (h2 : 1 ≤ G) : exec tb C F none c s = (exec tb C F none (hdC n c) s).bind (goOn (exec tb C G) (tlC n c)) := by
  obtain ⟨H, rfl⟩ : ∃ H, G = H + 1 := ⟨G - 1, by omega⟩
  subst h1
  exact exec_cut C H n c s
theorem cut_ret {t : T (X × St)} {s : St} (ex : Ex) (c : Code) (h : t = .ret (.nrm, s)) : t.bind (goOn ex c) = ex none c s := by subst h; rfl
theorem cut_a {t : T (X × St)} (ex : Ex) (c : Code) (h : t = (.con 0 [(.num (.lit 59))] (.con 0 [(.num (.lit 73048))] (.con 0 [(.num (.lit 366))] (.con 1 [(.num (.lit 2100)), (.num (.lit 2)), (.num (.lit 29))] (.con 2 [(.num (.lit 0))] (.ret (.nrm, S1)))))))) : t.bind (goOn ex c) = (.con 0 [(.num (.lit 59))] (.con 0 [(.num (.lit 73048))] (.con 0 [(.num (.lit 366))] (.con 1 [(.num (.lit 2100)), (.num (.lit 2)), (.num (.lit 29))] (.con 2 [(.num (.lit 0))] (ex none c S1)))))) := by subst h; rfl
theorem con_a {t u : T (X × St)} (h : t = u) : ((.con 0 [(.num (.lit 59))] (.con 0 [(.num (.lit 73048))] (.con 0 [(.num (.lit 366))] (.con 1 [(.num (.lit 2100)), (.num (.lit 2)), (.num (.lit 29))] (.con 2 [(.num (.lit 0))] t))))) : T (X × St)) = (.con 0 [(.num (.lit 59))] (.con 0 [(.num (.lit 73048))] (.con 0 [(.num (.lit 366))] (.con 1 [(.num (.lit 2100)), (.num (.lit 2)), (.num (.lit 29))] (.con 2 [(.num (.lit 0))] u))))) := by rw [h]
theorem e3 : exec tb C0 391 none (tlC 1 (tlC 8 B0)) S2 = TD :=
  ((exec_cut' C0 (F := 391) (G := 390) (n := 1) (tlC 1 (tlC 8 B0)) S2 (by decide) (by decide)).trans (cut_ret (exec tb C0 390) (tlC 1 (tlC 1 (tlC 8 B0))) wC)).trans wD
theorem e2 : exec tb C0 392 none (tlC 8 B0) S1 = TD :=
  ((exec_cut' C0 (F := 392) (G := 391) (n := 1) (tlC 8 B0) S1 (by decide) (by decide)).trans (cut_ret (exec tb C0 391) (tlC 1 (tlC 8 B0)) wB)).trans e3
theorem w_all : exec tb C0 400 none B0 S0 = (.con 0 [(.num (.lit 59))] (.con 0 [(.num (.lit 73048))] (.con 0 [(.num (.lit 366))] (.con 1 [(.num (.lit 2100)), (.num (.lit 2)), (.num (.lit 29))] (.con 2 [(.num (.lit 0))] TD))))) :=
  ((exec_cut' C0 (F := 400) (G := 392) (n := 8) B0 S0 (by decide) (by decide)).trans (cut_a (exec tb C0 392) (tlC 8 B0) wA)).trans (con_a e2)
def endS (tb : Tb) (fn : Func) (s : St) (p : X × St) : T (SV × St) :=
  match p.1 with
  | .ext _ => .fail
  | _ => match closeS p.2.df p.2.bs with
    | some bs => match resS tb fn { p.2 with bs := bs } with
      | some v => .ret (shut s { p.2 with bs := bs } v)
      | none => .fail
    | none => .fail
theorem callS_body {ex : Ex} {tb : Tb} {C : List Con} {s t0 : St} {g : FuncId} {args : List PV} {fn : Func} {c : Code} (h1 : wfSt s = true) (h2 : C.findIdx? (fun c => c.f == g && c.lp.isNone) = none) (h3 : tb.func g = some fn) (h4 : fn.body = some c)
    (h5 : (⟨args.map SV.p ++ List.replicate (fn.ntmps - args.length) undefS, s.bs, s.bnd, [], s.ar⟩ : St) = t0) :
    callS ex tb C s g args = squashR ((ex none c t0).bind (endS tb fn s)) := by
  subst h5
  unfold callS
  rw [if_pos h1, h2]
  simp only [h3, h4, fSp_eq]
  rfl
def s00 : St := ⟨[], [], ⟨[], [], []⟩, [], []⟩
theorem k1 : wfSt s00 = true := by kernel_rfl
theorem k2 : C0.findIdx? (fun c => c.f == 9 && c.lp.isNone) = none := by kernel_rfl
theorem k3 : tb.func 9 = some Tryd.f9 := by kernel_rfl
theorem k4 : Tryd.f9.body = some B0 := by kernel_rfl
theorem k5 : (⟨([] : List PV).map SV.p ++ List.replicate (Tryd.f9.ntmps - ([] : List PV).length) undefS, s00.bs, s00.bnd, [], s00.ar⟩ : St) = S0 := by kernel_rfl
theorem call9 : callS (exec tb C0 400) tb C0 s00 9 [] = squashR ((exec tb C0 400 none B0 S0).bind (endS tb Tryd.f9 s00)) :=
  callS_body (ex := exec tb C0 400) (t0 := S0) (fn := Tryd.f9) (c := B0) k1 k2 k3 k4 k5
theorem run_of {C : List Con} {f : FuncId} {t : T (SV × St)} (h : callS (exec tb C 400) tb C s00 f [] = t) : runC tb C 400 (lawCon f []) = (t.bind fun p => if wfS ⟨p.2.bnd.v.length, 0, p.2.ar.length⟩ p.1 && noU p.1 then .ret p else .fail).bind fun p => match pvsOf (lawCon f []).res p.1 with
    | some xs => if (shapeQ (lawCon f []).res xs && wfSt { p.2 with tmps := [], bs := [], df := [] }) && (xs.all (wfP ⟨p.2.bnd.v.length, 0, p.2.ar.length⟩)) then resCells { p.2 with tmps := [], bs := [], df := [] } { p.2 with tmps := [], bs := [], df := [] } (resL' (lawCon f []).res) (xs.flatMap PV.cells) fun es os _ => if nodupO os then .ret es else .fail else .fail
    | none => .fail := by
  subst h
  rfl
theorem last9 : ((squashR (((.con 0 [(.num (.lit 59))] (.con 0 [(.num (.lit 73048))] (.con 0 [(.num (.lit 366))] (.con 1 [(.num (.lit 2100)), (.num (.lit 2)), (.num (.lit 29))] (.con 2 [(.num (.lit 0))] TD))))) : T (X × St)).bind (endS tb Tryd.f9 s00))).bind fun p => if wfS ⟨p.2.bnd.v.length, 0, p.2.ar.length⟩ p.1 && noU p.1 then .ret p else .fail).bind (fun p => match pvsOf (lawCon 9 []).res p.1 with
    | some xs => if (shapeQ (lawCon 9 []).res xs && wfSt { p.2 with tmps := [], bs := [], df := [] }) && (xs.all (wfP ⟨p.2.bnd.v.length, 0, p.2.ar.length⟩)) then resCells { p.2 with tmps := [], bs := [], df := [] } { p.2 with tmps := [], bs := [], df := [] } (resL' (lawCon 9 []).res) (xs.flatMap PV.cells) fun es os _ => if nodupO os then .ret es else .fail else .fail
    | none => .fail) = (.con 0 [(.num (.lit 59))] (.con 0 [(.num (.lit 73048))] (.con 0 [(.num (.lit 366))] (.con 1 [(.num (.lit 2100)), (.num (.lit 2)), (.num (.lit 29))] (.con 2 [(.num (.lit 0))] (.dat (.rows 2) [(.num (.lit 1)), (.num (.lit 2)), (.num (.lit 6)), (.num (.lit 9))] (.con 3 [(.var 16)] (.dat (.rows 2) [(.num (.lit 1)), (.num (.lit 2)), (.num (.lit 6)), (.num (.lit 9))] (.con 4 [(.var 19), (.num (.lit 2))] (.dat (.rows 2) [(.num (.lit 1)), (.num (.lit 2)), (.num (.lit 6)), (.num (.lit 9))] (.con 4 [(.var 23), (.num (.lit 6))] (.dat (.rows 2) [(.num (.lit 1)), (.num (.lit 2)), (.num (.lit 6)), (.num (.lit 9))] (.con 4 [(.var 27), (.num (.lit (-1)))] (.ite (.or (.or (.or (.or (.or (.or (.or (.or (.not (.eq (.var 3) (.lit 0))) (.not (.eq (.var 7) (.lit 0)))) (.not (.eq (.var 11) (.lit 0)))) (.not (.eq (.var 13) (.lit 140)))) (.not (.eq (.var 15) (.lit 0)))) (.not (.eq (.var 18) (.lit 0)))) (.not (.eq (.var 22) (.lit 0)))) (.not (.eq (.var 26) (.lit 0)))) (.not (.eq (.var 30) (.lit 1))))
  (.ret [(.lit 0)])
  (.ite (.or (.or (.or (.or (.or (.or (.or (.not (.and (.eq (.var 0) (.lit 2000)) (.and (.eq (.var 1) (.lit 2)) (.eq (.var 2) (.lit 29))))) (.not (.and (.eq (.var 4) (.lit 2199)) (.and (.eq (.var 5) (.lit 12)) (.eq (.var 6) (.lit 31)))))) (.not (.and (.eq (.var 8) (.lit 2001)) (.and (.eq (.var 9) (.lit 1)) (.eq (.var 10) (.lit 1)))))) (.not (.eq (.var 14) (.lit 5)))) (.not (.eq (.var 17) (.lit 6)))) (.not (.eq (.var 20) (.lit 6)))) (.eq (.var 21) (.lit 0))) (.not (.eq (.var 25) (.lit 0))))
  (.ret [(.lit 0)])
  (.ret [(.lit 1)])))))))))))))))) := by kernel_rfl
theorem tree_sane : runC tb [cOf 10, cNum 12, cWk 14, cCnt 17, cNth 19] 400 (lawCon 9 []) = (.con 0 [(.num (.lit 59))] (.con 0 [(.num (.lit 73048))] (.con 0 [(.num (.lit 366))] (.con 1 [(.num (.lit 2100)), (.num (.lit 2)), (.num (.lit 29))] (.con 2 [(.num (.lit 0))] (.dat (.rows 2) [(.num (.lit 1)), (.num (.lit 2)), (.num (.lit 6)), (.num (.lit 9))] (.con 3 [(.var 16)] (.dat (.rows 2) [(.num (.lit 1)), (.num (.lit 2)), (.num (.lit 6)), (.num (.lit 9))] (.con 4 [(.var 19), (.num (.lit 2))] (.dat (.rows 2) [(.num (.lit 1)), (.num (.lit 2)), (.num (.lit 6)), (.num (.lit 9))] (.con 4 [(.var 23), (.num (.lit 6))] (.dat (.rows 2) [(.num (.lit 1)), (.num (.lit 2)), (.num (.lit 6)), (.num (.lit 9))] (.con 4 [(.var 27), (.num (.lit (-1)))] (.ite (.or (.or (.or (.or (.or (.or (.or (.or (.not (.eq (.var 3) (.lit 0))) (.not (.eq (.var 7) (.lit 0)))) (.not (.eq (.var 11) (.lit 0)))) (.not (.eq (.var 13) (.lit 140)))) (.not (.eq (.var 15) (.lit 0)))) (.not (.eq (.var 18) (.lit 0)))) (.not (.eq (.var 22) (.lit 0)))) (.not (.eq (.var 26) (.lit 0)))) (.not (.eq (.var 30) (.lit 1))))
  (.ret [(.lit 0)])
  (.ite (.or (.or (.or (.or (.or (.or (.or (.not (.and (.eq (.var 0) (.lit 2000)) (.and (.eq (.var 1) (.lit 2)) (.eq (.var 2) (.lit 29))))) (.not (.and (.eq (.var 4) (.lit 2199)) (.and (.eq (.var 5) (.lit 12)) (.eq (.var 6) (.lit 31)))))) (.not (.and (.eq (.var 8) (.lit 2001)) (.and (.eq (.var 9) (.lit 1)) (.eq (.var 10) (.lit 1)))))) (.not (.eq (.var 14) (.lit 5)))) (.not (.eq (.var 17) (.lit 6)))) (.not (.eq (.var 20) (.lit 6)))) (.eq (.var 21) (.lit 0))) (.not (.eq (.var 25) (.lit 0))))
  (.ret [(.lit 0)])
  (.ret [(.lit 1)])))))))))))))))) := by
  have h := run_of (call9.trans (congrArg (fun t : T (X × St) => squashR (t.bind (endS tb Tryd.f9 s00))) w_all))
  exact h.trans last9
end Go.Proofs.YtdffnmhpkapbkaaDoor
