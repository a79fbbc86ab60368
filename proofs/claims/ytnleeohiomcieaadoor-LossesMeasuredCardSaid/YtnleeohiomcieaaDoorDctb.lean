/- DERIVED. What losses computes keeps its contracts. -/
import Derived.Test.YtnleeohiomcieaaDoorDct
namespace Go.Proofs.YtnleeohiomcieaaDoor
open Go.Dx
set_option linter.unusedVariables false
set_option linter.unusedSimpArgs false
theorem n_inj {x y : Int} (h : [DV.n x] = [DV.n y]) : x = y := by simpa using h
theorem check_bad {r : Rch} {v : Int} (h : ¬ OkR r) : CheckP r v [.n 210] := ⟨fun _ => rfl, fun k => absurd k h, fun k => absurd k h⟩
theorem check_arg {r : Rch} {v : Int} (h : OkR r) (k : ¬ Lit v) : CheckP r v [.n 1] := ⟨fun q => absurd h q, fun _ _ => rfl, fun _ q => absurd q k⟩
theorem check_ok {r : Rch} {v : Int} (h : OkR r) (k : Lit v) : CheckP r v [.n 0] := ⟨fun q => absurd h q, fun _ q => absurd k q, fun _ _ => rfl⟩
theorem check_in {r : Rch} {v x : Int} (h : CheckP r v [.n x]) : (¬ OkR r ∧ x = 210) ∨ (OkR r ∧ ¬ Lit v ∧ x = 1) ∨ (OkR r ∧ Lit v ∧ x = 0) := by
  by_cases k : OkR r
  · by_cases l : Lit v
    · exact .inr (.inr ⟨k, l, n_inj (h.2.2 k l)⟩)
    · exact .inr (.inl ⟨k, l, n_inj (h.2.1 k l)⟩)
  · exact .inl ⟨k, n_inj (h.1 k)⟩
theorem lost_bad {r : Rch} {v : Int} (h : ¬ OkR r) : LostP r v [.n 0, .n 0, .n 210] := ⟨fun _ => rfl, fun k => absurd k h, fun k => absurd k h⟩
theorem lost_arg {r : Rch} {v : Int} (h : OkR r) (k : ¬ Lit v) : LostP r v [.n 0, .n 0, .n 1] := ⟨fun q => absurd h q, fun _ _ => rfl, fun _ q => absurd q k⟩
theorem lost_ok {r : Rch} {v : Int} (h : OkR r) (k : Lit v) : LostP r v [.n (loF r v), .n (hiF r v), .n 0] := ⟨fun q => absurd h q, fun _ q => absurd k q, fun _ _ => rfl⟩
theorem way_bad {q : Bool} {r : Rch} {v : Int} (h : ¬ OkR r) : WayP q r v [.n 0, .n 210] := ⟨fun _ => rfl, fun k => absurd k h, fun k => absurd k h⟩
theorem way_arg {q : Bool} {r : Rch} {v : Int} (h : OkR r) (k : ¬ Lit v) : WayP q r v [.n 0, .n 1] := ⟨fun q => absurd h q, fun _ _ => rfl, fun _ q => absurd q k⟩
theorem way_ok {q : Bool} {r : Rch} {v : Int} (h : OkR r) (k : Lit v) : WayP q r v [.n (wayF q r v), .n 0] := ⟨fun q => absurd h q, fun _ q => absurd k q, fun _ _ => rfl⟩
theorem need_bad {q : Bool} {r : Rch} {v : Int} (h : ¬ OkR r) : NeedP q r v [.n 0, .n 0, .n 210] := ⟨fun _ => rfl, fun k => absurd k h, fun k => absurd k h⟩
theorem need_arg {q : Bool} {r : Rch} {v : Int} (h : OkR r) (k : ¬ Lit v) : NeedP q r v [.n 0, .n 0, .n 1] := ⟨fun q => absurd h q, fun _ _ => rfl, fun _ q => absurd q k⟩
theorem need_yes {q : Bool} {r : Rch} {w L : Int} (h : OkR r) (k : Lit w) (l : Lst (wayF q r) w L) (m : L ≤ 1073741824) : NeedP q r w [.n L, .n 1, .n 0] :=
  ⟨fun q => absurd h q, fun _ q => absurd k q, fun _ _ => ⟨L, l, fun _ => rfl, fun n => by omega⟩⟩
theorem need_no {q : Bool} {r : Rch} {w L : Int} (h : OkR r) (k : Lit w) (l : Lst (wayF q r) w L) (m : 1073741824 < L) : NeedP q r w [.n 0, .n 0, .n 0] :=
  ⟨fun q => absurd h q, fun _ q => absurd k q, fun _ _ => ⟨L, l, fun n => by omega, fun _ => rfl⟩⟩
theorem most_bad {r : Rch} {v : Int} (h : ¬ OkR r) : MostP r v [.n 0, .n 210] := ⟨fun _ => rfl, fun k => absurd k h, fun k => absurd k h⟩
theorem most_arg {r : Rch} {v : Int} (h : OkR r) (k : ¬ Lit v) : MostP r v [.n 0, .n 1] := ⟨fun q => absurd h q, fun _ _ => rfl, fun _ q => absurd q k⟩
theorem most_ok {r : Rch} {w L : Int} (h : OkR r) (k : Lit w) (l : Lst (wayF false r) (w + 1) L) : MostP r w [.n (L - 1), .n 0] :=
  ⟨fun q => absurd h q, fun _ q => absurd k q, fun _ _ => ⟨L, l, rfl⟩⟩
/-- A least parcel of more than nothing is no empty one. -/
theorem lst_pos {q : Bool} {r : Rch} {w L : Int} (h : Fit r) (k : Lst (wayF q r) w L) (hw : 0 < w) : 1 ≤ L := by
  obtain ⟨h1, h2, h3, h4⟩ := k
  by_cases c : L = 0
  · have := h4 0 (by omega) (by omega)
    have := way_bd h q (v := 0) ⟨by omega, by omega⟩
    omega
  · omega
theorem wayT (r : Rch) (v : Int) : wayF true r v = best r v := rfl
theorem wayN (r : Rch) (v : Int) : wayF false r v = worst r v := rfl
theorem half_bd {a b : Int} (h0 : 0 ≤ a) (h1 : a < b) (h2 : b ≤ 1073741825) : (a + b).tdiv 2 = (a + b) / 2 ∧ Lit ((a + b) / 2) := by
  rw [td (by omega)]
  exact ⟨rfl, by omega, by omega⟩
theorem cCheck_ok (N : Nat) (w0 : World) : ConOk Tryd.prog tb N w0 cCheck := by
  refine con_of_walk (tb := tb) fine (C := [cShr]) (conCons cShr_ok noCon) 80 rfl ?_ N w0
  refine fun nm _ u _ _ dl _ _ cp _ _ bk _ _ si _ _ el _ _ eh _ _ n0 _ _ d0 _ _ n1 _ _ d1 _ _ v _ _ _ => ?_
  rw [tree_check]
  simp only [T.res, B.prop, E.den, E.dat, E.top, E.val, E.isD, DV.canon, DV.int, List.getElem?_cons_zero, List.getElem?_cons_succ, List.getD_cons_zero, List.getD_cons_succ, List.getD_nil, List.map_cons, List.map_nil, List.cons_append, List.nil_append, allB, List.take_succ_cons, List.take_zero, List.length_cons, List.length_nil, Nat.zero_add, Nat.reduceAdd, resB, resL', RSh.l, RC.vd, List.flatMap_cons, List.flatMap_nil, List.append_nil, List.replicate, rch, ev, cShr, cCheck]
  refine ⟨fun h => ⟨trivial, fun x _ _ hx => ?_⟩, fun h => check_bad fun q => h ⟨⟨q.1.1, q.1.2.1⟩, q.1.2.2⟩⟩
  rcases val_in hx with ⟨e, rfl⟩ | ⟨e, rfl⟩
  · have ok : OkR ⟨el, eh, n0, d0, n1, d1⟩ := ⟨⟨h.1.1, h.1.2, h.2⟩, e⟩
    refine ⟨fun k => absurd k (by decide), fun _ => ⟨fun k => check_arg ok fun q => by unfold Lit at q; omega, fun k => check_ok ok ⟨by omega, by omega⟩⟩⟩
  · exact ⟨fun _ => check_bad fun q => e q.2, fun k => absurd rfl k⟩
/-- No number on the way leaves 64 bits. -/
theorem lost_w {el eh n0 d0 n1 d1 v : Int} (h : Fit ⟨el, eh, n0, d0, n1, d1⟩) (hv : Lit v) : IntKind.i64.wrap (v * n0) = v * n0 ∧ IntKind.i64.wrap ((v * n0).tdiv d0) = (v * n0).tdiv d0 ∧ IntKind.i64.wrap (el + (v * n0).tdiv d0) = el + (v * n0).tdiv d0 ∧
    IntKind.i64.wrap (v * n1) = v * n1 ∧ IntKind.i64.wrap (v * n1 + d1) = v * n1 + d1 ∧ IntKind.i64.wrap (v * n1 + d1 - 1) = v * n1 + d1 - 1 ∧ IntKind.i64.wrap ((v * n1 + d1 - 1).tdiv d1) = (v * n1 + d1 - 1).tdiv d1 ∧ IntKind.i64.wrap (eh + (v * n1 + d1 - 1).tdiv d1) = eh + (v * n1 + d1 - 1).tdiv d1 := by
  have a1 := part_bd hv h.n0 h.n0d h.d0m
  have a2 := part_bd hv h.n1 h.n1d h.d1m
  have a3 := dn_le hv.1 h.n0 h.n0d h.d0
  have a4 := up_le hv.1 h.n1 h.n1d h.d1
  have b1 := h.el; have b2 := h.le; have b3 := h.eh; have b4 := h.d1; have b5 := h.d1m; have b6 := hv.1; have b7 := hv.2
  simp only at a1 a2 a3 a4 b1 b2 b3 b4 b5
  rw [td a1.1, td (show 0 ≤ v * n1 + d1 - 1 by omega)]
  refine ⟨wI (by omega) (by omega), wI (by omega) (by omega), wI (by omega) (by omega), wI (by omega) (by omega), wI (by omega) (by omega), wI (by omega) (by omega), wI (by omega) (by omega), wI (by omega) (by omega)⟩
theorem cLost_ok (N : Nat) (w0 : World) : ConOk Tryd.prog tb N w0 cLost := by
  refine con_of_walk (tb := tb) fine (C := []) noCon 80 rfl ?_ N w0
  refine fun nm _ u _ _ dl _ _ cp _ _ bk _ _ si _ _ el _ _ eh _ _ n0 _ _ d0 _ _ n1 _ _ d1 _ _ v _ _ hp => ?_
  have hp : OkR ⟨el, eh, n0, d0, n1, d1⟩ ∧ Lit v := hp
  rw [tree_lost]
  simp only [T.res, B.prop, E.den, E.dat, E.top, E.val, E.isD, DV.canon, DV.int, List.getElem?_cons_zero, List.getElem?_cons_succ, List.getD_cons_zero, List.getD_cons_succ, List.getD_nil, List.map_cons, List.map_nil, List.cons_append, List.nil_append, allB, List.take_succ_cons, List.take_zero, List.length_cons, List.length_nil, Nat.zero_add, Nat.reduceAdd, resB, resL', RSh.l, RC.vd, List.flatMap_cons, List.flatMap_nil, List.append_nil, List.replicate, rch, ev, cLost]
  have fit := hp.1.fit
  obtain ⟨w1, w2, w3, w4, w5, w6, w7, w8⟩ := lost_w fit hp.2
  simp only [w1, w2, w3, w4, w5, w6, w7, w8]
  have x1 := lo_bd fit hp.2
  have x2 := hi_bd fit hp.2
  have x3 := hp.2.2
  have b0 := fit.d0
  have b1 := fit.d1
  unfold loF hiF at *
  simp only at x1 x2 b0 b1
  exact ⟨fun k => by omega, fun _ => ⟨fun k => by omega, fun _ => ⟨fun _ => ⟨fun _ => rfl, fun k => k ⟨by omega, by omega⟩⟩, fun k => k ⟨by omega, by omega⟩⟩⟩⟩
theorem cLostR_ok (N : Nat) (w0 : World) : ConOk Tryd.prog tb N w0 cLostR := by
  refine con_of_walk (tb := tb) fine (C := []) noCon 80 rfl ?_ N w0
  refine fun nm _ u _ _ dl _ _ cp _ _ bk _ _ si _ _ el _ _ eh _ _ n0 _ _ d0 _ _ n1 _ _ d1 _ _ v _ _ hp => ?_
  have hp : OkR ⟨el, eh, n0, d0, n1, d1⟩ ∧ Lit v := hp
  rw [tree_lostR]
  simp only [T.res, B.prop, E.den, E.dat, E.top, E.val, E.isD, DV.canon, DV.int, List.getElem?_cons_zero, List.getElem?_cons_succ, List.getD_cons_zero, List.getD_cons_succ, List.getD_nil, List.map_cons, List.map_nil, List.cons_append, List.nil_append, allB, List.take_succ_cons, List.take_zero, List.length_cons, List.length_nil, Nat.zero_add, Nat.reduceAdd, resB, resL', RSh.l, RC.vd, List.flatMap_cons, List.flatMap_nil, List.append_nil, List.replicate, rch, ev, cLostR]
  have fit := hp.1.fit
  obtain ⟨w1, w2, w3, w4, w5, w6, w7, w8⟩ := lost_w fit hp.2
  simp only [w1, w2, w3, w4, w5, w6, w7, w8]
  have x1 := lo_bd fit hp.2
  have x2 := hi_bd fit hp.2
  have x3 := hp.2.2
  have b0 := fit.d0
  have b1 := fit.d1
  unfold loF hiF at *
  simp only at x1 x2 b0 b1
  refine ⟨fun k => ?_, fun _ => ⟨fun k => by omega, fun _ => ⟨fun k => by omega, fun _ => ⟨fun _ => ⟨fun _ => rfl, fun k => k ⟨by omega, by omega⟩⟩, fun k => k ⟨by omega, by omega⟩⟩⟩⟩⟩
  subst k
  rw [show min (0 : Int) (el + (0 * n0).tdiv d0) = 0 by omega, show min (0 : Int) (eh + (0 * n1 + d1 - 1).tdiv d1) = 0 by omega]
theorem cWorst_ok (N : Nat) (w0 : World) : ConOk Tryd.prog tb N w0 cWorst := by
  refine con_of_walk (tb := tb) fine (C := [cLost]) (conCons cLost_ok noCon) 80 rfl ?_ N w0
  refine fun nm _ u _ _ dl _ _ cp _ _ bk _ _ si _ _ el _ _ eh _ _ n0 _ _ d0 _ _ n1 _ _ d1 _ _ v _ _ hp => ?_
  have hp : OkR ⟨el, eh, n0, d0, n1, d1⟩ ∧ Lit v := hp
  rw [tree_worst]
  simp only [T.res, B.prop, E.den, E.dat, E.top, E.val, E.isD, DV.canon, DV.int, List.getElem?_cons_zero, List.getElem?_cons_succ, List.getD_cons_zero, List.getD_cons_succ, List.getD_nil, List.map_cons, List.map_nil, List.cons_append, List.nil_append, allB, List.take_succ_cons, List.take_zero, List.length_cons, List.length_nil, Nat.zero_add, Nat.reduceAdd, resB, resL', RSh.l, RC.vd, List.flatMap_cons, List.flatMap_nil, List.append_nil, List.replicate, rch, ev, cWorst, cLost]
  refine ⟨hp, fun a a0 a1 b b0 b1 hab => ?_⟩
  have hab := List.cons.inj hab
  have h1 := hab.1
  have h2 := (List.cons.inj hab.2).1
  simp only [DV.n.injEq] at h1 h2
  subst h1 h2
  have x1 := lo_bd hp.1.fit hp.2
  have x2 := hi_bd hp.1.fit hp.2
  have x3 := hp.2.2
  rw [wI (by omega) (by omega)]
  exact ⟨fun _ => rfl, fun k => k ⟨by omega, by omega⟩⟩
theorem cBest_ok (N : Nat) (w0 : World) : ConOk Tryd.prog tb N w0 cBest := by
  refine con_of_walk (tb := tb) fine (C := [cLost]) (conCons cLost_ok noCon) 80 rfl ?_ N w0
  refine fun nm _ u _ _ dl _ _ cp _ _ bk _ _ si _ _ el _ _ eh _ _ n0 _ _ d0 _ _ n1 _ _ d1 _ _ v _ _ hp => ?_
  have hp : OkR ⟨el, eh, n0, d0, n1, d1⟩ ∧ Lit v := hp
  rw [tree_best]
  simp only [T.res, B.prop, E.den, E.dat, E.top, E.val, E.isD, DV.canon, DV.int, List.getElem?_cons_zero, List.getElem?_cons_succ, List.getD_cons_zero, List.getD_cons_succ, List.getD_nil, List.map_cons, List.map_nil, List.cons_append, List.nil_append, allB, List.take_succ_cons, List.take_zero, List.length_cons, List.length_nil, Nat.zero_add, Nat.reduceAdd, resB, resL', RSh.l, RC.vd, List.flatMap_cons, List.flatMap_nil, List.append_nil, List.replicate, rch, ev, cBest, cLost]
  refine ⟨hp, fun a a0 a1 b b0 b1 hab => ?_⟩
  have hab := List.cons.inj hab
  have h1 := hab.1
  have h2 := (List.cons.inj hab.2).1
  simp only [DV.n.injEq] at h1 h2
  subst h1 h2
  have x1 := lo_bd hp.1.fit hp.2
  have x2 := hi_bd hp.1.fit hp.2
  have x3 := hp.2.2
  rw [wI (by omega) (by omega)]
  exact ⟨fun _ => rfl, fun k => k ⟨by omega, by omega⟩⟩
theorem cArr_ok (N : Nat) (w0 : World) : ConOk Tryd.prog tb N w0 cArr := by
  refine con_of_walk (tb := tb) fine (C := [cLostR]) (conCons cLostR_ok noCon) 80 rfl ?_ N w0
  refine fun nm _ u _ _ dl _ _ cp _ _ bk _ _ si _ _ el _ _ eh _ _ n0 _ _ d0 _ _ n1 _ _ d1 _ _ v _ _ q q0 q1 hp => ?_
  have hp : OkR ⟨el, eh, n0, d0, n1, d1⟩ ∧ Lit v := hp
  rw [tree_arr]
  simp only [T.res, B.prop, E.den, E.dat, E.top, E.val, E.isD, DV.canon, DV.int, List.getElem?_cons_zero, List.getElem?_cons_succ, List.getD_cons_zero, List.getD_cons_succ, List.getD_nil, List.map_cons, List.map_nil, List.cons_append, List.nil_append, allB, List.take_succ_cons, List.take_zero, List.length_cons, List.length_nil, Nat.zero_add, Nat.reduceAdd, resB, resL', RSh.l, RC.vd, List.flatMap_cons, List.flatMap_nil, List.append_nil, List.replicate, rch, ev, cArr, cLostR]
  refine ⟨hp, fun a a0 a1 b b0 b1 hab => ?_⟩
  have hab := List.cons.inj hab
  have h1 := hab.1
  have h2 := (List.cons.inj hab.2).1
  simp only [DV.n.injEq] at h1 h2
  subst h1 h2
  have x1 := lo_bd hp.1.fit hp.2
  have x2 := hi_bd hp.1.fit hp.2
  have x3 := hp.2.2
  rw [wI (show -9223372036854775808 ≤ v - loF ⟨el, eh, n0, d0, n1, d1⟩ v by omega) (by omega), wI (show -9223372036854775808 ≤ v - hiF ⟨el, eh, n0, d0, n1, d1⟩ v by omega) (by omega)]
  refine ⟨fun k => ⟨fun _ => ?_, fun m => m ⟨by omega, by omega⟩⟩, fun k => ⟨fun _ => ?_, fun m => m ⟨by omega, by omega⟩⟩⟩
  · rw [show decide (q ≠ 0) = true from decide_eq_true k, wayT]; rfl
  · rw [show decide (q ≠ 0) = false from decide_eq_false k, wayN]; rfl
theorem cNeedW_ok (N : Nat) (w0 : World) : ConOk Tryd.prog tb N w0 (cNeed 23 false) := by
  refine con_of_walk (tb := tb) fine (C := [cCheck, cWorst, lLst false 0 14]) (conCons cCheck_ok (conCons cWorst_ok (lopCons rfl noCon))) 80 rfl ?_ N w0
  refine fun nm _ u _ _ dl _ _ cp _ _ bk _ _ si _ _ el _ _ eh _ _ n0 _ _ d0 _ _ n1 _ _ d1 _ _ v _ _ _ => ?_
  rw [tree_needW]
  simp only [T.res, B.prop, E.den, E.dat, E.top, E.val, E.isD, DV.canon, DV.int, List.getElem?_cons_zero, List.getElem?_cons_succ, List.getD_cons_zero, List.getD_cons_succ, List.getD_nil, List.map_cons, List.map_nil, List.cons_append, List.nil_append, allB, List.take_succ_cons, List.take_zero, List.length_cons, List.length_nil, Nat.zero_add, Nat.reduceAdd, resB, resL', RSh.l, RC.vd, List.flatMap_cons, List.flatMap_nil, List.append_nil, List.replicate, rch, ev, cCheck, cWorst, lLst, cNeed]
  refine ⟨trivial, fun e _ _ he => ?_⟩
  rcases check_in he with ⟨bad, rfl⟩ | ⟨ok, arg, rfl⟩ | ⟨ok, lit, rfl⟩
  · exact ⟨fun _ => need_bad bad, fun k => absurd (by decide) k⟩
  · exact ⟨fun _ => need_arg ok arg, fun k => absurd (by decide) k⟩
  · refine ⟨fun k => absurd rfl k, fun _ => ⟨⟨by omega, fun x h0 h1 => by omega, fun x h0 h1 => by omega⟩, fun lo l0 l1 hi h0 h1 look => ⟨fun hlt => ?_, fun hge => ?_⟩⟩⟩
    · obtain ⟨e1, e2⟩ := half_bd l0 hlt h1
      rw [e1]
      refine ⟨⟨ok, e2⟩, fun x x0 x1 hx => ?_⟩
      have hx := n_inj hx
      rw [← wayN] at hx
      obtain ⟨u1, u2⟩ := look_up ok.fit false look l0 h1 hlt
      refine ⟨fun k => ⟨u1 (by omega), by omega⟩, fun k => ⟨u2 (by omega), by omega⟩⟩
    · have ls := look_lst look l0 l1 hge
      rw [Int.add_zero] at ls
      exact ⟨fun k => need_no ok lit ls k, fun k => need_yes ok lit ls (by omega)⟩
theorem cNeedB_ok (N : Nat) (w0 : World) : ConOk Tryd.prog tb N w0 (cNeed 25 true) := by
  refine con_of_walk (tb := tb) fine (C := [cCheck, cBest, lLst true 0 14]) (conCons cCheck_ok (conCons cBest_ok (lopCons rfl noCon))) 80 rfl ?_ N w0
  refine fun nm _ u _ _ dl _ _ cp _ _ bk _ _ si _ _ el _ _ eh _ _ n0 _ _ d0 _ _ n1 _ _ d1 _ _ v _ _ _ => ?_
  rw [tree_needB]
  simp only [T.res, B.prop, E.den, E.dat, E.top, E.val, E.isD, DV.canon, DV.int, List.getElem?_cons_zero, List.getElem?_cons_succ, List.getD_cons_zero, List.getD_cons_succ, List.getD_nil, List.map_cons, List.map_nil, List.cons_append, List.nil_append, allB, List.take_succ_cons, List.take_zero, List.length_cons, List.length_nil, Nat.zero_add, Nat.reduceAdd, resB, resL', RSh.l, RC.vd, List.flatMap_cons, List.flatMap_nil, List.append_nil, List.replicate, rch, ev, cCheck, cBest, lLst, cNeed]
  refine ⟨trivial, fun e _ _ he => ?_⟩
  rcases check_in he with ⟨bad, rfl⟩ | ⟨ok, arg, rfl⟩ | ⟨ok, lit, rfl⟩
  · exact ⟨fun _ => need_bad bad, fun k => absurd (by decide) k⟩
  · exact ⟨fun _ => need_arg ok arg, fun k => absurd (by decide) k⟩
  · refine ⟨fun k => absurd rfl k, fun _ => ⟨⟨by omega, fun x h0 h1 => by omega, fun x h0 h1 => by omega⟩, fun lo l0 l1 hi h0 h1 look => ⟨fun hlt => ?_, fun hge => ?_⟩⟩⟩
    · obtain ⟨e1, e2⟩ := half_bd l0 hlt h1
      rw [e1]
      refine ⟨⟨ok, e2⟩, fun x x0 x1 hx => ?_⟩
      have hx := n_inj hx
      rw [← wayT] at hx
      obtain ⟨u1, u2⟩ := look_up ok.fit true look l0 h1 hlt
      refine ⟨fun k => ⟨u1 (by omega), by omega⟩, fun k => ⟨u2 (by omega), by omega⟩⟩
    · have ls := look_lst look l0 l1 hge
      rw [Int.add_zero] at ls
      exact ⟨fun k => need_no ok lit ls k, fun k => need_yes ok lit ls (by omega)⟩
theorem cMost_ok (N : Nat) (w0 : World) : ConOk Tryd.prog tb N w0 (cMost 27) := by
  refine con_of_walk (tb := tb) fine (C := [cCheck, cWorst, lLst false 1 14]) (conCons cCheck_ok (conCons cWorst_ok (lopCons rfl noCon))) 80 rfl ?_ N w0
  refine fun nm _ u _ _ dl _ _ cp _ _ bk _ _ si _ _ el _ _ eh _ _ n0 _ _ d0 _ _ n1 _ _ d1 _ _ v _ _ _ => ?_
  rw [tree_most]
  simp only [T.res, B.prop, E.den, E.dat, E.top, E.val, E.isD, DV.canon, DV.int, List.getElem?_cons_zero, List.getElem?_cons_succ, List.getD_cons_zero, List.getD_cons_succ, List.getD_nil, List.map_cons, List.map_nil, List.cons_append, List.nil_append, allB, List.take_succ_cons, List.take_zero, List.length_cons, List.length_nil, Nat.zero_add, Nat.reduceAdd, resB, resL', RSh.l, RC.vd, List.flatMap_cons, List.flatMap_nil, List.append_nil, List.replicate, rch, ev, cCheck, cWorst, lLst, cMost]
  refine ⟨trivial, fun e _ _ he => ?_⟩
  rcases check_in he with ⟨bad, rfl⟩ | ⟨ok, arg, rfl⟩ | ⟨ok, lit, rfl⟩
  · exact ⟨fun _ => most_bad bad, fun k => absurd (by decide) k⟩
  · exact ⟨fun _ => most_arg ok arg, fun k => absurd (by decide) k⟩
  · refine ⟨fun k => absurd rfl k, fun _ => ⟨⟨by omega, fun x h0 h1 => by omega, fun x h0 h1 => by omega⟩, fun lo l0 l1 hi h0 h1 look => ⟨fun hlt => ?_, fun hge => ?_⟩⟩⟩
    · obtain ⟨e1, e2⟩ := half_bd l0 hlt h1
      rw [e1]
      refine ⟨⟨ok, e2⟩, fun x x0 x1 hx => ?_⟩
      have hx := n_inj hx
      rw [← wayN] at hx
      obtain ⟨u1, u2⟩ := look_up ok.fit false look l0 h1 hlt
      refine ⟨fun k => ⟨u1 (by omega), by omega⟩, fun k => ⟨u2 (by omega), by omega⟩⟩
    · have ls := look_lst look l0 l1 hge
      have := lst_pos ok.fit ls (by have := lit.1; omega)
      exact ⟨fun k => most_ok ok lit ls, fun k => k ⟨by omega, by omega⟩⟩
end Go.Proofs.YtnleeohiomcieaaDoor
