/- DERIVED. What losses and its reference return keeps its contracts. -/
import Derived.Test.YtnleeohiomcieaaDoorDctb
namespace Go.Proofs.YtnleeohiomcieaaDoor
open Go.Dx
set_option linter.unusedVariables false
set_option linter.unusedSimpArgs false
theorem lost_in {r : Rch} {v x y z : Int} (h : LostP r v [.n x, .n y, .n z]) : (¬ OkR r ∧ x = 0 ∧ y = 0 ∧ z = 210) ∨ (OkR r ∧ ¬ Lit v ∧ x = 0 ∧ y = 0 ∧ z = 1) ∨ (OkR r ∧ Lit v ∧ x = loF r v ∧ y = hiF r v ∧ z = 0) := by
  by_cases k : OkR r
  · by_cases l : Lit v
    · have := h.2.2 k l; simp only [List.cons.injEq, DV.n.injEq, and_true] at this; exact .inr (.inr ⟨k, l, this⟩)
    · have := h.2.1 k l; simp only [List.cons.injEq, DV.n.injEq, and_true] at this; exact .inr (.inl ⟨k, l, this⟩)
  · have := h.1 k; simp only [List.cons.injEq, DV.n.injEq, and_true] at this; exact .inl ⟨k, this⟩
theorem cLst_ok (N : Nat) (w0 : World) : ConOk Tryd.prog tb N w0 cLst := by
  refine con_of_walk (tb := tb) fine (C := [cArr, lLstR]) (conCons cArr_ok (lopCons rfl noCon)) 80 rfl ?_ N w0
  refine fun nm _ u _ _ dl _ _ cp _ _ bk _ _ si _ _ el _ _ eh _ _ n0 _ _ d0 _ _ n1 _ _ d1 _ _ v _ _ q q0 q1 hp => ?_
  have hp : OkR ⟨el, eh, n0, d0, n1, d1⟩ ∧ 0 ≤ v ∧ v ≤ 1073741825 := hp
  rw [tree_lst]
  simp only [T.res, B.prop, E.den, E.dat, E.top, E.val, E.isD, DV.canon, DV.int, List.getElem?_cons_zero, List.getElem?_cons_succ, List.getD_cons_zero, List.getD_cons_succ, List.getD_nil, List.map_cons, List.map_nil, List.cons_append, List.nil_append, allB, List.take_succ_cons, List.take_zero, List.length_cons, List.length_nil, Nat.zero_add, Nat.reduceAdd, resB, resL', RSh.l, RC.vd, List.flatMap_cons, List.flatMap_nil, List.append_nil, List.replicate, rch, ev, cLst, cArr, lLstR]
  have fit := hp.1.fit
  generalize hq : decide (q ≠ 0) = b
  have hM : Lit 1073741824 := ⟨by omega, by omega⟩
  refine ⟨⟨hp.1, hM⟩, fun x x0 x1 hx => ?_⟩
  have hx := n_inj hx
  refine ⟨fun hlt => ?_, fun hge => ?_⟩
  · refine ⟨1073741825, ⟨by omega, by omega, fun v' h0 h1 => ?_, fun v' h0 h1 => by omega⟩, fun k => absurd k (by decide), fun _ => trivial⟩
    have := way_mono fit b h0 (show v' ≤ 1073741824 by omega)
    omega
  · refine ⟨⟨by omega, fun x' h0 h1 => by omega, fun x' h0 h1 => ?_⟩, fun lo l0 l1 hi h0 h1 look => ⟨fun hlt => ?_, fun he => ?_⟩⟩
    · obtain rfl : x' = 1073741824 := by omega
      omega
    · obtain ⟨e1, e2⟩ := half_bd l0 hlt (by omega)
      rw [e1]
      refine ⟨⟨hp.1, e2⟩, fun y y0 y1 hy => ?_⟩
      have hy := n_inj hy
      obtain ⟨u1, u2⟩ := look_up fit b look l0 (by omega) hlt
      exact ⟨fun k => ⟨u1 (by omega), by omega⟩, fun k => ⟨u2 (by omega), by omega⟩⟩
    · exact ⟨lo, look_lst look l0 (by omega) he, fun _ => rfl, fun k => by omega⟩
theorem cLostX_ok (N : Nat) (w0 : World) : ConOk Tryd.prog tb N w0 (cLostX 17) := by
  refine con_of_walk (tb := tb) fine (C := [cCheck, cLost]) (conCons cCheck_ok (conCons cLost_ok noCon)) 80 rfl ?_ N w0
  refine fun nm _ u _ _ dl _ _ cp _ _ bk _ _ si _ _ el _ _ eh _ _ n0 _ _ d0 _ _ n1 _ _ d1 _ _ v _ _ _ => ?_
  rw [tree_lostX]
  simp only [T.res, B.prop, E.den, E.dat, E.top, E.val, E.isD, DV.canon, DV.int, List.getElem?_cons_zero, List.getElem?_cons_succ, List.getD_cons_zero, List.getD_cons_succ, List.getD_nil, List.map_cons, List.map_nil, List.cons_append, List.nil_append, allB, List.take_succ_cons, List.take_zero, List.length_cons, List.length_nil, Nat.zero_add, Nat.reduceAdd, resB, resL', RSh.l, RC.vd, List.flatMap_cons, List.flatMap_nil, List.append_nil, List.replicate, rch, ev, cCheck, cLost, cLostX]
  refine ⟨trivial, fun e _ _ he => ?_⟩
  rcases check_in he with ⟨bad, rfl⟩ | ⟨ok, arg, rfl⟩ | ⟨ok, lit, rfl⟩
  · exact ⟨fun _ => lost_bad bad, fun k => absurd (by decide) k⟩
  · exact ⟨fun _ => lost_arg ok arg, fun k => absurd (by decide) k⟩
  · refine ⟨fun k => absurd rfl k, fun _ => ⟨⟨ok, lit⟩, ?_⟩⟩
    intro a _ _ b _ _ hab
    simp only [List.cons.injEq, DV.n.injEq, and_true] at hab
    obtain ⟨rfl, rfl⟩ := hab
    exact lost_ok ok lit
theorem cWorstX_ok (N : Nat) (w0 : World) : ConOk Tryd.prog tb N w0 (cWayX 19 false) := by
  refine con_of_walk (tb := tb) fine (C := [cCheck, cWorst]) (conCons cCheck_ok (conCons cWorst_ok noCon)) 80 rfl ?_ N w0
  refine fun nm _ u _ _ dl _ _ cp _ _ bk _ _ si _ _ el _ _ eh _ _ n0 _ _ d0 _ _ n1 _ _ d1 _ _ v _ _ _ => ?_
  rw [tree_worstX]
  simp only [T.res, B.prop, E.den, E.dat, E.top, E.val, E.isD, DV.canon, DV.int, List.getElem?_cons_zero, List.getElem?_cons_succ, List.getD_cons_zero, List.getD_cons_succ, List.getD_nil, List.map_cons, List.map_nil, List.cons_append, List.nil_append, allB, List.take_succ_cons, List.take_zero, List.length_cons, List.length_nil, Nat.zero_add, Nat.reduceAdd, resB, resL', RSh.l, RC.vd, List.flatMap_cons, List.flatMap_nil, List.append_nil, List.replicate, rch, ev, cCheck, cWorst, cWayX]
  refine ⟨trivial, fun e _ _ he => ?_⟩
  rcases check_in he with ⟨bad, rfl⟩ | ⟨ok, arg, rfl⟩ | ⟨ok, lit, rfl⟩
  · exact ⟨fun _ => way_bad bad, fun k => absurd (by decide) k⟩
  · exact ⟨fun _ => way_arg ok arg, fun k => absurd (by decide) k⟩
  · refine ⟨fun k => absurd rfl k, fun _ => ⟨⟨ok, lit⟩, ?_⟩⟩
    intro a _ _ hab
    obtain rfl := n_inj hab
    exact way_ok ok lit
theorem cBestX_ok (N : Nat) (w0 : World) : ConOk Tryd.prog tb N w0 (cWayX 21 true) := by
  refine con_of_walk (tb := tb) fine (C := [cCheck, cBest]) (conCons cCheck_ok (conCons cBest_ok noCon)) 80 rfl ?_ N w0
  refine fun nm _ u _ _ dl _ _ cp _ _ bk _ _ si _ _ el _ _ eh _ _ n0 _ _ d0 _ _ n1 _ _ d1 _ _ v _ _ _ => ?_
  rw [tree_bestX]
  simp only [T.res, B.prop, E.den, E.dat, E.top, E.val, E.isD, DV.canon, DV.int, List.getElem?_cons_zero, List.getElem?_cons_succ, List.getD_cons_zero, List.getD_cons_succ, List.getD_nil, List.map_cons, List.map_nil, List.cons_append, List.nil_append, allB, List.take_succ_cons, List.take_zero, List.length_cons, List.length_nil, Nat.zero_add, Nat.reduceAdd, resB, resL', RSh.l, RC.vd, List.flatMap_cons, List.flatMap_nil, List.append_nil, List.replicate, rch, ev, cCheck, cBest, cWayX]
  refine ⟨trivial, fun e _ _ he => ?_⟩
  rcases check_in he with ⟨bad, rfl⟩ | ⟨ok, arg, rfl⟩ | ⟨ok, lit, rfl⟩
  · exact ⟨fun _ => way_bad bad, fun k => absurd (by decide) k⟩
  · exact ⟨fun _ => way_arg ok arg, fun k => absurd (by decide) k⟩
  · refine ⟨fun k => absurd rfl k, fun _ => ⟨⟨ok, lit⟩, ?_⟩⟩
    intro a _ _ hab
    obtain rfl := n_inj hab
    exact way_ok ok lit
theorem cLostXR_ok (N : Nat) (w0 : World) : ConOk Tryd.prog tb N w0 (cLostX 18) := by
  refine con_of_walk (tb := tb) fine (C := [cShrR, cLostR]) (conCons cShrR_ok (conCons cLostR_ok noCon)) 80 rfl ?_ N w0
  refine fun nm _ u _ _ dl _ _ cp _ _ bk _ _ si _ _ el _ _ eh _ _ n0 _ _ d0 _ _ n1 _ _ d1 _ _ v _ _ _ => ?_
  rw [tree_lostXR]
  simp only [T.res, B.prop, E.den, E.dat, E.top, E.val, E.isD, DV.canon, DV.int, List.getElem?_cons_zero, List.getElem?_cons_succ, List.getD_cons_zero, List.getD_cons_succ, List.getD_nil, List.map_cons, List.map_nil, List.cons_append, List.nil_append, allB, List.take_succ_cons, List.take_zero, List.length_cons, List.length_nil, Nat.zero_add, Nat.reduceAdd, resB, resL', RSh.l, RC.vd, List.flatMap_cons, List.flatMap_nil, List.append_nil, List.replicate, rch, ev, cShrR, cLostR, cLostX]
  refine ⟨fun h => ⟨trivial, fun x _ _ hx => ?_⟩, fun h => lost_bad fun q => h ⟨⟨q.1.1, q.1.2.1⟩, q.1.2.2⟩⟩
  rcases val_in hx with ⟨e, rfl⟩ | ⟨e, rfl⟩
  · have ok : OkR ⟨el, eh, n0, d0, n1, d1⟩ := ⟨⟨h.1.1, h.1.2, h.2⟩, e⟩
    refine ⟨fun k => absurd k (by decide), fun _ => ⟨fun k => lost_arg ok fun q => by unfold Lit at q; omega, fun k => ?_⟩⟩
    have lit : Lit v := ⟨by omega, by omega⟩
    refine ⟨⟨ok, lit⟩, fun a _ _ b _ _ hab => ?_⟩
    simp only [List.cons.injEq, DV.n.injEq, and_true] at hab
    obtain ⟨rfl, rfl⟩ := hab
    exact lost_ok ok lit
  · exact ⟨fun _ => lost_bad fun q => e q.2, fun k => absurd rfl k⟩
theorem cWorstXR_ok (N : Nat) (w0 : World) : ConOk Tryd.prog tb N w0 (cWayX 20 false) := by
  refine con_of_walk (tb := tb) fine (C := [(cLostX 18)]) (conCons cLostXR_ok noCon) 80 rfl ?_ N w0
  refine fun nm _ u _ _ dl _ _ cp _ _ bk _ _ si _ _ el _ _ eh _ _ n0 _ _ d0 _ _ n1 _ _ d1 _ _ v _ _ _ => ?_
  rw [tree_worstXR]
  simp only [T.res, B.prop, E.den, E.dat, E.top, E.val, E.isD, DV.canon, DV.int, List.getElem?_cons_zero, List.getElem?_cons_succ, List.getD_cons_zero, List.getD_cons_succ, List.getD_nil, List.map_cons, List.map_nil, List.cons_append, List.nil_append, allB, List.take_succ_cons, List.take_zero, List.length_cons, List.length_nil, Nat.zero_add, Nat.reduceAdd, resB, resL', RSh.l, RC.vd, List.flatMap_cons, List.flatMap_nil, List.append_nil, List.replicate, rch, ev, cLostX, cWayX]
  refine ⟨trivial, fun a _ _ b _ _ c _ _ hab => ?_⟩
  rcases lost_in hab with ⟨bad, rfl, rfl, rfl⟩ | ⟨ok, arg, rfl, rfl, rfl⟩ | ⟨ok, lit, rfl, rfl, rfl⟩
  · exact ⟨fun _ => way_bad bad, fun k => absurd (by decide) k⟩
  · exact ⟨fun _ => way_arg ok arg, fun k => absurd (by decide) k⟩
  · have x1 := lo_bd ok.fit lit
    have x2 := hi_bd ok.fit lit
    have x3 := lit.2
    refine ⟨fun k => absurd rfl k, fun _ => ?_⟩
    rw [wI (by omega) (by omega)]
    exact ⟨fun _ => way_ok ok lit, fun k => k ⟨by omega, by omega⟩⟩
theorem cBestXR_ok (N : Nat) (w0 : World) : ConOk Tryd.prog tb N w0 (cWayX 22 true) := by
  refine con_of_walk (tb := tb) fine (C := [(cLostX 18)]) (conCons cLostXR_ok noCon) 80 rfl ?_ N w0
  refine fun nm _ u _ _ dl _ _ cp _ _ bk _ _ si _ _ el _ _ eh _ _ n0 _ _ d0 _ _ n1 _ _ d1 _ _ v _ _ _ => ?_
  rw [tree_bestXR]
  simp only [T.res, B.prop, E.den, E.dat, E.top, E.val, E.isD, DV.canon, DV.int, List.getElem?_cons_zero, List.getElem?_cons_succ, List.getD_cons_zero, List.getD_cons_succ, List.getD_nil, List.map_cons, List.map_nil, List.cons_append, List.nil_append, allB, List.take_succ_cons, List.take_zero, List.length_cons, List.length_nil, Nat.zero_add, Nat.reduceAdd, resB, resL', RSh.l, RC.vd, List.flatMap_cons, List.flatMap_nil, List.append_nil, List.replicate, rch, ev, cLostX, cWayX]
  refine ⟨trivial, fun a _ _ b _ _ c _ _ hab => ?_⟩
  rcases lost_in hab with ⟨bad, rfl, rfl, rfl⟩ | ⟨ok, arg, rfl, rfl, rfl⟩ | ⟨ok, lit, rfl, rfl, rfl⟩
  · exact ⟨fun _ => way_bad bad, fun k => absurd (by decide) k⟩
  · exact ⟨fun _ => way_arg ok arg, fun k => absurd (by decide) k⟩
  · have x1 := lo_bd ok.fit lit
    have x2 := hi_bd ok.fit lit
    have x3 := lit.2
    refine ⟨fun k => absurd rfl k, fun _ => ?_⟩
    rw [wI (by omega) (by omega)]
    exact ⟨fun _ => way_ok ok lit, fun k => k ⟨by omega, by omega⟩⟩
theorem cNeedWR_ok (N : Nat) (w0 : World) : ConOk Tryd.prog tb N w0 (cNeed 24 false) := by
  refine con_of_walk (tb := tb) fine (C := [cShrR, cLst]) (conCons cShrR_ok (conCons cLst_ok noCon)) 80 rfl ?_ N w0
  refine fun nm _ u _ _ dl _ _ cp _ _ bk _ _ si _ _ el _ _ eh _ _ n0 _ _ d0 _ _ n1 _ _ d1 _ _ v _ _ _ => ?_
  rw [tree_needWR]
  simp only [T.res, B.prop, E.den, E.dat, E.top, E.val, E.isD, DV.canon, DV.int, List.getElem?_cons_zero, List.getElem?_cons_succ, List.getD_cons_zero, List.getD_cons_succ, List.getD_nil, List.map_cons, List.map_nil, List.cons_append, List.nil_append, allB, List.take_succ_cons, List.take_zero, List.length_cons, List.length_nil, Nat.zero_add, Nat.reduceAdd, resB, resL', RSh.l, RC.vd, List.flatMap_cons, List.flatMap_nil, List.append_nil, List.replicate, rch, ev, cShrR, cLst, cNeed, ne_eq, not_true_eq_false, decide_false]
  refine ⟨fun h => ⟨trivial, fun x _ _ hx => ?_⟩, fun h => need_bad fun q => h ⟨⟨q.1.1, q.1.2.1⟩, q.1.2.2⟩⟩
  rcases val_in hx with ⟨e, rfl⟩ | ⟨e, rfl⟩
  · have ok : OkR ⟨el, eh, n0, d0, n1, d1⟩ := ⟨⟨h.1.1, h.1.2, h.2⟩, e⟩
    refine ⟨fun k => absurd k (by decide), fun _ => ⟨fun k => need_arg ok fun q => by unfold Lit at q; omega, fun k => ?_⟩⟩
    have lit : Lit v := ⟨by omega, by omega⟩
    have l1 := lit.1
    have l2 := lit.2
    refine ⟨⟨ok, by omega, by omega⟩, fun a a0 a1 ⟨L, ls, y1, y2⟩ => ?_⟩
    have lb := ls.1
    by_cases hL : L ≤ 1073741824
    · obtain rfl := n_inj (y1 hL)
      exact ⟨fun k => by omega, fun _ => need_yes ok lit ls hL⟩
    · obtain rfl := n_inj (y2 (by omega))
      exact ⟨fun _ => need_no ok lit ls (by omega), fun k => by omega⟩
  · exact ⟨fun _ => need_bad fun q => e q.2, fun k => absurd rfl k⟩
theorem cNeedBR_ok (N : Nat) (w0 : World) : ConOk Tryd.prog tb N w0 (cNeed 26 true) := by
  refine con_of_walk (tb := tb) fine (C := [cShrR, cLst]) (conCons cShrR_ok (conCons cLst_ok noCon)) 80 rfl ?_ N w0
  refine fun nm _ u _ _ dl _ _ cp _ _ bk _ _ si _ _ el _ _ eh _ _ n0 _ _ d0 _ _ n1 _ _ d1 _ _ v _ _ _ => ?_
  rw [tree_needBR]
  simp only [T.res, B.prop, E.den, E.dat, E.top, E.val, E.isD, DV.canon, DV.int, List.getElem?_cons_zero, List.getElem?_cons_succ, List.getD_cons_zero, List.getD_cons_succ, List.getD_nil, List.map_cons, List.map_nil, List.cons_append, List.nil_append, allB, List.take_succ_cons, List.take_zero, List.length_cons, List.length_nil, Nat.zero_add, Nat.reduceAdd, resB, resL', RSh.l, RC.vd, List.flatMap_cons, List.flatMap_nil, List.append_nil, List.replicate, rch, ev, cShrR, cLst, cNeed, ne_eq, Int.one_ne_zero, not_false_eq_true, decide_true]
  refine ⟨fun h => ⟨trivial, fun x _ _ hx => ?_⟩, fun h => need_bad fun q => h ⟨⟨q.1.1, q.1.2.1⟩, q.1.2.2⟩⟩
  rcases val_in hx with ⟨e, rfl⟩ | ⟨e, rfl⟩
  · have ok : OkR ⟨el, eh, n0, d0, n1, d1⟩ := ⟨⟨h.1.1, h.1.2, h.2⟩, e⟩
    refine ⟨fun k => absurd k (by decide), fun _ => ⟨fun k => need_arg ok fun q => by unfold Lit at q; omega, fun k => ?_⟩⟩
    have lit : Lit v := ⟨by omega, by omega⟩
    have l1 := lit.1
    have l2 := lit.2
    refine ⟨⟨ok, by omega, by omega⟩, fun a a0 a1 ⟨L, ls, y1, y2⟩ => ?_⟩
    have lb := ls.1
    by_cases hL : L ≤ 1073741824
    · obtain rfl := n_inj (y1 hL)
      exact ⟨fun k => by omega, fun _ => need_yes ok lit ls hL⟩
    · obtain rfl := n_inj (y2 (by omega))
      exact ⟨fun _ => need_no ok lit ls (by omega), fun k => by omega⟩
  · exact ⟨fun _ => need_bad fun q => e q.2, fun k => absurd rfl k⟩
theorem cMostR_ok (N : Nat) (w0 : World) : ConOk Tryd.prog tb N w0 (cMost 28) := by
  refine con_of_walk (tb := tb) fine (C := [cShrR, cLst]) (conCons cShrR_ok (conCons cLst_ok noCon)) 80 rfl ?_ N w0
  refine fun nm _ u _ _ dl _ _ cp _ _ bk _ _ si _ _ el _ _ eh _ _ n0 _ _ d0 _ _ n1 _ _ d1 _ _ v _ _ _ => ?_
  rw [tree_mostR]
  simp only [T.res, B.prop, E.den, E.dat, E.top, E.val, E.isD, DV.canon, DV.int, List.getElem?_cons_zero, List.getElem?_cons_succ, List.getD_cons_zero, List.getD_cons_succ, List.getD_nil, List.map_cons, List.map_nil, List.cons_append, List.nil_append, allB, List.take_succ_cons, List.take_zero, List.length_cons, List.length_nil, Nat.zero_add, Nat.reduceAdd, resB, resL', RSh.l, RC.vd, List.flatMap_cons, List.flatMap_nil, List.append_nil, List.replicate, rch, ev, cShrR, cLst, cMost, ne_eq, not_true_eq_false, decide_false]
  refine ⟨fun h => ⟨trivial, fun x _ _ hx => ?_⟩, fun h => most_bad fun q => h ⟨⟨q.1.1, q.1.2.1⟩, q.1.2.2⟩⟩
  rcases val_in hx with ⟨e, rfl⟩ | ⟨e, rfl⟩
  · have ok : OkR ⟨el, eh, n0, d0, n1, d1⟩ := ⟨⟨h.1.1, h.1.2, h.2⟩, e⟩
    refine ⟨fun k => absurd k (by decide), fun _ => ⟨fun k => most_arg ok fun q => by unfold Lit at q; omega, fun k => ?_⟩⟩
    have lit : Lit v := ⟨by omega, by omega⟩
    have l1 := lit.1
    have l2 := lit.2
    refine ⟨⟨ok, by omega, by omega⟩, fun a a0 a1 _ => ⟨fun _ => ⟨⟨ok, by omega, by omega⟩, fun b b0 b1 ⟨M, ms, z1, z2⟩ => ?_⟩, fun _ => ⟨⟨ok, by omega, by omega⟩, fun b b0 b1 ⟨M, ms, z1, z2⟩ => ?_⟩⟩⟩
    all_goals
      have lb := lst_pos ok.fit ms (by omega)
      by_cases hL : M ≤ 1073741824
      · obtain rfl := n_inj (z1 hL)
        exact ⟨fun k => by omega, fun _ => ⟨fun _ => most_ok ok lit ms, fun k => k ⟨by omega, by omega⟩⟩⟩
      · obtain rfl := n_inj (z2 (by omega))
        obtain rfl : M = 1073741825 := by have := ms.2.1; omega
        exact ⟨fun _ => most_ok ok lit ms, fun k => by omega⟩
  · exact ⟨fun _ => most_bad fun q => e q.2, fun k => absurd rfl k⟩
end Go.Proofs.YtnleeohiomcieaaDoor
