/- DERIVED. Laws of losses, walked. -/
import Derived.Test.YtnleeohiomcieaaDoorDctc
import Derived.Test.YtnleeohiomcieaaDoorDtreel
namespace Go.Proofs.YtnleeohiomcieaaDoor
open Go.Dx Go.RowKit
set_option linter.unusedVariables false
set_option linter.unusedSimpArgs false
theorem way_in {q : Bool} {r : Rch} {v x z : Int} (h : WayP q r v [.n x, .n z]) : (¬ OkR r ∧ x = 0 ∧ z = 210) ∨ (OkR r ∧ ¬ Lit v ∧ x = 0 ∧ z = 1) ∨ (OkR r ∧ Lit v ∧ x = wayF q r v ∧ z = 0) := by
  by_cases k : OkR r
  · by_cases l : Lit v
    · have := h.2.2 k l; simp only [List.cons.injEq, DV.n.injEq, and_true] at this; exact .inr (.inr ⟨k, l, this⟩)
    · have := h.2.1 k l; simp only [List.cons.injEq, DV.n.injEq, and_true] at this; exact .inr (.inl ⟨k, l, this⟩)
  · have := h.1 k; simp only [List.cons.injEq, DV.n.injEq, and_true] at this; exact .inl ⟨k, this⟩
theorem need_in {q : Bool} {r : Rch} {w n o z : Int} (h : NeedP q r w [.n n, .n o, .n z]) : (¬ OkR r ∧ n = 0 ∧ o = 0 ∧ z = 210) ∨ (OkR r ∧ ¬ Lit w ∧ n = 0 ∧ o = 0 ∧ z = 1) ∨
    (OkR r ∧ Lit w ∧ z = 0 ∧ ∃ L, Lst (wayF q r) w L ∧ ((L ≤ 1073741824 ∧ n = L ∧ o = 1) ∨ (1073741824 < L ∧ n = 0 ∧ o = 0))) := by
  by_cases k : OkR r
  · by_cases l : Lit w
    · obtain ⟨L, ls, a, b⟩ := h.2.2 k l
      by_cases hL : L ≤ 1073741824
      · have := a hL; simp only [List.cons.injEq, DV.n.injEq, and_true] at this
        exact .inr (.inr ⟨k, l, this.2.2, L, ls, .inl ⟨hL, this.1, this.2.1⟩⟩)
      · have := b (by omega); simp only [List.cons.injEq, DV.n.injEq, and_true] at this
        exact .inr (.inr ⟨k, l, this.2.2, L, ls, .inr ⟨by omega, this.1, this.2.1⟩⟩)
    · have := h.2.1 k l; simp only [List.cons.injEq, DV.n.injEq, and_true] at this; exact .inr (.inl ⟨k, l, this⟩)
  · have := h.1 k; simp only [List.cons.injEq, DV.n.injEq, and_true] at this; exact .inl ⟨k, this⟩
theorem most_in {r : Rch} {w x z : Int} (h : MostP r w [.n x, .n z]) : (¬ OkR r ∧ x = 0 ∧ z = 210) ∨ (OkR r ∧ ¬ Lit w ∧ x = 0 ∧ z = 1) ∨ (OkR r ∧ Lit w ∧ z = 0 ∧ ∃ L, Lst (wayF false r) (w + 1) L ∧ x = L - 1) := by
  by_cases k : OkR r
  · by_cases l : Lit w
    · obtain ⟨L, ls, a⟩ := h.2.2 k l
      simp only [List.cons.injEq, DV.n.injEq, and_true] at a
      exact .inr (.inr ⟨k, l, a.2, L, ls, a.1⟩)
    · have := h.2.1 k l; simp only [List.cons.injEq, DV.n.injEq, and_true] at this; exact .inr (.inl ⟨k, l, this⟩)
  · have := h.1 k; simp only [List.cons.injEq, DV.n.injEq, and_true] at this; exact .inl ⟨k, this⟩
theorem lost_one {r : Rch} {v : Int} {x y : List DV} (h : LostP r v x) (k : LostP r v y) : x = y := by
  by_cases a : OkR r
  · by_cases b : Lit v
    · rw [h.2.2 a b, k.2.2 a b]
    · rw [h.2.1 a b, k.2.1 a b]
  · rw [h.1 a, k.1 a]
theorem way_one {q : Bool} {r : Rch} {v : Int} {x y : List DV} (h : WayP q r v x) (k : WayP q r v y) : x = y := by
  by_cases a : OkR r
  · by_cases b : Lit v
    · rw [h.2.2 a b, k.2.2 a b]
    · rw [h.2.1 a b, k.2.1 a b]
  · rw [h.1 a, k.1 a]
theorem need_one {q : Bool} {r : Rch} {v : Int} {x y : List DV} (h : NeedP q r v x) (k : NeedP q r v y) : x = y := by
  by_cases a : OkR r
  · by_cases b : Lit v
    · obtain ⟨L, l1, l2, l3⟩ := h.2.2 a b
      obtain ⟨M, m1, m2, m3⟩ := k.2.2 a b
      obtain rfl := lst_one l1 m1
      by_cases c : L ≤ 1073741824
      · rw [l2 c, m2 c]
      · rw [l3 (by omega), m3 (by omega)]
    · rw [h.2.1 a b, k.2.1 a b]
  · rw [h.1 a, k.1 a]
theorem most_one {r : Rch} {v : Int} {x y : List DV} (h : MostP r v x) (k : MostP r v y) : x = y := by
  by_cases a : OkR r
  · by_cases b : Lit v
    · obtain ⟨L, l1, l2⟩ := h.2.2 a b
      obtain ⟨M, m1, m2⟩ := k.2.2 a b
      obtain rfl := lst_one l1 m1
      rw [l2, m2]
    · rw [h.2.1 a b, k.2.1 a b]
  · rw [h.1 a, k.1 a]
/-- A reach as an argument. -/
def ReachA (w : World) (v : Value) : Prop := ∃ (nm : ByteArray) (u dl cp bk si el eh n0 d0 n1 d1 : Int) (cs : List Value), v = .agg cs.toArray ∧ cellsA w reach [.s nm, .n u, .n dl, .n cp, .n bk, .n si, .n el, .n eh, .n n0, .n d0, .n n1, .n d1] cs
theorem shs_len : ∀ {l : List Sh} {ds : List DV}, HasShs l ds → ds.length = l.length
  | [], [], _ => rfl
  | _ :: l, _ :: ds, h => by simp only [HasShs] at h; simp only [List.length_cons, shs_len h.2]
  | [], _ :: _, h => by simp only [HasShs] at h
  | _ :: _, [], h => by simp only [HasShs] at h
theorem list12 {α : Type} : ∀ {l : List α}, l.length = 12 → ∃ a b c d e f g i j k m n, l = [a, b, c, d, e, f, g, i, j, k, m, n]
  | [a, b, c, d, e, f, g, i, j, k, m, n], _ => ⟨a, b, c, d, e, f, g, i, j, k, m, n, rfl⟩
theorem reach_of {w : World} {ds : List DV} (h : HasShs reach ds) : ReachA w (.agg (rowV reach ds).toArray) := by
  have k := (agg_cellsA (w := w) rfl h).1
  obtain ⟨a, b, c, d, e, f, g, i, j, l, m, n, e⟩ := list12 (shs_len h)
  clear h
  subst e
  simp only [tidies, DV.tidy] at k
  exact ⟨_, _, _, _, _, _, _, _, _, _, _, _, _, rfl, k⟩
def IntA (v : Value) : Prop := ∃ a : Int, v = .int .i64 a ∧ -9223372036854775808 ≤ a ∧ a ≤ 9223372036854775807
theorem cell_int {w : World} {a : Int} (h : -9223372036854775808 ≤ a ∧ a ≤ 9223372036854775807) : cellA w i64s (.n a) (.int .i64 a) :=
  ⟨by simp only [HasSh]; exact ⟨a, rfl, h, by simpa [kmin, IntKind.signed, IntKind.bits] using h.1, by simpa [kmax, IntKind.signed, IntKind.bits] using h.2⟩, rfl⟩
theorem LossesNeed_any (hS : ∀ N w0, ConOk Tryd.prog tb N w0 (lawCon 11 [])) (v0 v1 v2 : Value) (w : World) (hG : Glb tb w) (g0 : ReachA w v0) (g1 : IntA v1) (g2 : IntA v2) :
    Calls Tryd.prog 5 #[v0, v1, v2] w fun e w' => e = .returned (.bool true) ∧ Below w.heap.size w w' := by
  obtain ⟨nm, u, dl, cp, bk, si, el, eh, n0, d0, n1, d1, cs, rfl, hcs⟩ := g0
  obtain ⟨a, rfl, ha⟩ := g1
  obtain ⟨b, rfl, hb⟩ := g2
  refine law_of_walk (tb := tb) (P := Tryd.prog) fine (C := [lawCon 11 [], cWayX 19 false, cNeed 23 false]) (conCons hS (conCons cWorstX_ok (conCons cNeedW_ok noCon))) 80 5 [.agg reach, .c i64s, .c i64s] rfl (w := w) hG (xs := [.s nm, .n u, .n dl, .n cp, .n bk, .n si, .n el, .n eh, .n n0, .n d0, .n n1, .n d1] ++ [.n a, .n b]) ?_ ?_
  · simp only [ArgsV]
    exact ⟨_, [.n a, .n b], cs, rfl, rfl, hcs, cell_int ha, cell_int hb, trivial⟩
  · clear hcs
    rw [tree_lneed]
    simp only [T.res, B.prop, E.den, E.dat, E.top, E.val, E.isD, DV.canon, DV.int, List.getElem?_cons_zero, List.getElem?_cons_succ, List.getD_cons_zero, List.getD_cons_succ, List.getD_nil, List.map_cons, List.map_nil, List.cons_append, List.nil_append, allB, resB, resL', RSh.l, RC.vd, List.flatMap_cons, List.flatMap_nil, List.append_nil, rch, ev, lawCon, cLostX, cWayX, cNeed, cMost]
    generalize hr : (⟨el, eh, n0, d0, n1, d1⟩ : Rch) = r
    clear hr
    refine ⟨trivial, fun z z0 z1 hz => ?_⟩
    obtain rfl := n_inj hz
    refine ⟨fun h => absurd h (by decide), fun _ => ?_⟩
    refine ⟨trivial, fun x x0 x1 e e0 e1 hx => ⟨trivial, fun n n0 n1 o o0 o1 f f0 f1 hn => ?_⟩⟩
    rcases way_in hx with ⟨bad, rfl, rfl⟩ | ⟨ok, arg, rfl, rfl⟩ | ⟨ok, lit, rfl, rfl⟩ <;> rcases need_in hn with ⟨bad', rfl, rfl, rfl⟩ | ⟨ok', arg', rfl, rfl, rfl⟩ | ⟨ok', lit', rfl, L, ls, hL⟩
    all_goals first
      | (exact absurd ok' bad)
      | (exact absurd ok bad')
      | (refine ⟨fun _ => ⟨fun _ => trivial, fun k => absurd ⟨by omega, by omega⟩ k⟩, fun k => absurd (by omega) k⟩)
      | skip
    all_goals rcases hL with ⟨h1, rfl, rfl⟩ | ⟨h1, rfl, rfl⟩
    · have := lst_iff ls lit
      refine ⟨fun k => absurd k (by decide), fun _ => ⟨fun k => absurd k (by decide), fun _ => ⟨fun _ => trivial, fun k => absurd ?_ k⟩⟩⟩
      omega
    · have := lst_iff ls lit
      have := lit.2
      refine ⟨fun k => absurd k (by decide), fun _ => ⟨fun _ => ⟨fun _ => trivial, fun k => absurd ⟨rfl, by omega⟩ k⟩, fun k => absurd rfl k⟩⟩
theorem LossesWays_any (hS : ∀ N w0, ConOk Tryd.prog tb N w0 (lawCon 11 [])) (v0 v1 v2 : Value) (w : World) (hG : Glb tb w) (g0 : ReachA w v0) (g1 : IntA v1) (g2 : IntA v2) :
    Calls Tryd.prog 6 #[v0, v1, v2] w fun e w' => e = .returned (.bool true) ∧ Below w.heap.size w w' := by
  obtain ⟨nm, u, dl, cp, bk, si, el, eh, n0, d0, n1, d1, cs, rfl, hcs⟩ := g0
  obtain ⟨a, rfl, ha⟩ := g1
  obtain ⟨b, rfl, hb⟩ := g2
  refine law_of_walk (tb := tb) (P := Tryd.prog) fine (C := [lawCon 11 [], cWayX 19 false, cWayX 21 true, cNeed 25 true, cMost 27]) (conCons hS (conCons cWorstX_ok (conCons cBestX_ok (conCons cNeedB_ok (conCons cMost_ok noCon))))) 80 6 [.agg reach, .c i64s, .c i64s] rfl (w := w) hG (xs := [.s nm, .n u, .n dl, .n cp, .n bk, .n si, .n el, .n eh, .n n0, .n d0, .n n1, .n d1] ++ [.n a, .n b]) ?_ ?_
  · simp only [ArgsV]
    exact ⟨_, [.n a, .n b], cs, rfl, rfl, hcs, cell_int ha, cell_int hb, trivial⟩
  · clear hcs
    rw [tree_lways]
    simp only [T.res, B.prop, E.den, E.dat, E.top, E.val, E.isD, DV.canon, DV.int, List.getElem?_cons_zero, List.getElem?_cons_succ, List.getD_cons_zero, List.getD_cons_succ, List.getD_nil, List.map_cons, List.map_nil, List.cons_append, List.nil_append, allB, resB, resL', RSh.l, RC.vd, List.flatMap_cons, List.flatMap_nil, List.append_nil, rch, ev, lawCon, cLostX, cWayX, cNeed, cMost]
    generalize hr : (⟨el, eh, n0, d0, n1, d1⟩ : Rch) = r
    clear hr
    refine ⟨trivial, fun z z0 z1 hz => ?_⟩
    obtain rfl := n_inj hz
    refine ⟨fun h => absurd h (by decide), fun _ => ?_⟩
    refine ⟨trivial, fun x x0 x1 e e0 e1 hx => ⟨trivial, fun y y0 y1 f f0 f1 hy => ⟨trivial, fun n n0 n1 o o0 o1 g g0 g1 hn => ⟨trivial, fun m m0 m1 h h0 h1 hm => ?_⟩⟩⟩⟩
    rcases way_in hx with ⟨bad, rfl, rfl⟩ | ⟨ok, arg, rfl, rfl⟩ | ⟨ok, lit, rfl, rfl⟩
    · rcases way_in hy with ⟨_, rfl, rfl⟩ | ⟨ok, _⟩ | ⟨ok, _⟩
      · rcases need_in hn with ⟨_, rfl, rfl, rfl⟩ | ⟨ok, _⟩ | ⟨ok, _⟩
        · rcases most_in hm with ⟨_, rfl, rfl⟩ | ⟨ok, _⟩ | ⟨ok, _⟩
          · exact ⟨fun _ => ⟨fun _ => trivial, fun k => absurd (by omega) k⟩, fun k => absurd (by omega) k⟩
          · exact absurd ok bad
          · exact absurd ok bad
        · exact absurd ok bad
        · exact absurd ok bad
      · exact absurd ok bad
      · exact absurd ok bad
    · rcases way_in hy with ⟨bad, _⟩ | ⟨_, _, rfl, rfl⟩ | ⟨_, lit, _⟩
      · exact absurd ok bad
      · rcases need_in hn with ⟨bad, _⟩ | ⟨_, a2, rfl, rfl, rfl⟩ | ⟨_, lit, rfl, _⟩
        · exact absurd ok bad
        · rcases most_in hm with ⟨bad, _⟩ | ⟨_, _, rfl, rfl⟩ | ⟨_, lit, _⟩
          · exact absurd ok bad
          · exact ⟨fun _ => ⟨fun _ => trivial, fun k => absurd (by omega) k⟩, fun k => absurd (by omega) k⟩
          · exact absurd lit a2
        · rcases most_in hm with ⟨bad, _⟩ | ⟨_, a3, _⟩ | ⟨_, _, rfl, _⟩
          · exact absurd ok bad
          · exact absurd lit a3
          · exact ⟨fun _ => ⟨fun _ => trivial, fun k => absurd (by omega) k⟩, fun k => absurd (by omega) k⟩
      · exact absurd lit arg
    · rcases way_in hy with ⟨bad, _⟩ | ⟨_, arg, _⟩ | ⟨_, _, rfl, rfl⟩
      · exact absurd ok bad
      · exact absurd lit arg
      · rcases need_in hn with ⟨bad, _⟩ | ⟨_, a2, rfl, rfl, rfl⟩ | ⟨_, l2, rfl, L, ls, hL⟩
        · exact absurd ok bad
        · rcases most_in hm with ⟨bad, _⟩ | ⟨_, _, rfl, rfl⟩ | ⟨_, l2, _⟩
          · exact absurd ok bad
          · exact ⟨fun _ => ⟨fun _ => trivial, fun k => absurd (by omega) k⟩, fun k => absurd (by omega) k⟩
          · exact absurd l2 a2
        · rcases most_in hm with ⟨bad, _⟩ | ⟨_, a3, _⟩ | ⟨_, _, rfl, M, ms, rfl⟩
          · exact absurd ok bad
          · exact absurd l2 a3
          · have i1 := lst_iff ls lit
            have i2 := lst_iff ms lit
            have i3 := lit.2
            refine ⟨fun k => absurd k (by decide), fun _ => ⟨fun _ => trivial, fun k => absurd ?_ k⟩⟩
            rcases hL with ⟨h3, rfl, rfl⟩ | ⟨h3, rfl, rfl⟩ <;> omega
theorem LossesMonotone_any (hS : ∀ N w0, ConOk Tryd.prog tb N w0 (lawCon 11 [])) (v0 v1 v2 : Value) (w : World) (hG : Glb tb w) (g0 : ReachA w v0) (g1 : IntA v1) (g2 : IntA v2) :
    Calls Tryd.prog 7 #[v0, v1, v2] w fun e w' => e = .returned (.bool true) ∧ Below w.heap.size w w' := by
  obtain ⟨nm, u, dl, cp, bk, si, el, eh, n0, d0, n1, d1, cs, rfl, hcs⟩ := g0
  obtain ⟨a, rfl, ha⟩ := g1
  obtain ⟨b, rfl, hb⟩ := g2
  refine law_of_walk (tb := tb) (P := Tryd.prog) fine (C := [lawCon 11 [], cWayX 19 false, cWayX 21 true, cLostX 17]) (conCons hS (conCons cWorstX_ok (conCons cBestX_ok (conCons cLostX_ok noCon)))) 80 7 [.agg reach, .c i64s, .c i64s] rfl (w := w) hG (xs := [.s nm, .n u, .n dl, .n cp, .n bk, .n si, .n el, .n eh, .n n0, .n d0, .n n1, .n d1] ++ [.n a, .n b]) ?_ ?_
  · simp only [ArgsV]
    exact ⟨_, [.n a, .n b], cs, rfl, rfl, hcs, cell_int ha, cell_int hb, trivial⟩
  · clear hcs
    rw [tree_lmono]
    simp only [T.res, B.prop, E.den, E.dat, E.top, E.val, E.isD, DV.canon, DV.int, List.getElem?_cons_zero, List.getElem?_cons_succ, List.getD_cons_zero, List.getD_cons_succ, List.getD_nil, List.map_cons, List.map_nil, List.cons_append, List.nil_append, allB, resB, resL', RSh.l, RC.vd, List.flatMap_cons, List.flatMap_nil, List.append_nil, rch, ev, lawCon, cLostX, cWayX, cNeed, cMost]
    generalize hr : (⟨el, eh, n0, d0, n1, d1⟩ : Rch) = r
    clear hr
    refine ⟨trivial, fun z z0 z1 hz => ?_⟩
    obtain rfl := n_inj hz
    refine ⟨fun h => absurd h (by decide), fun _ => ?_⟩
    refine ⟨trivial, fun x x0 x1 e e0 e1 hx => ⟨trivial, fun y y0 y1 f f0 f1 hy => ⟨trivial, fun s s0 s1 g g0 g1 hs => ⟨trivial, fun t t0 t1 h h0 h1 ht => ⟨trivial, fun l l0 l1 m m0 m1 i i0 i1 hl => ?_⟩⟩⟩⟩⟩
    generalize hmin : min a b = lo at *
    generalize hmax : max a b = hi at *
    have hlh : lo ≤ hi := by omega
    rcases way_in hx with ⟨bad, rfl, rfl⟩ | ⟨ok, arg, rfl, rfl⟩ | ⟨ok, lit, rfl, rfl⟩
    · refine ⟨fun _ => ⟨fun _ => trivial, fun k => absurd (by omega) k⟩, fun k => absurd (by omega) k⟩
    · refine ⟨fun _ => ⟨fun _ => trivial, fun k => absurd (by omega) k⟩, fun k => absurd (by omega) k⟩
    · rcases way_in hy with ⟨bad, _⟩ | ⟨_, arg, rfl, rfl⟩ | ⟨_, lit2, rfl, rfl⟩
      · exact absurd ok bad
      · refine ⟨fun _ => ⟨fun _ => trivial, fun k => absurd (by omega) k⟩, fun k => absurd (by omega) k⟩
      · rcases way_in hs with ⟨bad, _⟩ | ⟨_, arg, _⟩ | ⟨_, _, rfl, rfl⟩
        · exact absurd ok bad
        · exact absurd lit arg
        · rcases way_in ht with ⟨bad, _⟩ | ⟨_, arg, _⟩ | ⟨_, _, rfl, rfl⟩
          · exact absurd ok bad
          · exact absurd lit2 arg
          · rcases lost_in hl with ⟨bad, _⟩ | ⟨_, arg, _⟩ | ⟨_, _, rfl, rfl, rfl⟩
            · exact absurd ok bad
            · exact absurd lit arg
            · have fit := ok.fit
              have z1 := way_mono fit false lit.1 hlh
              have z2 := way_mono fit true lit.1 hlh
              have z3 := worst_best fit lit
              have z4 := lo_bd fit lit
              have z5 := hi_bd fit lit
              have z6 := lo_hi fit lit
              have z7 := lit.1
              have z8 := lit.2
              have z9 := worst_bd fit lit
              simp only [wayT, wayN] at *
              have u1 : worst r lo = lo - hiF r lo := rfl
              have u2 : best r lo = lo - loF r lo := rfl
              rw [wI (by omega) (by omega), wI (by omega) (by omega)]
              refine ⟨fun k => absurd k (by decide), fun _ => ⟨fun _ => trivial, fun k => absurd ?_ k⟩⟩
              omega
theorem LossesTogether_any (hS : ∀ N w0, ConOk Tryd.prog tb N w0 (lawCon 11 [])) (v0 v1 v2 : Value) (w : World) (hG : Glb tb w) (g0 : ReachA w v0) (g1 : IntA v1) (g2 : IntA v2) :
    Calls Tryd.prog 8 #[v0, v1, v2] w fun e w' => e = .returned (.bool true) ∧ Below w.heap.size w w' := by
  obtain ⟨nm, u, dl, cp, bk, si, el, eh, n0, d0, n1, d1, cs, rfl, hcs⟩ := g0
  obtain ⟨a, rfl, ha⟩ := g1
  obtain ⟨b, rfl, hb⟩ := g2
  refine law_of_walk (tb := tb) (P := Tryd.prog) fine (C := [lawCon 11 [], cWayX 19 false]) (conCons hS (conCons cWorstX_ok noCon)) 80 8 [.agg reach, .c i64s, .c i64s] rfl (w := w) hG (xs := [.s nm, .n u, .n dl, .n cp, .n bk, .n si, .n el, .n eh, .n n0, .n d0, .n n1, .n d1] ++ [.n a, .n b]) ?_ ?_
  · simp only [ArgsV]
    exact ⟨_, [.n a, .n b], cs, rfl, rfl, hcs, cell_int ha, cell_int hb, trivial⟩
  · clear hcs
    rw [tree_ltog]
    simp only [T.res, B.prop, E.den, E.dat, E.top, E.val, E.isD, DV.canon, DV.int, List.getElem?_cons_zero, List.getElem?_cons_succ, List.getD_cons_zero, List.getD_cons_succ, List.getD_nil, List.map_cons, List.map_nil, List.cons_append, List.nil_append, allB, resB, resL', RSh.l, RC.vd, List.flatMap_cons, List.flatMap_nil, List.append_nil, rch, ev, lawCon, cLostX, cWayX, cNeed, cMost]
    generalize hr : (⟨el, eh, n0, d0, n1, d1⟩ : Rch) = r
    clear hr
    refine ⟨trivial, fun z z0 z1 hz => ?_⟩
    obtain rfl := n_inj hz
    refine ⟨fun h => absurd h (by decide), fun _ => ?_⟩
    refine ⟨trivial, fun x x0 x1 e e0 e1 hx => ⟨trivial, fun y y0 y1 f f0 f1 hy => ⟨fun _ => trivial, fun k => ?_⟩⟩⟩
    rcases way_in hx with ⟨bad, rfl, rfl⟩ | ⟨ok, arg, rfl, rfl⟩ | ⟨ok, lit, rfl, rfl⟩
    · exact absurd (by omega) k
    · exact absurd (by omega) k
    · rcases way_in hy with ⟨bad, rfl, rfl⟩ | ⟨_, arg, rfl, rfl⟩ | ⟨_, lit2, rfl, rfl⟩
      · exact absurd (by omega) k
      · exact absurd (by omega) k
      · have z1 := lit.1; have z2 := lit.2; have z3 := lit2.1; have z4 := lit2.2
        rw [wI (by omega) (by omega)] at k ⊢
        refine ⟨trivial, fun s s0 s1 g g0 g1 hs => ?_⟩
        rcases way_in hs with ⟨bad, _⟩ | ⟨_, arg, _⟩ | ⟨_, lit3, rfl, rfl⟩
        · exact absurd ok bad
        · exact absurd ⟨by omega, by omega⟩ arg
        · have := worst_add ok.fit z1 z3 lit3.2
          simp only [wayN]
          exact ⟨fun _ => trivial, fun k => absurd ⟨trivial, this⟩ k⟩
theorem LossesSpec_any (hS : ∀ N w0, ConOk Tryd.prog tb N w0 (lawCon 11 [])) (v0 v1 v2 : Value) (w : World) (hG : Glb tb w) (g0 : ReachA w v0) (g1 : IntA v1) (g2 : IntA v2) :
    Calls Tryd.prog 4 #[v0, v1, v2] w fun e w' => e = .returned (.bool true) ∧ Below w.heap.size w w' := by
  obtain ⟨nm, u, dl, cp, bk, si, el, eh, n0, d0, n1, d1, cs, rfl, hcs⟩ := g0
  obtain ⟨a, rfl, ha⟩ := g1
  obtain ⟨b, rfl, hb⟩ := g2
  refine law_of_walk (tb := tb) (P := Tryd.prog) fine (C := [lawCon 11 [], cLostX 17, cLostX 18, cWayX 19 false, cWayX 20 false, cWayX 21 true, cWayX 22 true, cNeed 23 false, cNeed 24 false, cNeed 25 true, cNeed 26 true, cMost 27, cMost 28]) (conCons hS (conCons cLostX_ok (conCons cLostXR_ok (conCons cWorstX_ok (conCons cWorstXR_ok (conCons cBestX_ok (conCons cBestXR_ok (conCons cNeedW_ok (conCons cNeedWR_ok (conCons cNeedB_ok (conCons cNeedBR_ok (conCons cMost_ok (conCons cMostR_ok noCon))))))))))))) 80 4 [.agg reach, .c i64s, .c i64s] rfl (w := w) hG (xs := [.s nm, .n u, .n dl, .n cp, .n bk, .n si, .n el, .n eh, .n n0, .n d0, .n n1, .n d1] ++ [.n a, .n b]) ?_ ?_
  · simp only [ArgsV]
    exact ⟨_, [.n a, .n b], cs, rfl, rfl, hcs, cell_int ha, cell_int hb, trivial⟩
  · clear hcs
    rw [tree_lspec]
    simp only [T.res, B.prop, E.den, E.dat, E.top, E.val, E.isD, DV.canon, DV.int, List.getElem?_cons_zero, List.getElem?_cons_succ, List.getD_cons_zero, List.getD_cons_succ, List.getD_nil, List.map_cons, List.map_nil, List.cons_append, List.nil_append, allB, resB, resL', RSh.l, RC.vd, List.flatMap_cons, List.flatMap_nil, List.append_nil, rch, ev, lawCon, cLostX, cWayX, cNeed, cMost]
    generalize hr : (⟨el, eh, n0, d0, n1, d1⟩ : Rch) = r
    clear hr
    refine ⟨trivial, fun z z0 z1 hz => ?_⟩
    obtain rfl := n_inj hz
    refine ⟨fun h => absurd h (by decide), fun _ => ?_⟩
    refine ⟨trivial, fun a1 _ _ a2 _ _ a3 _ _ ha => ⟨trivial, fun b1 _ _ b2 _ _ b3 _ _ hb => ?_⟩⟩
    have e := lost_one ha hb
    simp only [List.cons.injEq, DV.n.injEq, and_true] at e
    obtain ⟨rfl, rfl, rfl⟩ := e
    refine ⟨fun k => absurd k (by omega), fun _ => ⟨trivial, fun c1 _ _ c2 _ _ hc => ⟨trivial, fun d1 _ _ d2 _ _ hd => ?_⟩⟩⟩
    have e := way_one hc hd
    simp only [List.cons.injEq, DV.n.injEq, and_true] at e
    obtain ⟨rfl, rfl⟩ := e
    refine ⟨fun k => absurd k (by omega), fun _ => ⟨trivial, fun c1 _ _ c2 _ _ hc => ⟨trivial, fun d1 _ _ d2 _ _ hd => ?_⟩⟩⟩
    have e := way_one hc hd
    simp only [List.cons.injEq, DV.n.injEq, and_true] at e
    obtain ⟨rfl, rfl⟩ := e
    refine ⟨fun k => absurd k (by omega), fun _ => ⟨trivial, fun e1 _ _ e2 _ _ e3 _ _ he => ⟨trivial, fun f1 _ _ f2 _ _ f3 _ _ hf => ?_⟩⟩⟩
    have e := need_one he hf
    simp only [List.cons.injEq, DV.n.injEq, and_true] at e
    obtain ⟨rfl, rfl, rfl⟩ := e
    refine ⟨fun k => absurd k (by omega), fun _ => ⟨trivial, fun e1 _ _ e2 _ _ e3 _ _ he => ⟨trivial, fun f1 _ _ f2 _ _ f3 _ _ hf => ?_⟩⟩⟩
    have e := need_one he hf
    simp only [List.cons.injEq, DV.n.injEq, and_true] at e
    obtain ⟨rfl, rfl, rfl⟩ := e
    refine ⟨fun k => absurd k (by omega), fun _ => ⟨trivial, fun g1 _ _ g2 _ _ hg => ⟨trivial, fun h1 _ _ h2 _ _ hh => ?_⟩⟩⟩
    have e := most_one hg hh
    simp only [List.cons.injEq, DV.n.injEq, and_true] at e
    obtain ⟨rfl, rfl⟩ := e
    exact ⟨fun _ => trivial, fun k => absurd ⟨rfl, rfl⟩ k⟩
end Go.Proofs.YtnleeohiomcieaaDoor
