/- DERIVED. Laws on surveys, walked. -/
import Derived.Test.YtnleeohiomcieaaDoorDcondp
import Derived.OpenShut
namespace Go.Proofs.YtnleeohiomcieaaDoor
open Go.Dx Go.RowKit
set_option linter.unusedVariables false
set_option linter.unusedSimpArgs false
theorem agg_cells {w : World} : ∀ {row : List Sh} {ds : List DV}, HasShs row ds → LaidL w (fun _ => True) row ds → cellsA w row (tidies row ds) (rowV row ds)
  | [], [], _, _ => by simp only [rowV, cellsA, tidies]
  | .int k a b :: l, d :: ds, h, hl => by
    simp only [HasShs] at h
    simp only [LaidL] at hl
    have ih := agg_cells (w := w) h.2 hl.2
    simp only [rowV, cellsA, tidies, DV.tidy]
    refine ⟨⟨?_, rfl⟩, ih⟩
    have := h.1
    simp only [HasSh] at this ⊢
    obtain ⟨i, rfl, h1, h2⟩ := this
    exact ⟨i, rfl, h1, h2⟩
  | .bool :: l, d :: ds, h, hl => by
    simp only [HasShs] at h
    simp only [LaidL] at hl
    have ih := agg_cells (w := w) h.2 hl.2
    simp only [rowV, cellsA, tidies, DV.tidy]
    refine ⟨⟨?_, rfl⟩, ih⟩
    have := h.1
    simp only [HasSh] at this ⊢
    obtain ⟨i, rfl, h1⟩ := this
    exact ⟨i, rfl, h1⟩
  | .str m :: l, d :: ds, h, hl => by
    simp only [HasShs] at h
    simp only [LaidL] at hl
    have ih := agg_cells (w := w) h.2 hl.2
    simp only [rowV, cellsA, tidies, DV.tidy]
    refine ⟨⟨?_, ⟨_, rfl⟩, rfl⟩, ih⟩
    have := h.1
    simp only [HasSh, DV.str] at this ⊢
    exact this
  | .sl m r :: l, d :: ds, h, hl => by
    simp only [HasShs] at h
    simp only [LaidL] at hl
    have ih := agg_cells (w := w) h.2 hl.2
    simp only [rowV, cellsA, tidies, DV.tidy]
    have h1 := h.1
    have h2 := hl.1
    simp only [HasSh] at h1
    simp only [Laid] at h2
    refine ⟨⟨by simp only [HasSh, DV.els]; exact h1, ⟨_, rfl⟩, ?_, h2.1, h2.2⟩, ih⟩
    cases d <;> rfl
  | _ :: _, [], h, _ => by simp [HasShs] at h
  | [], _ :: _, h, _ => by simp [HasShs] at h
theorem list8 {α : Type} : ∀ {l : List α}, l.length = 8 → ∃ a b c d e f g i, l = [a, b, c, d, e, f, g, i]
  | [a, b, c, d, e, f, g, i], _ => ⟨a, b, c, d, e, f, g, i, rfl⟩
theorem list4 {α : Type} : ∀ {l : List α}, l.length = 4 → ∃ a b c d, l = [a, b, c, d]
  | [a, b, c, d], _ => ⟨a, b, c, d, rfl⟩
theorem list2 {α : Type} : ∀ {l : List α}, l.length = 2 → ∃ a b, l = [a, b]
  | [a, b], _ => ⟨a, b, rfl⟩
def SurveyA (w : World) (v : Value) : Prop := ∃ (su so n0 d0 n1 d1 : Int) (pa po : List (List DV)) (cs : List Value), v = .agg cs.toArray ∧ cellsA w survey [.n su, .n so, .n n0, .n d0, .n n1, .n d1, .sl none 0 pa, .sl none 0 po] cs
def PanA (w : World) (v : Value) : Prop := ∃ (a b : Int) (cs : List Value), v = .agg cs.toArray ∧ cellsA w one2 [.n a, .n b] cs
def PondA (w : World) (v : Value) : Prop := ∃ (a b c d : Int) (cs : List Value), v = .agg cs.toArray ∧ cellsA w one4 [.n a, .n b, .n c, .n d] cs
section
variable {H : Type} {enc : TypeId × Value → H} {w : World} {base : Nat} {spare : Nat → Bool} {held : Bool} {r : Reach} {b0 : Nat} {v : Value} {d : DataW H} {p : List MemPlace}
set_option maxRecDepth 100000 in
theorem survey_arg (hv : Value.okWide Tryd.prog w r b0 28 v) (h : DataW.Trod enc Tryd.prog w base spare held 28 v d p) : SurveyA w v := by
  obtain ⟨ds, rfl, hs, hl⟩ := open_agg_arg (P := Tryd.prog) (tb := tb) (f := 20) (row := survey) (by kernel_rfl) Tryd.underlying28 hv h
  have k := agg_cells hs hl
  obtain ⟨a, b, c, d, e, f, g, i, e⟩ := list8 (shs_len hs)
  clear hs hl
  subst e
  simp only [tidies, DV.tidy] at k
  exact ⟨_, _, _, _, _, _, _, _, _, rfl, k⟩
set_option maxRecDepth 100000 in
theorem pan_arg (hv : Value.okWide Tryd.prog w r b0 48 v) (h : DataW.Trod enc Tryd.prog w base spare held 48 v d p) : PanA w v := by
  obtain ⟨ds, rfl, hs, hl⟩ := open_agg_arg (P := Tryd.prog) (tb := tb) (f := 20) (row := one2) (by kernel_rfl) Tryd.underlying48 hv h
  have k := agg_cells hs hl
  obtain ⟨a, b, e⟩ := list2 (shs_len hs)
  clear hs hl
  subst e
  simp only [tidies, DV.tidy] at k
  exact ⟨_, _, _, rfl, k⟩
set_option maxRecDepth 100000 in
theorem pond_arg (hv : Value.okWide Tryd.prog w r b0 50 v) (h : DataW.Trod enc Tryd.prog w base spare held 50 v d p) : PondA w v := by
  obtain ⟨ds, rfl, hs, hl⟩ := open_agg_arg (P := Tryd.prog) (tb := tb) (f := 20) (row := one4) (by kernel_rfl) Tryd.underlying50 hv h
  have k := agg_cells hs hl
  obtain ⟨a, b, c, e, f⟩ := list4 (shs_len hs)
  clear hs hl
  subst f
  simp only [tidies, DV.tidy] at k
  exact ⟨_, _, _, _, _, rfl, k⟩
end
theorem LossesSurveySpec_any (v0 v1 : Value) (w : World) (hG : Glb tb w) (g0 : SurveyA w v0) (g1 : IntA v1) :
    Calls Tryd.prog 3 #[v0, v1] w fun e w' => e = .returned (.bool true) ∧ Below w.heap.size w w' := by
  obtain ⟨su, so, n0, d0, n1, d1, pa, po, cs, rfl, hcs⟩ := g0
  obtain ⟨a, rfl, ha⟩ := g1
  refine law_of_walk (tb := tb) (P := Tryd.prog) fine (C := [lawCon 11 [], cEvap 13, cEvap 14, cSeep 15, cSeep 16]) (conCons cSane_ok (conCons cEvap_ok (conCons cEvapR_ok (conCons cSeep_ok (conCons cSeepR_ok noCon))))) 80 3 [.agg survey, .c i64s] rfl (w := w) hG (xs := [.n su, .n so, .n n0, .n d0, .n n1, .n d1, .sl none 0 pa, .sl none 0 po] ++ [.n a]) ?_ ?_
  · simp only [ArgsV]
    exact ⟨_, [.n a], cs, rfl, rfl, hcs, cell_int ha, trivial⟩
  · clear hcs
    rw [tree_lsv]
    simp only [T.res, B.prop, E.den, E.dat, E.top, E.val, E.isD, DV.canon, DV.int, List.getElem?_cons_zero, List.getElem?_cons_succ, List.getD_cons_zero, List.getD_cons_succ, List.getD_nil, List.map_cons, List.map_nil, List.cons_append, List.nil_append, allB, resB, resL', RSh.l, RC.vd, List.flatMap_cons, List.flatMap_nil, List.append_nil, rch, svy, ev, dv, lawCon, cEvap, cSeep]
    generalize (⟨su, so, n0, d0, n1, d1, .sl none 0 pa, .sl none 0 po⟩ : Svy) = s
    refine ⟨trivial, fun z z0 z1 hz => ?_⟩
    obtain rfl := n_inj hz
    refine ⟨fun h => absurd h (by decide), fun _ => ⟨fun _ => trivial, fun _ => ⟨trivial, fun a1 _ _ a2 _ _ a3 _ _ ha => ⟨trivial, fun b1 _ _ b2 _ _ b3 _ _ hb => ⟨trivial, fun c1 _ _ c2 _ _ c3 _ _ c4 _ _ c5 _ _ hc => ⟨trivial, fun e1 _ _ e2 _ _ e3 _ _ e4 _ _ e5 _ _ he => ?_⟩⟩⟩⟩⟩⟩
    have k := ev_one ha hb
    have l := sp_one hc he
    simp only [List.cons.injEq, DV.n.injEq, and_true] at k l
    obtain ⟨rfl, rfl, rfl⟩ := k
    obtain ⟨rfl, rfl, rfl, rfl, rfl⟩ := l
    exact ⟨fun _ => trivial, fun q => absurd ⟨⟨⟨⟨rfl, rfl⟩, rfl⟩, ⟨rfl, rfl⟩, rfl, rfl⟩, rfl⟩ q⟩
theorem LossesSurveyed_any (v0 v1 v2 : Value) (w : World) (hG : Glb tb w) (g0 : SurveyA w v0) (g1 : IntA v1) (g2 : IntA v2) :
    Calls Tryd.prog 10 #[v0, v1, v2] w fun e w' => e = .returned (.bool true) ∧ Below w.heap.size w w' := by
  obtain ⟨su, so, n0, d0, n1, d1, pa, po, cs, rfl, hcs⟩ := g0
  obtain ⟨a, rfl, ha⟩ := g1
  obtain ⟨v, rfl, hv⟩ := g2
  refine law_of_walk (tb := tb) (P := Tryd.prog) fine (C := [lawCon 11 [], cEvap 13, cSeep 15, cLostX 17, cTimes]) (conCons cSane_ok (conCons cEvap_ok (conCons cSeep_ok (conCons cLostX_ok (conCons cTimes_ok noCon))))) 80 10 [.agg survey, .c i64s, .c i64s] rfl (w := w) hG (xs := [.n su, .n so, .n n0, .n d0, .n n1, .n d1, .sl none 0 pa, .sl none 0 po] ++ [.n a, .n v]) ?_ ?_
  · simp only [ArgsV]
    exact ⟨_, [.n a, .n v], cs, rfl, rfl, hcs, cell_int ha, cell_int hv, trivial⟩
  · clear hcs
    rw [tree_lsd]
    simp only [T.res, B.prop, E.den, E.dat, E.top, E.val, E.isD, DV.canon, DV.int, List.getElem?_cons_zero, List.getElem?_cons_succ, List.getD_cons_zero, List.getD_cons_succ, List.getD_nil, List.map_cons, List.map_nil, List.cons_append, List.nil_append, allB, resB, resL', RSh.l, RC.vd, List.flatMap_cons, List.flatMap_nil, List.append_nil, rch, svy, ev, dv, lawCon, cEvap, cSeep, cLostX, cTimes]
    generalize (⟨su, so, n0, d0, n1, d1, .sl none 0 pa, .sl none 0 po⟩ : Svy) = s
    refine ⟨trivial, fun z z0 z1 hz => ?_⟩
    obtain rfl := n_inj hz
    refine ⟨fun h => absurd h (by decide), fun _ => ⟨fun _ => trivial, fun _ => ⟨trivial, fun a1 _ _ a2 _ _ a3 _ _ ha => ⟨trivial, fun c1 _ _ c2 _ _ c3 _ _ c4 _ _ c5 _ _ hc => ⟨fun _ => trivial, fun hok => ?_⟩⟩⟩⟩⟩
    rcases ev_in ha with e | ⟨hR, hD, rfl, rfl, k1, rfl⟩
    · exact absurd (by omega) hok
    rcases sp_in hc with e | ⟨_, _, k2, rfl, rfl, rfl, rfl, rfl⟩
    · exact absurd (by omega) hok
    have ok := sv_ok hR hD k1 k2
    have b1 := sLs_bd (s := s) hD
    have b2 := sHs_bd hR hD
    obtain ⟨v1, m1, q1, _⟩ := mk_val b1.1 b1.2
    obtain ⟨v2, m2, q2, _⟩ := mk_val b2.1 b2.2
    have x1 := eLs_nn hR hD
    have x2 := eHs_le s a
    refine ⟨trivial, fun l1 _ _ l2 _ _ l3 _ _ hl => ?_⟩
    have fit := ok.fit
    rcases lost_in hl with ⟨bad, _⟩ | ⟨_, arg, rfl, rfl, rfl⟩ | ⟨_, lit, rfl, rfl, rfl⟩
    · exact absurd ok bad
    · exact ⟨fun _ => ⟨fun _ => trivial, fun k => absurd ⟨rfl, by unfold Lit at arg; omega⟩ k⟩, fun k => absurd (by decide) k⟩
    · refine ⟨fun k => absurd rfl k, fun _ => ⟨fun v0 => ⟨fun _ => trivial, fun k => absurd ?_ k⟩, fun _ => ⟨fun _ => ⟨fun _ => ⟨fun _ => ⟨v1, fun t1 _ _ t2 _ _ t3 _ _ ht => ⟨fun _ => ⟨fun _ => ⟨fun _ => ⟨v2, fun u1 _ _ u2 _ _ u3 _ _ hu => ?_⟩, fun k => k lit⟩, fun k => k q2⟩, fun k => k ⟨m2.1, by omega⟩⟩⟩, fun k => k lit⟩, fun k => k q1⟩, fun k => k ⟨m1.1, by omega⟩⟩⟩⟩
      · subst v0
        have := lo_bd fit lit
        have := hi_bd fit lit
        omega
      · simp only [List.cons.injEq, DV.n.injEq, and_true] at ht hu
        obtain ⟨rfl, rfl, rfl⟩ := ht
        obtain ⟨rfl, rfl, rfl⟩ := hu
        have y1 := dn_le lit.1 m1.1 m1.2 q1.1
        have y2 := up_le lit.1 m2.1 m2.2 q2.1
        have y3 := lit.2
        have p1 := mul_nn lit.1 m1.1
        have p2 := mul_nn lit.1 m2.1
        have w1 : IntKind.i64.wrap (eLs s a + (v * mN (sLs s a)).tdiv (mD (sLs s a))) = eLs s a + (v * mN (sLs s a)).tdiv (mD (sLs s a)) := by
          rw [td p1]; exact wI (by omega) (by omega)
        have w2 : IntKind.i64.wrap (eHs s a + (v * mN (sHs s a) + mD (sHs s a) - 1).tdiv (mD (sHs s a))) = eHs s a + (v * mN (sHs s a) + mD (sHs s a) - 1).tdiv (mD (sHs s a)) := by
          rw [td (by omega)]; exact wI (by omega) (by omega)
        rw [w1, w2]
        exact ⟨fun _ => trivial, fun k => absurd ⟨⟨⟨rfl, rfl⟩, rfl⟩, rfl⟩ k⟩
end Go.Proofs.YtnleeohiomcieaaDoor
