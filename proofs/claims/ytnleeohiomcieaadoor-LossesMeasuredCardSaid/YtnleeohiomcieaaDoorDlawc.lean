/- DERIVED. A further pan, a further pond. -/
import Derived.Test.YtnleeohiomcieaaDoorDlawb
import Derived.Test.YtnleeohiomcieaaDoorDtreen
namespace Go.Proofs.YtnleeohiomcieaaDoor
open Go.Dx Go.RowKit
set_option linter.unusedVariables false
set_option linter.unusedSimpArgs false
/-- One more, the others as they were. -/
def Pre (d e : DV) : Prop := (e.len = d.len ∧ d.len = 0) ∨ (e.len = d.len + 1 ∧ ∀ (k : Int) (j : Nat), 0 ≤ k → k < d.len → e.at k j = d.at k j)
theorem pre_app (l : List (List DV)) (r : List DV) (h : (DV.sl none 0 l).len ≤ 15) : Pre (.sl none 0 l) (.sl none 0 (l ++ [r])) := by
  have e1 : (DV.sl none 0 l).len = clampL l.length := rfl
  have e2 : (DV.sl none 0 (l ++ [r])).len = clampL (l.length + 1) := by unfold DV.len DV.els; simp
  unfold Pre
  rw [e1] at h ⊢
  rw [e2]
  by_cases c : l.length ≤ 9223372036854775807
  · rw [clampL_eq c] at h ⊢
    rw [clampL_eq (show l.length + 1 ≤ 9223372036854775807 by omega)]
    refine .inr ⟨by omega, fun k j k0 k1 => ?_⟩
    have : k.toNat < l.length := by omega
    unfold DV.at DV.cell
    simp only [DV.els, List.getD_eq_getElem?_getD, List.getElem?_append_left this]
  · refine .inl ?_
    unfold clampL
    rw [if_neg c, if_neg (by omega)]
    exact ⟨rfl, rfl⟩
theorem evL_con (s : Svy) (p q : DV) (dl : Int) : ∀ n : Nat, (∀ k : Int, 0 ≤ k → k < n → ∀ j, p.at k j = s.pa.at k j) → evL { s with pa := p, po := q } dl n = evL s dl n
  | 0, _ => rfl
  | n + 1, h => by
    simp only [evL]
    rw [evL_con s p q dl n (fun k a b => h k a (by omega)), h n (by omega) (by omega)]
    rfl
theorem evH_con (s : Svy) (p q : DV) (dl : Int) : ∀ n : Nat, (∀ k : Int, 0 ≤ k → k < n → ∀ j, p.at k j = s.pa.at k j) → evH { s with pa := p, po := q } dl n = evH s dl n
  | 0, _ => rfl
  | n + 1, h => by
    simp only [evH]
    rw [evH_con s p q dl n (fun k a b => h k a (by omega)), h n (by omega) (by omega)]
    rfl
theorem spL_con (s : Svy) (p q : DV) (dl : Int) : ∀ n : Nat, (∀ k : Int, 0 ≤ k → k < n → ∀ j, q.at k j = s.po.at k j) → spL { s with pa := p, po := q } dl n = spL s dl n
  | 0, _ => rfl
  | n + 1, h => by
    simp only [spL, pLo]
    rw [spL_con s p q dl n (fun k a b => h k a (by omega)), h n (by omega) (by omega), h n (by omega) (by omega), h n (by omega) (by omega)]
theorem spH_con (s : Svy) (p q : DV) (dl : Int) : ∀ n : Nat, (∀ k : Int, 0 ≤ k → k < n → ∀ j, q.at k j = s.po.at k j) → spH { s with pa := p, po := q } dl n = spH s dl n
  | 0, _ => rfl
  | n + 1, h => by
    simp only [spH, pHi]
    rw [spH_con s p q dl n (fun k a b => h k a (by omega)), h n (by omega) (by omega), h n (by omega) (by omega), h n (by omega) (by omega)]
theorem ev_more {s : Svy} {p q : DV} {dl : Int} (h0 : s.pa.len ≠ 0) (h : Pre s.pa p) : eLs s dl ≤ eLs { s with pa := p, po := q } dl ∧ eHs { s with pa := p, po := q } dl ≤ eHs s dl := by
  rcases h with ⟨_, h⟩ | ⟨h1, h2⟩
  · exact absurd h h0
  · have l0 := len_nn s.pa
    have a : ∀ k : Int, 0 ≤ k → k < s.pa.len.toNat → ∀ j, p.at k j = s.pa.at k j := fun k k0 k1 j => h2 k j k0 (by omega)
    unfold eLs eHs
    simp only
    rw [if_neg h0, if_neg (by omega), if_neg h0, if_neg (by omega), h1, toN_succ l0]
    simp only [evL, evH]
    have u := evL_con s p q dl s.pa.len.toNat a
    have v := evH_con s p q dl s.pa.len.toNat a
    rw [u, v]
    omega
theorem sp_more {s : Svy} {p q : DV} {dl : Int} (h : Pre s.po q) : sLs s dl ≤ sLs { s with pa := p, po := q } dl ∧ sHs { s with pa := p, po := q } dl ≤ sHs s dl := by
  unfold sLs sHs
  simp only
  rcases h with ⟨h1, h⟩ | ⟨h1, h2⟩
  · rw [h1, h]
    exact ⟨Int.le_refl _, Int.le_refl _⟩
  · have l0 := len_nn s.po
    have a : ∀ k : Int, 0 ≤ k → k < s.po.len.toNat → ∀ j, q.at k j = s.po.at k j := fun k k0 k1 j => h2 k j k0 (by omega)
    rw [h1, toN_succ l0]
    simp only [spL, spH]
    have u := spL_con s p q dl s.po.len.toNat a
    have v := spH_con s p q dl s.po.len.toNat a
    rw [u, v]
    omega
theorem cmp_le {a b : Int} (h : a ≤ b) : cmpI a b ≤ 0 := by unfold cmpI; split <;> (try split) <;> omega
theorem ev_leaf {s t : Svy} {dl a b e c d f : Int} (m : eLs s dl ≤ eLs t dl ∧ eHs t dl ≤ eHs s dl) (h : EvapP s dl [.n a, .n b, .n e]) (k : EvapP t dl [.n c, .n d, .n f]) : ¬ ((e = 0 ∧ f = 0) ∧ (c < a ∨ b < d)) := by
  rintro ⟨⟨rfl, rfl⟩, q⟩
  rcases ev_in h with h | ⟨_, _, rfl, rfl, _⟩
  · exact h rfl
  rcases ev_in k with k | ⟨_, _, rfl, rfl, _⟩
  · exact k rfl
  omega
theorem sp_leaf {s t : Svy} {dl a b c d e a' b' c' d' e' : Int} (m : sLs s dl ≤ sLs t dl ∧ sHs t dl ≤ sHs s dl) (h : SeepP s dl [.n a, .n b, .n c, .n d, .n e]) (k : SeepP t dl [.n a', .n b', .n c', .n d', .n e']) (n : ¬ (¬ e = 0 ∨ ¬ e' = 0)) :
    (Val a b ∧ Val c d ∧ Val a' b' ∧ Val c' d') ∧ cmpI (a * b') (a' * b) ≤ 0 ∧ cmpI (c' * d) (c * d') ≤ 0 := by
  rcases sp_in h with h | ⟨r1, y1, _, rfl, rfl, rfl, rfl, _⟩
  · exact absurd (.inl h) n
  rcases sp_in k with k | ⟨r2, y2, _, rfl, rfl, rfl, rfl, _⟩
  · exact absurd (.inr k) n
  have a := sLs_bd (s := s) y1
  have b := sHs_bd r1 y1
  have c := sLs_bd (s := t) y1
  have d := sHs_bd r2 y1
  exact ⟨⟨(mk_val a.1 a.2).1, (mk_val b.1 b.2).1, (mk_val c.1 c.2).1, (mk_val d.1 d.2).1⟩, cmp_le (mk_cross a.1 m.1 c.2), cmp_le (mk_cross d.1 m.2 b.2)⟩
theorem LossesMeasured_any (v0 v1 v2 v3 : Value) (w : World) (hG : Glb tb w) (g0 : SurveyA w v0) (g1 : PanA w v1) (g2 : PondA w v2) (g3 : IntA v3) :
    Calls Tryd.prog 9 #[v0, v1, v2, v3] w fun e w' => e = .returned (.bool true) ∧ Below w.heap.size w w' := by
  obtain ⟨su, so, n0, d0, n1, d1, pa, po, cs, rfl, hcs⟩ := g0
  obtain ⟨p1, p2, ps, rfl, hps⟩ := g1
  obtain ⟨q1, q2, q3, q4, qs, rfl, hqs⟩ := g2
  obtain ⟨a, rfl, ha⟩ := g3
  refine law_of_walk (tb := tb) (P := Tryd.prog) fine (C := [lawCon 11 [], cEvap 13, cSeep 15, cCmp]) (conCons cSane_ok (conCons cEvap_ok (conCons cSeep_ok (conCons cCmp_ok noCon)))) 80 9 [.agg survey, .agg one2, .agg one4, .c i64s] rfl (w := w) hG (xs := [.n su, .n so, .n n0, .n d0, .n n1, .n d1, .sl none 0 pa, .sl none 0 po] ++ ([.n p1, .n p2] ++ ([.n q1, .n q2, .n q3, .n q4] ++ [.n a]))) ?_ ?_
  · simp only [ArgsV]
    exact ⟨_, _, cs, rfl, rfl, hcs, _, _, ps, rfl, rfl, hps, _, [.n a], qs, rfl, rfl, hqs, cell_int ha, trivial⟩
  · clear hcs hps hqs
    rw [tree_lme]
    simp only [T.res, B.prop, E.den, E.dat, E.top, E.val, E.isD, DV.canon, DV.int, DOp.fn, chunk, List.getElem?_cons_zero, List.getElem?_cons_succ, List.getD_cons_zero, List.getD_cons_succ, List.getD_nil, List.map_cons, List.map_nil, List.cons_append, List.nil_append, allB, resB, resL', RSh.l, RC.vd, List.flatMap_cons, List.flatMap_nil, List.append_nil, List.length_cons, List.length_nil, Nat.zero_add, Nat.reduceAdd, List.take_succ_cons, List.take_zero, List.drop_succ_cons, List.drop_zero, DV.els, rch, svy, ev, dv, lawCon, cEvap, cSeep, cCmp]
    refine ⟨trivial, fun z z0 z1 hz => ?_⟩
    obtain rfl := n_inj hz
    refine ⟨fun h => absurd h (by decide), fun _ => ⟨fun _ => trivial, fun hok => ?_⟩⟩
    have o := pre_app po [.n q1, .n q2, .n q3, .n q4] (by omega)
    have m := ev_more (s := ⟨su, so, n0, d0, n1, d1, .sl none 0 pa, .sl none 0 po⟩) (q := .sl none 0 (po ++ [[.n q1, .n q2, .n q3, .n q4]])) (dl := a) (fun e => hok (.inr e)) (pre_app pa [.n p1, .n p2] (by omega))
    have n := sp_more (s := ⟨su, so, n0, d0, n1, d1, .sl none 0 pa, .sl none 0 po⟩) (p := .sl none 0 (pa ++ [[.n p1, .n p2]])) (dl := a) o
    refine ⟨⟨⟨⟨?_, ?_⟩, ?_⟩, ⟨?_, ?_⟩, ?_⟩, ⟨?_, ?_⟩, ?_⟩
    all_goals
      refine ⟨trivial, fun x1 _ _ x2 _ _ e1 _ _ h1 => ⟨trivial, fun x3 _ _ x4 _ _ e2 _ _ h2 => ⟨fun k => absurd k (ev_leaf m h1 h2), fun _ => ⟨trivial, fun y1 _ _ y2 _ _ y3 _ _ y4 _ _ f1 _ _ h3 => ⟨trivial, fun u1 _ _ u2 _ _ u3 _ _ u4 _ _ f2 _ _ h4 => ⟨fun _ => trivial, fun k => ?_⟩⟩⟩⟩⟩⟩
      obtain ⟨⟨v1, v2, v3, v4⟩, c1, c2⟩ := sp_leaf n h3 h4 k
      refine ⟨⟨v1, v3⟩, fun r1 _ _ s1 _ _ g1 => ⟨⟨v4, v2⟩, fun r2 _ _ s2 _ _ g2 => ⟨fun _ => trivial, fun q => absurd ?_ q⟩⟩⟩
      simp only [List.cons.injEq, DV.n.injEq, and_true] at g1 g2
      omega
end Go.Proofs.YtnleeohiomcieaaDoor
