/- DERIVED. DaysDates, walked. -/
import Derived.Test.YtdffnmhpkapbkaaDoorDsane
namespace Go.Proofs.YtdffnmhpkapbkaaDoor
open Go.Dx Go.RowKit
set_option linter.unusedVariables false
set_option linter.unusedSimpArgs false
theorem of_ex {n a b c e : Int} (h : OfP n [.n a, .n b, .n c, .n e]) (k : Day n) : Date a b c ∧ n = nb a b c ∧ e = 0 := by
  obtain ⟨Y, M, D, d, e, q⟩ := h.2 k
  simp only [List.cons.injEq, DV.n.injEq, and_true] at q
  obtain ⟨rfl, rfl, rfl, rfl⟩ := q
  exact ⟨d, e, rfl⟩
theorem nxt {n y m d c1 c2 c3 c4 w we v ve : Int} (hd : Date y m d) (en : n = nb y m d) (n0 : 0 ≤ n) (n1 : n ≤ 73047) (hc : OfP (n + 1) [.n c1, .n c2, .n c3, .n c4]) (hw : WkP n [.n w, .n we]) (hv : WkP (n + 1) [.n v, .n ve]) :
    (c4 = 0 ∧ we = 0 ∧ ve = 0 ∧ v = (IntKind.i64.wrap (w + 1)).tmod 7) ∧ (¬ c3 = 1 → c1 = y ∧ c2 = m ∧ c3 = IntKind.i64.wrap (d + 1)) ∧ (c3 = 1 → m < 12 → c1 = y ∧ c2 = m + 1 ∧ 28 ≤ d) ∧ (c3 = 1 → ¬ m < 12 → c1 = IntKind.i64.wrap (y + 1) ∧ c2 = 1 ∧ d = 31) := by
  obtain ⟨dc, ec, e4⟩ := of_ex hc ⟨by omega, by omega⟩
  have hw := hw.2 ⟨by omega, by omega⟩
  have hv := hv.2 ⟨by omega, by omega⟩
  simp only [List.cons.injEq, DV.n.injEq, and_true] at hw hv
  obtain ⟨f1, f2, f3⟩ := nb_next hd dc (by omega)
  have b := hd.2.2
  have b2 := ml_bd (y := y) (m := m)
  have b3 := hd.1
  rw [wI (x := d + 1) (by omega) (by omega), wI (x := y + 1) (by omega) (by omega), wI (x := w + 1) (by omega) (by omega), Int.tmod_eq_emod_of_nonneg (by omega)]
  exact ⟨⟨e4, hw.2, hv.2, by omega⟩, f1, f2, f3⟩
theorem DaysDates_any (v0 v1 v2 : Value) (w : World) (hG : Glb tb w) (g0 : IntA v0) (g1 : IntA v1) (g2 : DateA w v2) :
    Calls Tryd.prog 6 #[v0, v1, v2] w fun e w' => e = .returned (.bool true) ∧ Below w.heap.size w w' := by
  obtain ⟨n, rfl, hn⟩ := g0
  obtain ⟨m, rfl, hm⟩ := g1
  obtain ⟨Y, M, D, cs, rfl, hcs⟩ := g2
  refine law_of_walk (tb := tb) (P := Tryd.prog) fine (C := [lawCon 9 [], cOf 10, cNum 12, cWk 14]) (conCons cSane_ok (conCons cOf_ok (conCons cNum_ok (conCons cWk_ok noCon)))) 80 6 [.c i64s, .c i64s, .agg [i64s, i64s, i64s]] rfl (w := w) hG (xs := [.n n, .n m, .n Y, .n M, .n D]) ?_ ?_
  · simp only [ArgsV]
    exact ⟨cell_int hn, cell_int hm, [.n Y, .n M, .n D], [], cs, rfl, rfl, hcs, trivial⟩
  · clear hcs
    rw [tree_ldates]
    simp only [T.res, B.prop, E.den, E.dat, E.top, E.val, E.isD, DV.canon, DV.int, DOp.fn, chunk, List.getElem?_cons_zero, List.getElem?_cons_succ, List.getD_cons_zero, List.getD_cons_succ, List.getD_nil, List.map_cons, List.map_nil, List.cons_append, List.nil_append, allB, resB, resL', RSh.l, RC.vd, List.flatMap_cons, List.flatMap_nil, List.append_nil, List.length_cons, List.length_nil, Nat.zero_add, Nat.reduceAdd, List.take_succ_cons, List.take_zero, List.drop_succ_cons, List.drop_zero, ev, dv, lawCon, cOf, cNum, cWk]
    refine ⟨trivial, fun z z0 z1 hz => ?_⟩
    obtain rfl := n_inj hz
    refine ⟨fun h => absurd h (by decide), fun _ => ⟨trivial, fun k k0 k1 e e0 e1 hk => ⟨fun he => ⟨trivial, fun q1 _ _ q2 _ _ q3 _ _ q4 _ _ hq => ⟨fun bad => ?_, fun _ => ?_⟩⟩, fun _ => ?_⟩⟩⟩
    · exfalso
      by_cases c : Date Y M D
      · have hk := hk.2 c
        simp only [List.cons.injEq, DV.n.injEq, and_true] at hk
        have r := of_is c hk.1 hq
        simp only [List.cons.injEq, DV.n.injEq, and_true] at r
        have b := nb_bd c
        rcases bad with ((bad | bad) | bad) | bad
        · exact bad r.2.2.2
        · exact bad ⟨r.1, r.2.1, r.2.2.1⟩
        · omega
        · omega
      · have hk := hk.1 c
        simp only [List.cons.injEq, DV.n.injEq, and_true] at hk
        omega
    all_goals
      refine ⟨fun _ => trivial, fun hb => ⟨trivial, fun a1 _ _ a2 _ _ a3 _ _ a4 _ _ ha => ⟨trivial, fun b1 _ _ b2 _ _ b3 _ _ b4 _ _ hbb => ⟨trivial, fun r _ _ g _ _ hr => ?_⟩⟩⟩⟩
      obtain ⟨da, ea, rfl⟩ := of_ex ha ⟨by omega, by omega⟩
      obtain ⟨db, eb, rfl⟩ := of_ex hbb ⟨by omega, by omega⟩
      have hr := hr.2 da
      simp only [List.cons.injEq, DV.n.injEq, and_true] at hr
      obtain ⟨rfl, rfl⟩ := hr
      have iff := nb_iff da db
      rw [← ea, ← eb] at iff
      refine ⟨fun _ => ⟨fun c1 => ?_, fun c1 => ⟨fun c2 => ?_, fun c2 => ?_⟩⟩, fun bad => by
        exfalso
        rcases Classical.not_not.1 bad with ((q | q) | q) | q
        · exact q rfl
        · exact q rfl
        · exact q rfl
        · exact q ea.symm⟩
      all_goals
        refine ⟨fun q => by exfalso; omega, fun _ => ⟨fun q => ?_, fun q => ⟨trivial, fun x1 _ _ x2 _ _ x3 _ _ x4 _ _ hx => ⟨trivial, fun u _ _ ue _ _ hu => ⟨trivial, fun v _ _ ve _ _ hv => ?_⟩⟩⟩⟩⟩
        · have l : Date 2199 12 31 := ⟨⟨by decide, by decide⟩, ⟨by decide, by decide⟩, by decide, by decide +kernel⟩
          have l2 : nb 2199 12 31 = 73048 := by decide +kernel
          have := nb_one da l (by omega)
          exact ⟨fun _ => trivial, fun k => absurd this k⟩
        · obtain ⟨⟨f1, f2, f3, f4⟩, f5, f6, f7⟩ := nxt da ea (by omega) (by omega) hx hu hv
          refine ⟨fun q => ?_, fun _ => ⟨fun q => ⟨fun _ => trivial, fun s => ?_⟩, fun q => ⟨fun r => ⟨fun _ => trivial, fun s => ?_⟩, fun r => ⟨fun _ => trivial, fun s => ?_⟩⟩⟩⟩
          · exfalso
            rcases q with ((q | q) | q) | q
            · exact q f1
            · exact q f2
            · exact q f3
            · exact q f4
          · have t := f5 q
            exact absurd ⟨⟨t.1, t.2.1⟩, t.2.2⟩ s
          · have t := f6 (Classical.not_not.1 q) r
            exact absurd ⟨⟨t.1, t.2.1⟩, t.2.2⟩ s
          · have t := f7 (Classical.not_not.1 q) r
            exact absurd ⟨⟨t.1, t.2.1⟩, t.2.2⟩ s
end Go.Proofs.YtdffnmhpkapbkaaDoor
