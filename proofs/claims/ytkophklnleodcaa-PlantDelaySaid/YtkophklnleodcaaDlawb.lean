/- DERIVED. Laws of plants, walked: what an hour does, what is safe. -/
import Derived.Test.YtkophklnleodcaaDlaw
namespace Go.Proofs.Ytkophklnleodcaa
open Go.Dx Go.RowKit
set_option linter.unusedVariables false
set_option linter.unusedSimpArgs false
theorem PlantDelay_any (v0 v1 v2 v3 v4 : Value) (w : World) (hG : Glb tb w) (g0 : PlantA w v0) (g1 : CodeA w v1) (g2 : StateA w v2) (g3 : ShockA w v3) (g4 : IntA v4) :
    Calls Try.prog 7 #[v0, v1, v2, v3, v4] w fun e w' => e = .returned (.bool true) ∧ Below w.heap.size w w' := by
  obtain ⟨tp, bk, si, st, ps, rt, sp, pa, fd, pp, od, ag, c0, rfl, h0⟩ := g0
  obtain ⟨d, c1, rfl, h1⟩ := g1
  obtain ⟨lv, po, p0, p1, so, sa, c2, rfl, h2⟩ := g2
  obtain ⟨f, m, c3, rfl, h3⟩ := g3
  obtain ⟨g, rfl, h4⟩ := g4
  refine law_of_walk (tb := tb) (P := Try.prog) fine (C := [lawCon 10 [], cFew, cNext 20]) (conCons cSane_ok (conCons cFew_ok (conCons cNext_ok noCon))) 80 7 [.agg plantS, .agg [lines], .agg stateS, .agg shockS, .c i64s] rfl (w := w) hG
    (xs := [.n tp, .n bk, .n si, .n st, .n ps, .n rt, .n sp, .n pa, .n fd, .n pp, .n od, .n ag, .sl none 0 d, .n lv, .n po, .n p0, .n p1, .n so, .n sa, .n f, .n m, .n g]) ?_ ?_
  · exact ⟨_, [.sl none 0 d, .n lv, .n po, .n p0, .n p1, .n so, .n sa, .n f, .n m, .n g], c0, rfl, rfl, h0, [.sl none 0 d], [.n lv, .n po, .n p0, .n p1, .n so, .n sa, .n f, .n m, .n g], c1, rfl, rfl, h1, [.n lv, .n po, .n p0, .n p1, .n so, .n sa], [.n f, .n m, .n g], c2, rfl, rfl, h2, [.n f, .n m], [.n g], c3, rfl, rfl, h3, cell_int h4, trivial⟩
  · clear h0 h1 h2 h3 h4
    rw [tree_ldelay]
    refine res_con rfl trivial (fun z z0 z1 hz => ?_)
    obtain rfl := n_inj (show [DV.n z] = [DV.n 1] from hz)
    refine res_ite (fun h => absurd (show (1 : Int) = 0 from h) (by decide)) fun _ => res_con rfl trivial (fun b _ _ _ => res_ite (fun _ => rfl) fun _ => ?_)
    refine res_con rfl trivial (fun a1 _ _ a2 _ _ a3 _ _ a4 _ _ a5 _ _ a6 _ _ a7 _ _ a8 _ _ ha => res_con rfl trivial (fun b1 _ _ b2 _ _ b3 _ _ b4 _ _ b5 _ _ b6 _ _ b7 _ _ b8 _ _ hb => ?_))
    have ha : [DV.n a1, .n a2, .n a3, .n a4, .n a5, .n a6, .n a7, .n a8] = NextF ⟨tp, bk, si, st, ps, rt, sp, pa, fd, pp, od, ag⟩ (.sl none 0 d) ⟨lv, po, p0, p1, so, sa⟩ f m := ha
    have hb : [DV.n b1, .n b2, .n b3, .n b4, .n b5, .n b6, .n b7, .n b8] = NextF ⟨tp, bk, si, st, ps, rt, sp, pa, fd, pp, od, ag⟩ (.sl none 0 d) ⟨lv, po, p0, p1, so, sa⟩ g m := hb
    refine res_ite (fun _ => rfl) (fun h => res_ite (fun _ => rfl) fun k => absurd ?_ k)
    have h : ¬ ((¬ a8 = 0 ∨ ¬ b8 = 0) ∨ pp = 0) := h
    have npp : ¬ pp = 0 := fun q => h (.inr q)
    show (a1 = b1 ∧ a2 = b2 ∧ a5 = b5 ∧ a6 = b6) ∧ a7 = b7
    rcases next_in ha with ⟨e, _⟩ | ⟨_, _, _, _, _, rfl, rfl, _, _, rfl, rfl, rfl⟩
    · exact absurd e fun q => h (.inl (.inl q))
    rcases next_in hb with ⟨e, _⟩ | ⟨_, _, _, _, _, rfl, rfl, _, _, rfl, rfl, rfl⟩
    · exact absurd e fun q => h (.inl (.inr q))
    have ar : arr ⟨tp, bk, si, st, ps, rt, sp, pa, fd, pp, od, ag⟩ ⟨lv, po, p0, p1, so, sa⟩ f = arr ⟨tp, bk, si, st, ps, rt, sp, pa, fd, pp, od, ag⟩ ⟨lv, po, p0, p1, so, sa⟩ g := by
      unfold arr; rw [if_neg npp, if_neg npp]
    have hpo : poN ⟨tp, bk, si, st, ps, rt, sp, pa, fd, pp, od, ag⟩ (.sl none 0 d) ⟨lv, po, p0, p1, so, sa⟩ f m = poN ⟨tp, bk, si, st, ps, rt, sp, pa, fd, pp, od, ag⟩ (.sl none 0 d) ⟨lv, po, p0, p1, so, sa⟩ g m := by
      unfold poN varsN; rw [ar]
    have hout : outN ⟨tp, bk, si, st, ps, rt, sp, pa, fd, pp, od, ag⟩ (.sl none 0 d) ⟨lv, po, p0, p1, so, sa⟩ f m = outN ⟨tp, bk, si, st, ps, rt, sp, pa, fd, pp, od, ag⟩ (.sl none 0 d) ⟨lv, po, p0, p1, so, sa⟩ g m := by
      unfold outN; rw [ar, hpo]
    have hlv : lvN ⟨tp, bk, si, st, ps, rt, sp, pa, fd, pp, od, ag⟩ (.sl none 0 d) ⟨lv, po, p0, p1, so, sa⟩ f m = lvN ⟨tp, bk, si, st, ps, rt, sp, pa, fd, pp, od, ag⟩ (.sl none 0 d) ⟨lv, po, p0, p1, so, sa⟩ g m := by
      unfold lvN; rw [ar, hout]
    exact ⟨⟨hlv, hpo, rfl, rfl⟩, hout⟩
theorem blg_one {p : PL} {s : ST} {x : Int} (h : [DV.n x] = [DV.n (if blg p s then 1 else 0)]) (b : blg p s) : x = 1 := by rw [if_pos b] at h; exact n_inj h
theorem PlantClosed_any (v0 v1 v2 v3 : Value) (w : World) (hG : Glb tb w) (g0 : PlantA w v0) (g1 : CodeA w v1) (g2 : StateA w v2) (g3 : ShockA w v3) :
    Calls Try.prog 5 #[v0, v1, v2, v3] w fun e w' => e = .returned (.bool true) ∧ Below w.heap.size w w' := by
  obtain ⟨tp, bk, si, st, ps, rt, sp, pa, fd, pp, od, ag, c0, rfl, h0⟩ := g0
  obtain ⟨d, c1, rfl, h1⟩ := g1
  obtain ⟨lv, po, p0, p1, so, sa, c2, rfl, h2⟩ := g2
  obtain ⟨f, m, c3, rfl, h3⟩ := g3
  refine law_of_walk (tb := tb) (P := Try.prog) fine (C := [lawCon 10 [], cFew, cNext 20, cBlg 22]) (conCons cSane_ok (conCons cFew_ok (conCons cNext_ok (conCons cBlg_ok noCon)))) 80 5 [.agg plantS, .agg [lines], .agg stateS, .agg shockS] rfl (w := w) hG
    (xs := [.n tp, .n bk, .n si, .n st, .n ps, .n rt, .n sp, .n pa, .n fd, .n pp, .n od, .n ag, .sl none 0 d, .n lv, .n po, .n p0, .n p1, .n so, .n sa, .n f, .n m]) ?_ ?_
  · exact ⟨_, [.sl none 0 d, .n lv, .n po, .n p0, .n p1, .n so, .n sa, .n f, .n m], c0, rfl, rfl, h0, [.sl none 0 d], [.n lv, .n po, .n p0, .n p1, .n so, .n sa, .n f, .n m], c1, rfl, rfl, h1, [.n lv, .n po, .n p0, .n p1, .n so, .n sa], [.n f, .n m], c2, rfl, rfl, h2, [.n f, .n m], [], c3, rfl, rfl, h3, trivial⟩
  · clear h0 h1 h2 h3
    rw [tree_lclosed]
    refine res_con rfl trivial (fun z z0 z1 hz => ?_)
    obtain rfl := n_inj (show [DV.n z] = [DV.n 1] from hz)
    refine res_ite (fun h => absurd (show (1 : Int) = 0 from h) (by decide)) fun _ => res_con rfl trivial (fun b _ _ _ => res_ite (fun _ => rfl) fun _ => ?_)
    refine res_con rfl trivial (fun a1 _ _ a2 _ _ a3 _ _ a4 _ _ a5 _ _ a6 _ _ a7 _ _ a8 _ _ ha => ?_)
    have ha : [DV.n a1, .n a2, .n a3, .n a4, .n a5, .n a6, .n a7, .n a8] = NextF ⟨tp, bk, si, st, ps, rt, sp, pa, fd, pp, od, ag⟩ (.sl none 0 d) ⟨lv, po, p0, p1, so, sa⟩ f m := ha
    rcases next_in ha with ⟨e, rfl, rfl, rfl, rfl, rfl, rfl, rfl, _⟩ | ⟨rfl, pc, hc, hb, hch, e1, e2, e3, e4, e5, e6, e7⟩
    · refine res_ite (fun _ => res_ite (fun _ => rfl) fun k => absurd ?_ k) (fun h => absurd e h)
      exact ⟨⟨rfl, rfl, ⟨rfl, rfl⟩, rfl, rfl⟩, rfl⟩
    refine res_ite (fun h => absurd rfl h) fun _ => res_con rfl trivial (fun y _ _ hy => ?_)
    have nb := next_blg pc hc hb hch
    rw [← e1, ← e2, ← e3, ← e4, ← e5, ← e6] at nb
    obtain rfl := blg_one (show [DV.n y] = [DV.n (if blg ⟨tp, bk, si, st, ps, rt, sp, pa, fd, pp, od, ag⟩ ⟨a1, a2, a3, a4, a5, a6⟩ then 1 else 0)] from hy) nb
    obtain ⟨f1, f2, f3, f4, f5⟩ := hour_facts pc hc hb hch
    rw [← e2] at f1 f2 f4
    rw [← e7] at f4 f5
    rw [← e1] at f5
    have hp := pc_in pc
    unfold plantOk at hp
    unfold blg at hb
    dsimp only at hp hb f1 f2 f3 f4 f5
    have w1 : IntKind.i64.wrap (rt * a2) = rt * a2 := wI (by omega) (by omega)
    have w2 : IntKind.i64.wrap (po + sp) = po + sp := wI (by omega) (by omega)
    have w3 : IntKind.i64.wrap (po - sp) = po - sp := wI (by omega) (by omega)
    have hm : odN ⟨lv, po, p0, p1, so, sa⟩ m = (if 0 ≤ m then m else so) := rfl
    have hA : agN ⟨tp, bk, si, st, ps, rt, sp, pa, fd, pp, od, ag⟩ ⟨lv, po, p0, p1, so, sa⟩ m = (if 0 ≤ m then 0 else min (sa + 1) ag) := rfl
    refine res_ite (fun h => ?_) fun _ => ?_
    · have h : (((((1 : Int) = 0 ∨ a7 < 0) ∨ IntKind.i64.wrap (rt * a2) < a7) ∨ IntKind.i64.wrap (po + sp) < a2) ∨ a2 < IntKind.i64.wrap (po - sp)) := h
      rw [w1, w2, w3] at h
      exfalso; omega
    have fin : T.res [lawCon 10 [], cFew, cNext 20, cBlg 22] (fun ys => ys = [DV.n 1]) (.ite (.le (.lit 0) (.var 20)) (.ite (.and (.eq (.var 27) (.var 20)) (.eq (.var 28) (.lit 0))) (.ret [(.lit 1)]) (.ret [(.lit 0)])) (.ite (.and (.eq (.var 27) (.var 17)) (.eq (.var 28) (.min (.wrap .i64 (.add (.var 18) (.lit 1))) (.var 11)))) (.ret [(.lit 1)]) (.ret [(.lit 0)])))
        ([.n tp, .n bk, .n si, .n st, .n ps, .n rt, .n sp, .n pa, .n fd, .n pp, .n od, .n ag, .sl none 0 d, .n lv, .n po, .n p0, .n p1, .n so, .n sa, .n f, .n m] ++ [.n 1] ++ [.n b] ++ [.n a1, .n a2, .n a3, .n a4, .n a5, .n a6, .n a7, .n 0] ++ [.n 1]) := by
      refine res_ite (fun h => res_ite (fun _ => rfl) fun k => absurd ?_ k) (fun h => res_ite (fun _ => rfl) fun k => absurd ?_ k)
      · have h : 0 ≤ m := h
        show a5 = m ∧ a6 = 0
        rw [e5, e6, hm, hA, if_pos h, if_pos h]
        exact ⟨rfl, rfl⟩
      · have h : ¬ 0 ≤ m := h
        show a5 = so ∧ a6 = min (IntKind.i64.wrap (sa + 1)) ag
        rw [e5, e6, hm, hA, if_neg h, if_neg h, wI (by omega) (by omega)]
        exact ⟨rfl, rfl⟩
    refine res_ite (fun h => res_ite (fun k => ?_) fun _ => fin) (fun h => res_ite (fun k => ?_) fun _ => fin)
    · have h : 0 < pp := h
      have k : (IntKind.i64.wrap (IntKind.i64.wrap (IntKind.i64.wrap (lv + p0) - a7) - a1) < 0 ∨ (0 < IntKind.i64.wrap (IntKind.i64.wrap (IntKind.i64.wrap (lv + p0) - a7) - a1) ∧ ¬ a1 = tp)) ∨ (a7 < IntKind.i64.wrap (rt * a2) ∧ 0 < a1) := k
      have ea : arr ⟨tp, bk, si, st, ps, rt, sp, pa, fd, pp, od, ag⟩ ⟨lv, po, p0, p1, so, sa⟩ f = p0 := if_neg (by show ¬ pp = 0; omega)
      rw [ea] at f3 f4 f5
      rw [w1, wI (x := lv + p0) (by omega) (by omega), wI (x := lv + p0 - a7) (by omega) (by omega), wI (x := lv + p0 - a7 - a1) (by omega) (by omega)] at k
      exfalso; omega
    · have h : ¬ 0 < pp := h
      have k : (IntKind.i64.wrap (IntKind.i64.wrap (IntKind.i64.wrap (lv + f) - a7) - a1) < 0 ∨ (0 < IntKind.i64.wrap (IntKind.i64.wrap (IntKind.i64.wrap (lv + f) - a7) - a1) ∧ ¬ a1 = tp)) ∨ (a7 < IntKind.i64.wrap (rt * a2) ∧ 0 < a1) := k
      have ea : arr ⟨tp, bk, si, st, ps, rt, sp, pa, fd, pp, od, ag⟩ ⟨lv, po, p0, p1, so, sa⟩ f = f := if_pos (by show pp = 0; omega)
      rw [ea] at f3 f4 f5
      rw [w1, wI (x := lv + f) (by omega) (by omega), wI (x := lv + f - a7) (by omega) (by omega), wI (x := lv + f - a7 - a1) (by omega) (by omega)] at k
      exfalso; omega
end Go.Proofs.Ytkophklnleodcaa
