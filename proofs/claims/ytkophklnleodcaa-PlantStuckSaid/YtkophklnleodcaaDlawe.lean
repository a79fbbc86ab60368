/- DERIVED. A law of plants, walked: lines that do not matter. -/
import Derived.Test.YtkophklnleodcaaDlawc
import Derived.Test.YtkophklnleodcaaDtreeq
namespace Go.Proofs.Ytkophklnleodcaa
open Go.Dx Go.RowKit
set_option linter.unusedVariables false
set_option linter.unusedSimpArgs false
theorem next_same {p : PL} {D1 D2 : DV} {s : ST} {f m : Int} (c1 : codeOk D1) (c2 : codeOk D2) (h : poN p D1 s f m = poN p D2 s f m) : NextF p D1 s f m = NextF p D2 s f m := by
  have ho : outN p D1 s f m = outN p D2 s f m := by unfold outN; rw [h]
  have hl : lvN p D1 s f m = lvN p D2 s f m := by unfold lvN; rw [ho]
  unfold NextF
  rw [if_neg (not_not_intro c1), if_neg (not_not_intro c2), ho, hl, h]
theorem res_dat {C : List Con} {post : List DV → Prop} {f : DOp} {xs : List E} {k : T (List E)} {r : List DV} (v : DV) (e : f.fn (xs.map (E.val r)) = v) (h : T.res C post k (r ++ [v])) : T.res C post (.dat f xs k) r := by subst e; exact h
theorem res_adr {C : List Con} {post : List DV → Prop} {x : E} {k : T (List E)} {r : List DV} (l : List (List DV)) (e : (x.dat r).els = l) (h : ∀ a cap, T.res C post k (r ++ [.sl none 0 [[.sl a cap l]]])) : T.res C post (.adr x k) r := by subst e; exact h
section
variable {x : List DV} {d : List (List DV)}
theorem cons_len (h : (d.length : Int) ≤ 60) : (DV.sl none 0 (x :: d)).len = d.length + 1 := by
  show clampL (d.length + 1) = _
  rw [clampL_eq (by omega)]; omega
theorem plain_len (h : (d.length : Int) ≤ 60) : (DV.sl none 0 d).len = d.length := by
  show clampL d.length = _
  exact clampL_eq (by omega)
theorem cons_cell (k j : Nat) : (DV.sl none 0 (x :: d)).cell ((k + 1 : Nat) : Int) j = (DV.sl none 0 d).cell (k : Int) j := by
  unfold DV.cell
  rw [show (((k + 1 : Nat) : Int)).toNat = k + 1 by omega, show ((k : Nat) : Int).toNat = k by omega]
  rfl
theorem cons_at (k j : Nat) : (DV.sl none 0 (x :: d)).at ((k + 1 : Nat) : Int) j = (DV.sl none 0 d).at (k : Int) j := by
  unfold DV.at; rw [cons_cell]
theorem cons_line (v : List Int) (k : Nat) : lineHolds (.sl none 0 (x :: d)) v ((k + 1 : Nat) : Int) ↔ lineHolds (.sl none 0 d) v (k : Int) := by
  unfold lineHolds; rw [cons_cell]
theorem cons_first (v : List Int) : ∀ n k : Nat, firstL (.sl none 0 (x :: d)) v n (k + 1) = (firstL (.sl none 0 d) v n k).map (· + 1)
  | 0, k => rfl
  | n + 1, k => by
    unfold firstL
    by_cases c : lineHolds (.sl none 0 d) v (k : Int)
    · rw [if_pos c, if_pos ((cons_line v k).2 c)]; rfl
    · rw [if_neg c, if_neg fun q => c ((cons_line v k).1 q)]; exact cons_first v n (k + 1)
theorem cons_ok (h : (d.length : Int) ≤ 60) (hx : lineOk (.sl none 0 (x :: d)) 0) (hd : codeOk (.sl none 0 d)) : codeOk (.sl none 0 (x :: d)) := by
  refine ⟨by rw [cons_len h]; omega, fun k hk => ?_⟩
  cases k with
  | zero => exact hx
  | succ k =>
    rw [cons_len h] at hk
    have := hd.2 k (by rw [plain_len h]; omega)
    unfold lineOk at this ⊢
    rw [cons_cell, cons_at]
    exact this
end
theorem never_po {p : PL} {x : List DV} {d : List (List DV)} {s : ST} {f m : Int} (h : (d.length : Int) ≤ 60) (hn : ¬ lineHolds (.sl none 0 (x :: d)) (varsN p s f m) ((0 : Nat) : Int)) : poN p (.sl none 0 (x :: d)) s f m = poN p (.sl none 0 d) s f m := by
  unfold poN
  rw [cons_len h, plain_len h, show ((d.length : Int) + 1).toNat = d.length + 1 by omega, show ((d.length : Int)).toNat = d.length by omega]
  have e : firstL (.sl none 0 (x :: d)) (varsN p s f m) (d.length + 1) 0 = (firstL (.sl none 0 d) (varsN p s f m) d.length 0).map (· + 1) := by
    conv => lhs; unfold firstL
    rw [if_neg hn]; exact cons_first _ _ 0
  rw [e]
  cases firstL (.sl none 0 d) (varsN p s f m) d.length 0 with
  | none => rfl
  | some k =>
    show s.po + max (0 - p.sp) (min p.sp (min ((DV.sl none 0 (x :: d)).at ((k + 1 : Nat) : Int) 1) p.ps - s.po)) = _
    rw [cons_at]
theorem always_po {p : PL} {x : List DV} {d : List (List DV)} {s : ST} {f m : Int} (h : (d.length : Int) ≤ 60) (hn : lineHolds (.sl none 0 (x :: d)) (varsN p s f m) ((0 : Nat) : Int)) : poN p (.sl none 0 (x :: d)) s f m = s.po + max (0 - p.sp) (min p.sp (min ((DV.sl none 0 (x :: d)).at 0 1) p.ps - s.po)) := by
  unfold poN
  rw [cons_len h, show ((d.length : Int) + 1).toNat = d.length + 1 by omega]
  conv => lhs; unfold firstL
  rw [if_pos hn]
  rfl
theorem set_clamp {t : Int} (h0 : 0 ≤ t) (h1 : t ≤ 255) : clampB t = t := clampB_eq (by omega) (by omega)
set_option maxHeartbeats 4000000 in
theorem PlantStuck_any (v0 v1 v2 v3 v4 : Value) (w : World) (hG : Glb tb w) (g0 : PlantA w v0) (g1 : CodeA w v1) (g2 : StateA w v2) (g3 : ShockA w v3) (g4 : ByteA v4) :
    Calls Try.prog 8 #[v0, v1, v2, v3, v4] w fun e w' => e = .returned (.bool true) ∧ Below w.heap.size w w' := by
  obtain ⟨tp, bk, si, st, ps, rt, sp, pa, fd, pp, od, ag, c0, rfl, h0⟩ := g0
  obtain ⟨d, c1, rfl, h1⟩ := g1
  obtain ⟨lv, po, p0, p1, so, sa, c2, rfl, h2⟩ := g2
  obtain ⟨f, m, c3, rfl, h3⟩ := g3
  obtain ⟨t, rfl, h4⟩ := g4
  have hsh : HasSh lines (.sl none 0 d) := by
    cases c1 with
    | nil => simp only [cellsA] at h1
    | cons c cs => simp only [cellsA] at h1; exact h1.1.1
  refine law_of_walk (tb := tb) (P := Try.prog) fine (C := [lawCon 10 [], cFew, cNext 20]) (conCons cSane_ok (conCons cFew_ok (conCons cNext_ok noCon))) 80 8 [.agg plantS, .agg [lines], .agg stateS, .agg shockS, .c u8s] rfl (w := w) hG
    (xs := [.n tp, .n bk, .n si, .n st, .n ps, .n rt, .n sp, .n pa, .n fd, .n pp, .n od, .n ag, .sl none 0 d, .n lv, .n po, .n p0, .n p1, .n so, .n sa, .n f, .n m, .n t]) ?_ ?_
  · exact ⟨_, [.sl none 0 d, .n lv, .n po, .n p0, .n p1, .n so, .n sa, .n f, .n m, .n t], c0, rfl, rfl, h0, [.sl none 0 d], [.n lv, .n po, .n p0, .n p1, .n so, .n sa, .n f, .n m, .n t], c1, rfl, rfl, h1, [.n lv, .n po, .n p0, .n p1, .n so, .n sa], [.n f, .n m, .n t], c2, rfl, rfl, h2, [.n f, .n m], [.n t], c3, rfl, rfl, h3, cell_byte h4, trivial⟩
  · clear h0 h1 h2 h3
    rw [tree_lstuck]
    refine res_con rfl trivial (fun z z0 z1 hz => ?_)
    obtain rfl := n_inj (show [DV.n z] = [DV.n 1] from hz)
    refine res_ite (fun h => absurd (show (1 : Int) = 0 from h) (by decide)) fun _ => res_con rfl trivial (fun fw _ _ _ => res_ite (fun _ => rfl) fun hfew => ?_)
    have hfew : ¬ (fw = 0 ∨ 60 < (DV.sl none 0 d).len) := hfew
    have hlen : (d.length : Int) ≤ 60 := by
      have e : (DV.sl none 0 d).len = d.length := by
        simp only [HasSh, DV.els] at hsh
        exact clampL_eq hsh.1
      omega
    refine res_dat (.sl none 0 []) rfl (res_con rfl trivial (fun a1 _ _ a2 _ _ a3 _ _ a4 _ _ a5 _ _ a6 _ _ a7 _ _ a8 _ _ ha => ?_))
    have ha : [DV.n a1, .n a2, .n a3, .n a4, .n a5, .n a6, .n a7, .n a8] = NextF ⟨tp, bk, si, st, ps, rt, sp, pa, fd, pp, od, ag⟩ (.sl none 0 []) ⟨lv, po, p0, p1, so, sa⟩ f m := ha
    refine res_ite (fun k => ?_) fun _ => ?_
    · have k : a8 = 0 ∧ ¬ a2 = po := k
      exfalso
      rcases next_in ha with ⟨e, _⟩ | ⟨_, _, _, _, _, _, e, _⟩
      · exact e k.1
      · exact k.2 e
    simp only [List.cons_append, List.nil_append]
    refine res_con rfl trivial (fun b1 _ _ b2 _ _ b3 _ _ b4 _ _ b5 _ _ b6 _ _ b7 _ _ b8 _ _ hb => ?_)
    have hb : [DV.n b1, .n b2, .n b3, .n b4, .n b5, .n b6, .n b7, .n b8] = NextF ⟨tp, bk, si, st, ps, rt, sp, pa, fd, pp, od, ag⟩ (.sl none 0 d) ⟨lv, po, p0, p1, so, sa⟩ f m := hb
    simp only [List.cons_append, List.nil_append]
    refine res_dat (.sl none 0 [[.n 0, .n 1, .n 0]]) rfl (res_adr [[.n 0, .n 1, .n 0]] rfl fun ad cap => res_dat (.sl none 0 [[.sl ad cap [[.n 0, .n 1, .n 0]], .n t]]) rfl (res_dat (.sl none 0 ([.sl ad cap [[.n 0, .n 1, .n 0]], .n t] :: d)) rfl (res_con rfl trivial (fun e1 _ _ e2 _ _ e3 _ _ e4 _ _ e5 _ _ e6 _ _ e7 _ _ e8 _ _ he => ?_))))
    have he : [DV.n e1, .n e2, .n e3, .n e4, .n e5, .n e6, .n e7, .n e8] = NextF ⟨tp, bk, si, st, ps, rt, sp, pa, fd, pp, od, ag⟩ (.sl none 0 ([.sl ad cap [[.n 0, .n 1, .n 0]], .n t] :: d)) ⟨lv, po, p0, p1, so, sa⟩ f m := he
    refine res_ite (fun _ => rfl) fun hb8 => ?_
    have hb0 : b8 = 0 := Classical.not_not.1 (show ¬ ¬ b8 = 0 from hb8)
    clear hb8
    rcases next_in hb with ⟨e, _⟩ | ⟨_, pc, hc, hbl, hch, _⟩
    · exact absurd hb0 e
    have hbl' := hbl
    unfold blg at hbl'
    dsimp only at hbl'
    have n0 : lineOk (.sl none 0 ([.sl ad cap [[.n 0, .n 1, .n 0]], .n t] :: d)) 0 := by
      refine ⟨⟨?_, ?_⟩, fun k hk => ?_⟩
      · show clampL 1 ≤ 4
        decide
      · show okN (clampB t)
        rw [set_clamp h4.1 h4.2]
        unfold okN; omega
      · have hk : k < (clampL 1).toNat := hk
        have : k = 0 := by
          have e : (clampL 1).toNat = 1 := by decide
          omega
        subst this
        show condOk (.sl ad cap [[.n 0, .n 1, .n 0]]) ((0 : Nat) : Int)
        exact (by decide : condOk (.sl none 0 [[.n 0, .n 1, .n 0]]) 0)
    have hn : ¬ lineHolds (.sl none 0 ([.sl ad cap [[.n 0, .n 1, .n 0]], .n t] :: d)) (varsN ⟨tp, bk, si, st, ps, rt, sp, pa, fd, pp, od, ag⟩ ⟨lv, po, p0, p1, so, sa⟩ f m) ((0 : Nat) : Int) := fun q => by
      have q := q 0 (show 0 < (clampL 1).toNat by decide)
      have q : holds 1 lv 0 := q
      unfold holds at q
      omega
    have e := hb.trans ((next_same (cons_ok hlen n0 hc) hc (never_po hlen hn)).symm.trans he.symm)
    simp only [List.cons.injEq, DV.n.injEq, and_true] at e
    obtain ⟨rfl, rfl, rfl, rfl, rfl, rfl, rfl, rfl⟩ := e
    refine res_ite (fun k => ?_) fun _ => ?_
    · have k : (¬ b8 = 0 ∨ ¬ (b1 = b1 ∧ b2 = b2 ∧ (b3 = b3 ∧ b4 = b4) ∧ b5 = b5 ∧ b6 = b6)) ∨ ¬ b7 = b7 := k
      exfalso
      rcases k with (k | k) | k
      · exact k hb0
      · exact k ⟨rfl, rfl, ⟨rfl, rfl⟩, rfl, rfl⟩
      · exact k rfl
    simp only [List.cons_append, List.nil_append]
    refine res_dat (.sl none 0 [[.sl none 0 [], .n t]]) rfl (res_con rfl trivial (fun f1 _ _ f2 _ _ f3 _ _ f4 _ _ f5 _ _ f6 _ _ f7 _ _ f8 _ _ hf => ?_))
    have hf : [DV.n f1, .n f2, .n f3, .n f4, .n f5, .n f6, .n f7, .n f8] = NextF ⟨tp, bk, si, st, ps, rt, sp, pa, fd, pp, od, ag⟩ (.sl none 0 ([.sl none 0 [], .n t] :: [])) ⟨lv, po, p0, p1, so, sa⟩ f m := hf
    simp only [List.cons_append, List.nil_append]
    refine res_dat (.sl none 0 [[.sl none 0 [], .n t]]) rfl (res_dat (.sl none 0 ([.sl none 0 [], .n t] :: d)) rfl (res_con rfl trivial (fun g1 _ _ g2 _ _ g3 _ _ g4 _ _ g5 _ _ g6 _ _ g7 _ _ g8 _ _ hg => ?_)))
    have hg : [DV.n g1, .n g2, .n g3, .n g4, .n g5, .n g6, .n g7, .n g8] = NextF ⟨tp, bk, si, st, ps, rt, sp, pa, fd, pp, od, ag⟩ (.sl none 0 ([.sl none 0 [], .n t] :: d)) ⟨lv, po, p0, p1, so, sa⟩ f m := hg
    have a0 : ∀ d' : List (List DV), lineOk (.sl none 0 ([.sl none 0 [], .n t] :: d')) 0 := fun d' => by
      refine ⟨⟨?_, ?_⟩, fun k hk => ?_⟩
      · show clampL 0 ≤ 4
        decide
      · show okN (clampB t)
        rw [set_clamp h4.1 h4.2]
        unfold okN; omega
      · have hk : k < (clampL 0).toNat := hk
        exact absurd hk (by have : (clampL 0).toNat = 0 := by decide
                            omega)
    have aa : ∀ d' : List (List DV), lineHolds (.sl none 0 ([.sl none 0 [], .n t] :: d')) (varsN ⟨tp, bk, si, st, ps, rt, sp, pa, fd, pp, od, ag⟩ ⟨lv, po, p0, p1, so, sa⟩ f m) ((0 : Nat) : Int) := fun d' k hk => by
      have hk : k < (clampL 0).toNat := hk
      exact absurd hk (by have : (clampL 0).toNat = 0 := by decide
                          omega)
    have z0 : (([] : List (List DV)).length : Int) ≤ 60 := by decide
    have cz : codeOk (.sl none 0 []) := by decide
    have ca := cons_ok z0 (a0 []) cz
    have cd := cons_ok hlen (a0 d) hc
    have e := hf.trans ((next_same ca cd ((always_po z0 (aa [])).trans (always_po hlen (aa d)).symm)).trans hg.symm)
    rw [nx_ok pc ca hbl hch] at hf
    simp only [List.cons.injEq, DV.n.injEq, and_true] at e hf
    obtain ⟨rfl, rfl, rfl, rfl, rfl, rfl, rfl, rfl⟩ := e
    refine res_ite (fun _ => rfl) fun k => absurd ?_ k
    show ((f8 = 0 ∧ f8 = 0) ∧ (f1 = f1 ∧ f2 = f2 ∧ (f3 = f3 ∧ f4 = f4) ∧ f5 = f5 ∧ f6 = f6)) ∧ f7 = f7
    have := hf.2.2.2.2.2.2.2
    exact ⟨⟨⟨this, this⟩, rfl, rfl, ⟨rfl, rfl⟩, rfl, rfl⟩, rfl⟩
end Go.Proofs.Ytkophklnleodcaa
