/- DERIVED. Laws of plants, walked: as the specification says; what is safe. -/
import Derived.Test.YtkophklnleodcaaDlawb
namespace Go.Proofs.Ytkophklnleodcaa
open Go.Dx Go.RowKit
set_option linter.unusedVariables false
set_option linter.unusedSimpArgs false
set_option maxHeartbeats 4000000 in
theorem PlantSpec_any (v0 v1 : Value) (w : World) (hG : Glb tb w) (g0 : PlantA w v0) (g1 : StateA w v1) :
    Calls Try.prog 3 #[v0, v1] w fun e w' => e = .returned (.bool true) ∧ Below w.heap.size w w' := by
  obtain ⟨tp, bk, si, st, ps, rt, sp, pa, fd, pp, od, ag, c0, rfl, h0⟩ := g0
  obtain ⟨lv, po, p0, p1, so, sa, c2, rfl, h2⟩ := g1
  refine law_of_walk (tb := tb) (P := Try.prog) fine (C := [lawCon 10 [], cCount 11, cCount 12, cBegin 13, cBegin 14, cSafe 15, cSafe 16, cPC 17, cPC 18]) (conCons cSane_ok (conCons cCount_ok (conCons cCountR_ok (conCons cBegin_ok (conCons cBeginR_ok (conCons cSafe_ok (conCons cSafeR_ok (conCons cPC_ok (conCons cPCR_ok noCon))))))))) 80 3 [.agg plantS, .agg stateS] rfl (w := w) hG
    (xs := [.n tp, .n bk, .n si, .n st, .n ps, .n rt, .n sp, .n pa, .n fd, .n pp, .n od, .n ag, .n lv, .n po, .n p0, .n p1, .n so, .n sa]) ?_ ?_
  · exact ⟨_, [.n lv, .n po, .n p0, .n p1, .n so, .n sa], c0, rfl, rfl, h0, [.n lv, .n po, .n p0, .n p1, .n so, .n sa], [], c2, rfl, rfl, h2, trivial⟩
  · clear h0 h2
    rw [tree_lspec]
    refine res_con rfl trivial (fun z z0 z1 hz => ?_)
    obtain rfl := n_inj (show [DV.n z] = [DV.n 1] from hz)
    refine res_ite (fun h => absurd (show (1 : Int) = 0 from h) (by decide)) fun _ => ?_
    refine res_con rfl trivial (fun a1 _ _ a2 _ _ ha => res_con rfl trivial (fun b1 _ _ b2 _ _ hb => ?_))
    have e := (show [DV.n a1, .n a2] = CountF ⟨tp, bk, si, st, ps, rt, sp, pa, fd, pp, od, ag⟩ from ha).trans (show [DV.n b1, .n b2] = CountF ⟨tp, bk, si, st, ps, rt, sp, pa, fd, pp, od, ag⟩ from hb).symm
    simp only [List.cons.injEq, DV.n.injEq, and_true] at e
    obtain ⟨rfl, rfl⟩ := e
    refine res_con rfl trivial (fun c1 _ _ c2 _ _ c3 _ _ c4 _ _ c5 _ _ c6 _ _ c7 _ _ hc => res_con rfl trivial (fun d1 _ _ d2 _ _ d3 _ _ d4 _ _ d5 _ _ d6 _ _ d7 _ _ hd => ?_))
    have e := (show [DV.n c1, .n c2, .n c3, .n c4, .n c5, .n c6, .n c7] = BeginF ⟨tp, bk, si, st, ps, rt, sp, pa, fd, pp, od, ag⟩ from hc).trans (show [DV.n d1, .n d2, .n d3, .n d4, .n d5, .n d6, .n d7] = BeginF ⟨tp, bk, si, st, ps, rt, sp, pa, fd, pp, od, ag⟩ from hd).symm
    simp only [List.cons.injEq, DV.n.injEq, and_true] at e
    obtain ⟨rfl, rfl, rfl, rfl, rfl, rfl, rfl⟩ := e
    refine res_con rfl trivial (fun e1 _ _ e2 _ _ he => res_con rfl trivial (fun f1 _ _ f2 _ _ hf => ?_))
    have e := (show [DV.n e1, .n e2] = SafeF ⟨tp, bk, si, st, ps, rt, sp, pa, fd, pp, od, ag⟩ ⟨lv, po, p0, p1, so, sa⟩ from he).trans (show [DV.n f1, .n f2] = SafeF ⟨tp, bk, si, st, ps, rt, sp, pa, fd, pp, od, ag⟩ ⟨lv, po, p0, p1, so, sa⟩ from hf).symm
    simp only [List.cons.injEq, DV.n.injEq, and_true] at e
    obtain ⟨rfl, rfl⟩ := e
    refine res_con rfl trivial (fun g1 _ _ hg => res_con rfl trivial (fun h1 _ _ hh => ?_))
    have e := (show [DV.n g1] = [DV.n (pcF ⟨tp, bk, si, st, ps, rt, sp, pa, fd, pp, od, ag⟩)] from hg).trans (show [DV.n h1] = [DV.n (pcF ⟨tp, bk, si, st, ps, rt, sp, pa, fd, pp, od, ag⟩)] from hh).symm
    obtain rfl := n_inj e
    refine res_ite (fun _ => rfl) fun k => absurd ?_ k
    show (((((g1 = g1 ∧ a1 = a1) ∧ a2 = a2) ∧ (c1 = c1 ∧ c2 = c2 ∧ (c3 = c3 ∧ c4 = c4) ∧ c5 = c5 ∧ c6 = c6)) ∧ c7 = c7) ∧ ((¬ e1 = 0 ∧ ¬ e1 = 0) ∨ (e1 = 0 ∧ e1 = 0))) ∧ e2 = e2
    refine ⟨⟨⟨⟨⟨⟨rfl, rfl⟩, rfl⟩, rfl, rfl, ⟨rfl, rfl⟩, rfl, rfl⟩, rfl⟩, ?_⟩, rfl⟩
    by_cases q : e1 = 0
    · exact .inr ⟨q, q⟩
    · exact .inl ⟨q, q⟩
/-- What Safe answers. -/
theorem safe_in {p : PL} {s : ST} {a b : Int} (h : [DV.n a, .n b] = SafeF p s) : (b ≠ 0 ∧ a = 0 ∧ pcF p ≠ 0) ∨ (b = 320 ∧ a = 0 ∧ pcF p = 0 ∧ ¬ blg p s) ∨ (b = 0 ∧ pcF p = 0 ∧ blg p s ∧ ((a = 1 ∧ ((p.si ≤ s.lv ∧ s.lv ≤ p.bk) ∧ p.rt * s.po ≤ p.pa)) ∨ (a = 0 ∧ ¬ ((p.si ≤ s.lv ∧ s.lv ≤ p.bk) ∧ p.rt * s.po ≤ p.pa)))) := by
  unfold SafeF at h
  split at h
  · rename_i c
    simp only [List.cons.injEq, DV.n.injEq, and_true] at h
    exact .inl ⟨by omega, h.1, c⟩
  · rename_i c
    have c : pcF p = 0 := by omega
    split at h
    · rename_i q
      simp only [List.cons.injEq, DV.n.injEq, and_true] at h
      exact .inr (.inl ⟨h.2, h.1, c, q⟩)
    · rename_i q
      have q : blg p s := Classical.not_not.1 q
      split at h
      · rename_i u
        simp only [List.cons.injEq, DV.n.injEq, and_true] at h
        exact .inr (.inr ⟨h.2, c, q, .inl ⟨h.1, u⟩⟩)
      · rename_i u
        simp only [List.cons.injEq, DV.n.injEq, and_true] at h
        exact .inr (.inr ⟨h.2, c, q, .inr ⟨h.1, u⟩⟩)
theorem PlantSafe_any (v0 v1 v2 : Value) (w : World) (hG : Glb tb w) (g0 : PlantA w v0) (g1 : StateA w v1) (g2 : ByteA v2) :
    Calls Try.prog 9 #[v0, v1, v2] w fun e w' => e = .returned (.bool true) ∧ Below w.heap.size w w' := by
  obtain ⟨tp, bk, si, st, ps, rt, sp, pa, fd, pp, od, ag, c0, rfl, h0⟩ := g0
  obtain ⟨lv, po, p0, p1, so, sa, c2, rfl, h2⟩ := g1
  obtain ⟨mo, rfl, h3⟩ := g2
  refine law_of_walk (tb := tb) (P := Try.prog) fine (C := [lawCon 10 [], cSafe 15, cPC 17, cBegin 13]) (conCons cSane_ok (conCons cSafe_ok (conCons cPC_ok (conCons cBegin_ok noCon)))) 80 9 [.agg plantS, .agg stateS, .c u8s] rfl (w := w) hG
    (xs := [.n tp, .n bk, .n si, .n st, .n ps, .n rt, .n sp, .n pa, .n fd, .n pp, .n od, .n ag, .n lv, .n po, .n p0, .n p1, .n so, .n sa, .n mo]) ?_ ?_
  · exact ⟨_, [.n lv, .n po, .n p0, .n p1, .n so, .n sa, .n mo], c0, rfl, rfl, h0, [.n lv, .n po, .n p0, .n p1, .n so, .n sa], [.n mo], c2, rfl, rfl, h2, cell_byte h3, trivial⟩
  · clear h0 h2
    rw [tree_lsafe]
    refine res_con rfl trivial (fun z z0 z1 hz => ?_)
    obtain rfl := n_inj (show [DV.n z] = [DV.n 1] from hz)
    refine res_ite (fun h => absurd (show (1 : Int) = 0 from h) (by decide)) fun _ => ?_
    refine res_con rfl trivial (fun a1 _ _ a2 _ _ ha => res_con rfl trivial (fun b1 _ _ hb => ?_))
    have ha : [DV.n a1, .n a2] = SafeF ⟨tp, bk, si, st, ps, rt, sp, pa, fd, pp, od, ag⟩ ⟨lv, po, p0, p1, so, sa⟩ := ha
    have hb := n_inj (show [DV.n b1] = [DV.n (pcF ⟨tp, bk, si, st, ps, rt, sp, pa, fd, pp, od, ag⟩)] from hb)
    have ia := safe_in ha
    dsimp only at ia
    refine res_ite (fun h => res_ite (fun _ => rfl) fun k => absurd ?_ k) fun h => ?_
    · have h : ¬ b1 = 0 := h
      show ¬ a2 = 0 ∧ a1 = 0
      rcases ia with ⟨q1, q2, _⟩ | ⟨_, _, q, _⟩ | ⟨_, q, _⟩
      · exact ⟨q1, q2⟩
      · omega
      · omega
    have h : b1 = 0 := Classical.not_not.1 h
    have pc : pcF ⟨tp, bk, si, st, ps, rt, sp, pa, fd, pp, od, ag⟩ = 0 := by omega
    have hp := pc_in pc
    have hp' := hp
    unfold plantOk at hp
    dsimp only at hp
    refine res_con rfl trivial (fun c1 _ _ c2 _ _ c3 _ _ c4 _ _ c5 _ _ c6 _ _ c7 _ _ hc => ?_)
    have hc : [DV.n c1, .n c2, .n c3, .n c4, .n c5, .n c6, .n c7] = BeginF ⟨tp, bk, si, st, ps, rt, sp, pa, fd, pp, od, ag⟩ := hc
    unfold BeginF at hc
    rw [if_neg (by omega)] at hc
    simp only [List.cons.injEq, DV.n.injEq, and_true] at hc
    obtain ⟨rfl, rfl, rfl, rfl, rfl, rfl, rfl⟩ := hc
    refine res_con rfl trivial (fun d1 _ _ d2 _ _ hd => ?_)
    have hd : [DV.n d1, .n d2] = SafeF ⟨tp, bk, si, c1, ps, rt, sp, pa, fd, pp, od, c6⟩ ⟨c1, 0, 0, 0, 0, c6⟩ := hd
    have id := safe_in hd
    dsimp only at id
    have b0 : blg ⟨tp, bk, si, c1, ps, rt, sp, pa, fd, pp, od, c6⟩ ⟨c1, 0, 0, 0, 0, c6⟩ := by
      unfold blg pipeOk
      dsimp only
      have : 0 ≤ (if (0 : Int) < pp then fd else 0) := by split <;> omega
      have : 0 ≤ (if (1 : Int) < pp then fd else 0) := by split <;> omega
      omega
    have e0 : rt * 0 = (0 : Int) := Int.mul_zero _
    rw [e0] at id
    refine res_ite (fun k => ?_) fun _ => ?_
    · have k : ((¬ (0 : Int) = 0 ∨ ¬ d2 = 0) ∨ ¬ ((¬ d1 = 0 ∧ si ≤ c1 ∧ c1 ≤ bk) ∨ (d1 = 0 ∧ ¬ (si ≤ c1 ∧ c1 ≤ bk)))) := k
      exfalso
      rcases id with ⟨_, _, q⟩ | ⟨_, _, _, q⟩ | ⟨rfl, _, _, ⟨rfl, q⟩ | ⟨rfl, q⟩⟩
      · exact q pc
      · exact q b0
      · omega
      · omega
    refine res_ite (fun k => res_ite (fun _ => rfl) fun l => absurd ?_ l) fun k => ?_
    · have k : ¬ a2 = 0 := k
      show a2 = 320 ∧ a1 = 0
      rcases ia with ⟨_, _, q⟩ | ⟨q1, q2, _⟩ | ⟨q, _⟩
      · exact absurd pc q
      · exact ⟨q1, q2⟩
      · exact absurd q k
    have k : a2 = 0 := Classical.not_not.1 k
    rcases ia with ⟨q, _⟩ | ⟨q, _⟩ | ⟨_, _, hbl, ia⟩
    · exact absurd k q
    · omega
    have hbl' := hbl
    unfold blg at hbl'
    dsimp only at hbl'
    have pr : 0 ≤ rt * po ∧ rt * po ≤ 225 := ⟨Int.mul_nonneg (by omega) (by omega), Int.le_trans (Int.mul_le_mul (show rt ≤ 15 by omega) (show po ≤ 15 by omega) (by omega) (by decide)) (by decide)⟩
    have w1 : IntKind.i64.wrap (rt * po) = rt * po := wI (by omega) (by omega)
    refine res_ite (fun l => ?_) fun _ => ?_
    · have l : ¬ ((¬ a1 = 0 ∧ ((si ≤ lv ∧ lv ≤ bk) ∧ IntKind.i64.wrap (rt * po) ≤ pa)) ∨ (a1 = 0 ∧ ¬ ((si ≤ lv ∧ lv ≤ bk) ∧ IntKind.i64.wrap (rt * po) ≤ pa))) := l
      rw [w1] at l
      exfalso
      rcases ia with ⟨rfl, q⟩ | ⟨rfl, q⟩
      · exact l (.inl ⟨by decide, q⟩)
      · exact l (.inr ⟨rfl, q⟩)
    refine res_con rfl trivial (fun e1 _ _ e2 _ _ he => ?_)
    have he : [DV.n e1, .n e2] = SafeF ⟨tp, min (IntKind.i64.wrap (tp - 1)) (IntKind.i64.wrap (bk + mo)), si, c1, ps, rt, sp, min 1048576 (IntKind.i64.wrap (pa + mo)), fd, pp, od, c6⟩ ⟨lv, po, p0, p1, so, sa⟩ := he
    rw [wI (x := tp - 1) (by omega) (by omega), wI (x := bk + mo) (by omega) (by omega), wI (x := pa + mo) (by omega) (by omega)] at he
    have ie := safe_in he
    dsimp only at ie
    have hq : plantOk ⟨tp, min (tp - 1) (bk + mo), si, c1, ps, rt, sp, min 1048576 (pa + mo), fd, pp, od, c6⟩ := by
      unfold plantOk; dsimp only; omega
    have pq : pcF ⟨tp, min (tp - 1) (bk + mo), si, c1, ps, rt, sp, min 1048576 (pa + mo), fd, pp, od, c6⟩ = 0 := by
      have ec : cnt ⟨tp, min (tp - 1) (bk + mo), si, c1, ps, rt, sp, min 1048576 (pa + mo), fd, pp, od, c6⟩ = cnt ⟨tp, bk, si, c1, ps, rt, sp, pa, fd, pp, od, c6⟩ := rfl
      unfold pcF at pc ⊢
      rw [if_pos hp'] at pc
      rw [if_pos hq, ec]
      exact pc
    refine res_ite (fun _ => rfl) fun l => absurd ?_ l
    show e2 = 0 ∧ (¬ e1 = 0 ∨ a1 = 0)
    rcases ie with ⟨_, _, q⟩ | ⟨_, _, _, q⟩ | ⟨r, _, _, ⟨r1, q⟩ | ⟨r1, q⟩⟩
    · exact absurd pq q
    · exact absurd (show blg ⟨tp, min (tp - 1) (bk + mo), si, c1, ps, rt, sp, min 1048576 (pa + mo), fd, pp, od, c6⟩ ⟨lv, po, p0, p1, so, sa⟩ from hbl) q
    · exact ⟨r, .inl (by omega)⟩
    · refine ⟨r, .inr ?_⟩
      rcases ia with ⟨s, t⟩ | ⟨s, _⟩
      · exfalso; omega
      · exact s
end Go.Proofs.Ytkophklnleodcaa
