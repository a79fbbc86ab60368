/- DERIVED. A law of plants, walked: what is fed arrives. -/
import Derived.Test.YtkophklnleodcaaDlawc
import Derived.Test.YtkophklnleodcaaDtreep
namespace Go.Proofs.Ytkophklnleodcaa
open Go.Dx Go.RowKit
set_option linter.unusedVariables false
set_option linter.unusedSimpArgs false
theorem res_ok {C : List Con} {post : List DV → Prop} {b : B} {t : T (List E)} {r : List DV} (h : b.prop r) (k : T.res C post t r) : T.res C post (.ite b t .fail) r := ⟨fun _ => k, fun q => absurd h q⟩
theorem res_chk {C : List Con} {post : List DV → Prop} {i o : Nat} {zs : List E} {r : List DV} {d : Con} (hd : C[i]? = some d) (h : d.pre (r.take o ++ zs.map (E.top r))) (k : d.mea (r.take o ++ zs.map (E.top r)) < d.mea (r.take (o + zs.length))) : T.res C post (.chk i o zs) r := by
  simp only [T.res, hd]; exact ⟨h, k⟩
theorem res_lop {C : List Con} {post : List DV → Prop} {i m : Nat} {zs : List E} {k : T (List E)} {r : List DV} {d : Con} (hd : C[i]? = some d) (h : d.pre (r ++ zs.map (E.top r))) (q : allB d.bnd fun ys => d.pre (r ++ ys) → T.res C post k (r ++ (ys ++ List.replicate m (.n 0)))) : T.res C post (.lop i zs m k) r := by
  simp only [T.res, hd]; exact ⟨h, q⟩
def shocksA (w : World) (v : Value) : Prop := ∃ l, cellA w shocks (.sl none 0 l) v
theorem sumF_succ {l : DV} {x : Int} (h : 0 ≤ x) : sumF l (x + 1).toNat = sumF l x.toNat + l.at x 0 := by
  rw [show (x + 1).toNat = x.toNat + 1 by omega]; simp only [sumF]; rw [show ((x.toNat : Nat) : Int) = x by omega]
theorem sumF_bd {p : PL} {l : DV} (h0 : p.fd ≤ 15) : ∀ n : Nat, fedOk p l n → 0 ≤ sumF l n ∧ sumF l n ≤ 15 * n
  | 0, _ => by simp [sumF]
  | n + 1, h => by
    have ih := sumF_bd h0 n fun k hk => h k (by omega)
    have := h n (by omega)
    simp only [sumF]
    omega
/-- What arrives. -/
theorem arr_now {p : PL} {l : DV} {i : Int} {s : ST} (hp : plantOk p) (h : inPipe p l i s) : arr p s (l.at i 0) = prev l i p.pp ∨ (p.pp = 0 ∧ arr p s (l.at i 0) = l.at i 0) := by
  unfold plantOk at hp
  unfold arr
  by_cases e : p.pp = 0
  · exact .inr ⟨e, if_pos e⟩
  · rw [if_neg e]
    have : p.pp = 1 ∨ p.pp = 2 := by omega
    rcases this with e | e
    · rw [(h.2.1 e).1, e]; exact .inl rfl
    · rw [(h.2.2 e).1, e]; exact .inl rfl
theorem now_eq {p : PL} {l : DV} {i : Int} {s : ST} (i0 : 0 ≤ i) (hp : plantOk p) (h : inPipe p l i s) : arr p s (l.at i 0) = if p.pp ≤ i then l.at (i - p.pp) 0 else 0 := by
  rcases arr_now hp h with e | ⟨e, k⟩
  · rw [e]; rfl
  · rw [k, e, if_pos i0, Int.sub_zero]
theorem next_pipe {p : PL} {l : DV} {i : Int} {s : ST} {y : ST} (i0 : 0 ≤ i) (hp : plantOk p) (h : inPipe p l i s) (e0 : y.p0 = q0N p s (l.at i 0)) (e1 : y.p1 = q1N p s (l.at i 0)) : inPipe p l (i + 1) y := by
  unfold plantOk at hp
  have hs : i + 1 - 1 = i := by omega
  refine ⟨fun e => ?_, fun e => ?_, fun e => ?_⟩
  · have := h.1 e
    unfold q0N at e0; unfold q1N at e1
    rw [if_pos e] at e0 e1
    omega
  · unfold q0N at e0; unfold q1N at e1
    rw [if_neg (by omega), if_pos e] at e0 e1
    refine ⟨?_, e1⟩
    rw [e0]; unfold prev; rw [if_pos (by omega), hs]
  · have := h.2.2 e
    unfold q0N at e0; unfold q1N at e1
    rw [if_neg (by omega), if_neg (by omega)] at e0 e1
    refine ⟨?_, ?_⟩
    · rw [e0, this.2]; unfold prev
      by_cases c : 1 ≤ i
      · rw [if_pos c, if_pos (by omega)]; congr 1; omega
      · rw [if_neg c, if_neg (by omega)]
    · rw [e1]; unfold prev; rw [if_pos (by omega), hs]
theorem pipe_sum {p : PL} {l : DV} {i : Int} {s : ST} (i0 : 0 ≤ i) (hp : plantOk p) (h : inPipe p l i s) : sumF l i.toNat = sumF l (i - p.pp).toNat + s.p0 + s.p1 := by
  unfold plantOk at hp
  have hpp : p.pp = 0 ∨ p.pp = 1 ∨ p.pp = 2 := by omega
  rcases hpp with e | e | e
  · have := h.1 e
    rw [e, Int.sub_zero]; omega
  · have := h.2.1 e
    unfold prev at this
    rw [e]
    by_cases c : 1 ≤ i
    · rw [if_pos c] at this
      have q := sumF_succ (l := l) (x := i - 1) (by omega)
      rw [show i - 1 + 1 = i by omega] at q
      omega
    · rw [if_neg c] at this
      rw [show i = 0 by omega]
      simp only [Int.toNat_zero, show (0 - 1 : Int).toNat = 0 from rfl, sumF]; omega
  · have := h.2.2 e
    unfold prev at this
    rw [e]
    by_cases c : 2 ≤ i
    · rw [if_pos c, if_pos (by omega)] at this
      have q := sumF_succ (l := l) (x := i - 1) (by omega)
      rw [show i - 1 + 1 = i by omega] at q
      have u := sumF_succ (l := l) (x := i - 2) (by omega)
      rw [show i - 2 + 1 = i - 1 by omega] at u
      omega
    · rw [if_neg c] at this
      by_cases c1 : 1 ≤ i
      · rw [if_pos c1] at this
        have hi : i = 1 := by omega
        subst hi
        simp only [show (1 : Int).toNat = 1 from rfl, show (1 - 2 : Int).toNat = 0 from rfl, sumF]
        have : l.at (1 - 1) 0 = l.at ((0 : Nat) : Int) 0 := rfl
        omega
      · rw [if_neg c1] at this
        have hi : i = 0 := by omega
        subst hi
        simp only [show (0 : Int).toNat = 0 from rfl, show (0 - 2 : Int).toNat = 0 from rfl, sumF]
        omega
/-- One hour more. -/
theorem pipe_step {p : PL} {d l : DV} {i fed ard pas ovr : Int} {s : ST} {m a1 a2 a3 a4 a5 a6 a7 : Int} (hI : PipeI p l i fed ard pas ovr s) (i0 : 0 ≤ i) (hi : i < l.len) (pc : pcF p = 0) (hc : codeOk d) (hch : chosen p (l.at i 0) m)
    (e1 : a1 = lvN p d s (l.at i 0) m) (e2 : a2 = poN p d s (l.at i 0) m) (e3 : a3 = q0N p s (l.at i 0)) (e4 : a4 = q1N p s (l.at i 0)) (e5 : a5 = odN s m) (e6 : a6 = agN p s m) (e7 : a7 = outN p d s (l.at i 0) m) :
    PipeI p l (i + 1) (fed + l.at i 0) (ard + arr p s (l.at i 0)) (pas + a7) (ovr + (s.lv + arr p s (l.at i 0) - a7 - a1)) ⟨a1, a2, a3, a4, a5, a6⟩ ∧ (0 ≤ a7 ∧ a7 ≤ 225) ∧ 0 ≤ s.lv + arr p s (l.at i 0) - a7 - a1 ∧ (0 ≤ arr p s (l.at i 0) ∧ arr p s (l.at i 0) ≤ 15) ∧
    fed + l.at i 0 = ard + arr p s (l.at i 0) + a3 + a4 ∧ ((0 ≤ a1 ∧ a1 ≤ 63) ∧ (0 ≤ a2 ∧ a2 ≤ 15) ∧ (0 ≤ a3 ∧ a3 ≤ 15) ∧ (0 ≤ a4 ∧ a4 ≤ 15) ∧ (0 ≤ a5 ∧ a5 ≤ 7) ∧ 0 ≤ a6 ∧ a6 ≤ 7) := by
  have hp := pc_in pc
  obtain ⟨f1, f2, f3, f4, f5⟩ := hour_facts pc hc hI.hblg hch
  rw [← e2] at f1 f2 f4
  rw [← e7] at f4 f5
  rw [← e1] at f5
  have nb := next_blg pc hc hI.hblg hch
  rw [← e1, ← e2, ← e3, ← e4, ← e5, ← e6] at nb
  have np := next_pipe (y := ⟨a1, a2, a3, a4, a5, a6⟩) i0 hp hI.hpipe e3 e4
  have ps := pipe_sum (i := i + 1) (by omega) hp np
  have nw := now_eq i0 hp hI.hpipe
  have hq := hch
  unfold chosen at hq
  have hb := hI.hblg
  unfold blg at hb
  have hpl := hp
  unfold plantOk at hpl
  have hnb := nb
  unfold blg pipeOk at hnb
  dsimp only at hnb ps
  have b0 : (if (0 : Int) < p.pp then p.fd else 0) ≤ p.fd := by split <;> omega
  have b1 : (if (1 : Int) < p.pp then p.fd else 0) ≤ p.fd := by split <;> omega
  have hfed : fed + l.at i 0 = sumF l (i + 1).toNat := by rw [sumF_succ i0, hI.hfed]
  have hard : ard + arr p s (l.at i 0) = sumF l (i + 1 - p.pp).toNat := by
    rw [hI.hard, nw]
    split
    · rw [show i + 1 - p.pp = (i - p.pp) + 1 by omega, sumF_succ (by omega)]
    · rw [show (i + 1 - p.pp).toNat = (i - p.pp).toNat by omega]; omega
  have hpas := hI.hpas
  have hovr := hI.hovr
  have heq := hI.heq
  refine ⟨⟨by omega, nb, hfed, hard, fun k hk => ?_, np, ?_, by omega, by omega⟩, by omega, by omega, by omega, by omega, ?_⟩
  · by_cases c : k < i.toNat
    · exact hI.hok k c
    · rw [show (k : Int) = i by omega]; omega
  · dsimp only; omega
  · omega
set_option maxHeartbeats 4000000 in
theorem PlantPipe_any (v0 v1 v2 : Value) (w : World) (hG : Glb tb w) (g0 : PlantA w v0) (g1 : CodeA w v1) (g2 : shocksA w v2) :
    Calls Try.prog 6 #[v0, v1, v2] w fun e w' => e = .returned (.bool true) ∧ Below w.heap.size w w' := by
  obtain ⟨tp, bk, si, st, ps, rt, sp, pa, fd, pp, od, ag, c0, rfl, h0⟩ := g0
  obtain ⟨d, c1, rfl, h1⟩ := g1
  obtain ⟨l, h2⟩ := g2
  refine law_of_walk (tb := tb) (P := Try.prog) fine (C := [lawCon 10 [], cFew, cBegin 13, cNext 20, cChosen, cChkR, lPipe]) (conCons cSane_ok (conCons cFew_ok (conCons cBegin_ok (conCons cNext_ok (conCons cChosen_ok (conCons cChkR_ok (lopCons rfl noCon))))))) 80 6 [.agg plantS, .agg [lines], .c shocks] rfl (w := w) hG
    (xs := [.n tp, .n bk, .n si, .n st, .n ps, .n rt, .n sp, .n pa, .n fd, .n pp, .n od, .n ag, .sl none 0 d, .sl none 0 l]) ?_ ?_
  · exact ⟨_, [.sl none 0 d, .sl none 0 l], c0, rfl, rfl, h0, [.sl none 0 d], [.sl none 0 l], c1, rfl, rfl, h1, h2, trivial⟩
  · clear h0 h1 h2
    rw [tree_lpipe]
    refine res_con rfl trivial (fun z z0 z1 hz => ?_)
    obtain rfl := n_inj (show [DV.n z] = [DV.n 1] from hz)
    refine res_ite (fun h => absurd (show (1 : Int) = 0 from h) (by decide)) fun _ => res_con rfl trivial (fun fw _ _ _ => res_ite (fun _ => rfl) fun hfew => ?_)
    have hfew : ¬ (fw = 0 ∨ 100 < (DV.sl none 0 l).len) := hfew
    refine res_con rfl trivial (fun b1 _ _ b2 _ _ b3 _ _ b4 _ _ b5 _ _ b6 _ _ b7 _ _ hb => res_ite (fun _ => rfl) fun hb7 => ?_)
    have hb7 : b7 = 0 := Classical.not_not.1 hb7
    have hb : [DV.n b1, .n b2, .n b3, .n b4, .n b5, .n b6, .n b7] = BeginF ⟨tp, bk, si, st, ps, rt, sp, pa, fd, pp, od, ag⟩ := hb
    have pc : pcF ⟨tp, bk, si, st, ps, rt, sp, pa, fd, pp, od, ag⟩ = 0 := by
      unfold BeginF at hb
      split at hb
      · simp only [List.cons.injEq, DV.n.injEq, and_true] at hb; omega
      · omega
    unfold BeginF at hb
    rw [if_neg (by omega)] at hb
    simp only [List.cons.injEq, DV.n.injEq, and_true] at hb
    obtain ⟨rfl, rfl, rfl, rfl, rfl, rfl, _⟩ := hb
    have hp := pc_in pc
    have hpl := hp
    unfold plantOk at hpl
    dsimp only at hpl
    have l0 := len_nn (DV.sl none 0 l)
    refine res_ok (show (0 : Int) ≤ b1 ∧ b1 ≤ 1000000 by omega) (res_ok (show (0 : Int) ≤ 0 ∧ (0 : Int) ≤ 1000000 by omega) (res_ok (show (0 : Int) ≤ 0 ∧ (0 : Int) ≤ 1000000 by omega) (res_ok (show (0 : Int) ≤ 0 ∧ (0 : Int) ≤ 1000000 by omega) (res_ok (show (0 : Int) ≤ 0 ∧ (0 : Int) ≤ 1000000 by omega) (res_ok (show (0 : Int) ≤ b6 ∧ b6 ≤ 1000000 by omega) ?_)))))
    refine res_lop rfl ?_ ?_
    · show PipeI ⟨tp, bk, si, b1, ps, rt, sp, pa, fd, pp, od, b6⟩ (.sl none 0 l) 0 0 0 0 0 ⟨b1, 0, 0, 0, 0, b6⟩
      refine ⟨l0, ?_, rfl, ?_, fun k hk => absurd hk (by simp), ?_, ?_, by omega, by omega⟩
      · unfold blg pipeOk
        dsimp only
        have : 0 ≤ (if (0 : Int) < pp then fd else 0) := by split <;> omega
        have : 0 ≤ (if (1 : Int) < pp then fd else 0) := by split <;> omega
        omega
      · rw [show (0 - pp : Int).toNat = 0 by omega]; rfl
      · refine ⟨fun _ => ⟨rfl, rfl⟩, fun e => ⟨?_, rfl⟩, fun e => ⟨?_, ?_⟩⟩ <;> (unfold prev; rw [if_neg (by decide)])
      · dsimp only; omega
    refine fun i i0 _ fed _ _ ard _ _ pas _ _ ovr _ _ lv _ _ po _ _ p0 _ _ p1 _ _ so _ _ sa _ _ hI => ?_
    have hI : PipeI ⟨tp, bk, si, b1, ps, rt, sp, pa, fd, pp, od, b6⟩ (.sl none 0 l) i fed ard pas ovr ⟨lv, po, p0, p1, so, sa⟩ := hI
    refine res_ite (fun hlt => ?_) fun _ => rfl
    have hlt : i < (DV.sl none 0 l).len := hlt
    refine res_con rfl trivial (fun a1 _ _ a2 _ _ a3 _ _ a4 _ _ a5 _ _ a6 _ _ a7 _ _ a8 _ _ ha => ?_)
    have ha : [DV.n a1, .n a2, .n a3, .n a4, .n a5, .n a6, .n a7, .n a8] = NextF ⟨tp, bk, si, b1, ps, rt, sp, pa, fd, pp, od, b6⟩ (.sl none 0 d) ⟨lv, po, p0, p1, so, sa⟩ ((DV.sl none 0 l).at i 0) ((DV.sl none 0 l).at i 1) := ha
    rcases next_in ha with ⟨e, _, _, _, _, _, _, _, no⟩ | ⟨rfl, _, hc, _, hch, e1, e2, e3, e4, e5, e6, e7⟩
    · refine res_ite (fun _ => ?_) (fun h => absurd e h)
      refine res_con rfl trivial (fun y _ _ hy => res_ite (fun hy1 => ?_) fun _ => rfl)
      have hy1 : ¬ y = 0 := hy1
      have hy := n_inj (show [DV.n y] = [DV.n (if chosen ⟨tp, bk, si, b1, ps, rt, sp, pa, fd, pp, od, b6⟩ ((DV.sl none 0 l).at i 0) ((DV.sl none 0 l).at i 1) then 1 else 0)] from hy)
      refine res_con rfl trivial (fun u _ _ hu => res_ite (fun _ => rfl) fun hu1 => ?_)
      exfalso
      rcases chk_in (show [DV.n u] = ChkF (.sl none 0 d) from hu) with ⟨_, ok⟩ | ⟨rfl, _⟩
      · by_cases c : chosen ⟨tp, bk, si, b1, ps, rt, sp, pa, fd, pp, od, b6⟩ ((DV.sl none 0 l).at i 0) ((DV.sl none 0 l).at i 1)
        · exact no ⟨pc, ok, hI.hblg, c⟩
        · rw [if_neg c] at hy; exact hy1 hy
      · exact hu1 (show ¬ (310 : Int) = 0 by decide)
    refine res_ite (fun h => absurd rfl h) fun _ => ?_
    obtain ⟨hN, q7, ql, qa, qe, q1, q2, q3, q4, q5, q6⟩ := pipe_step hI i0 hlt pc hc hch e1 e2 e3 e4 e5 e6 e7
    have nw := now_eq i0 hp hI.hpipe
    have hch' := hch
    unfold chosen at hch'
    have heq := hN.heq
    have hps := hN.hpas
    have hov := hN.hovr
    have sb := sumF_bd (show fd ≤ 15 by omega) _ hN.hok
    rw [← hN.hfed] at sb
    have hip := hI.hpas
    have hio := hI.hovr
    have sb0 := sumF_bd (show fd ≤ 15 by omega) _ hI.hok
    rw [← hI.hfed] at sb0
    have hbl := hI.hblg
    unfold blg at hbl
    dsimp only at hch' heq nw qa ql qe hbl hN sb
    clear hI ha e1 e2 e3 e4 e5 e6 e7 hc hch
    generalize (DV.sl none 0 l) = L at *
    generalize hf : L.at i 0 = f at *
    generalize arr ⟨tp, bk, si, b1, ps, rt, sp, pa, fd, pp, od, b6⟩ ⟨lv, po, p0, p1, so, sa⟩ f = now at *
    have wpp : IntKind.i64.wrap (i - pp) = i - pp := wI (by omega) (by omega)
    have wf : IntKind.i64.wrap (fed + f) = fed + f := wI (by omega) (by omega)
    have wp : IntKind.i64.wrap (pas + a7) = pas + a7 := wI (by omega) (by omega)
    refine res_ite (fun hge => ?_) fun hge => ?_
    · have hge : pp ≤ i := hge
      have wn : L.at (IntKind.i64.wrap (i - pp)) 0 = now := by rw [wpp, nw, if_pos hge]
      have wa : IntKind.i64.wrap (ard + now) = ard + now := wI (by omega) (by omega)
      refine res_ok (show (0 : Int) ≤ IntKind.i64.wrap (i - pp) ∧ IntKind.i64.wrap (i - pp) < L.len by rw [wpp]; omega) ?_
      have wl : IntKind.i64.wrap (IntKind.i64.wrap (IntKind.i64.wrap (lv + now) - a7) - a1) = lv + now - a7 - a1 := by rw [wI (x := lv + now) (by omega) (by omega), wI (x := lv + now - a7) (by omega) (by omega), wI (by omega) (by omega)]
      have wo : IntKind.i64.wrap (ovr + (lv + now - a7 - a1)) = ovr + (lv + now - a7 - a1) := wI (by omega) (by omega)
      refine res_ite (fun hl => ?_) fun hl => ?_
      · have hl : 0 < IntKind.i64.wrap (IntKind.i64.wrap (IntKind.i64.wrap (lv + L.at (IntKind.i64.wrap (i - pp)) 0) - a7) - a1) := hl
        rw [wn, wl] at hl
        refine res_ite (fun k => ?_) fun _ => ?_
        · have k : (¬ IntKind.i64.wrap (fed + L.at i 0) = IntKind.i64.wrap (IntKind.i64.wrap (IntKind.i64.wrap (ard + L.at (IntKind.i64.wrap (i - pp)) 0) + a3) + a4)) ∨ ¬ IntKind.i64.wrap (b1 + IntKind.i64.wrap (ard + L.at (IntKind.i64.wrap (i - pp)) 0)) = IntKind.i64.wrap (IntKind.i64.wrap (a1 + IntKind.i64.wrap (pas + a7)) + IntKind.i64.wrap (ovr + IntKind.i64.wrap (IntKind.i64.wrap (IntKind.i64.wrap (lv + L.at (IntKind.i64.wrap (i - pp)) 0) - a7) - a1))) := k
          rw [hf, wf, wp, wn, wa] at k
          rw [wl, wo] at k
          rw [wI (x := (ard + now) + a3) (by omega) (by omega), wI (x := (ard + now) + a3 + a4) (by omega) (by omega), wI (x := b1 + (ard + now)) (by omega) (by omega), wI (x := a1 + (pas + a7)) (by omega) (by omega), wI (x := a1 + (pas + a7) + (ovr + (lv + now - a7 - a1))) (by omega) (by omega)] at k
          exfalso; omega
        refine res_ok (show (0 : Int) ≤ IntKind.i64.wrap (fed + L.at i 0) ∧ IntKind.i64.wrap (fed + L.at i 0) ≤ 1000000 by rw [hf, wf]; omega) (res_ok (show (0 : Int) ≤ IntKind.i64.wrap (ard + L.at (IntKind.i64.wrap (i - pp)) 0) ∧ IntKind.i64.wrap (ard + L.at (IntKind.i64.wrap (i - pp)) 0) ≤ 1000000 by rw [wn, wa]; omega) (res_ok (show (0 : Int) ≤ IntKind.i64.wrap (pas + a7) ∧ IntKind.i64.wrap (pas + a7) ≤ 1000000 by rw [wp]; omega) (res_ok (show (0 : Int) ≤ IntKind.i64.wrap (ovr + IntKind.i64.wrap (IntKind.i64.wrap (IntKind.i64.wrap (lv + L.at (IntKind.i64.wrap (i - pp)) 0) - a7) - a1)) ∧ IntKind.i64.wrap (ovr + IntKind.i64.wrap (IntKind.i64.wrap (IntKind.i64.wrap (lv + L.at (IntKind.i64.wrap (i - pp)) 0) - a7) - a1)) ≤ 1000000 by rw [wn, wl, wo]; omega) (res_ok (show (0 : Int) ≤ a1 ∧ a1 ≤ 1000000 by omega) (res_ok (show (0 : Int) ≤ a2 ∧ a2 ≤ 1000000 by omega) (res_ok (show (0 : Int) ≤ a3 ∧ a3 ≤ 1000000 by omega) (res_ok (show (0 : Int) ≤ a4 ∧ a4 ≤ 1000000 by omega) (res_ok (show (0 : Int) ≤ a5 ∧ a5 ≤ 1000000 by omega) (res_ok (show (0 : Int) ≤ a6 ∧ a6 ≤ 1000000 by omega) ?_)))))))))
        refine res_chk rfl ?_ ?_
        · show PipeI ⟨tp, bk, si, b1, ps, rt, sp, pa, fd, pp, od, b6⟩ L (i + 1) (IntKind.i64.wrap (fed + L.at i 0)) (IntKind.i64.wrap (ard + L.at (IntKind.i64.wrap (i - pp)) 0)) (IntKind.i64.wrap (pas + a7)) (IntKind.i64.wrap (ovr + IntKind.i64.wrap (IntKind.i64.wrap (IntKind.i64.wrap (lv + L.at (IntKind.i64.wrap (i - pp)) 0) - a7) - a1))) ⟨a1, a2, a3, a4, a5, a6⟩
          rw [hf, wf, wp, wn, wa, wl, wo]
          have hN2 := hN
          exact hN2
        · show (L.len - (i + 1)).toNat < (L.len - i).toNat
          omega
      · have hl : ¬ 0 < IntKind.i64.wrap (IntKind.i64.wrap (IntKind.i64.wrap (lv + L.at (IntKind.i64.wrap (i - pp)) 0) - a7) - a1) := hl
        rw [wn, wl] at hl
        refine res_ite (fun k => ?_) fun _ => ?_
        · have k : (¬ IntKind.i64.wrap (fed + L.at i 0) = IntKind.i64.wrap (IntKind.i64.wrap (IntKind.i64.wrap (ard + L.at (IntKind.i64.wrap (i - pp)) 0) + a3) + a4)) ∨ ¬ IntKind.i64.wrap (b1 + IntKind.i64.wrap (ard + L.at (IntKind.i64.wrap (i - pp)) 0)) = IntKind.i64.wrap (IntKind.i64.wrap (a1 + IntKind.i64.wrap (pas + a7)) + ovr) := k
          rw [hf, wf, wp, wn, wa] at k
          rw [wI (x := (ard + now) + a3) (by omega) (by omega), wI (x := (ard + now) + a3 + a4) (by omega) (by omega), wI (x := b1 + (ard + now)) (by omega) (by omega), wI (x := a1 + (pas + a7)) (by omega) (by omega), wI (x := a1 + (pas + a7) + ovr) (by omega) (by omega)] at k
          exfalso; omega
        refine res_ok (show (0 : Int) ≤ IntKind.i64.wrap (fed + L.at i 0) ∧ IntKind.i64.wrap (fed + L.at i 0) ≤ 1000000 by rw [hf, wf]; omega) (res_ok (show (0 : Int) ≤ IntKind.i64.wrap (ard + L.at (IntKind.i64.wrap (i - pp)) 0) ∧ IntKind.i64.wrap (ard + L.at (IntKind.i64.wrap (i - pp)) 0) ≤ 1000000 by rw [wn, wa]; omega) (res_ok (show (0 : Int) ≤ IntKind.i64.wrap (pas + a7) ∧ IntKind.i64.wrap (pas + a7) ≤ 1000000 by rw [wp]; omega) (res_ok (show (0 : Int) ≤ a1 ∧ a1 ≤ 1000000 by omega) (res_ok (show (0 : Int) ≤ a2 ∧ a2 ≤ 1000000 by omega) (res_ok (show (0 : Int) ≤ a3 ∧ a3 ≤ 1000000 by omega) (res_ok (show (0 : Int) ≤ a4 ∧ a4 ≤ 1000000 by omega) (res_ok (show (0 : Int) ≤ a5 ∧ a5 ≤ 1000000 by omega) (res_ok (show (0 : Int) ≤ a6 ∧ a6 ≤ 1000000 by omega) ?_))))))))
        refine res_chk rfl ?_ ?_
        · show PipeI ⟨tp, bk, si, b1, ps, rt, sp, pa, fd, pp, od, b6⟩ L (i + 1) (IntKind.i64.wrap (fed + L.at i 0)) (IntKind.i64.wrap (ard + L.at (IntKind.i64.wrap (i - pp)) 0)) (IntKind.i64.wrap (pas + a7)) (ovr) ⟨a1, a2, a3, a4, a5, a6⟩
          rw [hf, wf, wp, wn, wa]
          have hN2 := hN
          rw [show lv + now - a7 - a1 = 0 by omega, Int.add_zero] at hN2
          exact hN2
        · show (L.len - (i + 1)).toNat < (L.len - i).toNat
          omega
    · have hge : ¬ pp ≤ i := hge
      have hnow : now = 0 := by rw [nw, if_neg hge]
      have wl : IntKind.i64.wrap (IntKind.i64.wrap (lv - a7) - a1) = lv - a7 - a1 := by rw [wI (x := lv - a7) (by omega) (by omega), wI (by omega) (by omega)]
      have wo : IntKind.i64.wrap (ovr + (lv - a7 - a1)) = ovr + (lv - a7 - a1) := wI (by omega) (by omega)
      refine res_ite (fun hl => ?_) fun hl => ?_
      · have hl : 0 < IntKind.i64.wrap (IntKind.i64.wrap (lv - a7) - a1) := hl
        rw [wl] at hl
        refine res_ite (fun k => ?_) fun _ => ?_
        · have k : (¬ IntKind.i64.wrap (fed + L.at i 0) = IntKind.i64.wrap (IntKind.i64.wrap (ard + a3) + a4)) ∨ ¬ IntKind.i64.wrap (b1 + ard) = IntKind.i64.wrap (IntKind.i64.wrap (a1 + IntKind.i64.wrap (pas + a7)) + IntKind.i64.wrap (ovr + IntKind.i64.wrap (IntKind.i64.wrap (lv - a7) - a1))) := k
          rw [hf, wf, wp] at k
          rw [wl, wo] at k
          rw [wI (x := ard + a3) (by omega) (by omega), wI (x := ard + a3 + a4) (by omega) (by omega), wI (x := b1 + ard) (by omega) (by omega), wI (x := a1 + (pas + a7)) (by omega) (by omega), wI (x := a1 + (pas + a7) + (ovr + (lv - a7 - a1))) (by omega) (by omega)] at k
          exfalso; omega
        refine res_ok (show (0 : Int) ≤ IntKind.i64.wrap (fed + L.at i 0) ∧ IntKind.i64.wrap (fed + L.at i 0) ≤ 1000000 by rw [hf, wf]; omega) (res_ok (show (0 : Int) ≤ IntKind.i64.wrap (pas + a7) ∧ IntKind.i64.wrap (pas + a7) ≤ 1000000 by rw [wp]; omega) (res_ok (show (0 : Int) ≤ IntKind.i64.wrap (ovr + IntKind.i64.wrap (IntKind.i64.wrap (lv - a7) - a1)) ∧ IntKind.i64.wrap (ovr + IntKind.i64.wrap (IntKind.i64.wrap (lv - a7) - a1)) ≤ 1000000 by rw [wl, wo]; omega) (res_ok (show (0 : Int) ≤ a1 ∧ a1 ≤ 1000000 by omega) (res_ok (show (0 : Int) ≤ a2 ∧ a2 ≤ 1000000 by omega) (res_ok (show (0 : Int) ≤ a3 ∧ a3 ≤ 1000000 by omega) (res_ok (show (0 : Int) ≤ a4 ∧ a4 ≤ 1000000 by omega) (res_ok (show (0 : Int) ≤ a5 ∧ a5 ≤ 1000000 by omega) (res_ok (show (0 : Int) ≤ a6 ∧ a6 ≤ 1000000 by omega) ?_))))))))
        refine res_chk rfl ?_ ?_
        · show PipeI ⟨tp, bk, si, b1, ps, rt, sp, pa, fd, pp, od, b6⟩ L (i + 1) (IntKind.i64.wrap (fed + L.at i 0)) (ard) (IntKind.i64.wrap (pas + a7)) (IntKind.i64.wrap (ovr + IntKind.i64.wrap (IntKind.i64.wrap (lv - a7) - a1))) ⟨a1, a2, a3, a4, a5, a6⟩
          rw [hf, wf, wp, wl, wo]
          have hN2 := hN
          rw [hnow, Int.add_zero, Int.add_zero] at hN2
          exact hN2
        · show (L.len - (i + 1)).toNat < (L.len - i).toNat
          omega
      · have hl : ¬ 0 < IntKind.i64.wrap (IntKind.i64.wrap (lv - a7) - a1) := hl
        rw [wl] at hl
        refine res_ite (fun k => ?_) fun _ => ?_
        · have k : (¬ IntKind.i64.wrap (fed + L.at i 0) = IntKind.i64.wrap (IntKind.i64.wrap (ard + a3) + a4)) ∨ ¬ IntKind.i64.wrap (b1 + ard) = IntKind.i64.wrap (IntKind.i64.wrap (a1 + IntKind.i64.wrap (pas + a7)) + ovr) := k
          rw [hf, wf, wp] at k
          rw [wI (x := ard + a3) (by omega) (by omega), wI (x := ard + a3 + a4) (by omega) (by omega), wI (x := b1 + ard) (by omega) (by omega), wI (x := a1 + (pas + a7)) (by omega) (by omega), wI (x := a1 + (pas + a7) + ovr) (by omega) (by omega)] at k
          exfalso; omega
        refine res_ok (show (0 : Int) ≤ IntKind.i64.wrap (fed + L.at i 0) ∧ IntKind.i64.wrap (fed + L.at i 0) ≤ 1000000 by rw [hf, wf]; omega) (res_ok (show (0 : Int) ≤ IntKind.i64.wrap (pas + a7) ∧ IntKind.i64.wrap (pas + a7) ≤ 1000000 by rw [wp]; omega) (res_ok (show (0 : Int) ≤ a1 ∧ a1 ≤ 1000000 by omega) (res_ok (show (0 : Int) ≤ a2 ∧ a2 ≤ 1000000 by omega) (res_ok (show (0 : Int) ≤ a3 ∧ a3 ≤ 1000000 by omega) (res_ok (show (0 : Int) ≤ a4 ∧ a4 ≤ 1000000 by omega) (res_ok (show (0 : Int) ≤ a5 ∧ a5 ≤ 1000000 by omega) (res_ok (show (0 : Int) ≤ a6 ∧ a6 ≤ 1000000 by omega) ?_)))))))
        refine res_chk rfl ?_ ?_
        · show PipeI ⟨tp, bk, si, b1, ps, rt, sp, pa, fd, pp, od, b6⟩ L (i + 1) (IntKind.i64.wrap (fed + L.at i 0)) (ard) (IntKind.i64.wrap (pas + a7)) (ovr) ⟨a1, a2, a3, a4, a5, a6⟩
          rw [hf, wf, wp]
          have hN2 := hN
          rw [hnow, Int.add_zero, Int.add_zero] at hN2
          rw [show lv - a7 - a1 = 0 by omega, Int.add_zero] at hN2
          exact hN2
        · show (L.len - (i + 1)).toNat < (L.len - i).toNat
          omega
end Go.Proofs.Ytkophklnleodcaa
