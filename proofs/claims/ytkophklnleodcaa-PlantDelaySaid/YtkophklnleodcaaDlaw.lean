/- DERIVED. Laws of plants, walked. -/
import Derived.Test.YtkophklnleodcaaDsane
import Derived.Test.YtkophklnleodcaaDtreel
namespace Go.Proofs.Ytkophklnleodcaa
open Go.Dx Go.RowKit
set_option linter.unusedVariables false
set_option linter.unusedSimpArgs false
theorem wI {x : Int} (h : -9223372036854775808 ≤ x) (k : x ≤ 9223372036854775807) : IntKind.i64.wrap x = x :=
  wrap_in .i64 x (by simpa [kmin, IntKind.signed, IntKind.bits] using h) (by simpa [kmax, IntKind.signed, IntKind.bits] using k)
theorem PlantNextSpec_any (v0 v1 v2 v3 : Value) (w : World) (hG : Glb tb w) (g0 : PlantA w v0) (g1 : CodeA w v1) (g2 : StateA w v2) (g3 : ShockA w v3) :
    Calls Try.prog 4 #[v0, v1, v2, v3] w fun e w' => e = .returned (.bool true) ∧ Below w.heap.size w w' := by
  obtain ⟨tp, bk, si, st, ps, rt, sp, pa, fd, pp, od, ag, c0, rfl, h0⟩ := g0
  obtain ⟨d, c1, rfl, h1⟩ := g1
  obtain ⟨lv, po, p0, p1, so, sa, c2, rfl, h2⟩ := g2
  obtain ⟨f, m, c3, rfl, h3⟩ := g3
  refine law_of_walk (tb := tb) (P := Try.prog) fine (C := [lawCon 10 [], cFew, cNext 20, cNext 21]) (conCons cSane_ok (conCons cFew_ok (conCons cNext_ok (conCons cNextR_ok noCon)))) 80 4 [.agg plantS, .agg [lines], .agg stateS, .agg shockS] rfl (w := w) hG
    (xs := [.n tp, .n bk, .n si, .n st, .n ps, .n rt, .n sp, .n pa, .n fd, .n pp, .n od, .n ag, .sl none 0 d, .n lv, .n po, .n p0, .n p1, .n so, .n sa, .n f, .n m]) ?_ ?_
  · exact ⟨_, [.sl none 0 d, .n lv, .n po, .n p0, .n p1, .n so, .n sa, .n f, .n m], c0, rfl, rfl, h0, [.sl none 0 d], [.n lv, .n po, .n p0, .n p1, .n so, .n sa, .n f, .n m], c1, rfl, rfl, h1, [.n lv, .n po, .n p0, .n p1, .n so, .n sa], [.n f, .n m], c2, rfl, rfl, h2, [.n f, .n m], [], c3, rfl, rfl, h3, trivial⟩
  · clear h0 h1 h2 h3
    rw [tree_lnext]
    refine res_con rfl trivial (fun z z0 z1 hz => ?_)
    obtain rfl := n_inj (show [DV.n z] = [DV.n 1] from hz)
    refine res_ite (fun h => absurd (show (1 : Int) = 0 from h) (by decide)) fun _ => res_con rfl trivial (fun b _ _ _ => res_ite (fun _ => rfl) fun _ => ?_)
    refine res_con rfl trivial (fun a1 _ _ a2 _ _ a3 _ _ a4 _ _ a5 _ _ a6 _ _ a7 _ _ a8 _ _ ha => res_con rfl trivial (fun b1 _ _ b2 _ _ b3 _ _ b4 _ _ b5 _ _ b6 _ _ b7 _ _ b8 _ _ hb => ?_))
    have ha : [DV.n a1, .n a2, .n a3, .n a4, .n a5, .n a6, .n a7, .n a8] = NextF ⟨tp, bk, si, st, ps, rt, sp, pa, fd, pp, od, ag⟩ (.sl none 0 d) ⟨lv, po, p0, p1, so, sa⟩ f m := ha
    have hb : [DV.n b1, .n b2, .n b3, .n b4, .n b5, .n b6, .n b7, .n b8] = NextF ⟨tp, bk, si, st, ps, rt, sp, pa, fd, pp, od, ag⟩ (.sl none 0 d) ⟨lv, po, p0, p1, so, sa⟩ f m := hb
    have e := ha.trans hb.symm
    simp only [List.cons.injEq, DV.n.injEq, and_true] at e
    obtain ⟨rfl, rfl, rfl, rfl, rfl, rfl, rfl, rfl⟩ := e
    refine res_ite (fun _ => rfl) (fun h => absurd ?_ h)
    simp only [B.prop, E.den, List.cons_append, List.nil_append, List.getD_cons_zero, List.getD_cons_succ, and_self]
/-- What an hour answers. -/
theorem next_in {p : PL} {d : DV} {s : ST} {f m a1 a2 a3 a4 a5 a6 a7 a8 : Int} (h : [DV.n a1, .n a2, .n a3, .n a4, .n a5, .n a6, .n a7, .n a8] = NextF p d s f m) :
    (a8 ≠ 0 ∧ a1 = 0 ∧ a2 = 0 ∧ a3 = 0 ∧ a4 = 0 ∧ a5 = 0 ∧ a6 = 0 ∧ a7 = 0 ∧ ¬ (pcF p = 0 ∧ codeOk d ∧ blg p s ∧ chosen p f m)) ∨ (a8 = 0 ∧ pcF p = 0 ∧ codeOk d ∧ blg p s ∧ chosen p f m ∧ a1 = lvN p d s f m ∧ a2 = poN p d s f m ∧ a3 = q0N p s f ∧ a4 = q1N p s f ∧ a5 = odN s m ∧ a6 = agN p s m ∧ a7 = outN p d s f m) := by
  by_cases c1 : pcF p = 0
  · by_cases c2 : codeOk d
    · by_cases c3 : blg p s
      · by_cases c4 : chosen p f m
        · rw [nx_ok c1 c2 c3 c4] at h
          simp only [List.cons.injEq, DV.n.injEq, and_true] at h
          exact .inr ⟨h.2.2.2.2.2.2.2, c1, c2, c3, c4, h.1, h.2.1, h.2.2.1, h.2.2.2.1, h.2.2.2.2.1, h.2.2.2.2.2.1, h.2.2.2.2.2.2.1⟩
        · rw [← nx_arg c1 c2 c3 c4] at h
          simp only [bad, List.cons.injEq, DV.n.injEq, and_true] at h
          exact .inl ⟨by omega, h.1, h.2.1, h.2.2.1, h.2.2.2.1, h.2.2.2.2.1, h.2.2.2.2.2.1, h.2.2.2.2.2.2.1, fun q => c4 q.2.2.2⟩
      · rw [← nx_blg c1 c2 c3] at h
        simp only [bad, List.cons.injEq, DV.n.injEq, and_true] at h
        exact .inl ⟨by omega, h.1, h.2.1, h.2.2.1, h.2.2.2.1, h.2.2.2.2.1, h.2.2.2.2.2.1, h.2.2.2.2.2.2.1, fun q => c3 q.2.2.1⟩
    · rw [← nx_code c1 c2] at h
      simp only [bad, List.cons.injEq, DV.n.injEq, and_true] at h
      exact .inl ⟨by omega, h.1, h.2.1, h.2.2.1, h.2.2.2.1, h.2.2.2.2.1, h.2.2.2.2.2.1, h.2.2.2.2.2.2.1, fun q => c2 q.2.1⟩
  · unfold NextF at h
    rw [if_pos c1] at h
    simp only [bad, List.cons.injEq, DV.n.injEq, and_true] at h
    exact .inl ⟨by omega, h.1, h.2.1, h.2.2.1, h.2.2.2.1, h.2.2.2.2.1, h.2.2.2.2.2.1, h.2.2.2.2.2.2.1, fun q => c1 q.1⟩
theorem pc_in {p : PL} (h : pcF p = 0) : plantOk p := by
  by_cases c : plantOk p
  · exact c
  · rw [pc_bad c] at h; exact absurd h (by decide)
theorem first_in {d : DV} {v : List Int} : ∀ (n k j : Nat), firstL d v n k = some j → k ≤ j ∧ j < k + n ∧ lineHolds d v j
  | 0, k, j, h => by cases h
  | n + 1, k, j, h => by
    unfold firstL at h
    split at h
    · rename_i q; cases h; exact ⟨Nat.le_refl _, by omega, q⟩
    · have := first_in n (k + 1) j h; exact ⟨by omega, by omega, this.2.2⟩
/-- What is known of an hour's numbers. -/
theorem hour_facts {p : PL} {d : DV} {s : ST} {f m : Int} (h : pcF p = 0) (c : codeOk d) (b : blg p s) (q : chosen p f m) :
    ((0 ≤ poN p d s f m ∧ poN p d s f m ≤ p.ps) ∧ s.po - p.sp ≤ poN p d s f m ∧ poN p d s f m ≤ s.po + p.sp) ∧ (0 ≤ p.rt * poN p d s f m ∧ p.rt * poN p d s f m ≤ 225) ∧ (0 ≤ arr p s f ∧ arr p s f ≤ p.fd) ∧
    outN p d s f m = min (p.rt * poN p d s f m) (s.lv + arr p s f) ∧ lvN p d s f m = min p.tp (s.lv + arr p s f - outN p d s f m) := by
  have hp := pc_in h
  unfold plantOk at hp
  have hb := b
  unfold blg pipeOk at hb
  have hq := q
  unfold chosen at hq
  have p1 : ((0 ≤ poN p d s f m ∧ poN p d s f m ≤ p.ps) ∧ s.po - p.sp ≤ poN p d s f m ∧ poN p d s f m ≤ s.po + p.sp) := by
    unfold poN
    split
    · rename_i k hk
      obtain ⟨_, k1, _⟩ := first_in _ _ _ hk
      have := line_at c (x := k) (by omega) (by have := len_nn d; omega)
      unfold okN at this
      omega
    · omega
  refine ⟨p1, ⟨Int.mul_nonneg (by omega) p1.1.1, ?_⟩, ?_, rfl, rfl⟩
  · exact Int.le_trans (Int.mul_le_mul (show p.rt ≤ 15 by omega) (show poN p d s f m ≤ 15 by omega) p1.1.1 (by decide)) (by decide)
  · unfold arr
    split
    · omega
    · have h1 := hb.1.1
      have : (if 0 < p.pp then p.fd else 0) ≤ p.fd := by split <;> omega
      omega
theorem next_blg {p : PL} {d : DV} {s : ST} {f m : Int} (h : pcF p = 0) (c : codeOk d) (b : blg p s) (q : chosen p f m) : blg p ⟨lvN p d s f m, poN p d s f m, q0N p s f, q1N p s f, odN s m, agN p s m⟩ := by
  obtain ⟨f1, f2, f3, f4, f5⟩ := hour_facts h c b q
  have hp := pc_in h
  unfold plantOk at hp
  have hb := b
  unfold blg at hb
  have hq := q
  unfold chosen at hq
  have e0 : pipeOk p 0 (q0N p s f) ∧ pipeOk p 1 (q1N p s f) := by
    obtain ⟨⟨b0, b1⟩, _⟩ := hb
    unfold pipeOk q0N q1N at *
    have hpp : p.pp = 0 ∨ p.pp = 1 ∨ p.pp = 2 := by omega
    rcases hpp with e | e | e <;> rw [e] at b0 b1 ⊢ <;> simp at b0 b1 ⊢ <;> omega
  unfold blg
  dsimp only
  refine ⟨e0, ?_⟩
  have a1 : 0 ≤ odN s m ∧ odN s m ≤ p.od := by unfold odN; split <;> omega
  have a2 : 0 ≤ agN p s m ∧ agN p s m ≤ p.ag := by unfold agN; split <;> omega
  omega
end Go.Proofs.Ytkophklnleodcaa
