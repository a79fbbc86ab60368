/- DERIVED. The law of the game forwards, walked. -/
import Derived.Test.YtljggpbkggkcaaaDctl
import Derived.Test.YtljggpbkggkcaaaDsane
import Derived.Test.YtljggpbkggkcaaaDtreeu
namespace Go.Proofs.Ytljggpbkggkcaaa
open Go.Dx Go.RowKit
set_option linter.unusedVariables false
set_option linter.unusedSimpArgs false
theorem rel_out_in {c : CO} {t s a b : Int} (h : [DV.n a, .n b] = RelF c t s) (hz : askF c t s = 0) (k : inR (rob c t) s) : a = max (c.P.at t 2) (s - (topF c t - c.P.at t 1)) ∧ b = 0 := by
  have e := h.trans (rel_in hz k rfl).symm
  simp only [List.cons.injEq, DV.n.injEq, and_true] at e
  exact e
theorem spo_out_in {c : CO} {t s o a b : Int} (h : [DV.n a, .n b] = SpoF c t s o) (hz : askF c t s = 0) (k : okN o) (q : ¬ (inR (rob c t) s ∨ ¬ allowed c t s o)) :
    b = 0 ∧ ((a = c.P.at t 0 ∧ (c.P.at t 4 < s - o + a - afterF c s o a ∨ ¬ inR (rob c (t + 1)) (afterF c s o a))) ∨ (a = c.P.at t 1 ∧ ¬ (c.P.at t 4 < s - o + c.P.at t 0 - afterF c s o (c.P.at t 0) ∨ ¬ inR (rob c (t + 1)) (afterF c s o (c.P.at t 0))))) := by
  by_cases z : c.P.at t 4 < s - o + c.P.at t 0 - afterF c s o (c.P.at t 0) ∨ ¬ inR (rob c (t + 1)) (afterF c s o (c.P.at t 0))
  · have e := h.trans (spo_lo hz k q z).symm
    simp only [List.cons.injEq, DV.n.injEq, and_true] at e
    refine ⟨e.2, .inl ⟨e.1, ?_⟩⟩
    rw [e.1]; exact z
  · have e := h.trans (spo_hi hz k q z).symm
    simp only [List.cons.injEq, DV.n.injEq, and_true] at e
    exact ⟨e.2, .inr ⟨e.1, z⟩⟩
theorem next_ok_in {c : CO} {t s o i a b d e : Int} (h : [DV.n a, .n b, .n d, .n e] = NextF c t s o i) (ha : askF c t s = 0) (k : okN o ∧ okN i) (q : allowed c t s o) : e = 0 ∧ ((d = 0 ∧ c.P.at t 4 < s - o + i - afterF c s o i) ∨ (d = 1 ∧ a = afterF c s o i ∧ b = s - o + i - afterF c s o i ∧ ¬ c.P.at t 4 < s - o + i - afterF c s o i)) := by
  by_cases z : c.P.at t 4 < s - o + i - afterF c s o i
  · have e := h.trans (next_no ha k (.inr z)).symm
    simp only [List.cons.injEq, DV.n.injEq, and_true] at e
    exact ⟨e.2.2.2, .inl ⟨e.2.2.1, z⟩⟩
  · have e := h.trans (next_yes ha k (fun y => y.elim (fun y => y q) z) rfl rfl).symm
    simp only [List.cons.injEq, DV.n.injEq, and_true] at e
    exact ⟨e.2.2.2, .inr ⟨e.2.2.1, e.1, e.2.1, z⟩⟩
theorem at_pos {I : DV} {i : Int} : True := trivial
set_option maxHeartbeats 4000000 in
set_option maxRecDepth 100000 in
theorem PlanEither_any (v0 v1 : Value) (w : World) (hG : Glb tb w) (g0 : CourseA w v0) (g1 : ∃ d, cellA w u32L (.sl none 0 d) v1) :
    Calls Try.prog 6 #[v0, v1] w fun e w' => e = .returned (.bool true) ∧ Below w.heap.size w w' := by
  obtain ⟨cap, st, fl, P, c0, rfl, h0⟩ := g0
  obtain ⟨I, h1⟩ := g1
  refine law_of_walk (tb := tb) (P := Try.prog) fine (C := [lawCon 11 [], cRobust 12, cChk 14, cRel 17, cNext 19, cSpo 21, lEi 0 8, cAt 27, cPick 26]) (conCons cSane_ok (conCons cRobust_ok (conCons cChk_ok (conCons cRel_ok (conCons cNext_ok (conCons cSpo_ok (lopCons rfl (conCons cAt_ok (conCons cPick_ok noCon))))))))) 80 6 [.agg course, .c u32L] rfl (w := w) hG
    (xs := [.n cap, .n st, .n fl, .sl none 0 P, .sl none 0 I]) ?_ ?_
  · exact ⟨_, [.sl none 0 I], c0, rfl, rfl, h0, h1, by simp [ArgsV]⟩
  clear h0 h1
  rw [tree_lei]
  refine res_con rfl trivial (fun z z0 z1 hz => ?_)
  obtain rfl := n_inj (show [DV.n z] = [DV.n 1] from hz)
  refine res_ite (fun h => absurd (show (1 : Int) = 0 from h) (by decide)) fun _ => ?_
  refine res_con rfl trivial (fun L hL e _ _ hR => ?_)
  clear hL
  have hR : [DV.sl none 0 L, .n e] = RobustF ⟨cap, st, fl, .sl none 0 P⟩ := hR
  refine res_ite (fun q => ?_) fun q => ?_
  · have q : ¬ e = 0 := q
    obtain ⟨_, hL, he⟩ := (robust_in hR).resolve_right fun y => q y.1
    subst hL
    refine res_ite (fun _ => res_con rfl trivial (fun a _ _ ha => res_ite (fun _ => rfl) (fun n => absurd ?_ n))) (fun n => absurd (show (DV.sl none 0 []).len = 0 from rfl) n)
    have ha := n_inj (show [DV.n a] = [DV.n (chkF ⟨cap, st, fl, .sl none 0 P⟩)] from ha)
    show a = e
    rw [ha, he]
  have q : ¬ ¬ e = 0 := q
  obtain ⟨he, hc0, hL⟩ := (robust_in hR).resolve_left fun y => q y.1
  obtain ⟨hlen, hr⟩ := chk_zero hc0
  generalize hc : CO.mk cap st fl (.sl none 0 P) = c at *
  have hcap : c.cap = cap := by rw [← hc]
  have hst : c.st = st := by rw [← hc]
  have hfl : c.fl = fl := by rw [← hc]
  have hP : c.P = .sl none 0 P := by rw [← hc]
  rw [hP] at hlen
  have l0 := len_nn (.sl none 0 P)
  have lL : (DV.sl none 0 L).len = (DV.sl none 0 P).len + 1 := by
    have := len_of (L := L) (n := (DV.sl none 0 P).len.toNat + 1) (by rw [hL, rowsF_len, hP]) (by omega)
    omega
  have lw : IntKind.i64.wrap ((DV.sl none 0 P).len + 1) = (DV.sl none 0 P).len + 1 := wI (by omega) (by omega)
  refine res_ite (fun h => absurd (show (DV.sl none 0 L).len = IntKind.i64.wrap ((DV.sl none 0 P).len + 1) by rw [lL, lw]) h) fun _ => ?_
  refine res_ok (show (0 : Int) ≤ 0 ∧ 0 < (DV.sl none 0 L).len by omega) ?_
  have hrc := hr.1
  rw [hcap, hst, hfl] at hrc
  refine res_ok (show 0 ≤ st ∧ st ≤ 1099511627776 by omega) ?_
  have row : ∀ t, 0 ≤ t → t ≤ (DV.sl none 0 P).len → (DV.sl none 0 L).at t 0 = (rob c t).1 ∧ (DV.sl none 0 L).at t 1 = (rob c t).2 := fun t t0 t1 => row_at hr hL t0 (by rw [hP]; exact t1)
  have asks : ∀ {t s : Int}, 0 ≤ t → t < (DV.sl none 0 P).len → 0 ≤ s → s ≤ cap → askF c t s = 0 := fun t0 t1 s0 s1 => ask_fine hc0 (by rw [hP, hcap]; omega)
  have r0 := row 0 (by omega) (by omega)
  have rE : rob c (DV.sl none 0 P).len = (fl, cap) := by have := rob_end c; rw [hP, hfl, hcap] at this; exact this
  refine res_ite (fun hin => ?_) (fun hin => ?_)
  all_goals
    have hin0 : inR (rob c 0) st ↔ ((DV.sl none 0 L).at 0 0 ≤ st ∧ st ≤ (DV.sl none 0 L).at 0 1) := by unfold inR; rw [r0.1, r0.2]
  · have hin := hin0.2 hin
    refine res_lop rfl (show (0 : Int) ≤ (DV.sl none 0 P).len ∧ st ≤ cap ∧ (inR (rob (CO.mk cap st fl (.sl none 0 P)) 0) st ↔ (1 : Int) = 1) from ⟨l0, by omega, by rw [hc]; exact ⟨fun _ => rfl, fun _ => hin⟩⟩) ?_
    refine fun s s0 s1 b b0 b1 i i0 i1 hI => ?_
    obtain ⟨hi, hs, hb⟩ : i ≤ (DV.sl none 0 P).len ∧ s ≤ cap ∧ (inR (rob (CO.mk cap st fl (.sl none 0 P)) i) s ↔ b = 1) := hI
    rw [hc] at hb
    have ri := row i i0 hi
    refine res_ite (fun hlt => ?_) fun hge => ?_
    · have hlt : i < (DV.sl none 0 P).len := hlt
      refine res_ok (show 0 ≤ i ∧ i < (DV.sl none 0 L).len by omega) ?_
      have hbi : ((DV.sl none 0 L).at i 0 ≤ s ∧ s ≤ (DV.sl none 0 L).at i 1) ↔ b = 1 := by rw [ri.1, ri.2]; exact hb
      have hz := asks i0 hlt s0 hs
      have hpo := per_at hr i0 (show i < c.P.len by rw [hP]; exact hlt)
      refine res_ite (fun y => absurd (show (¬ b = 0 ∧ (DV.sl none 0 L).at i 0 ≤ s ∧ s ≤ (DV.sl none 0 L).at i 1) ∨ (b = 0 ∧ ¬ ((DV.sl none 0 L).at i 0 ≤ s ∧ s ≤ (DV.sl none 0 L).at i 1)) from ?_) y) fun _ => ?_
      · by_cases b9 : b = 1
        · exact .inl ⟨by omega, hbi.2 b9⟩
        · exact .inr ⟨by omega, fun y => b9 (hbi.1 y)⟩
      refine res_ite (fun hb1 => ?_) fun hb0 => ?_
      · have hb1 : ¬ b = 0 := hb1
        have hin := hb.2 (by omega)
        refine res_con rfl trivial (fun o _ _ o2 _ _ ho => ?_)
        have ho : [DV.n o, .n o2] = RelF (CO.mk cap st fl (.sl none 0 P)) i s := ho
        rw [hc] at ho
        obtain ⟨ho1, ho2⟩ := rel_out_in ho hz hin
        clear ho; subst ho2; have ho := ho1
        have hk := keep_all hr i0 (show i < c.P.len by rw [hP]; exact hlt) hin ho
        have hal := hk.1
        unfold perOk okN at hpo
        unfold allowed at hal
        rw [hP] at hpo hal
        refine res_con rfl (show 0 ≤ i from i0) (fun a a0 a1 ha => ?_)
        clear ha
        refine res_con rfl (show (0 ≤ (DV.sl none 0 P).at i 0 ∧ (DV.sl none 0 P).at i 0 ≤ (DV.sl none 0 P).at i 1 ∧ (DV.sl none 0 P).at i 1 ≤ 1099511627776) ∧ 0 ≤ a ∧ a ≤ 4294967295 from ⟨by omega, by omega⟩) (fun q q0 q1 hq => ?_)
        have hq : q = (DV.sl none 0 P).at i 0 + Int.tmod a ((DV.sl none 0 P).at i 1 - (DV.sl none 0 P).at i 0 + 1) := n_inj hq
        have t0 := Int.tmod_nonneg ((DV.sl none 0 P).at i 1 - (DV.sl none 0 P).at i 0 + 1) a0
        have t1 := Int.tmod_lt_of_pos a (show 0 < (DV.sl none 0 P).at i 1 - (DV.sl none 0 P).at i 0 + 1 by omega)
        have hkq := hk.2 q (by rw [hP]; omega) (by rw [hP]; omega)
        refine res_con rfl trivial (fun n1 _ _ n2 _ _ n3 _ _ n4 _ _ hn => ?_)
        have hn : [DV.n n1, .n n2, .n n3, .n n4] = NextF (CO.mk cap st fl (.sl none 0 P)) i s o q := hn
        rw [hc] at hn
        obtain ⟨hn9, hn8⟩ := next_ok_in hn hz ⟨by unfold okN; omega, by unfold okN; omega⟩ hk.1
        clear hn; subst hn9; have hn := hn8
        obtain ⟨rfl, hn1, hn2, _⟩ := hn.resolve_left fun y => hkq.1 y.2
        have hkq1 := hkq.1
        rw [hP] at hkq1
        refine res_ite (fun y => ?_) fun _ => ?_
        · have y : (((((¬ (0 : Int) = 0 ∨ ¬ (0 : Int) = 0) ∨ (1 : Int) = 0) ∨ o < (DV.sl none 0 P).at i 2) ∨ (DV.sl none 0 P).at i 3 < o) ∨ s < o) ∨ (DV.sl none 0 P).at i 4 < n2 := y
          omega
        have haf : 0 ≤ n1 ∧ n1 ≤ cap := by
          rw [hn1]; unfold afterF; rw [hcap]; omega
        refine res_ok (show 0 ≤ n1 ∧ n1 ≤ 1099511627776 by omega) ?_
        refine res_chk rfl (show i + 1 ≤ (DV.sl none 0 P).len ∧ n1 ≤ cap ∧ (inR (rob (CO.mk cap st fl (.sl none 0 P)) (i + 1)) n1 ↔ (1 : Int) = 1) from ⟨by omega, by omega, by rw [hc, hn1]; exact ⟨fun _ => rfl, fun _ => hkq.2⟩⟩) ?_
        show ((DV.sl none 0 P).len - (i + 1)).toNat < ((DV.sl none 0 P).len - i).toNat
        omega
      · have hb0 : ¬ ¬ b = 0 := hb0
        have hout : ¬ inR (rob c i) s := fun y => hb0 (by have := hb.1 y; omega)
        unfold perOk okN at hpo
        rw [hP] at hpo
        refine res_ite (fun _ => rfl) fun hm => ?_
        have hm : ¬ min ((DV.sl none 0 P).at i 3) s < (DV.sl none 0 P).at i 2 := hm
        refine res_con rfl (show 0 ≤ i from i0) (fun a a0 a1 ha => ?_)
        clear ha
        refine res_con rfl (show (0 ≤ (DV.sl none 0 P).at i 2 ∧ (DV.sl none 0 P).at i 2 ≤ min ((DV.sl none 0 P).at i 3) s ∧ min ((DV.sl none 0 P).at i 3) s ≤ 1099511627776) ∧ 0 ≤ a ∧ a ≤ 4294967295 from ⟨by omega, by omega⟩) (fun o _ _ ho => ?_)
        have ho : o = (DV.sl none 0 P).at i 2 + Int.tmod a (min ((DV.sl none 0 P).at i 3) s - (DV.sl none 0 P).at i 2 + 1) := n_inj ho
        have t0 := Int.tmod_nonneg (min ((DV.sl none 0 P).at i 3) s - (DV.sl none 0 P).at i 2 + 1) a0
        have t1 := Int.tmod_lt_of_pos a (show 0 < min ((DV.sl none 0 P).at i 3) s - (DV.sl none 0 P).at i 2 + 1 by omega)
        have hal : allowed c i s o := by unfold allowed; rw [hP]; omega
        have hoN : okN o := by unfold okN; omega
        refine res_con rfl trivial (fun q _ _ q2 _ _ hq => ?_)
        have hq : [DV.n q, .n q2] = SpoF (CO.mk cap st fl (.sl none 0 P)) i s o := hq
        rw [hc] at hq
        obtain ⟨hq2, hq1⟩ := spo_out_in hq hz hoN (fun y => y.elim hout fun y => y hal)
        clear hq; subst hq2; have hq := hq1
        have hbad : c.P.at i 4 < s - o + q - afterF c s o q ∨ ¬ inR (rob c (i + 1)) (afterF c s o q) := by
          rcases hq with ⟨_, hq⟩ | ⟨hq, hg⟩
          · exact hq
          · rw [hq]
            exact lost_some hr i0 (show i < c.P.len by rw [hP]; exact hlt) (by rw [hcap]; exact hs) hout hal (fun y => hg (.inl y)) (Classical.byContradiction fun y => hg (.inr y))
        have hqr : (DV.sl none 0 P).at i 0 ≤ q ∧ q ≤ (DV.sl none 0 P).at i 1 := by
          rw [hP] at hq
          rcases hq with ⟨hq, _⟩ | ⟨hq, _⟩ <;> omega
        refine res_con rfl trivial (fun n1 _ _ n2 _ _ n3 _ _ n4 _ _ hn => ?_)
        have hn : [DV.n n1, .n n2, .n n3, .n n4] = NextF (CO.mk cap st fl (.sl none 0 P)) i s o q := hn
        rw [hc] at hn
        obtain ⟨hn9, hn8⟩ := next_ok_in hn hz ⟨hoN, by unfold okN; omega⟩ hal
        clear hn; subst hn9; have hn := hn8
        refine res_ite (fun y => ?_) fun _ => ?_
        · have y : (¬ (0 : Int) = 0 ∨ ¬ (0 : Int) = 0) ∨ ¬ ((DV.sl none 0 P).at i 0 ≤ q ∧ q ≤ (DV.sl none 0 P).at i 1) := y
          omega
        refine res_ite (fun _ => rfl) fun hd => ?_
        have hd : ¬ n3 = 0 := hd
        obtain ⟨_, hn1, hn2, hsp⟩ := hn.resolve_left fun y => hd y.1
        have hnot := hbad.resolve_left hsp
        unfold allowed at hal
        rw [hP] at hal
        have haf : 0 ≤ n1 ∧ n1 ≤ cap := by
          rw [hn1]; unfold afterF; rw [hcap]; omega
        refine res_ok (show 0 ≤ n1 ∧ n1 ≤ 1099511627776 by omega) ?_
        refine res_chk rfl (show i + 1 ≤ (DV.sl none 0 P).len ∧ n1 ≤ cap ∧ (inR (rob (CO.mk cap st fl (.sl none 0 P)) (i + 1)) n1 ↔ (0 : Int) = 1) from ⟨by omega, by omega, by rw [hc, hn1]; exact ⟨fun y => absurd y hnot, fun y => absurd y (by decide)⟩⟩) ?_
        show ((DV.sl none 0 P).len - (i + 1)).toNat < ((DV.sl none 0 P).len - i).toNat
        omega
    · have hge : ¬ i < (DV.sl none 0 P).len := hge
      have ei : i = (DV.sl none 0 P).len := by omega
      rw [ei, rE] at hb
      have hb : (fl ≤ s ∧ s ≤ cap) ↔ b = 1 := hb
      refine res_ite (fun _ => rfl) fun y => absurd ?_ y
      show (¬ b = 0 ∧ fl ≤ s ∧ s ≤ cap) ∨ (b = 0 ∧ ¬ (fl ≤ s ∧ s ≤ cap))
      by_cases b9 : b = 1
      · exact .inl ⟨by omega, hb.2 b9⟩
      · exact .inr ⟨by omega, fun y => b9 (hb.1 y)⟩
  · have hin := fun y => hin (hin0.1 y)
    refine res_lop rfl (show (0 : Int) ≤ (DV.sl none 0 P).len ∧ st ≤ cap ∧ (inR (rob (CO.mk cap st fl (.sl none 0 P)) 0) st ↔ (0 : Int) = 1) from ⟨l0, by omega, by rw [hc]; exact ⟨fun y => absurd y hin, fun y => absurd y (by decide)⟩⟩) ?_
    refine fun s s0 s1 b b0 b1 i i0 i1 hI => ?_
    obtain ⟨hi, hs, hb⟩ : i ≤ (DV.sl none 0 P).len ∧ s ≤ cap ∧ (inR (rob (CO.mk cap st fl (.sl none 0 P)) i) s ↔ b = 1) := hI
    rw [hc] at hb
    have ri := row i i0 hi
    refine res_ite (fun hlt => ?_) fun hge => ?_
    · have hlt : i < (DV.sl none 0 P).len := hlt
      refine res_ok (show 0 ≤ i ∧ i < (DV.sl none 0 L).len by omega) ?_
      have hbi : ((DV.sl none 0 L).at i 0 ≤ s ∧ s ≤ (DV.sl none 0 L).at i 1) ↔ b = 1 := by rw [ri.1, ri.2]; exact hb
      have hz := asks i0 hlt s0 hs
      have hpo := per_at hr i0 (show i < c.P.len by rw [hP]; exact hlt)
      refine res_ite (fun y => absurd (show (¬ b = 0 ∧ (DV.sl none 0 L).at i 0 ≤ s ∧ s ≤ (DV.sl none 0 L).at i 1) ∨ (b = 0 ∧ ¬ ((DV.sl none 0 L).at i 0 ≤ s ∧ s ≤ (DV.sl none 0 L).at i 1)) from ?_) y) fun _ => ?_
      · by_cases b9 : b = 1
        · exact .inl ⟨by omega, hbi.2 b9⟩
        · exact .inr ⟨by omega, fun y => b9 (hbi.1 y)⟩
      refine res_ite (fun hb1 => ?_) fun hb0 => ?_
      · have hb1 : ¬ b = 0 := hb1
        have hin := hb.2 (by omega)
        refine res_con rfl trivial (fun o _ _ o2 _ _ ho => ?_)
        have ho : [DV.n o, .n o2] = RelF (CO.mk cap st fl (.sl none 0 P)) i s := ho
        rw [hc] at ho
        obtain ⟨ho1, ho2⟩ := rel_out_in ho hz hin
        clear ho; subst ho2; have ho := ho1
        have hk := keep_all hr i0 (show i < c.P.len by rw [hP]; exact hlt) hin ho
        have hal := hk.1
        unfold perOk okN at hpo
        unfold allowed at hal
        rw [hP] at hpo hal
        refine res_con rfl (show 0 ≤ i from i0) (fun a a0 a1 ha => ?_)
        clear ha
        refine res_con rfl (show (0 ≤ (DV.sl none 0 P).at i 0 ∧ (DV.sl none 0 P).at i 0 ≤ (DV.sl none 0 P).at i 1 ∧ (DV.sl none 0 P).at i 1 ≤ 1099511627776) ∧ 0 ≤ a ∧ a ≤ 4294967295 from ⟨by omega, by omega⟩) (fun q q0 q1 hq => ?_)
        have hq : q = (DV.sl none 0 P).at i 0 + Int.tmod a ((DV.sl none 0 P).at i 1 - (DV.sl none 0 P).at i 0 + 1) := n_inj hq
        have t0 := Int.tmod_nonneg ((DV.sl none 0 P).at i 1 - (DV.sl none 0 P).at i 0 + 1) a0
        have t1 := Int.tmod_lt_of_pos a (show 0 < (DV.sl none 0 P).at i 1 - (DV.sl none 0 P).at i 0 + 1 by omega)
        have hkq := hk.2 q (by rw [hP]; omega) (by rw [hP]; omega)
        refine res_con rfl trivial (fun n1 _ _ n2 _ _ n3 _ _ n4 _ _ hn => ?_)
        have hn : [DV.n n1, .n n2, .n n3, .n n4] = NextF (CO.mk cap st fl (.sl none 0 P)) i s o q := hn
        rw [hc] at hn
        obtain ⟨hn9, hn8⟩ := next_ok_in hn hz ⟨by unfold okN; omega, by unfold okN; omega⟩ hk.1
        clear hn; subst hn9; have hn := hn8
        obtain ⟨rfl, hn1, hn2, _⟩ := hn.resolve_left fun y => hkq.1 y.2
        have hkq1 := hkq.1
        rw [hP] at hkq1
        refine res_ite (fun y => ?_) fun _ => ?_
        · have y : (((((¬ (0 : Int) = 0 ∨ ¬ (0 : Int) = 0) ∨ (1 : Int) = 0) ∨ o < (DV.sl none 0 P).at i 2) ∨ (DV.sl none 0 P).at i 3 < o) ∨ s < o) ∨ (DV.sl none 0 P).at i 4 < n2 := y
          omega
        have haf : 0 ≤ n1 ∧ n1 ≤ cap := by
          rw [hn1]; unfold afterF; rw [hcap]; omega
        refine res_ok (show 0 ≤ n1 ∧ n1 ≤ 1099511627776 by omega) ?_
        refine res_chk rfl (show i + 1 ≤ (DV.sl none 0 P).len ∧ n1 ≤ cap ∧ (inR (rob (CO.mk cap st fl (.sl none 0 P)) (i + 1)) n1 ↔ (1 : Int) = 1) from ⟨by omega, by omega, by rw [hc, hn1]; exact ⟨fun _ => rfl, fun _ => hkq.2⟩⟩) ?_
        show ((DV.sl none 0 P).len - (i + 1)).toNat < ((DV.sl none 0 P).len - i).toNat
        omega
      · have hb0 : ¬ ¬ b = 0 := hb0
        have hout : ¬ inR (rob c i) s := fun y => hb0 (by have := hb.1 y; omega)
        unfold perOk okN at hpo
        rw [hP] at hpo
        refine res_ite (fun _ => rfl) fun hm => ?_
        have hm : ¬ min ((DV.sl none 0 P).at i 3) s < (DV.sl none 0 P).at i 2 := hm
        refine res_con rfl (show 0 ≤ i from i0) (fun a a0 a1 ha => ?_)
        clear ha
        refine res_con rfl (show (0 ≤ (DV.sl none 0 P).at i 2 ∧ (DV.sl none 0 P).at i 2 ≤ min ((DV.sl none 0 P).at i 3) s ∧ min ((DV.sl none 0 P).at i 3) s ≤ 1099511627776) ∧ 0 ≤ a ∧ a ≤ 4294967295 from ⟨by omega, by omega⟩) (fun o _ _ ho => ?_)
        have ho : o = (DV.sl none 0 P).at i 2 + Int.tmod a (min ((DV.sl none 0 P).at i 3) s - (DV.sl none 0 P).at i 2 + 1) := n_inj ho
        have t0 := Int.tmod_nonneg (min ((DV.sl none 0 P).at i 3) s - (DV.sl none 0 P).at i 2 + 1) a0
        have t1 := Int.tmod_lt_of_pos a (show 0 < min ((DV.sl none 0 P).at i 3) s - (DV.sl none 0 P).at i 2 + 1 by omega)
        have hal : allowed c i s o := by unfold allowed; rw [hP]; omega
        have hoN : okN o := by unfold okN; omega
        refine res_con rfl trivial (fun q _ _ q2 _ _ hq => ?_)
        have hq : [DV.n q, .n q2] = SpoF (CO.mk cap st fl (.sl none 0 P)) i s o := hq
        rw [hc] at hq
        obtain ⟨hq2, hq1⟩ := spo_out_in hq hz hoN (fun y => y.elim hout fun y => y hal)
        clear hq; subst hq2; have hq := hq1
        have hbad : c.P.at i 4 < s - o + q - afterF c s o q ∨ ¬ inR (rob c (i + 1)) (afterF c s o q) := by
          rcases hq with ⟨_, hq⟩ | ⟨hq, hg⟩
          · exact hq
          · rw [hq]
            exact lost_some hr i0 (show i < c.P.len by rw [hP]; exact hlt) (by rw [hcap]; exact hs) hout hal (fun y => hg (.inl y)) (Classical.byContradiction fun y => hg (.inr y))
        have hqr : (DV.sl none 0 P).at i 0 ≤ q ∧ q ≤ (DV.sl none 0 P).at i 1 := by
          rw [hP] at hq
          rcases hq with ⟨hq, _⟩ | ⟨hq, _⟩ <;> omega
        refine res_con rfl trivial (fun n1 _ _ n2 _ _ n3 _ _ n4 _ _ hn => ?_)
        have hn : [DV.n n1, .n n2, .n n3, .n n4] = NextF (CO.mk cap st fl (.sl none 0 P)) i s o q := hn
        rw [hc] at hn
        obtain ⟨hn9, hn8⟩ := next_ok_in hn hz ⟨hoN, by unfold okN; omega⟩ hal
        clear hn; subst hn9; have hn := hn8
        refine res_ite (fun y => ?_) fun _ => ?_
        · have y : (¬ (0 : Int) = 0 ∨ ¬ (0 : Int) = 0) ∨ ¬ ((DV.sl none 0 P).at i 0 ≤ q ∧ q ≤ (DV.sl none 0 P).at i 1) := y
          omega
        refine res_ite (fun _ => rfl) fun hd => ?_
        have hd : ¬ n3 = 0 := hd
        obtain ⟨_, hn1, hn2, hsp⟩ := hn.resolve_left fun y => hd y.1
        have hnot := hbad.resolve_left hsp
        unfold allowed at hal
        rw [hP] at hal
        have haf : 0 ≤ n1 ∧ n1 ≤ cap := by
          rw [hn1]; unfold afterF; rw [hcap]; omega
        refine res_ok (show 0 ≤ n1 ∧ n1 ≤ 1099511627776 by omega) ?_
        refine res_chk rfl (show i + 1 ≤ (DV.sl none 0 P).len ∧ n1 ≤ cap ∧ (inR (rob (CO.mk cap st fl (.sl none 0 P)) (i + 1)) n1 ↔ (0 : Int) = 1) from ⟨by omega, by omega, by rw [hc, hn1]; exact ⟨fun y => absurd y hnot, fun y => absurd y (by decide)⟩⟩) ?_
        show ((DV.sl none 0 P).len - (i + 1)).toNat < ((DV.sl none 0 P).len - i).toNat
        omega
    · have hge : ¬ i < (DV.sl none 0 P).len := hge
      have ei : i = (DV.sl none 0 P).len := by omega
      rw [ei, rE] at hb
      have hb : (fl ≤ s ∧ s ≤ cap) ↔ b = 1 := hb
      refine res_ite (fun _ => rfl) fun y => absurd ?_ y
      show (¬ b = 0 ∧ fl ≤ s ∧ s ≤ cap) ∨ (b = 0 ∧ ¬ (fl ≤ s ∧ s ≤ cap))
      by_cases b9 : b = 1
      · exact .inl ⟨by omega, hb.2 b9⟩
      · exact .inr ⟨by omega, fun y => b9 (hb.1 y)⟩
end Go.Proofs.Ytljggpbkggkcaaa
