/- DERIVED. The law of the game of one period, walked. -/
import Derived.Test.YtljggpbkggkcaaaDlawc
import Derived.Test.YtljggpbkggkcaaaDconj
import Derived.Test.YtljggpbkggkcaaaDtreew
import Derived.Test.YtljggpbkggkcaaaDmathc
namespace Go.Proofs.Ytljggpbkggkcaaa
open Go.Dx Go.RowKit
set_option linter.unusedVariables false
set_option linter.unusedSimpArgs false
theorem wins_iff {c : CO} {t s : Int} (hr : rightC c) (t0 : 0 ≤ t) (t1 : t < c.P.len) (hs : s ≤ c.cap) : (∃ o, c.P.at t 2 ≤ o ∧ o ≤ min (c.P.at t 3) s ∧ wins c t s o) ↔ inR (rob c t) s := by
  have hp := per_at hr t0 t1
  unfold perOk okN at hp
  constructor
  · rintro ⟨o, o1, o2, ow⟩
    refine Classical.byContradiction fun k => ?_
    have h0 := ow (c.P.at t 0) (by omega) (by omega)
    have h1 := ow (c.P.at t 1) (by omega) (by omega)
    have := lost_some hr t0 t1 hs k (show allowed c t s o from ⟨⟨by omega, by omega⟩, by omega⟩) h0.1 h0.2
    rcases this with q | q
    · exact h1.1 q
    · exact q h1.2
  · intro h
    have k := keep_all hr t0 t1 h rfl
    have ka := k.1
    unfold allowed at ka
    exact ⟨_, ka.1.1, by omega, fun q q0 q1 => k.2 q q0 q1⟩
theorem out_begin (c : CO) (t s : Int) : outP c t s 0 (c.P.at t 2) := ⟨⟨by omega, .inl rfl⟩, ⟨fun h => absurd h (by decide), fun ⟨x, h1, h2, _⟩ => by omega⟩⟩
theorem out_step {c : CO} {t s b o g b2 : Int} (h : outP c t s b o) (ho : o ≤ min (c.P.at t 3) s) (hg : g = 1 ↔ wins c t s o) (hb : b2 = 1 ↔ b = 1 ∨ g = 1) : outP c t s b2 (o + 1) := by
  obtain ⟨⟨h1, h2⟩, h3⟩ := h
  refine ⟨⟨by omega, .inr (by omega)⟩, ?_⟩
  rw [hb, h3, hg]
  constructor
  · rintro (⟨x, x1, x2, x3⟩ | hw)
    · exact ⟨x, x1, by omega, x3⟩
    · exact ⟨o, h1, by omega, hw⟩
  · rintro ⟨x, x1, x2, x3⟩
    by_cases e : x = o
    · subst e; exact .inr x3
    · exact .inl ⟨x, x1, by omega, x3⟩
theorem out_end {c : CO} {t s b o : Int} (hr : rightC c) (t0 : 0 ≤ t) (t1 : t < c.P.len) (hs : s ≤ c.cap) (h : outP c t s b o) (ho : ¬ o ≤ min (c.P.at t 3) s) : b = 1 ↔ inR (rob c t) s := by
  obtain ⟨⟨h1, h2⟩, h3⟩ := h
  rw [h3, ← wins_iff hr t0 t1 hs]
  constructor
  · rintro ⟨x, x1, x2, x3⟩; exact ⟨x, x1, by omega, x3⟩
  · rintro ⟨x, x1, x2, x3⟩; exact ⟨x, x1, by omega, x3⟩
theorem in_begin {c : CO} {t s o : Int} (h : c.P.at t 0 ≤ c.P.at t 1) : inP c t s o 1 (c.P.at t 0) := ⟨⟨by omega, by omega⟩, ⟨fun _ x h1 h2 => by omega, fun _ => rfl⟩⟩
theorem in_step {c : CO} {t s o b q b2 : Int} (h : inP c t s o b q) (hq : q ≤ c.P.at t 1) (hb : b2 = 1 ↔ b = 1 ∧ okQ c t s o q) : inP c t s o b2 (q + 1) := by
  obtain ⟨⟨h1, h2⟩, h3⟩ := h
  refine ⟨⟨by omega, by omega⟩, ?_⟩
  rw [hb, h3]
  constructor
  · rintro ⟨k1, k2⟩ x x1 x2
    by_cases e : x = q
    · subst e; exact k2
    · exact k1 x x1 (by omega)
  · intro k
    exact ⟨fun x x1 x2 => k x x1 (by omega), k q h1 (by omega)⟩
theorem in_end {c : CO} {t s o b q : Int} (h : inP c t s o b q) (hq : ¬ q ≤ c.P.at t 1) : b = 1 ↔ wins c t s o := by
  obtain ⟨⟨h1, h2⟩, h3⟩ := h
  rw [h3]
  exact ⟨fun k x x1 x2 => k x x1 (by omega), fun k x x1 x2 => k x x1 (by omega)⟩
set_option maxHeartbeats 4000000 in
set_option maxRecDepth 100000 in
theorem PlanGame_any (v0 : Value) (w : World) (hG : Glb tb w) (g0 : CourseA w v0) :
    Calls Try.prog 7 #[v0] w fun e w' => e = .returned (.bool true) ∧ Below w.heap.size w w' := by
  obtain ⟨cap, st, fl, P, c0, rfl, h0⟩ := g0
  refine law_of_walk (tb := tb) (P := Try.prog) fine (C := [lawCon 11 [], cRobust 12, cChk 14, gPer, gSto, gOut, gIn]) (conCons cSane_ok (conCons cRobust_ok (conCons cChk_ok (lopCons rfl (lopCons rfl (lopCons rfl (lopCons rfl noCon))))))) 80 7 [.agg course] rfl (w := w) hG
    (xs := [.n cap, .n st, .n fl, .sl none 0 P]) ?_ ?_
  · exact ⟨_, [], c0, rfl, rfl, h0, by simp [ArgsV]⟩
  clear h0
  rw [tree_lgame]
  refine res_con rfl trivial (fun z z0 z1 hz => ?_)
  obtain rfl := n_inj (show [DV.n z] = [DV.n 1] from hz)
  refine res_ite (fun h => absurd (show (1 : Int) = 0 from h) (by decide)) fun _ => ?_
  refine res_ite (fun hsm => ?_) fun _ => rfl
  have hsm : ¬ (30 < cap ∨ 5 < (DV.sl none 0 P).len) := hsm
  refine res_con rfl trivial (fun a _ _ ha => ?_)
  have ha : a = chkF ⟨cap, st, fl, .sl none 0 P⟩ := n_inj ha
  refine res_ite (fun _ => rfl) fun ha0 => ?_
  have ha0 : ¬ ¬ a = 0 := ha0
  have hc0 : chkF ⟨cap, st, fl, .sl none 0 P⟩ = 0 := by omega
  obtain ⟨hlen, hr⟩ := chk_zero hc0
  generalize hc : CO.mk cap st fl (.sl none 0 P) = c at *
  have hcap : c.cap = cap := by rw [← hc]
  have hP : c.P = .sl none 0 P := by rw [← hc]
  have hfl : c.fl = fl := by rw [← hc]
  rw [hP] at hlen
  have l0 := len_nn (.sl none 0 P)
  refine res_con rfl trivial (fun L hL e _ _ hR => ?_)
  clear hL
  have hR : [DV.sl none 0 L, .n e] = RobustF (CO.mk cap st fl (.sl none 0 P)) := hR
  rw [hc] at hR
  obtain ⟨he, _, hL⟩ := (robust_in hR).resolve_left fun y => y.1 (by rw [y.2.2]; exact hc0)
  have lL : (DV.sl none 0 L).len = (DV.sl none 0 P).len + 1 := by
    have := len_of (L := L) (n := (DV.sl none 0 P).len.toNat + 1) (by rw [hL, rowsF_len, hP]) (by omega)
    omega
  have row : ∀ t, 0 ≤ t → t ≤ (DV.sl none 0 P).len → (DV.sl none 0 L).at t 0 = (rob c t).1 ∧ (DV.sl none 0 L).at t 1 = (rob c t).2 := fun t t0 t1 => row_at hr hL t0 (by rw [hP]; exact t1)
  refine res_ite (fun _ => ?_) fun y => absurd (show ¬ (¬ e = 0 ∨ ¬ (DV.sl none 0 L).len = (DV.sl none 0 P).len + 1) by omega) y
  refine res_ok (show 0 ≤ (DV.sl none 0 P).len ∧ (DV.sl none 0 P).len < (DV.sl none 0 L).len by omega) ?_
  have rE := row (DV.sl none 0 P).len l0 (by omega)
  have rE2 : rob c (DV.sl none 0 P).len = (fl, cap) := by have := rob_end c; rw [hP, hfl, hcap] at this; exact this
  rw [rE2] at rE
  refine res_ite (fun y => absurd (show (DV.sl none 0 L).at (DV.sl none 0 P).len 0 = fl ∧ (DV.sl none 0 L).at (DV.sl none 0 P).len 1 = cap from rE) y) fun _ => ?_
  have hcp : 0 ≤ cap := by have := hr.1.1.1; rw [hcap] at this; exact this
  refine res_lop rfl (show (0 : Int) ≤ (DV.sl none 0 P).len from l0) (fun t t0 _ ht => ?_)
  have ht : t ≤ (DV.sl none 0 P).len := ht
  refine res_ite (fun htl => ?_) fun _ => rfl
  have htl : t < (DV.sl none 0 P).len := htl
  have tP : t < c.P.len := by rw [hP]; exact htl
  have hp := per_at hr t0 tP
  unfold perOk okN at hp
  have rt := row t t0 ht
  have rt1 := row (t + 1) (by omega) (by omega)
  rw [hP] at hp
  refine res_ite (fun _ => rfl) fun _ => ?_
  refine res_lop rfl (show (0 : Int) ≤ cap + 1 by omega) (fun s s0 _ hs => ?_)
  have hs : s ≤ cap + 1 := hs
  refine res_ite (fun hsl => ?_) fun _ => ?_
  · have hsl : s < cap + 1 := hsl
    refine res_ok (show 0 ≤ (DV.sl none 0 P).at t 2 ∧ (DV.sl none 0 P).at t 2 ≤ 1099511627777 by omega) ?_
    refine res_lop rfl (show outP (CO.mk cap st fl (.sl none 0 P)) t s 0 ((DV.sl none 0 P).at t 2) from out_begin (CO.mk cap st fl (.sl none 0 P)) t s) (fun b b0 b1 o o0 o1 ho => ?_)
    have ho : outP (CO.mk cap st fl (.sl none 0 P)) t s b o := ho
    rw [hc] at ho
    refine res_ite (fun hol => ?_) fun hoe => ?_
    · have hol : o ≤ min ((DV.sl none 0 P).at t 3) s := hol
      refine res_ok (show 0 ≤ (DV.sl none 0 P).at t 0 ∧ (DV.sl none 0 P).at t 0 ≤ 1099511627777 by omega) ?_
      refine res_lop rfl (show inP (CO.mk cap st fl (.sl none 0 P)) t s o 1 ((DV.sl none 0 P).at t 0) from in_begin (c := CO.mk cap st fl (.sl none 0 P)) (by show (DV.sl none 0 P).at t 0 ≤ (DV.sl none 0 P).at t 1; omega)) (fun g g0 g1 q q0 q1 hq => ?_)
      have hq : inP (CO.mk cap st fl (.sl none 0 P)) t s o g q := hq
      rw [hc] at hq
      refine res_ite (fun hql => ?_) fun hqe => ?_
      · have hql : q ≤ (DV.sl none 0 P).at t 1 := hql
        have ew : IntKind.i64.wrap (cap + (DV.sl none 0 P).at t 4) = cap + (DV.sl none 0 P).at t 4 := wI (by omega) (by omega)
        have hqP : q ≤ c.P.at t 1 := by rw [hP]; exact hql
        have mea : (1099511627778 - (q + 1)).toNat < (1099511627778 - q).toNat := by omega
        have key : ∀ b2 : Int, (b2 = 1 ↔ g = 1 ∧ okQ c t s o q) → inP (CO.mk cap st fl (.sl none 0 P)) t s o b2 (q + 1) := fun b2 hb => by rw [hc]; exact in_step hq hqP hb
        have hok : okQ c t s o q ↔ (s - o + q ≤ cap + (DV.sl none 0 P).at t 4 ∧ (DV.sl none 0 L).at (t + 1) 0 ≤ min (s - o + q) cap ∧ min (s - o + q) cap ≤ (DV.sl none 0 L).at (t + 1) 1) := by
          unfold okQ inR afterF
          rw [hcap, hP, rt1.1, rt1.2]
          omega
        refine res_ite (fun y => ?_) fun y => ?_
        · have y : ¬ g = 0 ∧ s - o + q ≤ IntKind.i64.wrap (cap + (DV.sl none 0 P).at t 4) := y
          rw [ew] at y
          refine res_ok (show 0 ≤ t + 1 ∧ t + 1 < (DV.sl none 0 L).len by omega) ?_
          refine res_ite (fun y2 => ?_) fun y2 => ?_
          · have y2 : (DV.sl none 0 L).at (t + 1) 0 ≤ min (s - o + q) cap ∧ min (s - o + q) cap ≤ (DV.sl none 0 L).at (t + 1) 1 := y2
            exact res_chk rfl (key 1 ⟨fun _ => ⟨by omega, hok.2 ⟨y.2, y2⟩⟩, fun _ => rfl⟩) mea
          · have y2 : ¬ ((DV.sl none 0 L).at (t + 1) 0 ≤ min (s - o + q) cap ∧ min (s - o + q) cap ≤ (DV.sl none 0 L).at (t + 1) 1) := y2
            exact res_chk rfl (key 0 ⟨fun h => absurd h (by decide), fun h => absurd (hok.1 h.2).2 y2⟩) mea
        · have y : ¬ (¬ g = 0 ∧ s - o + q ≤ IntKind.i64.wrap (cap + (DV.sl none 0 P).at t 4)) := y
          rw [ew] at y
          exact res_chk rfl (key 0 ⟨fun h => absurd h (by decide), fun h => absurd ⟨by omega, (hok.1 h.2).1⟩ y⟩) mea
      · have hqe : ¬ q ≤ (DV.sl none 0 P).at t 1 := hqe
        have hg := in_end hq (by rw [hP]; exact hqe)
        have mea : (1099511627778 - (o + 1)).toNat < (1099511627778 - o).toNat := by omega
        have key : ∀ b2 : Int, (b2 = 1 ↔ b = 1 ∨ g = 1) → outP (CO.mk cap st fl (.sl none 0 P)) t s b2 (o + 1) := fun b2 hb => by rw [hc]; exact out_step ho (by rw [hP]; exact hol) hg hb
        refine res_ite (fun y => ?_) fun y => ?_
        · have y : ¬ b = 0 ∨ ¬ g = 0 := y
          exact res_chk rfl (key 1 ⟨fun _ => by omega, fun _ => rfl⟩) mea
        · have y : ¬ (¬ b = 0 ∨ ¬ g = 0) := y
          exact res_chk rfl (key 0 ⟨fun h => absurd h (by decide), fun h => by omega⟩) mea
    · have hoe : ¬ o ≤ min ((DV.sl none 0 P).at t 3) s := hoe
      have hb := out_end hr t0 tP (by rw [hcap]; omega) ho (by rw [hP]; exact hoe)
      refine res_ok (show 0 ≤ t ∧ t < (DV.sl none 0 L).len by omega) ?_
      have hbi : b = 1 ↔ ((DV.sl none 0 L).at t 0 ≤ s ∧ s ≤ (DV.sl none 0 L).at t 1) := by rw [rt.1, rt.2]; exact hb
      refine res_ite (fun y => absurd (show (¬ b = 0 ∧ (DV.sl none 0 L).at t 0 ≤ s ∧ s ≤ (DV.sl none 0 L).at t 1) ∨ (b = 0 ∧ ¬ ((DV.sl none 0 L).at t 0 ≤ s ∧ s ≤ (DV.sl none 0 L).at t 1)) from ?_) y) fun _ => ?_
      · by_cases b9 : b = 1
        · exact .inl ⟨by omega, hbi.1 b9⟩
        · exact .inr ⟨by omega, fun y => b9 (hbi.2 y)⟩
      · refine res_chk rfl (show s + 1 ≤ cap + 1 by omega) ?_
        show (cap + 1 - (s + 1)).toNat < (cap + 1 - s).toNat
        omega
  · refine res_chk rfl (show t + 1 ≤ (DV.sl none 0 P).len by omega) ?_
    show ((DV.sl none 0 P).len - (t + 1)).toNat < ((DV.sl none 0 P).len - t).toNat
    omega
end Go.Proofs.Ytljggpbkggkcaaa
