/- DERIVED. Laws of wells, walked. -/
import Derived.Test.YtcidomlhmdefaaaDsane
import Derived.Test.YtcidomlhmdefaaaDtreed
namespace Go.Proofs.Ytcidomlhmdefaaa
open Go.Dx Go.RowKit
set_option linter.unusedVariables false
set_option linter.unusedSimpArgs false
theorem same_refl (L : DV) : sameP L L := ⟨rfl, fun _ _ => rfl⟩
/-- What Owed returns. -/
theorem owed_in {w : WO} {p : DV} {L : List (List DV)} {e : Int} (h : [DV.sl none 0 L, .n e] = OwedF w p) : (e ≠ 0 ∧ L = [] ∧ e = chkF w p) ∨ (e = 0 ∧ chkF w p = 0 ∧ L = gRows (owF w p) (days w p)) := by
  unfold OwedF at h
  by_cases c : chkF w p ≠ 0
  · rw [if_pos c] at h
    simp only [List.cons.injEq, DV.sl.injEq, DV.n.injEq, and_true, true_and] at h
    exact .inl ⟨by rw [h.2]; exact c, h.1, h.2⟩
  · rw [if_neg c] at h
    simp only [List.cons.injEq, DV.sl.injEq, DV.n.injEq, and_true, true_and] at h
    exact .inr ⟨h.2, Classical.not_not.1 c, h.1⟩
theorem two_eq {L M : List (List DV)} {s t : Int} {q : List DV} (h : [DV.sl none 0 L, .n s] = q) (k : [DV.sl none 0 M, .n t] = q) : L = M ∧ s = t := by
  have e := h.trans k.symm
  simp only [List.cons.injEq, DV.sl.injEq, DV.n.injEq, true_and, and_true] at e
  exact e
set_option maxHeartbeats 4000000 in
set_option maxRecDepth 100000 in
theorem WellsOwedSpec_any (v0 v1 v2 : Value) (w : World) (hG : Glb tb w) (g0 : WellA w v0) (g1 : ∃ d, cellA w ints (.sl none 0 d) v1) (g2 : ∃ d, cellA w ints (.sl none 0 d) v2) :
    Calls Try.prog 4 #[v0, v1, v2] w fun e w' => e = .returned (.bool true) ∧ Below w.heap.size w w' := by
  obtain ⟨f, r, d, K, c0, rfl, h0⟩ := g0
  obtain ⟨p, h1⟩ := g1
  obtain ⟨R, h2⟩ := g2
  refine law_of_walk (tb := tb) (P := Try.prog) fine (C := [lawCon 10 [], cOwe 15, cOwe 16, cRep 17, cRep 18, cSame 19]) (conCons cSane_ok (conCons cOwe_ok (conCons cOweR_ok (conCons cRep_ok (conCons cRepR_ok (conCons cSame_ok noCon)))))) 80 4 [.agg well, .c ints, .c ints] rfl (w := w) hG
    (xs := [.n f, .n r, .n d, .sl none 0 K, .sl none 0 p, .sl none 0 R]) ?_ ?_
  · exact ⟨_, [.sl none 0 p, .sl none 0 R], c0, rfl, rfl, h0, h1, h2, by simp [ArgsV]⟩
  clear h0 h1 h2
  rw [tree_lspec]
  refine res_con rfl trivial (fun z z0 z1 hz => ?_)
  obtain rfl := n_inj (show [DV.n z] = [DV.n 1] from hz)
  refine res_ite (fun h => absurd (show (1 : Int) = 0 from h) (by decide)) fun _ => res_ite (fun _ => rfl) fun _ => ?_
  refine res_con rfl trivial (fun a ha e _ _ h1 => res_con rfl trivial (fun b hb e2 _ _ h2 => ?_))
  clear ha hb
  have h1 : [DV.sl none 0 a, .n e] = OwedF ⟨f, r, d, .sl none 0 K⟩ (.sl none 0 p) := h1
  have h2 : [DV.sl none 0 b, .n e2] = OwedF ⟨f, r, d, .sl none 0 K⟩ (.sl none 0 p) := h2
  obtain ⟨rfl, rfl⟩ := two_eq h1 h2
  refine res_con rfl trivial (fun c hcc g _ _ h3 => res_con rfl trivial (fun c2 hc2 g2 _ _ h4 => ?_))
  clear hcc hc2
  have h3 : [DV.sl none 0 c, .n g] = RepF ⟨f, r, d, .sl none 0 K⟩ (.sl none 0 p) (.sl none 0 R) := h3
  have h4 : [DV.sl none 0 c2, .n g2] = RepF ⟨f, r, d, .sl none 0 K⟩ (.sl none 0 p) (.sl none 0 R) := h4
  obtain ⟨rfl, rfl⟩ := two_eq h3 h4
  refine res_con rfl trivial (fun x _ _ hx => ?_)
  have hx := if_in (c := sameP (.sl none 0 a) (.sl none 0 a)) (show [DV.n x] = _ from hx)
  have hx := (hx.resolve_right fun y => y.2 (same_refl _)).1
  refine res_ite (fun _ => ?_) fun y => absurd (show ¬ x = 0 ∧ e = e from ⟨hx, rfl⟩) y
  refine res_con rfl trivial (fun x2 _ _ hx2 => ?_)
  have hx2 := if_in (c := sameP (.sl none 0 c) (.sl none 0 c)) (show [DV.n x2] = _ from hx2)
  have hx2 := (hx2.resolve_right fun y => y.2 (same_refl _)).1
  exact res_ite (fun _ => rfl) fun y => absurd (show ¬ x2 = 0 ∧ g = g from ⟨hx2, rfl⟩) y
set_option maxHeartbeats 4000000 in
set_option maxRecDepth 100000 in
theorem WellsCausal_any (v0 v1 : Value) (m : Int) (w : World) (hG : Glb tb w) (g0 : WellA w v0) (g1 : ∃ d, cellA w ints (.sl none 0 d) v1) (hm : 0 ≤ m ∧ m ≤ 255) :
    Calls Try.prog 6 #[v0, v1, .int .u8 m] w fun e w' => e = .returned (.bool true) ∧ Below w.heap.size w w' := by
  obtain ⟨f, r, d, K, c0, rfl, h0⟩ := g0
  obtain ⟨p, h1⟩ := g1
  have hpl : p.length ≤ 9223372036854775807 := h1.1.1
  refine law_of_walk (tb := tb) (P := Try.prog) fine (C := [lawCon 10 [], cOwe 15, cSame 19, xCau]) (conCons cSane_ok (conCons cOwe_ok (conCons cSame_ok (lopCons rfl noCon)))) 80 6 [.agg well, .c ints, .c (.int .u8 0 255)] rfl (w := w) hG
    (xs := [.n f, .n r, .n d, .sl none 0 K, .sl none 0 p, .n m]) ?_ ?_
  · exact ⟨_, [.sl none 0 p, .n m], c0, rfl, rfl, h0, h1, cell_byte hm, by simp [ArgsV]⟩
  clear h0 h1
  rw [tree_lcau]
  refine res_con rfl trivial (fun z z0 z1 hz => ?_)
  obtain rfl := n_inj (show [DV.n z] = [DV.n 1] from hz)
  refine res_ite (fun h => absurd (show (1 : Int) = 0 from h) (by decide)) fun _ => res_ite (fun _ => rfl) fun hfew => ?_
  have hfew : ¬ ¬ (((DV.sl none 0 p).len ≤ 30 ∨ 400 < (DV.sl none 0 p).len ∧ (DV.sl none 0 p).len ≤ 1000) ∧ ((DV.sl none 0 K).len ≤ 20 ∨ 64 < (DV.sl none 0 K).len ∧ (DV.sl none 0 K).len ≤ 200)) := hfew
  refine res_con rfl trivial (fun a ha e _ _ h1 => ?_)
  clear ha
  have h1 : [DV.sl none 0 a, .n e] = OwedF ⟨f, r, d, .sl none 0 K⟩ (.sl none 0 p) := h1
  have h1 := owed_in h1
  refine res_ite (fun q => ?_) fun q => ?_
  · have q : ¬ e = 0 := q
    obtain ⟨_, rfl, _⟩ := h1.resolve_right fun y => q y.1
    exact res_ite (fun _ => rfl) fun y => absurd (show (DV.sl none 0 []).len = 0 from rfl) y
  have q : ¬ ¬ e = 0 := q
  obtain ⟨_, hc, ha⟩ := h1.resolve_left fun y => q y.1
  have hv := chk_val hc
  have l0 := len_nn (.sl none 0 p)
  have hl0 : 1 ≤ (DV.sl none 0 K).len ∧ (DV.sl none 0 K).len ≤ 64 := ⟨hv.K0, hv.K1⟩
  have hp1 : (DV.sl none 0 p).len ≤ 400 := hv.p1
  have hp30 : (DV.sl none 0 p).len ≤ 30 := by omega
  have lp : (DV.sl none 0 p).len = p.length := clampL_eq hpl
  have hlit := hv.lit
  have hisw : isW ⟨f, r, d, .sl none 0 K⟩ 600 64 := by
    unfold chkF at hc
    by_cases c1 : 64 < (WO.mk f r d (.sl none 0 K)).K.len ∨ 400 < (DV.sl none 0 p).len
    · rw [if_pos c1] at hc; exact absurd hc (by decide)
    rw [if_neg c1] at hc
    by_cases c2 : isW ⟨f, r, d, .sl none 0 K⟩ 600 64 ∧ litP (.sl none 0 p) (DV.sl none 0 p).len.toNat
    · exact c2.1
    · rw [if_neg c2] at hc; exact absurd hc (by decide)
  have chk2 : ∀ Q : DV, Q.len ≤ 400 → litP Q Q.len.toNat → chkF ⟨f, r, d, .sl none 0 K⟩ Q = 0 := fun Q h2 h3 => by
    unfold chkF
    rw [if_neg (show ¬ (64 < (DV.sl none 0 K).len ∨ 400 < Q.len) by omega), if_pos ⟨hisw, h3⟩]
  have daysOf : ∀ Q : DV, days ⟨f, r, d, .sl none 0 K⟩ Q = if Q.len = 0 then 0 else (Q.len + (DV.sl none 0 K).len - 1).toNat := fun Q => rfl
  generalize hw : WO.mk f r d (.sl none 0 K) = w at *
  have ew : IntKind.i64.wrap ((DV.sl none 0 p).len + 1) = (DV.sl none 0 p).len + 1 := wI (by omega) (by omega)
  have t0 := Int.tmod_nonneg ((DV.sl none 0 p).len + 1) hm.1
  have t1 := Int.tmod_lt_of_pos m (show 0 < (DV.sl none 0 p).len + 1 by omega)
  refine res_ite (fun y => ?_) fun _ => ?_
  · have y : IntKind.i64.wrap ((DV.sl none 0 p).len + 1) = 0 := y
    omega
  refine res_ok (show 0 ≤ Int.tmod m (IntKind.i64.wrap ((DV.sl none 0 p).len + 1)) ∧ Int.tmod m (IntKind.i64.wrap ((DV.sl none 0 p).len + 1)) ≤ (DV.sl none 0 p).len by rw [ew]; omega) ?_
  have key : ∀ k, Int.tmod m (IntKind.i64.wrap ((DV.sl none 0 p).len + 1)) = k → 0 ≤ k ∧ k ≤ (DV.sl none 0 p).len := fun k hk => by rw [ew] at hk; omega
  obtain ⟨k, hk⟩ : ∃ k, Int.tmod m (IntKind.i64.wrap ((DV.sl none 0 p).len + 1)) = k := ⟨_, rfl⟩
  obtain ⟨k0, k1⟩ := key k hk
  refine res_dat (.sl none 0 (p.take k.toNat)) (by rw [← hk]; rfl) ?_
  have lq : (DV.sl none 0 (p.take k.toNat)).len = k := by
    have : (p.take k.toNat).length = k.toNat := by rw [List.length_take]; omega
    show clampL (p.take k.toNat).length = k
    rw [this, clampL_eq (by omega)]; omega
  have eq : ∀ i, i < k.toNat → el (.sl none 0 (p.take k.toNat)) i = el (.sl none 0 p) i := fun i hi => by
    show clampB ((((p.take k.toNat).getD (i : Int).toNat []).getD 0 (.n 0)).int) = clampB (((p.getD (i : Int).toNat []).getD 0 (.n 0)).int)
    have e : (p.take k.toNat).getD i [] = p.getD i [] := by rw [List.getD_eq_getElem?_getD, List.getElem?_take_of_lt hi, ← List.getD_eq_getElem?_getD]
    rw [Int.toNat_natCast, e]
  have hcq : chkF w (.sl none 0 (p.take k.toNat)) = 0 := chk2 _ (by omega) (fun i hi => by rw [lq] at hi; rw [eq i hi]; exact hlit i (by omega))
  refine res_con rfl trivial (fun b hb e2 _ _ h2 => ?_)
  clear hb
  have h2 : [DV.sl none 0 b, .n e2] = OwedF (WO.mk f r d (.sl none 0 K)) (.sl none 0 (p.take k.toNat)) := h2
  rw [hw] at h2
  obtain ⟨he2, _, hb⟩ := (owed_in h2).resolve_left fun y => y.1 (by rw [y.2.2]; exact hcq)
  have hvq := chk_val hcq
  have d1 := daysOf (.sl none 0 p)
  have d2 := daysOf (.sl none 0 (p.take k.toNat))
  rw [lq] at d2
  have lb : (DV.sl none 0 b).len = days w (.sl none 0 (p.take k.toNat)) := by rw [hb]; exact gLen _ (by have := days_le hvq; omega)
  have la : (DV.sl none 0 a).len = days w (.sl none 0 p) := by rw [ha]; exact gLen _ (by have := days_le hv; omega)
  have kb : k ≤ (DV.sl none 0 b).len := by
    rw [lb, d2]; by_cases c : k = 0
    · rw [if_pos c]; omega
    · rw [if_neg c]; omega
  have ka : k ≤ (DV.sl none 0 a).len := by
    rw [la, d1]; by_cases c : (DV.sl none 0 p).len = 0
    · rw [if_pos c]; omega
    · rw [if_neg c]; omega
  refine res_ite (fun y => ?_) fun _ => ?_
  · have y : (¬ e2 = 0 ∨ (DV.sl none 0 b).len < Int.tmod m (IntKind.i64.wrap ((DV.sl none 0 p).len + 1))) ∨ (DV.sl none 0 a).len < Int.tmod m (IntKind.i64.wrap ((DV.sl none 0 p).len + 1)) := y
    rw [hk] at y; omega
  refine res_lop rfl trivial (fun i i0 i1 _ => ?_)
  refine res_ite (fun hlt => ?_) fun _ => ?_
  · have hlt : i < Int.tmod m (IntKind.i64.wrap ((DV.sl none 0 p).len + 1)) := hlt
    rw [hk] at hlt
    have ei : ((i.toNat : Nat) : Int) = i := by omega
    have gB := ow_el hvq hb (k := i.toNat) (by omega)
    have gA := ow_el hv ha (k := i.toNat) (by omega)
    rw [ow_part (p := .sl none 0 p) (k := k.toNat) (by omega) (by omega) eq (by omega), ← gA] at gB
    unfold el at gB
    rw [ei] at gB
    have mea : (256 - (i + 1)).toNat < (256 - i).toNat := by omega
    refine res_both (res_ok (show 0 ≤ i ∧ i < (DV.sl none 0 b).len by omega) (res_ok (show 0 ≤ i ∧ i < (DV.sl none 0 a).len by omega) ?_)) (res_ok (show 0 ≤ i ∧ i < (DV.sl none 0 a).len by omega) (res_ok (show 0 ≤ i ∧ i < (DV.sl none 0 b).len by omega) ?_))
    · exact res_ite (fun y => absurd gB y) fun _ => res_chk rfl trivial mea
    · exact res_ite (fun y => absurd gB y) fun _ => res_chk rfl trivial mea
  refine res_ite (fun _ => rfl) fun hnz => ?_
  have hnz : ¬ (DV.sl none 0 p).len = 0 := hnz
  refine res_ok (show 1 + (DV.sl none 0 p).len ≤ 15637498706147 by omega) ?_
  refine res_dat (.sl none 0 [[.n 0]]) rfl (res_dat (.sl none 0 ([DV.n 0] :: p)) rfl ?_)
  have lz : (DV.sl none 0 ([DV.n 0] :: p)).len = (DV.sl none 0 p).len + 1 := by
    show clampL (p.length + 1) = _
    rw [clampL_eq (by omega)]; omega
  have z0 : el (.sl none 0 ([DV.n 0] :: p)) 0 = 0 := rfl
  have zs : ∀ i, i < (DV.sl none 0 p).len.toNat → el (.sl none 0 ([DV.n 0] :: p)) (i + 1) = el (.sl none 0 p) i := fun i hi => by
    show clampB (((([DV.n 0] :: p).getD ((i + 1 : Nat) : Int).toNat []).getD 0 (.n 0)).int) = clampB (((p.getD (i : Int).toNat []).getD 0 (.n 0)).int)
    rw [Int.toNat_natCast, Int.toNat_natCast, List.getD_cons_succ]
  have hcz : chkF w (.sl none 0 ([DV.n 0] :: p)) = 0 := chk2 _ (by omega) (fun i hi => by
    cases i with
    | zero => rw [z0]; omega
    | succ i => rw [zs i (by omega)]; exact hlit i (by omega))
  refine res_con rfl trivial (fun g hg e3 _ _ h3 => ?_)
  clear hg
  have h3 : [DV.sl none 0 g, .n e3] = OwedF (WO.mk f r d (.sl none 0 K)) (.sl none 0 ([DV.n 0] :: p)) := h3
  rw [hw] at h3
  obtain ⟨he3, _, hg⟩ := (owed_in h3).resolve_left fun y => y.1 (by rw [y.2.2]; exact hcz)
  refine res_ite (fun _ => ?_) fun y => absurd he3 y
  refine res_ok (show 1 + (DV.sl none 0 a).len ≤ 15637498706147 by have := days_le hv; omega) ?_
  refine res_dat (.sl none 0 [[.n 0]]) rfl (res_dat (.sl none 0 ([DV.n 0] :: a)) rfl ?_)
  have hga : g = [DV.n 0] :: a := by
    have d3 := daysOf (.sl none 0 ([DV.n 0] :: p))
    rw [lz, if_neg (by omega)] at d3
    rw [if_neg hnz] at d1
    rw [hg, show days w (.sl none 0 ([DV.n 0] :: p)) = days w (.sl none 0 p) + 1 by omega, gRows_cons, ha]
    rw [ow_later0 (p := .sl none 0 p) (by omega) z0]
    rw [gRows_congr fun i _ => ow_later (by omega) z0 zs i]
  refine res_con rfl trivial (fun x _ _ hx => ?_)
  have hx := n_inj (show [DV.n x] = [DV.n (if sameP (.sl none 0 g) (.sl none 0 ([DV.n 0] :: a)) then 1 else 0)] from hx)
  rw [hga, if_pos (same_refl _)] at hx
  show [DV.n x] = [DV.n 1]
  rw [hx]
end Go.Proofs.Ytcidomlhmdefaaa
