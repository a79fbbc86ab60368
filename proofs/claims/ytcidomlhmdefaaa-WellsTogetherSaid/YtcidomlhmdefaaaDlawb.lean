/- DERIVED. The law of exact debts, walked. -/
import Derived.Test.YtcidomlhmdefaaaDlaw
namespace Go.Proofs.Ytcidomlhmdefaaa
open Go.Dx Go.RowKit
set_option linter.unusedVariables false
set_option linter.unusedSimpArgs false
theorem sums_in {L M : List (List DV)} {b : Int} (h : [DV.sl none 0 M, .n b] = SumsF (.sl none 0 L)) (hs : sumsOk (.sl none 0 L) (DV.sl none 0 L).len.toNat) : b = 1 ∧ M = gRows (preF (.sl none 0 L)) (DV.sl none 0 L).len.toNat := by
  have e := h.trans (sums_fine hs).symm
  simp only [List.cons.injEq, DV.sl.injEq, DV.n.injEq, true_and, and_true] at e
  exact ⟨e.2, e.1⟩
set_option maxHeartbeats 8000000 in
set_option maxRecDepth 100000 in
theorem WellsExact_any (v0 v1 : Value) (w : World) (hG : Glb tb w) (g0 : WellA w v0) (g1 : ∃ d, cellA w ints (.sl none 0 d) v1) :
    Calls Try.prog 5 #[v0, v1] w fun e w' => e = .returned (.bool true) ∧ Below w.heap.size w w' := by
  obtain ⟨f, r, d, K, c0, rfl, h0⟩ := g0
  obtain ⟨p, h1⟩ := g1
  have hpl : p.length ≤ 9223372036854775807 := h1.1.1
  refine law_of_walk (tb := tb) (P := Try.prog) fine (C := [lawCon 10 [], cOwe 15, cSums 20, xDay, xKer, xSk, xSp]) (conCons cSane_ok (conCons cOwe_ok (conCons cSums_ok (lopCons rfl (lopCons rfl (lopCons rfl (lopCons rfl noCon))))))) 80 5 [.agg well, .c ints] rfl (w := w) hG
    (xs := [.n f, .n r, .n d, .sl none 0 K, .sl none 0 p]) ?_ ?_
  · exact ⟨_, [.sl none 0 p], c0, rfl, rfl, h0, h1, by simp [ArgsV]⟩
  clear h0 h1
  rw [tree_lexact]
  refine res_con rfl trivial (fun z z0 z1 hz => ?_)
  obtain rfl := n_inj (show [DV.n z] = [DV.n 1] from hz)
  refine res_ite (fun h => absurd (show (1 : Int) = 0 from h) (by decide)) fun _ => res_ite (fun _ => rfl) fun hfew => ?_
  clear hfew
  refine res_con rfl trivial (fun a ha e _ _ h1 => ?_)
  clear ha
  have h1 : [DV.sl none 0 a, .n e] = OwedF ⟨f, r, d, .sl none 0 K⟩ (.sl none 0 p) := h1
  have h1 := owed_in h1
  refine res_ite (fun q => ?_) fun q => ?_
  · have q : ¬ e = 0 := q
    obtain ⟨_, rfl, _⟩ := h1.resolve_right fun y => q y.1
    exact res_ite (fun _ => rfl) fun y => absurd (show (DV.sl none 0 []).len = 0 from rfl) y
  have q : ¬ ¬ e = 0 := q
  obtain ⟨_, hc, ha⟩ := h1.resolve_left fun y => q y.1
  have hv := chk_val hc
  have l0 := len_nn (.sl none 0 p)
  have hl0 : 1 ≤ (DV.sl none 0 K).len ∧ (DV.sl none 0 K).len ≤ 64 := ⟨hv.K0, hv.K1⟩
  have hp1 : (DV.sl none 0 p).len ≤ 400 := hv.p1
  have hd0 : 1 ≤ d ∧ d ≤ 1048576 := ⟨hv.d0, hv.d1⟩
  generalize hw : WO.mk f r d (.sl none 0 K) = w at *
  have wK : w.K = .sl none 0 K := by rw [← hw]
  have wd : w.d = d := by rw [← hw]
  have hdz : (DV.sl none 0 p).len = 0 → days w (.sl none 0 p) = 0 := fun h => by unfold days; rw [if_pos h]
  have hdn : ¬ (DV.sl none 0 p).len = 0 → (days w (.sl none 0 p) : Int) = (DV.sl none 0 p).len + (DV.sl none 0 K).len - 1 := fun h => by rw [days_if hv h, wK]
  have hn := days_le hv
  have la : (DV.sl none 0 a).len = days w (.sl none 0 p) := by rw [ha]; exact gLen _ (by omega)
  refine res_ite (fun y => ?_) fun _ => ?_
  · have y : ((DV.sl none 0 K).len = 0 ∨ d < 1) ∨ 1048576 < d := y
    omega
  refine res_ite (fun y => ?_) fun hnz => ?_
  · have y : (DV.sl none 0 p).len = 0 := y
    exact res_ite (fun _ => rfl) fun z => absurd (show (DV.sl none 0 a).len = 0 by rw [la, hdz y]; rfl) z
  have hnz : ¬ (DV.sl none 0 p).len = 0 := hnz
  have hD := hdn hnz
  have eK : w.K.len.toNat = (DV.sl none 0 K).len.toNat := by rw [wK]
  refine res_con rfl (show (DV.sl none 0 a).len ≤ 500 by omega) (fun u hu b _ _ hub => ?_)
  clear hu
  obtain ⟨hb1, hu⟩ := sums_in (show [DV.sl none 0 u, .n b] = SumsF (.sl none 0 a) from hub) (ow_sumsOk hv ha (by omega))
  rw [show (DV.sl none 0 a).len.toNat = days w (.sl none 0 p) by omega] at hu
  have ew : IntKind.i64.wrap (IntKind.i64.wrap ((DV.sl none 0 p).len + (DV.sl none 0 K).len) - 1) = (DV.sl none 0 p).len + (DV.sl none 0 K).len - 1 := by rw [wI (x := (DV.sl none 0 p).len + (DV.sl none 0 K).len) (by omega) (by omega), wI (by omega) (by omega)]
  have lu : (DV.sl none 0 u).len = days w (.sl none 0 p) := by rw [hu]; exact gLen _ (by omega)
  refine res_ite (fun y => ?_) fun _ => ?_
  · have y : b = 0 ∨ ¬ (DV.sl none 0 a).len = IntKind.i64.wrap (IntKind.i64.wrap ((DV.sl none 0 p).len + (DV.sl none 0 K).len) - 1) := y
    rw [ew] at y; omega
  have pre1 : ∀ {s k : Int}, k ≤ (DV.sl none 0 u).len → s = bef (U w (.sl none 0 p)) k.toNat → (k ≤ (DV.sl none 0 u).len ∧ s = bef (U (WO.mk f r d (.sl none 0 K)) (.sl none 0 p)) k.toNat) := fun h1 h2 => ⟨h1, by rw [hw]; exact h2⟩
  refine res_lop rfl (pre1 (k := 0) (by omega) rfl) (fun s s0 s1 k k0 k1 hI => ?_)
  obtain ⟨hk, hs⟩ : k ≤ (DV.sl none 0 u).len ∧ s = bef (U (WO.mk f r d (.sl none 0 K)) (.sl none 0 p)) k.toNat := hI
  rw [hw] at hs
  refine res_ite (fun hlt => ?_) fun hge => ?_
  · have hlt : k < (DV.sl none 0 u).len := hlt
    have ek : ((k.toNat : Nat) : Int) = k := by omega
    have pre2 : ∀ {s j : Int}, j ≤ (DV.sl none 0 K).len → s = bef (U w (.sl none 0 p)) k.toNat + kers w (.sl none 0 p) k.toNat j.toNat → (j ≤ (DV.sl none 0 K).len ∧ s = bef (U (WO.mk f r d (.sl none 0 K)) (.sl none 0 p)) k.toNat + kers (WO.mk f r d (.sl none 0 K)) (.sl none 0 p) k.toNat j.toNat) := fun h1 h2 => ⟨h1, by rw [hw]; exact h2⟩
    refine res_lop rfl (pre2 (s := s) (j := 0) (by omega) (by rw [hs]; show _ = _ + 0; omega)) (fun t t0 t1 j j0 j1 hJ => ?_)
    obtain ⟨hj, ht⟩ : j ≤ (DV.sl none 0 K).len ∧ t = bef (U (WO.mk f r d (.sl none 0 K)) (.sl none 0 p)) k.toNat + kers (WO.mk f r d (.sl none 0 K)) (.sl none 0 p) k.toNat j.toNat := hJ
    rw [hw] at ht
    have hUb := U_bef w (.sl none 0 p) k.toNat
    have hU := U_bound hv k.toNat
    refine res_ite (fun hlj => ?_) fun hgj => ?_
    · have hlj : j < (DV.sl none 0 K).len := hlj
      have ej : ((j.toNat : Nat) : Int) = j := by omega
      have mea : ((DV.sl none 0 K).len - (j + 1)).toNat < ((DV.sl none 0 K).len - j).toNat := by omega
      have hnext : kers w (.sl none 0 p) k.toNat (j + 1).toNat = kers w (.sl none 0 p) k.toNat j.toNat + (if j.toNat ≤ k.toNat ∧ k.toNat - j.toNat < (DV.sl none 0 p).len.toNat then el w.K j.toNat * el (.sl none 0 p) (k.toNat - j.toNat) else 0) := by
        rw [show (j + 1).toNat = j.toNat + 1 by omega]; rfl
      have hkb := kers_bound hv k.toNat (j := (j + 1).toNat) (by omega)
      have hkb0 := kers_bound hv k.toNat (j := j.toNat) (by omega)
      refine res_ite (fun y => ?_) fun y => ?_
      · have y : j ≤ k ∧ k - j < (DV.sl none 0 p).len := y
        rw [if_pos (by omega)] at hnext
        have hx : el w.K j.toNat = (DV.sl none 0 K).at j 0 := by rw [wK]; unfold el; rw [ej]
        have hy : el (.sl none 0 p) (k.toNat - j.toNat) = (DV.sl none 0 p).at (k - j) 0 := by unfold el; rw [show ((k.toNat - j.toNat : Nat) : Int) = k - j by omega]
        have hb := prod_bound hv (i := k.toNat - j.toNat) (j := j.toNat) (by omega) (by omega)
        rw [Int.mul_comm, hx, hy] at hb
        rw [hx, hy] at hnext
        have e1 : IntKind.i64.wrap ((DV.sl none 0 K).at j 0 * (DV.sl none 0 p).at (k - j) 0) = (DV.sl none 0 K).at j 0 * (DV.sl none 0 p).at (k - j) 0 := wI (by omega) (by omega)
        have e2 : IntKind.i64.wrap (t + IntKind.i64.wrap ((DV.sl none 0 K).at j 0 * (DV.sl none 0 p).at (k - j) 0)) = t + (DV.sl none 0 K).at j 0 * (DV.sl none 0 p).at (k - j) 0 := by rw [e1]; exact wI (by omega) (by omega)
        refine res_ok (show 0 ≤ k - j ∧ k - j < (DV.sl none 0 p).len by omega) ?_
        refine res_ok (show 0 ≤ IntKind.i64.wrap (t + IntKind.i64.wrap ((DV.sl none 0 K).at j 0 * (DV.sl none 0 p).at (k - j) 0)) ∧ IntKind.i64.wrap (t + IntKind.i64.wrap ((DV.sl none 0 K).at j 0 * (DV.sl none 0 p).at (k - j) 0)) ≤ 576460752303423488 by rw [e2]; omega) ?_
        exact res_chk rfl (pre2 (s := IntKind.i64.wrap (t + IntKind.i64.wrap ((DV.sl none 0 K).at j 0 * (DV.sl none 0 p).at (k - j) 0))) (j := j + 1) (by omega) (by rw [e2, hnext, ht]; omega)) mea
      · have y : ¬ (j ≤ k ∧ k - j < (DV.sl none 0 p).len) := y
        rw [if_neg (by omega)] at hnext
        exact res_chk rfl (pre2 (s := t) (j := j + 1) (by omega) (by rw [hnext, ht]; omega)) mea
    · have hgj : ¬ j < (DV.sl none 0 K).len := hgj
      have htU : t = U w (.sl none 0 p) k.toNat := by rw [ht, show j.toNat = w.K.len.toNat by omega, kers_all, hUb]
      have hat : (DV.sl none 0 u).at k 0 = untF w (.sl none 0 p) k.toNat := by
        have e := ow_pre hv ha (k := k.toNat) (by omega)
        have hb := unt_bound hv k.toNat
        rw [hu]
        have := gAt (preF (.sl none 0 a)) (n := days w (.sl none 0 p)) (k := k.toNat) (by omega) (by omega) (by omega)
        rw [ek] at this
        rw [this, e]
      have hm := unt_mod hv k.toNat
      have hb := unt_bound hv k.toNat
      rw [wd] at hm
      have e1 : IntKind.i64.wrap (d * untF w (.sl none 0 p) k.toNat) = d * untF w (.sl none 0 p) k.toNat := wI (by have := Int.mul_nonneg (show 0 ≤ d by omega) hb.1; omega) (by omega)
      have e2 : IntKind.i64.wrap (t - IntKind.i64.wrap (d * (DV.sl none 0 u).at k 0)) = U w (.sl none 0 p) k.toNat - d * untF w (.sl none 0 p) k.toNat := by rw [hat, e1, htU]; exact wI (by omega) (by omega)
      refine res_ite (fun y => ?_) fun _ => ?_
      · have y : Int.tdiv t d < (DV.sl none 0 u).at k 0 ∨ d ≤ IntKind.i64.wrap (t - IntKind.i64.wrap (d * (DV.sl none 0 u).at k 0)) := y
        rw [e2, hat, htU] at y
        have : untF w (.sl none 0 p) k.toNat = Int.tdiv (U w (.sl none 0 p) k.toNat) d := by unfold untF; rw [wd]
        omega
      · refine res_chk rfl (pre1 (s := t) (k := k + 1) (by omega) (by rw [htU, show (k + 1).toNat = k.toNat + 1 by omega]; rfl)) ?_
        show ((DV.sl none 0 u).len - (k + 1)).toNat < ((DV.sl none 0 u).len - k).toNat
        omega
  · have hge : ¬ k < (DV.sl none 0 u).len := hge
    have hsU : s = U w (.sl none 0 p) (days w (.sl none 0 p) - 1) := by
      rw [hs, show k.toNat = (days w (.sl none 0 p) - 1) + 1 by omega]; rfl
    have hall := U_all hv hnz
    have hUb := U_bound hv (days w (.sl none 0 p) - 1)
    refine res_lop rfl (show (0 : Int) ≤ (DV.sl none 0 K).len ∧ (0 : Int) = sumN (el (.sl none 0 K)) (0 : Int).toNat from ⟨by omega, rfl⟩) (fun x x0 x1 i i0 i1 hI => ?_)
    obtain ⟨hi, hx⟩ : i ≤ (DV.sl none 0 K).len ∧ x = sumN (el (.sl none 0 K)) i.toNat := hI
    have hkok := hv.kok
    refine res_ite (fun hli => ?_) fun hgi => ?_
    · have hli : i < (DV.sl none 0 K).len := hli
      have hnx := sumN_next (L := .sl none 0 K) i0
      have hb := sumN_bound (f := el (.sl none 0 K)) (n := (i + 1).toNat) (b := 1048576) fun q hq => by
        have := hkok q (by omega)
        rw [wK, wd] at this; omega
      have h0 : 0 ≤ sumN (el (.sl none 0 K)) (i + 1).toNat := sumN_nn fun q hq => by
        have := hkok q (by omega)
        rw [wK] at this; exact this.1
      have e1 : IntKind.i64.wrap (x + (DV.sl none 0 K).at i 0) = x + (DV.sl none 0 K).at i 0 := wI (by omega) (by omega)
      refine res_ok (show 0 ≤ IntKind.i64.wrap (x + (DV.sl none 0 K).at i 0) ∧ IntKind.i64.wrap (x + (DV.sl none 0 K).at i 0) ≤ 1125899906842624 by rw [e1]; omega) ?_
      refine res_chk rfl (show i + 1 ≤ (DV.sl none 0 K).len ∧ IntKind.i64.wrap (x + (DV.sl none 0 K).at i 0) = sumN (el (.sl none 0 K)) (i + 1).toNat from ⟨by omega, by rw [e1, hnx, hx]⟩) ?_
      show ((DV.sl none 0 K).len - (i + 1)).toNat < ((DV.sl none 0 K).len - i).toNat
      omega
    · have hgi : ¬ i < (DV.sl none 0 K).len := hgi
      refine res_lop rfl (show (0 : Int) ≤ (DV.sl none 0 p).len ∧ (0 : Int) = sumN (el (.sl none 0 p)) (0 : Int).toNat from ⟨l0, rfl⟩) (fun y y0 y1 j j0 j1 hJ => ?_)
      obtain ⟨hj, hy⟩ : j ≤ (DV.sl none 0 p).len ∧ y = sumN (el (.sl none 0 p)) j.toNat := hJ
      have hlit := hv.lit
      refine res_ite (fun hlj => ?_) fun hgj => ?_
      · have hlj : j < (DV.sl none 0 p).len := hlj
        have hnx := sumN_next (L := .sl none 0 p) j0
        have hb := sumN_bound (f := el (.sl none 0 p)) (n := (j + 1).toNat) (b := 1073741824) fun q hq => (hlit q (by omega)).2
        have h0 : 0 ≤ sumN (el (.sl none 0 p)) (j + 1).toNat := sumN_nn fun q hq => (hlit q (by omega)).1
        have e1 : IntKind.i64.wrap (y + (DV.sl none 0 p).at j 0) = y + (DV.sl none 0 p).at j 0 := wI (by omega) (by omega)
        refine res_ok (show 0 ≤ IntKind.i64.wrap (y + (DV.sl none 0 p).at j 0) ∧ IntKind.i64.wrap (y + (DV.sl none 0 p).at j 0) ≤ 1125899906842624 by rw [e1]; omega) ?_
        refine res_chk rfl (show j + 1 ≤ (DV.sl none 0 p).len ∧ IntKind.i64.wrap (y + (DV.sl none 0 p).at j 0) = sumN (el (.sl none 0 p)) (j + 1).toNat from ⟨by omega, by rw [e1, hnx, hy]⟩) ?_
        show ((DV.sl none 0 p).len - (j + 1)).toNat < ((DV.sl none 0 p).len - j).toNat
        omega
      · have hgj : ¬ j < (DV.sl none 0 p).len := hgj
        rw [wK, show (DV.sl none 0 K).len.toNat = i.toNat by omega, show (DV.sl none 0 p).len.toNat = j.toNat by omega, ← hx, ← hy, ← hsU] at hall
        have e1 : IntKind.i64.wrap (x * y) = x * y := wI (by omega) (by omega)
        refine res_ite (fun _ => rfl) fun q => absurd (show s = IntKind.i64.wrap (x * y) by rw [e1]; exact hall) q
end Go.Proofs.Ytcidomlhmdefaaa
