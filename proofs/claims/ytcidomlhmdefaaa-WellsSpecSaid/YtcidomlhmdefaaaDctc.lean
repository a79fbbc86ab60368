/- DERIVED. What is owed and still owed: the contracts, proved. -/
import Derived.Test.YtcidomlhmdefaaaDctb
namespace Go.Proofs.Ytcidomlhmdefaaa
open Go.Dx
set_option linter.unusedVariables false
set_option linter.unusedSimpArgs false
set_option maxHeartbeats 4000000 in
set_option maxRecDepth 100000 in
theorem cUntR_ok (N : Nat) (w0 : World) : ConOk Try.prog tb N w0 (cUntR 33) := by
  refine con_of_walk (tb := tb) fine (C := [lU1, lU2]) (lopCons rfl (lopCons rfl noCon)) 80 rfl ?_ N w0
  refine fun f _ _ r _ _ d _ _ K hK p hp y _ _ hpre => ?_
  clear hK hp
  obtain ⟨hpre, y0, y1⟩ : chkF ⟨f, r, d, .sl none 0 K⟩ (.sl none 0 p) = 0 ∧ 0 ≤ y ∧ y ≤ 1000 := hpre
  have hv := chk_val hpre
  rw [tree_untR]
  show T.res _ (fun q => q = [.n (untF ⟨f, r, d, .sl none 0 K⟩ (.sl none 0 p) y.toNat)]) _ _
  have l0 := len_nn (.sl none 0 p)
  have hl0 : 1 ≤ (DV.sl none 0 K).len ∧ (DV.sl none 0 K).len ≤ 64 := ⟨hv.K0, hv.K1⟩
  have hp1 : (DV.sl none 0 p).len ≤ 400 := hv.p1
  have hd0 := hv.d0
  generalize hw : WO.mk f r d (.sl none 0 K) = w at *
  have wK : w.K = .sl none 0 K := by rw [← hw]
  have wd : w.d = d := by rw [← hw]
  have pre1 : ∀ {s i : Int}, i ≤ (DV.sl none 0 p).len → s = dsum (cellL w (.sl none 0 p) y.toNat) (DV.sl none 0 K).len.toNat i.toNat 0 → (i ≤ (DV.sl none 0 p).len ∧ s = dsum (cellL (WO.mk f r d (.sl none 0 K)) (.sl none 0 p) y.toNat) (DV.sl none 0 K).len.toNat i.toNat 0) := fun h1 h2 => ⟨h1, by rw [hw]; exact h2⟩
  refine res_lop rfl (pre1 (i := 0) l0 rfl) (fun s s0 s1 i i0 i1 hI => ?_)
  obtain ⟨hi, hs⟩ : i ≤ (DV.sl none 0 p).len ∧ s = dsum (cellL (WO.mk f r d (.sl none 0 K)) (.sl none 0 p) y.toNat) (DV.sl none 0 K).len.toNat i.toNat 0 := hI
  rw [hw] at hs
  refine res_ite (fun hlt => ?_) fun hge => ?_
  · have hlt : i < (DV.sl none 0 p).len := hlt
    have pre2 : ∀ {s j : Int}, j ≤ (DV.sl none 0 K).len → s = dsum (cellL w (.sl none 0 p) y.toNat) (DV.sl none 0 K).len.toNat i.toNat j.toNat → (j ≤ (DV.sl none 0 K).len ∧ s = dsum (cellL (WO.mk f r d (.sl none 0 K)) (.sl none 0 p) y.toNat) (DV.sl none 0 K).len.toNat i.toNat j.toNat) := fun h1 h2 => ⟨h1, by rw [hw]; exact h2⟩
    refine res_lop rfl (pre2 (j := 0) (by omega) hs) (fun t t0 t1 j j0 j1 hJ => ?_)
    obtain ⟨hj, ht⟩ : j ≤ (DV.sl none 0 K).len ∧ t = dsum (cellL (WO.mk f r d (.sl none 0 K)) (.sl none 0 p) y.toNat) (DV.sl none 0 K).len.toNat i.toNat j.toNat := hJ
    rw [hw] at ht
    refine res_ite (fun hlj => ?_) fun hgj => ?_
    · have hlj : j < (DV.sl none 0 K).len := hlj
      have e1 : IntKind.i64.wrap (i + j) = i + j := wI (by omega) (by omega)
      have hnext : dsum (cellL w (.sl none 0 p) y.toNat) (DV.sl none 0 K).len.toNat i.toNat (j + 1).toNat = t + cellL w (.sl none 0 p) y.toNat i.toNat j.toNat := by
        rw [show (j + 1).toNat = j.toNat + 1 by omega, dsum_succ, ht]
      have mea : ((DV.sl none 0 K).len - (j + 1)).toNat < ((DV.sl none 0 K).len - j).toNat := by omega
      refine res_ite (fun z => ?_) fun z => ?_
      · have z : IntKind.i64.wrap (i + j) ≤ y := z
        rw [e1] at z
        have hb := prod_bound hv (i := i.toNat) (j := j.toNat) (by omega) (by rw [wK]; omega)
        have hx : el (.sl none 0 p) i.toNat = (DV.sl none 0 p).at i 0 := by unfold el; rw [show ((i.toNat : Nat) : Int) = i by omega]
        have hy : el w.K j.toNat = (DV.sl none 0 K).at j 0 := by rw [wK]; unfold el; rw [show ((j.toNat : Nat) : Int) = j by omega]
        have hc : cellL w (.sl none 0 p) y.toNat i.toNat j.toNat = (DV.sl none 0 p).at i 0 * (DV.sl none 0 K).at j 0 := by unfold cellL; rw [if_pos (by omega), hx, hy]
        rw [hx, hy] at hb
        have e2 : IntKind.i64.wrap ((DV.sl none 0 p).at i 0 * (DV.sl none 0 K).at j 0) = (DV.sl none 0 p).at i 0 * (DV.sl none 0 K).at j 0 := wI (by omega) (by omega)
        have hsb := dsum_bound hv (cellL_or w (.sl none 0 p) y.toNat) (n := i.toNat) (j := j.toNat) (.inl ⟨by omega, by rw [wK]; omega⟩)
        rw [wK, ← ht] at hsb
        have e3 : IntKind.i64.wrap (t + IntKind.i64.wrap ((DV.sl none 0 p).at i 0 * (DV.sl none 0 K).at j 0)) = t + (DV.sl none 0 p).at i 0 * (DV.sl none 0 K).at j 0 := by rw [e2]; exact wI (by omega) (by omega)
        refine res_ok (show 0 ≤ IntKind.i64.wrap (t + IntKind.i64.wrap ((DV.sl none 0 p).at i 0 * (DV.sl none 0 K).at j 0)) ∧ IntKind.i64.wrap (t + IntKind.i64.wrap ((DV.sl none 0 p).at i 0 * (DV.sl none 0 K).at j 0)) ≤ 576460752303423488 by rw [e3]; omega) ?_
        exact res_chk rfl (pre2 (j := j + 1) (by omega) (by
          show IntKind.i64.wrap (t + IntKind.i64.wrap ((DV.sl none 0 p).at i 0 * (DV.sl none 0 K).at j 0)) = _
          rw [e3, hnext, hc])) mea
      · have z : ¬ IntKind.i64.wrap (i + j) ≤ y := z
        rw [e1] at z
        have hc : cellL w (.sl none 0 p) y.toNat i.toNat j.toNat = 0 := by unfold cellL; rw [if_neg (by omega)]
        exact res_chk rfl (pre2 (s := t) (j := j + 1) (by omega) (by rw [hnext, hc]; omega)) mea
    · have hgj : ¬ j < (DV.sl none 0 K).len := hgj
      refine res_chk rfl (pre1 (s := t) (i := i + 1) (by omega) (by
        rw [ht, show j.toNat = (DV.sl none 0 K).len.toNat by omega, show (i + 1).toNat = i.toNat + 1 by omega]
        exact dsum_row _ _ _)) ?_
      show ((DV.sl none 0 p).len - (i + 1)).toNat < ((DV.sl none 0 p).len - i).toNat
      omega
  · have hge : ¬ i < (DV.sl none 0 p).len := hge
    refine res_ite (fun z => ?_) fun _ => ?_
    · have z : d = 0 := z
      omega
    show [DV.n (Int.tdiv s d)] = _
    unfold untF U
    rw [wK, wd, hs, show i.toNat = (DV.sl none 0 p).len.toNat by omega]
theorem owed_bad {w : WO} {p : DV} {e : Int} (h : e = chkF w p) (k : e ≠ 0) : [DV.sl none 0 [], .n e] = OwedF w p := by unfold OwedF; rw [if_pos (by rw [← h]; exact k), h]
theorem owed_fine {w : WO} {p : DV} (h : chkF w p = 0) : [DV.sl none 0 (gRows (owF w p) (days w p)), .n 0] = OwedF w p := by unfold OwedF; rw [if_neg (by rw [h]; decide)]
set_option maxHeartbeats 4000000 in
set_option maxRecDepth 100000 in
theorem cOwe_ok (N : Nat) (w0 : World) : ConOk Try.prog tb N w0 (cOwe 15) := by
  refine con_of_walk (tb := tb) fine (C := [cChk 29, cUnt 30, lOwe]) (conCons cChk_ok (conCons cUnt_ok (lopCons rfl noCon))) 80 rfl ?_ N w0
  refine fun f _ _ r _ _ d _ _ K hK p hp _ => ?_
  clear hK hp
  rw [tree_owe]
  show T.res _ (fun q => q = OwedF ⟨f, r, d, .sl none 0 K⟩ (.sl none 0 p)) _ _
  refine res_con rfl trivial (fun e _ _ he => ?_)
  have he : e = chkF ⟨f, r, d, .sl none 0 K⟩ (.sl none 0 p) := n_inj he
  refine res_ite (fun q => ?_) fun q => ?_
  · exact res_dat (.sl none 0 []) rfl (owed_bad he q)
  have q : ¬ ¬ e = 0 := q
  have hc : chkF ⟨f, r, d, .sl none 0 K⟩ (.sl none 0 p) = 0 := by omega
  have hv := chk_val hc
  refine res_con rfl hc (fun l hl hu => ?_)
  clear hl
  have hu : [DV.sl none 0 l] = [.sl none 0 (gRows (untF ⟨f, r, d, .sl none 0 K⟩ (.sl none 0 p)) (days ⟨f, r, d, .sl none 0 K⟩ (.sl none 0 p)))] := hu
  simp only [List.cons.injEq, DV.sl.injEq, and_true, true_and] at hu
  generalize hw : WO.mk f r d (.sl none 0 K) = w at *
  have hn : days w (.sl none 0 p) ≤ 463 := days_le hv
  generalize hD : days w (.sl none 0 p) = n at *
  have ll : (DV.sl none 0 l).len = n := by rw [hu]; exact gLen _ (by omega)
  have pre : ∀ {l : List (List DV)} {b i : Int}, i ≤ n → l = gRows (owF w (.sl none 0 p)) i.toNat → b = bef (untF w (.sl none 0 p)) i.toNat → (i ≤ days (WO.mk f r d (.sl none 0 K)) (.sl none 0 p) ∧ l = gRows (owF (WO.mk f r d (.sl none 0 K)) (.sl none 0 p)) i.toNat ∧ b = bef (untF (WO.mk f r d (.sl none 0 K)) (.sl none 0 p)) i.toNat) := fun h1 h2 h3 => by rw [hw, hD]; exact ⟨h1, h2, h3⟩
  refine res_dat (.sl none 0 []) rfl (res_lop rfl (pre (i := 0) (by omega) rfl rfl) (fun o ho b b0 b1 i i0 i1 hI => ?_))
  clear ho
  obtain ⟨hi, hoo, hb⟩ : i ≤ days (WO.mk f r d (.sl none 0 K)) (.sl none 0 p) ∧ o = gRows (owF (WO.mk f r d (.sl none 0 K)) (.sl none 0 p)) i.toNat ∧ b = bef (untF (WO.mk f r d (.sl none 0 K)) (.sl none 0 p)) i.toNat := hI
  rw [hw] at hi hoo hb
  rw [hD] at hi
  have lo : (DV.sl none 0 o).len = i.toNat := by rw [hoo]; exact gLen _ (by omega)
  refine res_ite (fun hlt => ?_) fun hge => ?_
  · have hlt : i < (DV.sl none 0 l).len := hlt
    have hq := unt_bound hv i.toNat
    have hB := befunt_bound hv i.toNat
    rw [← hb] at hB
    have hat : (DV.sl none 0 l).at i 0 = untF w (.sl none 0 p) i.toNat := by
      rw [hu]
      have := gAt (untF w (.sl none 0 p)) (n := n) (k := i.toNat) (by omega) (by omega) (by omega)
      rwa [show ((i.toNat : Nat) : Int) = i by omega] at this
    have ew : IntKind.i64.wrap ((DV.sl none 0 l).at i 0 - b) = owF w (.sl none 0 p) i.toNat := by
      rw [hat, wI (by omega) (by omega), hb]; rfl
    refine res_ok (show (DV.sl none 0 o).len + 1 ≤ 15637498706147 by omega) ?_
    refine res_dat (.sl none 0 [[.n (IntKind.i64.wrap ((DV.sl none 0 l).at i 0 - b))]]) rfl ?_
    refine res_dat (.sl none 0 (o ++ [[.n (IntKind.i64.wrap ((DV.sl none 0 l).at i 0 - b))]])) rfl ?_
    refine res_ok (show 0 ≤ (DV.sl none 0 l).at i 0 ∧ (DV.sl none 0 l).at i 0 ≤ 576460752303423488 by rw [hat]; omega) ?_
    have hpre := pre (l := o ++ [[DV.n (IntKind.i64.wrap ((DV.sl none 0 l).at i 0 - b))]]) (b := (DV.sl none 0 l).at i 0) (i := i + 1) (by omega) (by rw [ew, hoo, show (i + 1).toNat = i.toNat + 1 by omega, gRows_succ]) (by rw [hat, show (i + 1).toNat = i.toNat + 1 by omega]; rfl)
    refine res_chk rfl hpre ?_
    show (days (WO.mk f r d (.sl none 0 K)) (.sl none 0 p) - (i + 1)).toNat < (days (WO.mk f r d (.sl none 0 K)) (.sl none 0 p) - i).toNat
    rw [hw, hD]; omega
  · have hge : ¬ i < (DV.sl none 0 l).len := hge
    show [DV.sl none 0 o, .n 0] = _
    rw [hoo, show i.toNat = n by omega, ← hD]
    exact owed_fine hc
set_option maxHeartbeats 4000000 in
set_option maxRecDepth 100000 in
theorem cOweR_ok (N : Nat) (w0 : World) : ConOk Try.prog tb N w0 (cOwe 16) := by
  refine con_of_walk (tb := tb) fine (C := [cChk 31, cUntR 33, lOweR]) (conCons cChkR_ok (conCons cUntR_ok (lopCons rfl noCon))) 80 rfl ?_ N w0
  refine fun f _ _ r _ _ d _ _ K hK p hp _ => ?_
  clear hK hp
  rw [tree_oweR]
  show T.res _ (fun q => q = OwedF ⟨f, r, d, .sl none 0 K⟩ (.sl none 0 p)) _ _
  refine res_con rfl trivial (fun e _ _ he => ?_)
  have he : e = chkF ⟨f, r, d, .sl none 0 K⟩ (.sl none 0 p) := n_inj he
  refine res_ite (fun q => ?_) fun q => ?_
  · exact res_dat (.sl none 0 []) rfl (owed_bad he q)
  have q : ¬ ¬ e = 0 := q
  have hc : chkF ⟨f, r, d, .sl none 0 K⟩ (.sl none 0 p) = 0 := by omega
  have hv := chk_val hc
  have l0 := len_nn (.sl none 0 p)
  have hl0 : 1 ≤ (DV.sl none 0 K).len ∧ (DV.sl none 0 K).len ≤ 64 := ⟨hv.K0, hv.K1⟩
  have hp1 : (DV.sl none 0 p).len ≤ 400 := hv.p1
  have hdz : (DV.sl none 0 p).len = 0 → days ⟨f, r, d, .sl none 0 K⟩ (.sl none 0 p) = 0 := fun h => by unfold days; rw [if_pos h]
  have hdn := fun h => days_if hv (show ¬ (DV.sl none 0 p).len = 0 from h)
  have hdn : ¬ (DV.sl none 0 p).len = 0 → (days ⟨f, r, d, .sl none 0 K⟩ (.sl none 0 p) : Int) = (DV.sl none 0 p).len + (DV.sl none 0 K).len - 1 := hdn
  have ew0 : IntKind.i64.wrap (IntKind.i64.wrap ((DV.sl none 0 p).len + (DV.sl none 0 K).len) - 1) = (DV.sl none 0 p).len + (DV.sl none 0 K).len - 1 := by rw [wI (x := (DV.sl none 0 p).len + (DV.sl none 0 K).len) (by omega) (by omega), wI (by omega) (by omega)]
  generalize hw : WO.mk f r d (.sl none 0 K) = w at *
  have hn : days w (.sl none 0 p) ≤ 463 := days_le hv
  generalize hD : days w (.sl none 0 p) = n at *
  have pre : ∀ {l : List (List DV)} {b i : Int}, i ≤ n → l = gRows (owF w (.sl none 0 p)) i.toNat → b = bef (untF w (.sl none 0 p)) i.toNat → (i ≤ days (WO.mk f r d (.sl none 0 K)) (.sl none 0 p) ∧ l = gRows (owF (WO.mk f r d (.sl none 0 K)) (.sl none 0 p)) i.toNat ∧ b = bef (untF (WO.mk f r d (.sl none 0 K)) (.sl none 0 p)) i.toNat) := fun h1 h2 h3 => by rw [hw, hD]; exact ⟨h1, h2, h3⟩
  refine res_dat (.sl none 0 []) rfl (res_lop rfl (pre (i := 0) (by omega) rfl rfl) (fun o ho b b0 b1 i i0 i1 hI => ?_))
  clear ho
  obtain ⟨hi, hoo, hb⟩ : i ≤ days (WO.mk f r d (.sl none 0 K)) (.sl none 0 p) ∧ o = gRows (owF (WO.mk f r d (.sl none 0 K)) (.sl none 0 p)) i.toNat ∧ b = bef (untF (WO.mk f r d (.sl none 0 K)) (.sl none 0 p)) i.toNat := hI
  rw [hw] at hi hoo hb
  rw [hD] at hi
  have lo : (DV.sl none 0 o).len = i.toNat := by rw [hoo]; exact gLen _ (by omega)
  have done : i.toNat = n → [DV.sl none 0 o, .n 0] = OwedF w (.sl none 0 p) := fun h => by rw [hoo, h, ← hD]; exact owed_fine hc
  refine res_ite (fun z => ?_) fun z => ?_
  · have z : (DV.sl none 0 p).len = 0 := z
    have := hdz z
    exact done (by omega)
  have z : ¬ (DV.sl none 0 p).len = 0 := z
  have hd := hdn z
  refine res_ite (fun hlt => ?_) fun hge => ?_
  · have hlt : i < IntKind.i64.wrap (IntKind.i64.wrap ((DV.sl none 0 p).len + (DV.sl none 0 K).len) - 1) := hlt
    rw [ew0] at hlt
    have hq := unt_bound hv i.toNat
    have hB := befunt_bound hv i.toNat
    rw [← hb] at hB
    refine res_con rfl (show chkF (WO.mk f r d (.sl none 0 K)) (.sl none 0 p) = 0 ∧ 0 ≤ i ∧ i ≤ 1000 from ⟨by rw [hw]; exact hc, i0, by omega⟩) (fun u _ _ hu => ?_)
    have hu : u = untF (WO.mk f r d (.sl none 0 K)) (.sl none 0 p) i.toNat := n_inj hu
    rw [hw] at hu
    have ew : IntKind.i64.wrap (u - b) = owF w (.sl none 0 p) i.toNat := by
      rw [hu, wI (by omega) (by omega), hb]; rfl
    refine res_ok (show (DV.sl none 0 o).len + 1 ≤ 15637498706147 by omega) ?_
    refine res_dat (.sl none 0 [[.n (IntKind.i64.wrap (u - b))]]) rfl ?_
    refine res_dat (.sl none 0 (o ++ [[.n (IntKind.i64.wrap (u - b))]])) rfl ?_
    refine res_ok (show 0 ≤ u ∧ u ≤ 576460752303423488 by rw [hu]; omega) ?_
    have hpre := pre (l := o ++ [[DV.n (IntKind.i64.wrap (u - b))]]) (b := u) (i := i + 1) (by omega) (by rw [ew, hoo, show (i + 1).toNat = i.toNat + 1 by omega, gRows_succ]) (by rw [hu, show (i + 1).toNat = i.toNat + 1 by omega]; rfl)
    refine res_chk rfl hpre ?_
    show (days (WO.mk f r d (.sl none 0 K)) (.sl none 0 p) - (i + 1)).toNat < (days (WO.mk f r d (.sl none 0 K)) (.sl none 0 p) - i).toNat
    rw [hw, hD]; omega
  · have hge : ¬ i < IntKind.i64.wrap (IntKind.i64.wrap ((DV.sl none 0 p).len + (DV.sl none 0 K).len) - 1) := hge
    rw [ew0] at hge
    exact done (by omega)
end Go.Proofs.Ytcidomlhmdefaaa
