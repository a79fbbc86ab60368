/- DERIVED. What is still owed: the contracts, proved. -/
import Derived.Test.YtcidomlhmdefaaaDctc
namespace Go.Proofs.Ytcidomlhmdefaaa
open Go.Dx
set_option linter.unusedVariables false
set_option linter.unusedSimpArgs false
theorem rep_bad {w : WO} {p R : DV} {e : Int} (h : e = chkF w p) (k : e ≠ 0) : [DV.sl none 0 [], .n e] = RepF w p R := by unfold RepF; rw [if_pos (by rw [← h]; exact k), h]
theorem rep_wrong {w : WO} {p R : DV} (h : chkF w p = 0) (k : R.len ≠ days w p ∨ ¬ litP R R.len.toNat) : [DV.sl none 0 [], .n 420] = RepF w p R := by unfold RepF; rw [if_neg (by rw [h]; decide), if_pos k]
theorem rep_fine {w : WO} {p R : DV} (h : chkF w p = 0) (k : ¬ (R.len ≠ days w p ∨ ¬ litP R R.len.toNat)) : [DV.sl none 0 (gRows (rpF w p R) (days w p)), .n 0] = RepF w p R := by unfold RepF; rw [if_neg (by rw [h]; decide), if_neg k]
theorem ret_bound {R : DV} {n : Nat} (h : litP R n) (hn : n ≤ 463) {i : Nat} (hi : i ≤ n) : 0 ≤ sumN (el R) i ∧ sumN (el R) i ≤ 497142464512 := by
  refine ⟨sumN_nn fun j hj => (h j (by omega)).1, ?_⟩
  have := sumN_bound (f := el R) (n := i) (b := 1073741824) fun j hj => (h j (by omega)).2
  omega
set_option maxHeartbeats 4000000 in
set_option maxRecDepth 100000 in
theorem cRep_ok (N : Nat) (w0 : World) : ConOk Try.prog tb N w0 (cRep 17) := by
  refine con_of_walk (tb := tb) fine (C := [cChk 29, cUnt 30, cLit 34, lRep]) (conCons cChk_ok (conCons cUnt_ok (conCons cLit_ok (lopCons rfl noCon)))) 80 rfl ?_ N w0
  refine fun f _ _ r _ _ d _ _ K hK p hp R hR _ => ?_
  clear hK hp hR
  rw [tree_rep]
  show T.res _ (fun q => q = RepF ⟨f, r, d, .sl none 0 K⟩ (.sl none 0 p) (.sl none 0 R)) _ _
  refine res_con rfl trivial (fun e _ _ he => ?_)
  have he : e = chkF ⟨f, r, d, .sl none 0 K⟩ (.sl none 0 p) := n_inj he
  refine res_ite (fun q => ?_) fun q => ?_
  · exact res_dat (.sl none 0 []) rfl (rep_bad he q)
  have q : ¬ ¬ e = 0 := q
  have hc : chkF ⟨f, r, d, .sl none 0 K⟩ (.sl none 0 p) = 0 := by omega
  have hv := chk_val hc
  refine res_con rfl hc (fun l hl hu => ?_)
  clear hl
  have hu : [DV.sl none 0 l] = [.sl none 0 (gRows (untF ⟨f, r, d, .sl none 0 K⟩ (.sl none 0 p)) (days ⟨f, r, d, .sl none 0 K⟩ (.sl none 0 p)))] := hu
  simp only [List.cons.injEq, DV.sl.injEq, and_true, true_and] at hu
  generalize hw : WO.mk f r d (.sl none 0 K) = w at *
  have hn : days w (.sl none 0 p) ≤ 463 := days_le hv
  have ll : (DV.sl none 0 l).len = days w (.sl none 0 p) := by rw [hu]; exact gLen _ (by omega)
  refine res_ite (fun hle => ?_) fun hle => res_dat (.sl none 0 []) rfl (rep_wrong hc (.inl fun y => hle (show (DV.sl none 0 R).len = (DV.sl none 0 l).len by rw [ll]; exact y)))
  have hle : (DV.sl none 0 R).len = (DV.sl none 0 l).len := hle
  refine res_con rfl trivial (fun b _ _ hb => ?_)
  have hb := if_in (c := litP (.sl none 0 R) (DV.sl none 0 R).len.toNat) (show [DV.n b] = _ from hb)
  refine res_ite (fun z => res_dat (.sl none 0 []) rfl (rep_wrong hc (.inr (hb.resolve_left fun u => u.1 z).2))) fun z => ?_
  have hlit := (hb.resolve_right fun u => z u.1).2
  have hfine : ¬ ((DV.sl none 0 R).len ≠ days w (.sl none 0 p) ∨ ¬ litP (.sl none 0 R) (DV.sl none 0 R).len.toNat) := fun y => y.elim (fun y => y (by rw [hle, ll])) fun y => y hlit
  have fin := rep_fine hc hfine
  rw [show (DV.sl none 0 R).len.toNat = days w (.sl none 0 p) by omega] at hlit
  generalize hD : days w (.sl none 0 p) = n at *
  have pre : ∀ {l : List (List DV)} {b i : Int}, i ≤ n → l = gRows (rpF w (.sl none 0 p) (.sl none 0 R)) i.toNat → b = sumN (el (.sl none 0 R)) i.toNat → (i ≤ days (WO.mk f r d (.sl none 0 K)) (.sl none 0 p) ∧ l = gRows (rpF (WO.mk f r d (.sl none 0 K)) (.sl none 0 p) (.sl none 0 R)) i.toNat ∧ b = sumN (el (.sl none 0 R)) i.toNat) := fun h1 h2 h3 => by rw [hw, hD]; exact ⟨h1, h2, h3⟩
  refine res_dat (.sl none 0 []) rfl (res_lop rfl (pre (i := 0) (by omega) rfl rfl) (fun o ho i i0 i1 b b0 b1 hI => ?_))
  clear ho
  obtain ⟨hi, hoo, hb⟩ : i ≤ days (WO.mk f r d (.sl none 0 K)) (.sl none 0 p) ∧ o = gRows (rpF (WO.mk f r d (.sl none 0 K)) (.sl none 0 p) (.sl none 0 R)) i.toNat ∧ b = sumN (el (.sl none 0 R)) i.toNat := hI
  rw [hw] at hi hoo
  rw [hD] at hi
  have lo : (DV.sl none 0 o).len = i.toNat := by rw [hoo]; exact gLen _ (by omega)
  refine res_ite (fun hlt => ?_) fun hge => ?_
  · have hlt : i < (DV.sl none 0 l).len := hlt
    have hq := unt_bound hv i.toNat
    have hB := ret_bound hlit hn (i := (i + 1).toNat) (by omega)
    have hat : (DV.sl none 0 l).at i 0 = untF w (.sl none 0 p) i.toNat := by
      rw [hu]
      have := gAt (untF w (.sl none 0 p)) (n := n) (k := i.toNat) (by omega) (by omega) (by omega)
      rwa [show ((i.toNat : Nat) : Int) = i by omega] at this
    have es : b + (DV.sl none 0 R).at i 0 = sumN (el (.sl none 0 R)) (i + 1).toNat := by rw [sumN_next i0, hb]
    have ew : IntKind.i64.wrap (b + (DV.sl none 0 R).at i 0) = sumN (el (.sl none 0 R)) (i + 1).toNat := by rw [es]; exact wI (by omega) (by omega)
    have ex : max 0 (IntKind.i64.wrap ((DV.sl none 0 l).at i 0 - IntKind.i64.wrap (b + (DV.sl none 0 R).at i 0))) = rpF w (.sl none 0 p) (.sl none 0 R) i.toNat := by
      rw [ew, hat, wI (by omega) (by omega)]
      unfold rpF
      rw [show i.toNat + 1 = (i + 1).toNat by omega]
    refine res_ok (show 0 ≤ i ∧ i < (DV.sl none 0 R).len by omega) ?_
    refine res_ok (show (DV.sl none 0 o).len + 1 ≤ 15637498706147 by omega) ?_
    refine res_dat (.sl none 0 [[.n (max 0 (IntKind.i64.wrap ((DV.sl none 0 l).at i 0 - IntKind.i64.wrap (b + (DV.sl none 0 R).at i 0))))]]) rfl ?_
    refine res_dat (.sl none 0 (o ++ [[.n (max 0 (IntKind.i64.wrap ((DV.sl none 0 l).at i 0 - IntKind.i64.wrap (b + (DV.sl none 0 R).at i 0))))]])) rfl ?_
    refine res_ok (show 0 ≤ IntKind.i64.wrap (b + (DV.sl none 0 R).at i 0) ∧ IntKind.i64.wrap (b + (DV.sl none 0 R).at i 0) ≤ 576460752303423488 by rw [ew]; omega) ?_
    have hpre := pre (l := o ++ [[DV.n (max 0 (IntKind.i64.wrap ((DV.sl none 0 l).at i 0 - IntKind.i64.wrap (b + (DV.sl none 0 R).at i 0))))]]) (b := IntKind.i64.wrap (b + (DV.sl none 0 R).at i 0)) (i := i + 1) (by omega) (by rw [ex, hoo, show (i + 1).toNat = i.toNat + 1 by omega, gRows_succ]) ew
    refine res_chk rfl hpre ?_
    show (days (WO.mk f r d (.sl none 0 K)) (.sl none 0 p) - (i + 1)).toNat < (days (WO.mk f r d (.sl none 0 K)) (.sl none 0 p) - i).toNat
    rw [hw, hD]; omega
  · have hge : ¬ i < (DV.sl none 0 l).len := hge
    show [DV.sl none 0 o, .n 0] = _
    rw [hoo, show i.toNat = n by omega]
    exact fin
set_option maxHeartbeats 4000000 in
set_option maxRecDepth 100000 in
theorem cRepR_ok (N : Nat) (w0 : World) : ConOk Try.prog tb N w0 (cRep 18) := by
  refine con_of_walk (tb := tb) fine (C := [cChk 31, cUntR 33, cLit 36, lRepR]) (conCons cChkR_ok (conCons cUntR_ok (conCons cLitR_ok (lopCons rfl noCon)))) 80 rfl ?_ N w0
  refine fun f _ _ r _ _ d _ _ K hK p hp R hR _ => ?_
  clear hK hp hR
  rw [tree_repR]
  show T.res _ (fun q => q = RepF ⟨f, r, d, .sl none 0 K⟩ (.sl none 0 p) (.sl none 0 R)) _ _
  refine res_con rfl trivial (fun e _ _ he => ?_)
  have he : e = chkF ⟨f, r, d, .sl none 0 K⟩ (.sl none 0 p) := n_inj he
  refine res_ite (fun q => ?_) fun q => ?_
  · exact res_dat (.sl none 0 []) rfl (rep_bad he q)
  have q : ¬ ¬ e = 0 := q
  have hc : chkF ⟨f, r, d, .sl none 0 K⟩ (.sl none 0 p) = 0 := by omega
  have hv := chk_val hc
  have l0 := len_nn (.sl none 0 p)
  have l0R := len_nn (.sl none 0 R)
  have hl0 : 1 ≤ (DV.sl none 0 K).len ∧ (DV.sl none 0 K).len ≤ 64 := ⟨hv.K0, hv.K1⟩
  have hp1 : (DV.sl none 0 p).len ≤ 400 := hv.p1
  have hdz : (DV.sl none 0 p).len = 0 → days ⟨f, r, d, .sl none 0 K⟩ (.sl none 0 p) = 0 := fun h => by unfold days; rw [if_pos h]
  have hdn := fun h => days_if hv (show ¬ (DV.sl none 0 p).len = 0 from h)
  have hdn : ¬ (DV.sl none 0 p).len = 0 → (days ⟨f, r, d, .sl none 0 K⟩ (.sl none 0 p) : Int) = (DV.sl none 0 p).len + (DV.sl none 0 K).len - 1 := hdn
  have ew0 : IntKind.i64.wrap (IntKind.i64.wrap ((DV.sl none 0 p).len + (DV.sl none 0 K).len) - 1) = (DV.sl none 0 p).len + (DV.sl none 0 K).len - 1 := by rw [wI (x := (DV.sl none 0 p).len + (DV.sl none 0 K).len) (by omega) (by omega), wI (by omega) (by omega)]
  generalize hw : WO.mk f r d (.sl none 0 K) = w at *
  have hn : days w (.sl none 0 p) ≤ 463 := days_le hv
  have fin := rep_fine (R := .sl none 0 R) hc
  have wrong := rep_wrong (R := .sl none 0 R) hc
  generalize hD : days w (.sl none 0 p) = n at *
  have pre : ∀ {l : List (List DV)} {b i : Int}, i ≤ n → l = gRows (rpF w (.sl none 0 p) (.sl none 0 R)) i.toNat → b = sumN (el (.sl none 0 R)) i.toNat → (i ≤ days (WO.mk f r d (.sl none 0 K)) (.sl none 0 p) ∧ l = gRows (rpF (WO.mk f r d (.sl none 0 K)) (.sl none 0 p) (.sl none 0 R)) i.toNat ∧ b = sumN (el (.sl none 0 R)) i.toNat) := fun h1 h2 h3 => by rw [hw, hD]; exact ⟨h1, h2, h3⟩
  refine res_ite (fun z => ?_) fun z => ?_
  · have z : (DV.sl none 0 p).len = 0 := z
    have hz := hdz z
    refine res_ite (fun y => ?_) fun y => res_dat (.sl none 0 []) rfl (wrong (.inl fun u => y (show (DV.sl none 0 R).len = 0 by omega)))
    have y : (DV.sl none 0 R).len = 0 := y
    refine res_con rfl trivial (fun b _ _ hb => ?_)
    have hb := if_in (c := litP (.sl none 0 R) (DV.sl none 0 R).len.toNat) (show [DV.n b] = _ from hb)
    refine res_ite (fun z => res_dat (.sl none 0 []) rfl (wrong (.inr (hb.resolve_left fun u => u.1 z).2))) fun z => ?_
    have hlit := (hb.resolve_right fun u => z u.1).2
    have fin := fin fun u => u.elim (fun u => u (by omega)) fun u => u hlit
    refine res_dat (.sl none 0 []) rfl (res_lop rfl (pre (i := 0) (by omega) rfl rfl) (fun o ho b b0 b1 i i0 i1 hI => ?_))
    clear ho
    obtain ⟨hi, hoo, hb⟩ : i ≤ days (WO.mk f r d (.sl none 0 K)) (.sl none 0 p) ∧ o = gRows (rpF (WO.mk f r d (.sl none 0 K)) (.sl none 0 p) (.sl none 0 R)) i.toNat ∧ b = sumN (el (.sl none 0 R)) i.toNat := hI
    rw [hw] at hi hoo
    rw [hD] at hi
    show [DV.sl none 0 o, .n 0] = _
    rw [hoo, show i.toNat = n by omega]
    exact fin
  have z : ¬ (DV.sl none 0 p).len = 0 := z
  have hd := hdn z
  refine res_ite (fun y => ?_) fun y => res_dat (.sl none 0 []) rfl (wrong (.inl fun u => y (show (DV.sl none 0 R).len = IntKind.i64.wrap (IntKind.i64.wrap ((DV.sl none 0 p).len + (DV.sl none 0 K).len) - 1) by rw [ew0]; omega)))
  have y : (DV.sl none 0 R).len = IntKind.i64.wrap (IntKind.i64.wrap ((DV.sl none 0 p).len + (DV.sl none 0 K).len) - 1) := y
  rw [ew0] at y
  refine res_con rfl trivial (fun b _ _ hb => ?_)
  have hb := if_in (c := litP (.sl none 0 R) (DV.sl none 0 R).len.toNat) (show [DV.n b] = _ from hb)
  refine res_ite (fun z => res_dat (.sl none 0 []) rfl (wrong (.inr (hb.resolve_left fun u => u.1 z).2))) fun z => ?_
  have hlit := (hb.resolve_right fun u => z u.1).2
  have fin := fin fun u => u.elim (fun u => u (by omega)) fun u => u hlit
  rw [show (DV.sl none 0 R).len.toNat = n by omega] at hlit
  clear hb z
  refine res_dat (.sl none 0 []) rfl (res_lop rfl (pre (i := 0) (by omega) rfl rfl) (fun o ho b b0 b1 i i0 i1 hI => ?_))
  clear ho
  obtain ⟨hi, hoo, hb⟩ : i ≤ days (WO.mk f r d (.sl none 0 K)) (.sl none 0 p) ∧ o = gRows (rpF (WO.mk f r d (.sl none 0 K)) (.sl none 0 p) (.sl none 0 R)) i.toNat ∧ b = sumN (el (.sl none 0 R)) i.toNat := hI
  rw [hw] at hi hoo
  rw [hD] at hi
  have lo : (DV.sl none 0 o).len = i.toNat := by rw [hoo]; exact gLen _ (by omega)
  refine res_ite (fun hlt => ?_) fun hge => ?_
  · have hlt : i < (DV.sl none 0 R).len := hlt
    have hq := unt_bound hv i.toNat
    have hB := ret_bound hlit hn (i := (i + 1).toNat) (by omega)
    refine res_con rfl (show chkF (WO.mk f r d (.sl none 0 K)) (.sl none 0 p) = 0 ∧ 0 ≤ i ∧ i ≤ 1000 from ⟨by rw [hw]; exact hc, i0, by omega⟩) (fun u _ _ hu => ?_)
    have hu : u = untF (WO.mk f r d (.sl none 0 K)) (.sl none 0 p) i.toNat := n_inj hu
    rw [hw] at hu
    have es : b + (DV.sl none 0 R).at i 0 = sumN (el (.sl none 0 R)) (i + 1).toNat := by rw [sumN_next i0, hb]
    have ew : IntKind.i64.wrap (b + (DV.sl none 0 R).at i 0) = sumN (el (.sl none 0 R)) (i + 1).toNat := by rw [es]; exact wI (by omega) (by omega)
    have ex : max 0 (IntKind.i64.wrap (u - IntKind.i64.wrap (b + (DV.sl none 0 R).at i 0))) = rpF w (.sl none 0 p) (.sl none 0 R) i.toNat := by
      rw [ew, hu, wI (by omega) (by omega)]
      unfold rpF
      rw [show i.toNat + 1 = (i + 1).toNat by omega]
    refine res_ok (show (DV.sl none 0 o).len + 1 ≤ 15637498706147 by omega) ?_
    refine res_dat (.sl none 0 [[.n (max 0 (IntKind.i64.wrap (u - IntKind.i64.wrap (b + (DV.sl none 0 R).at i 0))))]]) rfl ?_
    refine res_dat (.sl none 0 (o ++ [[.n (max 0 (IntKind.i64.wrap (u - IntKind.i64.wrap (b + (DV.sl none 0 R).at i 0))))]])) rfl ?_
    refine res_ok (show 0 ≤ IntKind.i64.wrap (b + (DV.sl none 0 R).at i 0) ∧ IntKind.i64.wrap (b + (DV.sl none 0 R).at i 0) ≤ 576460752303423488 by rw [ew]; omega) ?_
    have hpre := pre (l := o ++ [[DV.n (max 0 (IntKind.i64.wrap (u - IntKind.i64.wrap (b + (DV.sl none 0 R).at i 0))))]]) (b := IntKind.i64.wrap (b + (DV.sl none 0 R).at i 0)) (i := i + 1) (by omega) (by rw [ex, hoo, show (i + 1).toNat = i.toNat + 1 by omega, gRows_succ]) ew
    refine res_chk rfl hpre ?_
    show (days (WO.mk f r d (.sl none 0 K)) (.sl none 0 p) - (i + 1)).toNat < (days (WO.mk f r d (.sl none 0 K)) (.sl none 0 p) - i).toNat
    rw [hw, hD]; omega
  · have hge : ¬ i < (DV.sl none 0 R).len := hge
    show [DV.sl none 0 o, .n 0] = _
    rw [hoo, show i.toNat = n by omega]
    exact fin
end Go.Proofs.Ytcidomlhmdefaaa
