/- DERIVED. What is owed: the contracts, proved. -/
import Derived.Test.YtcidomlhmdefaaaDct
namespace Go.Proofs.Ytcidomlhmdefaaa
open Go.Dx
set_option linter.unusedVariables false
set_option linter.unusedSimpArgs false
theorem days_if {w : WO} {p : DV} (h : Val w p) (hp : ¬ p.len = 0) : (days w p : Int) = p.len + w.K.len - 1 := by
  have := len_nn p; have := h.K0
  rw [days_pos hp]; omega
theorem E_none {w : WO} {p : DV} (d : Nat) (m : Nat) : dsum (cellE w p d) m 0 0 = 0 := rfl
set_option maxHeartbeats 4000000 in
set_option maxRecDepth 100000 in
theorem cUnt_ok (N : Nat) (w0 : World) : ConOk Try.prog tb N w0 (cUnt 30) := by
  refine con_of_walk (tb := tb) fine (C := [lM1, lM2, lDiv]) (lopCons rfl (lopCons rfl (lopCons rfl noCon))) 80 rfl ?_ N w0
  refine fun f _ _ r _ _ d _ _ K hK p hp hpre => ?_
  clear hK hp
  have hpre : chkF ⟨f, r, d, .sl none 0 K⟩ (.sl none 0 p) = 0 := hpre
  have hv := chk_val hpre
  rw [tree_unt]
  show T.res _ (fun y => y = [.sl none 0 (gRows (untF ⟨f, r, d, .sl none 0 K⟩ (.sl none 0 p)) (days ⟨f, r, d, .sl none 0 K⟩ (.sl none 0 p)))]) _ _
  have l0 := len_nn (.sl none 0 p)
  have hl0 : 1 ≤ (DV.sl none 0 K).len ∧ (DV.sl none 0 K).len ≤ 64 := ⟨hv.K0, hv.K1⟩
  have hp1 : (DV.sl none 0 p).len ≤ 400 := hv.p1
  refine res_ite (fun q => ?_) fun q => ?_
  · have q : (DV.sl none 0 p).len = 0 := q
    refine res_dat (.sl none 0 []) rfl ?_
    show [DV.sl none 0 []] = _
    unfold days; rw [if_pos q]; rfl
  have q : ¬ (DV.sl none 0 p).len = 0 := q
  have hd := days_if hv q
  have hd : (days ⟨f, r, d, .sl none 0 K⟩ (.sl none 0 p) : Int) = (DV.sl none 0 p).len + (DV.sl none 0 K).len - 1 := hd
  have hd0 := hv.d0
  have ew : IntKind.i64.wrap (IntKind.i64.wrap ((DV.sl none 0 p).len + (DV.sl none 0 K).len) - 1) = (DV.sl none 0 p).len + (DV.sl none 0 K).len - 1 := by rw [wI (x := (DV.sl none 0 p).len + (DV.sl none 0 K).len) (by omega) (by omega), wI (by omega) (by omega)]
  generalize hw : WO.mk f r d (.sl none 0 K) = w at *
  have wK : w.K = .sl none 0 K := by rw [← hw]
  have wd : w.d = d := by rw [← hw]
  have hn : days w (.sl none 0 p) ≤ 463 := days_le hv
  generalize hD : days w (.sl none 0 p) = n at *
  refine res_ok (show 0 ≤ IntKind.i64.wrap (IntKind.i64.wrap ((DV.sl none 0 p).len + (DV.sl none 0 K).len) - 1) ∧ IntKind.i64.wrap (IntKind.i64.wrap ((DV.sl none 0 p).len + (DV.sl none 0 K).len) - 1) ≤ 15637498706147 by rw [ew]; omega) ?_
  refine res_dat (.sl none 0 (gRows (fun d => dsum (cellE w (.sl none 0 p) d) (DV.sl none 0 K).len.toNat 0 0) n)) (by
    show DV.sl none 0 (List.replicate (IntKind.i64.wrap (IntKind.i64.wrap ((DV.sl none 0 p).len + (DV.sl none 0 K).len) - 1)).toNat [.n 0]) = _
    rw [ew, show ((DV.sl none 0 p).len + (DV.sl none 0 K).len - 1).toNat = n by omega, gRep (g := fun d => dsum (cellE w (.sl none 0 p) d) (DV.sl none 0 K).len.toNat 0 0) (fun k _ => rfl)]) ?_
  have p1 : ∀ (i : Int) (l : List (List DV)), (i ≤ (DV.sl none 0 p).len ∧ l = gRows (fun d => dsum (cellE (WO.mk f r d (.sl none 0 K)) (.sl none 0 p) d) (DV.sl none 0 K).len.toNat i.toNat 0) (days (WO.mk f r d (.sl none 0 K)) (.sl none 0 p))) → True := fun _ _ _ => trivial
  clear p1
  have pre1 : ∀ {i : Int} {l : List (List DV)}, i ≤ (DV.sl none 0 p).len → l = gRows (fun d => dsum (cellE w (.sl none 0 p) d) (DV.sl none 0 K).len.toNat i.toNat 0) n → (i ≤ (DV.sl none 0 p).len ∧ l = gRows (fun e => dsum (cellE (WO.mk f r d (.sl none 0 K)) (.sl none 0 p) e) (DV.sl none 0 K).len.toNat i.toNat 0) (days (WO.mk f r d (.sl none 0 K)) (.sl none 0 p))) := fun h1 h2 => ⟨h1, by rw [hw, hD]; exact h2⟩
  refine res_lop rfl (pre1 (i := 0) l0 rfl) (fun i i0 i1 l hl hI => ?_)
  obtain ⟨hi, hl1⟩ : i ≤ (DV.sl none 0 p).len ∧ l = gRows (fun e => dsum (cellE (WO.mk f r d (.sl none 0 K)) (.sl none 0 p) e) (DV.sl none 0 K).len.toNat i.toNat 0) (days (WO.mk f r d (.sl none 0 K)) (.sl none 0 p)) := hI
  rw [hw, hD] at hl1
  clear hl
  refine res_ite (fun hlt => ?_) fun hge => ?_
  · have hlt : i < (DV.sl none 0 p).len := hlt
    have pre2 : ∀ {j : Int} {l : List (List DV)}, j ≤ (DV.sl none 0 K).len → l = gRows (fun d => dsum (cellE w (.sl none 0 p) d) (DV.sl none 0 K).len.toNat i.toNat j.toNat) n → (j ≤ (DV.sl none 0 K).len ∧ l = gRows (fun e => dsum (cellE (WO.mk f r d (.sl none 0 K)) (.sl none 0 p) e) (DV.sl none 0 K).len.toNat i.toNat j.toNat) (days (WO.mk f r d (.sl none 0 K)) (.sl none 0 p))) := fun h1 h2 => ⟨h1, by rw [hw, hD]; exact h2⟩
    refine res_lop rfl (pre2 (j := 0) (by omega) hl1) (fun j j0 j1 t ht hJ => ?_)
    obtain ⟨hj, ht1⟩ : j ≤ (DV.sl none 0 K).len ∧ t = gRows (fun e => dsum (cellE (WO.mk f r d (.sl none 0 K)) (.sl none 0 p) e) (DV.sl none 0 K).len.toNat i.toNat j.toNat) (days (WO.mk f r d (.sl none 0 K)) (.sl none 0 p)) := hJ
    rw [hw, hD] at ht1
    clear ht
    have lt : (DV.sl none 0 t).len = n := by rw [ht1]; exact gLen _ (by omega)
    refine res_ite (fun hlj => ?_) fun hgj => ?_
    · have hlj : j < (DV.sl none 0 K).len := hlj
      have e1 : IntKind.i64.wrap (i + j) = i + j := wI (by omega) (by omega)
      have hb := prod_bound hv (i := i.toNat) (j := j.toNat) (by omega) (by rw [wK]; omega)
      have hx : el (.sl none 0 p) i.toNat = (DV.sl none 0 p).at i 0 := by unfold el; rw [show ((i.toNat : Nat) : Int) = i by omega]
      have hy : el w.K j.toNat = (DV.sl none 0 K).at j 0 := by rw [wK]; unfold el; rw [show ((j.toNat : Nat) : Int) = j by omega]
      rw [hx, hy] at hb
      have e2 : IntKind.i64.wrap ((DV.sl none 0 p).at i 0 * (DV.sl none 0 K).at j 0) = (DV.sl none 0 p).at i 0 * (DV.sl none 0 K).at j 0 := wI (by omega) (by omega)
      have hs := dsum_bound hv (cellE_or w (.sl none 0 p) (i + j).toNat) (n := i.toNat) (j := j.toNat) (.inl ⟨by omega, by rw [wK]; omega⟩)
      rw [wK] at hs
      have hat : (DV.sl none 0 t).at (i + j) 0 = dsum (cellE w (.sl none 0 p) (i + j).toNat) (DV.sl none 0 K).len.toNat i.toNat j.toNat := by
        rw [ht1]
        have := gAt (fun d => dsum (cellE w (.sl none 0 p) d) (DV.sl none 0 K).len.toNat i.toNat j.toNat) (n := n) (k := (i + j).toNat) (by omega) (by omega) (by omega)
        rw [show (((i + j).toNat : Nat) : Int) = i + j by omega] at this
        exact this
      have e3 : IntKind.i64.wrap ((DV.sl none 0 t).at (i + j) 0 + (DV.sl none 0 p).at i 0 * (DV.sl none 0 K).at j 0) = (DV.sl none 0 t).at (i + j) 0 + (DV.sl none 0 p).at i 0 * (DV.sl none 0 K).at j 0 := wI (by omega) (by omega)
      refine res_ok (show 0 ≤ IntKind.i64.wrap (i + j) ∧ IntKind.i64.wrap (i + j) < (DV.sl none 0 t).len by rw [e1]; omega) ?_
      refine res_dat (.sl none 0 (gRows (fun d => dsum (cellE w (.sl none 0 p) d) (DV.sl none 0 K).len.toNat i.toNat (j + 1).toNat) n)) (by
        show DV.sl none 0 (t.modify (IntKind.i64.wrap (i + j)).toNat fun e => layG e 0 [.n (IntKind.i64.wrap ((DV.sl none 0 t).at (IntKind.i64.wrap (i + j)) 0 + IntKind.i64.wrap ((DV.sl none 0 p).at i 0 * (DV.sl none 0 K).at j 0)))]) = _
        rw [e1, e2, e3, hat]
        rw [ht1]
        rw [gMod (g' := fun d => dsum (cellE w (.sl none 0 p) d) (DV.sl none 0 K).len.toNat i.toNat (j + 1).toNat) (by omega)]
        · skip
          rw [show (j + 1).toNat = j.toNat + 1 by omega, dsum_succ]
          unfold cellE
          rw [if_pos (by omega), hx, hy]
        · intro k hk hne

          rw [show (j + 1).toNat = j.toNat + 1 by omega, dsum_succ]
          have : cellE w (.sl none 0 p) k i.toNat j.toNat = 0 := by unfold cellE; rw [if_neg (by omega)]
          rw [this]; omega) ?_
      refine res_chk rfl (pre2 (j := j + 1) (by omega) rfl) ?_
      show ((DV.sl none 0 K).len - (j + 1)).toNat < ((DV.sl none 0 K).len - j).toNat
      omega
    · have hgj : ¬ j < (DV.sl none 0 K).len := hgj
      refine res_chk rfl (pre1 (i := i + 1) (by omega) (by
        rw [ht1]
        refine gRows_congr fun k _ => ?_
        rw [show j.toNat = (DV.sl none 0 K).len.toNat by omega, show (i + 1).toNat = i.toNat + 1 by omega]
        exact dsum_row _ _ _)) ?_
      show ((DV.sl none 0 p).len - (i + 1)).toNat < ((DV.sl none 0 p).len - i).toNat
      omega
  · have hge : ¬ i < (DV.sl none 0 p).len := hge
    have ll : (DV.sl none 0 l).len = n := by rw [hl1]; exact gLen _ (by omega)
    have pre3 : ∀ {k : Int} {l : List (List DV)} {s : Int}, k ≤ n → l = gRows (divd w (.sl none 0 p) k.toNat) n → s = bef (U w (.sl none 0 p)) k.toNat → (k ≤ days (WO.mk f r d (.sl none 0 K)) (.sl none 0 p) ∧ l = gRows (divd (WO.mk f r d (.sl none 0 K)) (.sl none 0 p) k.toNat) (days (WO.mk f r d (.sl none 0 K)) (.sl none 0 p)) ∧ s = bef (U (WO.mk f r d (.sl none 0 K)) (.sl none 0 p)) k.toNat) := fun h1 h2 h3 => by rw [hw, hD]; exact ⟨h1, h2, h3⟩
    refine res_lop rfl (pre3 (k := 0) (by omega) (by
      show l = _
      rw [hl1]
      refine gRows_congr fun k _ => ?_
      unfold divd
      rw [if_neg (show ¬ k < (0 : Int).toNat from Nat.not_lt_zero k), wK, show i.toNat = (DV.sl none 0 p).len.toNat by omega]) rfl) (fun k k0 k1 t ht s s0 s1 hJ => ?_)
    obtain ⟨hk, ht1, hs⟩ : k ≤ days (WO.mk f r d (.sl none 0 K)) (.sl none 0 p) ∧ t = gRows (divd (WO.mk f r d (.sl none 0 K)) (.sl none 0 p) k.toNat) (days (WO.mk f r d (.sl none 0 K)) (.sl none 0 p)) ∧ s = bef (U (WO.mk f r d (.sl none 0 K)) (.sl none 0 p)) k.toNat := hJ
    rw [hw] at hk ht1 hs
    rw [hD] at hk ht1
    clear ht
    have lt : (DV.sl none 0 t).len = n := by rw [ht1]; exact gLen _ (by omega)
    refine res_ite (fun hlk => ?_) fun hgk => ?_
    · have hlk : k < (DV.sl none 0 l).len := hlk
      have ek : ((k.toNat : Nat) : Int) = k := by omega
      have hE := E_bound hv k.toNat
      have hB := befU_bound hv k.toNat
      have hU := U_bound hv k.toNat
      have hUe := U_bef w (.sl none 0 p) k.toNat
      have hq := unt_bound hv k.toNat
      have hat : (DV.sl none 0 t).at k 0 = dsum (cellE w (.sl none 0 p) k.toNat) w.K.len.toNat (DV.sl none 0 p).len.toNat 0 := by
        have e : divd w (.sl none 0 p) k.toNat k.toNat = dsum (cellE w (.sl none 0 p) k.toNat) w.K.len.toNat (DV.sl none 0 p).len.toNat 0 := by unfold divd; rw [if_neg (by omega)]
        rw [ht1]
        have := gAt (divd w (.sl none 0 p) k.toNat) (n := n) (k := k.toNat) (by omega) (by rw [e]; omega) (by rw [e]; omega)
        rw [ek] at this
        rw [this, e]
      have esum : s + (DV.sl none 0 t).at k 0 = U w (.sl none 0 p) k.toNat := by rw [hat, hs, hUe]
      have e1 : IntKind.i64.wrap (s + (DV.sl none 0 t).at k 0) = U w (.sl none 0 p) k.toNat := by rw [esum]; exact wI (by omega) (by omega)
      refine res_ok (show 0 ≤ k ∧ k < (DV.sl none 0 t).len by omega) ?_
      refine res_ite (fun z => ?_) fun _ => ?_
      · have z : d = 0 := z
        omega
      refine res_dat (.sl none 0 (gRows (divd w (.sl none 0 p) (k + 1).toNat) n)) (by
        show DV.sl none 0 (t.modify k.toNat fun e => layG e 0 [.n (IntKind.i64.wrap (Int.tdiv (IntKind.i64.wrap (s + (DV.sl none 0 t).at k 0)) d))]) = _
        have e2 : IntKind.i64.wrap (Int.tdiv (U w (.sl none 0 p) k.toNat) d) = untF w (.sl none 0 p) k.toNat := by
          have : untF w (.sl none 0 p) k.toNat = Int.tdiv (U w (.sl none 0 p) k.toNat) d := by unfold untF; rw [wd]
          rw [← this]; exact wI (by omega) (by omega)
        rw [e1, e2, ht1]
        rw [gMod (g' := divd w (.sl none 0 p) (k + 1).toNat) (by omega)]
        · unfold divd
          rw [if_pos (by omega)]
        · intro q hq hne
          unfold divd
          by_cases z : q < k.toNat
          · rw [if_pos z, if_pos (by omega)]
          · rw [if_neg z, if_neg (by omega)]) ?_
      refine res_ok (show 0 ≤ IntKind.i64.wrap (s + (DV.sl none 0 t).at k 0) ∧ IntKind.i64.wrap (s + (DV.sl none 0 t).at k 0) ≤ 576460752303423488 by rw [e1]; omega) ?_
      refine res_chk rfl (pre3 (k := k + 1) (by omega) rfl (by
        show IntKind.i64.wrap (s + (DV.sl none 0 t).at k 0) = _
        rw [e1, show (k + 1).toNat = k.toNat + 1 by omega]; rfl)) ?_
      show (days (WO.mk f r d (.sl none 0 K)) (.sl none 0 p) - (k + 1)).toNat < (days (WO.mk f r d (.sl none 0 K)) (.sl none 0 p) - k).toNat
      rw [hw, hD]; omega
    · have hgk : ¬ k < (DV.sl none 0 l).len := hgk
      show [DV.sl none 0 t] = _
      rw [ht1]
      rw [gRows_congr (g := divd w (.sl none 0 p) k.toNat) (h := untF w (.sl none 0 p)) fun q hq => by unfold divd; rw [if_pos (by omega)]]
end Go.Proofs.Ytcidomlhmdefaaa
