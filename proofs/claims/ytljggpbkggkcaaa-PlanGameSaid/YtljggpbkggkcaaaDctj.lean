/- DERIVED. The reference's greatest firm demand: the contract, proved. -/
import Derived.Test.YtljggpbkggkcaaaDmathb
import Derived.Test.YtljggpbkggkcaaaDcone
import Derived.Test.YtljggpbkggkcaaaDtreen
import Derived.Test.YtljggpbkggkcaaaDtreeo
namespace Go.Proofs.Ytljggpbkggkcaaa
open Go.Dx
set_option linter.unusedVariables false
set_option linter.unusedSimpArgs false
theorem appK_len (P S : DV) (n : Int) (i : Nat) : (appK P S n i).length = i := by unfold appK; simp
theorem appK_succ (P S : DV) (n : Int) (i : Nat) : appK P S n (i + 1) = appK P S n i ++ [[.n (P.at i 0), .n (P.at i 1), .n (n * S.at i 0), .n (P.at i 3), .n (P.at i 4)]] := by
  unfold appK; rw [List.range_succ, List.map_append]; rfl
theorem appK_eq {P : List (List DV)} (hr : rowsOk P) (S : DV) (n : Int) : appK (.sl none 0 P) S n P.length = setK P S n P.length := by
  apply List.ext_getElem?
  intro k
  by_cases hk : k < P.length
  · rw [setK_get S n hr hk P.length, if_pos hk]
    unfold appK
    rw [List.getElem?_map, List.getElem?_range hk]; rfl
  · rw [List.getElem?_eq_none (by rw [appK_len]; omega), List.getElem?_eq_none (by rw [setK_len]; omega)]
theorem met_yes {c : CO} {S : DV} {n : Int} (h : met c S n) : [DV.n 1] = [DV.n (if met c S n then 1 else 0)] := by rw [if_pos h]
theorem met_no {c : CO} {S : DV} {n : Int} (h : ¬ met c S n) : [DV.n 0] = [DV.n (if met c S n then 1 else 0)] := by rw [if_neg h]
theorem rob_cases {c : CO} {s : Int} {L : List (List DV)} (h : [DV.sl none 0 L, .n s] = RobustF c) (hl : c.P.len ≤ 64) : (s = 0 ∧ L = rowsF c ∧ rightC c) ∨ (s ≠ 0 ∧ ¬ rightC c) := by
  unfold RobustF at h
  by_cases c1 : chkF c ≠ 0
  · rw [if_pos c1] at h
    simp only [List.cons.injEq, DV.sl.injEq, DV.n.injEq, true_and, and_true] at h
    refine .inr ⟨by omega, fun q => c1 ?_⟩
    unfold chkF; rw [if_neg (by omega), if_pos q]
  · rw [if_neg c1] at h
    simp only [List.cons.injEq, DV.sl.injEq, DV.n.injEq, true_and, and_true] at h
    refine .inl ⟨h.2, h.1, Classical.byContradiction fun q => c1 ?_⟩
    unfold chkF; rw [if_neg (by omega), if_neg q]; decide
set_option maxHeartbeats 4000000 in
set_option maxRecDepth 100000 in
theorem cMet_ok (N : Nat) (w0 : World) : ConOk Try.prog tb N w0 (cMet 48) := by
  refine con_of_walk (tb := tb) fine (C := [cRobust 13, lApp 7]) (conCons cRobustR_ok (lopCons rfl noCon)) 80 rfl ?_ N w0
  refine fun cap _ _ st _ _ fl _ _ P hP S hS n n0' n1' hpre => ?_
  obtain ⟨⟨hls, hlen⟩, ⟨n0, n1⟩, hsh⟩ : ((DV.sl none 0 S).len = (DV.sl none 0 P).len ∧ (DV.sl none 0 P).len ≤ 64) ∧ (0 ≤ n ∧ n ≤ 1048577) ∧ shOk (.sl none 0 S) (DV.sl none 0 S).len.toNat := hpre
  have hPl : P.length ≤ 9223372036854775807 := hP.1
  have hrow := rowsOk_of hP
  clear hP hS
  rw [tree_met]
  have l0 := len_nn (.sl none 0 P)
  have ll : (DV.sl none 0 P).len = P.length := clampL_eq hPl
  show T.res [cRobust 13, lApp 7] (fun y => y = [.n (if met ⟨cap, st, fl, .sl none 0 P⟩ (.sl none 0 S) n then 1 else 0)]) _ _
  refine res_dat (.sl none 0 []) rfl ?_
  refine res_lop rfl (show (0 : Int) ≤ (DV.sl none 0 S).len ∧ [] = appK (.sl none 0 P) (.sl none 0 S) n (0 : Int).toNat from ⟨by omega, rfl⟩) (fun i i0 i1 L hLs hK => ?_)
  clear hLs
  obtain ⟨hi, hL⟩ : i ≤ (DV.sl none 0 S).len ∧ L = appK (.sl none 0 P) (.sl none 0 S) n i.toNat := hK
  have lL : (DV.sl none 0 L).len = (i.toNat : Nat) := len_of (by rw [hL, appK_len]) (by omega)
  refine res_ite (fun hlt => ?_) fun hge => ?_
  · have hlt : i < (DV.sl none 0 S).len := hlt
    have hsi := hsh i.toNat (by omega)
    rw [show ((i.toNat : Nat) : Int) = i by omega] at hsi
    have b0 : 0 ≤ n * (DV.sl none 0 S).at i 0 := Int.mul_nonneg n0 hsi.1
    have b1 : n * (DV.sl none 0 S).at i 0 ≤ 1048577 * 1048576 := Int.mul_le_mul n1 hsi.2 hsi.1 (by decide)
    have ew : IntKind.i64.wrap (n * (DV.sl none 0 S).at i 0) = n * (DV.sl none 0 S).at i 0 := wI (by omega) (by omega)
    refine res_ok (show 0 ≤ i ∧ i < (DV.sl none 0 P).len by omega) (res_ok (show (DV.sl none 0 L).len + 1 ≤ 3432621667203 by omega) ?_)
    refine res_dat (.sl none 0 [[.n ((DV.sl none 0 P).at i 0), .n ((DV.sl none 0 P).at i 1), .n (IntKind.i64.wrap (n * (DV.sl none 0 S).at i 0)), .n ((DV.sl none 0 P).at i 3), .n ((DV.sl none 0 P).at i 4)]]) rfl ?_
    refine res_dat (.sl none 0 (L ++ [[.n ((DV.sl none 0 P).at i 0), .n ((DV.sl none 0 P).at i 1), .n (IntKind.i64.wrap (n * (DV.sl none 0 S).at i 0)), .n ((DV.sl none 0 P).at i 3), .n ((DV.sl none 0 P).at i 4)]])) rfl ?_
    refine res_chk rfl (show i + 1 ≤ (DV.sl none 0 S).len ∧ L ++ [[.n ((DV.sl none 0 P).at i 0), .n ((DV.sl none 0 P).at i 1), .n (IntKind.i64.wrap (n * (DV.sl none 0 S).at i 0)), .n ((DV.sl none 0 P).at i 3), .n ((DV.sl none 0 P).at i 4)]] = appK (.sl none 0 P) (.sl none 0 S) n (i + 1).toNat from ⟨by omega, ?_⟩) ?_
    · rw [ew, show (i + 1).toNat = i.toNat + 1 by omega, appK_succ, hL, show ((i.toNat : Nat) : Int) = i by omega]
    · show ((DV.sl none 0 S).len - (i + 1)).toNat < ((DV.sl none 0 S).len - i).toNat
      omega
  have hge : ¬ i < (DV.sl none 0 S).len := hge
  have hL2 : L = setK P (.sl none 0 S) n P.length := by rw [hL, show i.toNat = P.length by omega, appK_eq hrow]
  have hd : CO.mk cap st fl (.sl none 0 L) = dem ⟨cap, st, fl, .sl none 0 P⟩ (.sl none 0 S) n := by
    unfold dem
    show _ = CO.mk cap st fl (.sl none 0 (setK P (.sl none 0 S) n (DV.sl none 0 P).len.toNat))
    rw [hL2, ll, Int.toNat_natCast]
  refine res_con rfl trivial (fun M hM s _ _ hO => ?_)
  clear hM
  have hO : [DV.sl none 0 M, .n s] = RobustF ⟨cap, st, fl, .sl none 0 L⟩ := hO
  have hO := rob_cases hO (show (DV.sl none 0 L).len ≤ 64 by omega)
  refine res_ite (fun z => ?_) fun z => ?_
  · have z : s = 0 := z
    obtain ⟨_, hM, hR⟩ := hO.resolve_right (fun q => q.1 z)
    have lM : (DV.sl none 0 M).len = ((DV.sl none 0 L).len.toNat + 1 : Nat) := len_of (by rw [hM, rowsF_len]) (by omega)
    have g0 := row_at hR hM (t := 0) (by omega) (by show 0 ≤ (DV.sl none 0 L).len; omega)
    refine res_ok (show (0 : Int) ≤ 0 ∧ 0 < (DV.sl none 0 M).len by omega) ?_
    refine res_ite (fun y => met_yes ?_) fun y => met_no fun q => y ?_
    · have y : (DV.sl none 0 M).at 0 0 ≤ st ∧ st ≤ (DV.sl none 0 M).at 0 1 := y
      rw [g0.1, g0.2] at y
      unfold met; rw [← hd]
      exact ⟨hR, y⟩
    · unfold met at q; rw [← hd] at q
      show (DV.sl none 0 M).at 0 0 ≤ st ∧ st ≤ (DV.sl none 0 M).at 0 1
      rw [g0.1, g0.2]; exact q.2
  · have z : ¬ s = 0 := z
    refine met_no fun q => ?_
    unfold met at q; rw [← hd] at q
    exact (hO.resolve_left (fun y => z y.1)).2 q.1
set_option maxHeartbeats 4000000 in
set_option maxRecDepth 100000 in
theorem cFirmR_ok (N : Nat) (w0 : World) : ConOk Try.prog tb N w0 (cFirm 24) := by
  refine con_of_walk (tb := tb) fine (C := [cChk 15, cMet 48, lLook 6, lHalf 62]) (conCons cChkR_ok (conCons cMet_ok (lopCons rfl (lopCons rfl noCon)))) 80 rfl ?_ N w0
  refine fun cap _ _ st _ _ fl _ _ P hP S hS _ => ?_
  have hPl : P.length ≤ 9223372036854775807 := hP.1
  have hrow := rowsOk_of hP
  clear hP hS
  rw [tree_firmR]
  have l0 := len_nn (.sl none 0 P)
  have ll : (DV.sl none 0 P).len = P.length := clampL_eq hPl
  have s0 := len_nn (.sl none 0 S)
  show T.res [cChk 15, cMet 48, lLook 6, lHalf 62] (fun y => y = FirmF ⟨cap, st, fl, .sl none 0 P⟩ (.sl none 0 S)) _ _
  refine res_con rfl trivial (fun e _ _ he => ?_)
  have he : [DV.n e] = [DV.n (chkF ⟨cap, st, fl, .sl none 0 P⟩)] := he
  obtain ⟨es, hs⟩ := chk_in he
  refine res_ite (fun h => ?_) fun h => ?_
  · have h : ¬ e = 0 := h
    exact firm_bad (by omega) es
  have h : ¬ ¬ e = 0 := h
  rcases hs with ⟨hz, hc0, hlen, hr⟩ | q
  case inr => exact absurd q.1 h
  have hlen : (DV.sl none 0 P).len ≤ 64 := hlen
  refine res_ite (fun k => firm_shape hc0 (.inl k)) fun k => ?_
  have k : (DV.sl none 0 S).len = (DV.sl none 0 P).len := Classical.not_not.1 k
  refine res_lop rfl (show (0 : Int) ≤ (DV.sl none 0 S).len ∧ shOk (.sl none 0 S) (0 : Int).toNat from ⟨s0, fun k hk => absurd hk (by simp)⟩) (fun x x0 _ hI => ?_)
  obtain ⟨hx, hp⟩ : x ≤ (DV.sl none 0 S).len ∧ shOk (.sl none 0 S) x.toNat := hI
  refine res_ite (fun hlt => ?_) fun hge => ?_
  · have hlt : x < (DV.sl none 0 S).len := hlt
    refine res_ite (fun q => firm_shape hc0 (.inr fun z => ?_)) fun q => ?_
    · have q : ¬ (0 ≤ (DV.sl none 0 S).at x 0 ∧ (DV.sl none 0 S).at x 0 ≤ 1048576) := q
      have := z x.toNat (by omega)
      rw [show ((x.toNat : Nat) : Int) = x by omega] at this
      exact q this
    · have q : ¬ ¬ (0 ≤ (DV.sl none 0 S).at x 0 ∧ (DV.sl none 0 S).at x 0 ≤ 1048576) := q
      refine res_chk rfl (show x + 1 ≤ (DV.sl none 0 S).len ∧ shOk (.sl none 0 S) (x + 1).toNat from ⟨by omega, shOk_succ x0 hp (Classical.not_not.1 q)⟩) ?_
      show ((DV.sl none 0 S).len - (x + 1)).toNat < ((DV.sl none 0 S).len - x).toNat
      omega
  have hge : ¬ x < (DV.sl none 0 S).len := hge
  have hsh : shOk (.sl none 0 S) (DV.sl none 0 S).len.toNat := by rw [show (DV.sl none 0 S).len.toNat = x.toNat by omega]; exact hp
  have hshP : shOk (.sl none 0 S) P.length := by rw [show P.length = (DV.sl none 0 S).len.toNat by omega]; exact hsh
  have hgood : ¬ ((DV.sl none 0 S).len ≠ (CO.mk cap st fl (.sl none 0 P)).P.len ∨ ¬ shOk (.sl none 0 S) (DV.sl none 0 S).len.toNat) := fun z => z.elim (fun z => z k) (fun z => z hsh)
  have feq : ∀ {y : Int}, 0 ≤ y → y ≤ 1048577 → (y = 0 ∨ met ⟨cap, st, fl, .sl none 0 P⟩ (.sl none 0 S) (y - 1)) → (y = 1048577 ∨ ¬ met ⟨cap, st, fl, .sl none 0 P⟩ (.sl none 0 S) y) → firstF ⟨cap, st, fl, .sl none 0 P⟩ (.sl none 0 S) = y := fun h0 h1 h2 h3 => first_eq (c := ⟨cap, st, fl, .sl none 0 P⟩) rfl hrow (by omega) hshP h0 h1 h2 h3
  refine res_con rfl (show ((DV.sl none 0 S).len = (DV.sl none 0 P).len ∧ (DV.sl none 0 P).len ≤ 64) ∧ ((0 : Int) ≤ 0 ∧ (0 : Int) ≤ 1048577) ∧ shOk (.sl none 0 S) (DV.sl none 0 S).len.toNat from ⟨⟨k, hlen⟩, by decide, hsh⟩) (fun b _ _ hb => ?_)
  have hb : b = if met ⟨cap, st, fl, .sl none 0 P⟩ (.sl none 0 S) 0 then 1 else 0 := n_inj hb
  refine res_ite (fun z => ?_) fun z => ?_
  · have z : b = 0 := z
    have q : ¬ met ⟨cap, st, fl, .sl none 0 P⟩ (.sl none 0 S) 0 := fun q => by rw [if_pos q] at hb; omega
    exact firm_none hc0 hgood (feq (by decide) (by decide) (.inl rfl) (.inr q))
  have z : ¬ b = 0 := z
  have m0 : met ⟨cap, st, fl, .sl none 0 P⟩ (.sl none 0 S) 0 := Classical.byContradiction fun q => z (by rw [hb, if_neg q])
  refine res_lop rfl (show (0 : Int) < 1048577 ∧ met ⟨cap, st, fl, .sl none 0 P⟩ (.sl none 0 S) 0 ∧ ((1048577 : Int) = 1048577 ∨ ¬ met ⟨cap, st, fl, .sl none 0 P⟩ (.sl none 0 S) 1048577) from ⟨by decide, m0, .inl rfl⟩) (fun lo lo0 lo1 hi hi0 hi1 hJ => ?_)
  obtain ⟨hlt, hm, hn⟩ : lo < hi ∧ met ⟨cap, st, fl, .sl none 0 P⟩ (.sl none 0 S) lo ∧ (hi = 1048577 ∨ ¬ met ⟨cap, st, fl, .sl none 0 P⟩ (.sl none 0 S) hi) := hJ
  refine res_ite (fun h2 => ?_) fun h2 => ?_
  · have h2 : lo + 1 < hi := h2
    have hq : Int.tdiv (lo + hi) 2 = (lo + hi) / 2 := Int.tdiv_eq_ediv_of_nonneg (by omega)
    refine res_con rfl (show ((DV.sl none 0 S).len = (DV.sl none 0 P).len ∧ (DV.sl none 0 P).len ≤ 64) ∧ (0 ≤ Int.tdiv (lo + hi) 2 ∧ Int.tdiv (lo + hi) 2 ≤ 1048577) ∧ shOk (.sl none 0 S) (DV.sl none 0 S).len.toNat from ⟨⟨k, hlen⟩, by rw [hq]; omega, hsh⟩) (fun a _ _ hA => ?_)
    have hA : a = if met ⟨cap, st, fl, .sl none 0 P⟩ (.sl none 0 S) (Int.tdiv (lo + hi) 2) then 1 else 0 := n_inj hA
    refine res_ite (fun y => ?_) fun y => ?_
    · have y : ¬ a = 0 := y
      have mm : met ⟨cap, st, fl, .sl none 0 P⟩ (.sl none 0 S) (Int.tdiv (lo + hi) 2) := Classical.byContradiction fun q => y (by rw [hA, if_neg q])
      refine res_chk rfl (show Int.tdiv (lo + hi) 2 < hi ∧ met ⟨cap, st, fl, .sl none 0 P⟩ (.sl none 0 S) (Int.tdiv (lo + hi) 2) ∧ (hi = 1048577 ∨ ¬ met ⟨cap, st, fl, .sl none 0 P⟩ (.sl none 0 S) hi) from ⟨by rw [hq]; omega, mm, hn⟩) ?_
      show (hi - Int.tdiv (lo + hi) 2).toNat < (hi - lo).toNat
      rw [hq]; omega
    · have y : ¬ ¬ a = 0 := y
      have mm : ¬ met ⟨cap, st, fl, .sl none 0 P⟩ (.sl none 0 S) (Int.tdiv (lo + hi) 2) := fun q => y (by rw [hA, if_pos q]; decide)
      refine res_chk rfl (show lo < Int.tdiv (lo + hi) 2 ∧ met ⟨cap, st, fl, .sl none 0 P⟩ (.sl none 0 S) lo ∧ (Int.tdiv (lo + hi) 2 = 1048577 ∨ ¬ met ⟨cap, st, fl, .sl none 0 P⟩ (.sl none 0 S) (Int.tdiv (lo + hi) 2)) from ⟨by rw [hq]; omega, hm, .inr mm⟩) ?_
      show (Int.tdiv (lo + hi) 2 - lo).toNat < (hi - lo).toNat
      rw [hq]; omega
  · have h2 : ¬ lo + 1 < hi := h2
    have e : hi = lo + 1 := by omega
    subst e
    have f1 := feq (y := lo + 1) (by omega) (by omega) (.inr (by rw [Int.add_sub_cancel]; exact hm)) hn
    exact firm_some (x := lo) hc0 hgood (by omega) (by omega)
end Go.Proofs.Ytljggpbkggkcaaa
