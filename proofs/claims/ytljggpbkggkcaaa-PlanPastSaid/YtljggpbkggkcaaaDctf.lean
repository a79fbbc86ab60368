/- DERIVED. Releases: the contract, proved. -/
import Derived.Test.YtljggpbkggkcaaaDcte
import Derived.Test.YtljggpbkggkcaaaDtreeh
namespace Go.Proofs.Ytljggpbkggkcaaa
open Go.Dx
set_option linter.unusedVariables false
set_option linter.unusedSimpArgs false
set_option maxHeartbeats 4000000 in
theorem cRel_ok (N : Nat) (w0 : World) : ConOk Try.prog tb N w0 (cRel 17) := by
  refine con_of_walk (tb := tb) fine (C := [cChk 14, lBack 8, lRev 31]) (conCons cChk_ok (lopCons rfl (lopCons rfl noCon))) 80 rfl ?_ N w0
  refine fun cap _ _ st _ _ fl _ _ P hP tt _ _ ss _ _ _ => ?_
  clear hP
  rw [tree_rel]
  have l0 := len_nn (.sl none 0 P)
  show T.res [cChk 14, lBack 8, lRev 31] (fun y => y = RelF ⟨cap, st, fl, .sl none 0 P⟩ tt ss) _ _
  refine res_con rfl trivial ?_
  refine fun s _ _ hs => ?_
  have hs : [DV.n s] = [DV.n (chkF ⟨cap, st, fl, .sl none 0 P⟩)] := hs
  obtain ⟨es, hs⟩ := chk_in hs
  refine res_ite (fun h => ?_) fun h => ?_
  · have h : ¬ s = 0 := h
    exact rel_bad ((ask_bad (by omega)).1.trans es.symm) h
  have h : ¬ ¬ s = 0 := h
  rcases hs with ⟨hz, hc0, hlen, hr⟩ | q
  case inr => exact absurd q.1 h
  have hlen : (DV.sl none 0 P).len ≤ 64 := hlen
  have hr1 := hr.1
  dsimp only at hr1
  refine res_ite (fun k1 => ?_) fun k1 => ?_
  case refine_2 =>
    have k1 : ¬ ¬ (tt < 0 ∨ (DV.sl none 0 P).len ≤ tt) := k1
    exact rel_bad (ask_one hc0 (.inl (Classical.not_not.1 k1))) (show (1 : Int) ≠ 0 by decide)
  have k1 : ¬ (tt < 0 ∨ (DV.sl none 0 P).len ≤ tt) := k1
  refine res_ite (fun k2 => ?_) fun k2 => ?_
  · have k2 : ss < 0 ∨ cap < ss := k2
    exact rel_bad (ask_one hc0 (.inr (by dsimp only; omega))) (show (1 : Int) ≠ 0 by decide)
  have k2 : ¬ (ss < 0 ∨ cap < ss) := k2
  have ha : askF ⟨cap, st, fl, .sl none 0 P⟩ tt ss = 0 := ask_fine hc0 (by dsimp only; omega)
  generalize hc : (⟨cap, st, fl, .sl none 0 P⟩ : CO) = c at *
  have cP : c.P = .sl none 0 P := by rw [← hc]
  have ccap : c.cap = cap := by rw [← hc]
  refine res_ok (show 0 ≤ fl ∧ fl ≤ 1099511627776 by omega) (res_ok (show 0 ≤ cap ∧ cap ≤ 1099511627776 by omega) ?_)
  refine res_dat (.sl none 0 [[.n fl, .n cap]]) rfl ?_
  refine res_lop rfl (show (DV.sl none 0 P).len - 1 < (DV.sl none 0 P).len ∧ (fl, cap) = robK ⟨cap, st, fl, .sl none 0 P⟩ ((DV.sl none 0 P).len - 1 - ((DV.sl none 0 P).len - 1)).toNat ∧ [[.n fl, .n cap]] = rowsK ⟨cap, st, fl, .sl none 0 P⟩ (((DV.sl none 0 P).len - 1 - ((DV.sl none 0 P).len - 1)).toNat + 1) from ?_) ?_
  · rw [show ((DV.sl none 0 P).len - 1 - ((DV.sl none 0 P).len - 1)).toNat = 0 by omega]
    exact ⟨by omega, rfl, rfl⟩
  refine fun t ht0 ht1 lo hlo0 hlo1 hi hhi0 hhi1 L hLs hI => ?_
  clear hLs
  obtain ⟨ht, hI1, hI2⟩ : t < (DV.sl none 0 P).len ∧ (lo, hi) = robK ⟨cap, st, fl, .sl none 0 P⟩ ((DV.sl none 0 P).len - 1 - t).toNat ∧ L = rowsK ⟨cap, st, fl, .sl none 0 P⟩ (((DV.sl none 0 P).len - 1 - t).toNat + 1) := hI
  have lL : (DV.sl none 0 L).len = (((DV.sl none 0 P).len - 1 - t).toNat + 1 : Nat) := len_of (by rw [hI2, rowsK_len]) (by omega)
  have hg : good (lo, hi) := by rw [hI1, hc]; exact robK_good hr _ (by rw [cP]; omega)
  have step : ∀ {x y : Int}, 0 ≤ t → befF cap (.sl none 0 P) t (lo, hi) = (x, y) → t - 1 < (DV.sl none 0 P).len ∧ (x, y) = robK ⟨cap, st, fl, .sl none 0 P⟩ ((DV.sl none 0 P).len - 1 - (t - 1)).toNat ∧ L ++ [[DV.n x, .n y]] = rowsK ⟨cap, st, fl, .sl none 0 P⟩ (((DV.sl none 0 P).len - 1 - (t - 1)).toNat + 1) := fun h0 hx => back_step (c := ⟨cap, st, fl, .sl none 0 P⟩) h0 ht hI1 hI2 hx
  refine res_ite (fun h0 => ?_) fun h0 => ?_
  · have h0 : 0 ≤ t := h0
    refine res_ok ⟨h0, ht⟩ ?_
    have hp : perOk (.sl none 0 P) t := by rw [← cP]; exact per_at hr h0 (by rw [cP]; exact ht)
    have bg := bef_good (cap := cap) (P := .sl none 0 P) (t := t) (by omega) (by omega) hp hg
    have hp' := hp
    unfold perOk okN at hp'
    have hg' := hg.1
    dsimp only at hg'
    have none_step : befF cap (.sl none 0 P) t (lo, hi) = (1, 0) → T.res [cChk 14, lBack 8, lRev 31] (fun y => y = RelF c tt ss) (T.ite (B.le (E.add (E.len (E.var 11)) (E.lit 1)) (E.lit 8278675785607))
        (T.dat (DOp.rows 2) [(E.num (E.lit 1)), (E.num (E.lit 0))] (T.dat DOp.cat [(E.var 11), (E.var 31)] (T.chk 1 8 [(E.num (E.sub (E.var 8) (E.lit 1))), (E.num (E.lit 1)), (E.num (E.lit 0)), (E.var 32)])))
        T.fail) ([.n cap, .n st, .n fl, .sl none 0 P, .n tt, .n ss, .n s, .sl none 0 [[.n fl, .n cap]], .n t, .n lo, .n hi, .sl none 0 L] ++ List.replicate 19 (.n 0)) := fun e => by
      refine res_ok (show (DV.sl none 0 L).len + 1 ≤ 8278675785607 by omega) (res_dat (.sl none 0 [[.n 1, .n 0]]) rfl (res_dat (.sl none 0 (L ++ [[.n 1, .n 0]])) rfl ?_))
      refine res_chk rfl (step h0 e) ?_
      show (t - 1 + 1).toNat < (t + 1).toNat
      omega
    refine res_ite (fun e => ?_) fun e => ?_
    · have e : hi = cap := e
      have w0 : IntKind.i64.wrap (hi + (DV.sl none 0 P).at t 4) = hi + (DV.sl none 0 P).at t 4 := wI (by omega) (by omega)
      have w1 : IntKind.i64.wrap (hi + (DV.sl none 0 P).at t 4 - (DV.sl none 0 P).at t 1) = hi + (DV.sl none 0 P).at t 4 - (DV.sl none 0 P).at t 1 := wI (by omega) (by omega)
      have w2 : IntKind.i64.wrap (lo - (DV.sl none 0 P).at t 0) = lo - (DV.sl none 0 P).at t 0 := wI (by omega) (by omega)
      have w3 : IntKind.i64.wrap (hi + (DV.sl none 0 P).at t 4 - (DV.sl none 0 P).at t 1 + (DV.sl none 0 P).at t 3) = hi + (DV.sl none 0 P).at t 4 - (DV.sl none 0 P).at t 1 + (DV.sl none 0 P).at t 3 := wI (by omega) (by omega)
      have w4 : IntKind.i64.wrap (max 0 (lo - (DV.sl none 0 P).at t 0) + (DV.sl none 0 P).at t 2) = max 0 (lo - (DV.sl none 0 P).at t 0) + (DV.sl none 0 P).at t 2 := wI (by omega) (by omega)
      have ht2 : hi + (DV.sl none 0 P).at t 4 = if hi = cap then hi + (DV.sl none 0 P).at t 4 else hi := by rw [if_pos e]
      refine res_ite (fun q => none_step (bef_none hg ht2 ?_)) fun q => ?_
      · have q : ((lo = 1 ∧ hi = 0) ∨ IntKind.i64.wrap (IntKind.i64.wrap (hi + (DV.sl none 0 P).at t 4) - (DV.sl none 0 P).at t 1) < max 0 (IntKind.i64.wrap (lo - (DV.sl none 0 P).at t 0))) ∨ min (IntKind.i64.wrap (IntKind.i64.wrap (IntKind.i64.wrap (hi + (DV.sl none 0 P).at t 4) - (DV.sl none 0 P).at t 1) + (DV.sl none 0 P).at t 3)) cap < IntKind.i64.wrap (max 0 (IntKind.i64.wrap (lo - (DV.sl none 0 P).at t 0)) + (DV.sl none 0 P).at t 2) := q
        rw [w0, w1, w2, w3, w4] at q; exact q
      have q : ¬ (((lo = 1 ∧ hi = 0) ∨ IntKind.i64.wrap (IntKind.i64.wrap (hi + (DV.sl none 0 P).at t 4) - (DV.sl none 0 P).at t 1) < max 0 (IntKind.i64.wrap (lo - (DV.sl none 0 P).at t 0))) ∨ min (IntKind.i64.wrap (IntKind.i64.wrap (IntKind.i64.wrap (hi + (DV.sl none 0 P).at t 4) - (DV.sl none 0 P).at t 1) + (DV.sl none 0 P).at t 3)) cap < IntKind.i64.wrap (max 0 (IntKind.i64.wrap (lo - (DV.sl none 0 P).at t 0)) + (DV.sl none 0 P).at t 2)) := q
      rw [w0, w1, w2, w3, w4] at q
      have bs := bef_some hg ht2 q
      have gX := bg
      rw [bs] at gX
      have gX := gX.1
      dsimp only at gX
      refine res_ok (show (DV.sl none 0 L).len + 1 ≤ 8278675785607 by omega) (res_dat (.sl none 0 [[.n (IntKind.i64.wrap (max 0 (IntKind.i64.wrap (lo - (DV.sl none 0 P).at t 0)) + (DV.sl none 0 P).at t 2)), .n (min (IntKind.i64.wrap (IntKind.i64.wrap (IntKind.i64.wrap (hi + (DV.sl none 0 P).at t 4) - (DV.sl none 0 P).at t 1) + (DV.sl none 0 P).at t 3)) cap)]]) rfl (res_dat (.sl none 0 (L ++ [[.n (IntKind.i64.wrap (max 0 (IntKind.i64.wrap (lo - (DV.sl none 0 P).at t 0)) + (DV.sl none 0 P).at t 2)), .n (min (IntKind.i64.wrap (IntKind.i64.wrap (IntKind.i64.wrap (hi + (DV.sl none 0 P).at t 4) - (DV.sl none 0 P).at t 1) + (DV.sl none 0 P).at t 3)) cap)]])) rfl ?_))
      refine res_ok (show 0 ≤ IntKind.i64.wrap (max 0 (IntKind.i64.wrap (lo - (DV.sl none 0 P).at t 0)) + (DV.sl none 0 P).at t 2) ∧ IntKind.i64.wrap (max 0 (IntKind.i64.wrap (lo - (DV.sl none 0 P).at t 0)) + (DV.sl none 0 P).at t 2) ≤ 1099511627776 by rw [w2, w4]; exact gX.1) (res_ok (show 0 ≤ min (IntKind.i64.wrap (IntKind.i64.wrap (IntKind.i64.wrap (hi + (DV.sl none 0 P).at t 4) - (DV.sl none 0 P).at t 1) + (DV.sl none 0 P).at t 3)) cap ∧ min (IntKind.i64.wrap (IntKind.i64.wrap (IntKind.i64.wrap (hi + (DV.sl none 0 P).at t 4) - (DV.sl none 0 P).at t 1) + (DV.sl none 0 P).at t 3)) cap ≤ 1099511627776 by rw [w0, w1, w3]; exact gX.2) ?_)
      refine res_chk rfl (step h0 (x := IntKind.i64.wrap (max 0 (IntKind.i64.wrap (lo - (DV.sl none 0 P).at t 0)) + (DV.sl none 0 P).at t 2)) (y := min (IntKind.i64.wrap (IntKind.i64.wrap (IntKind.i64.wrap (hi + (DV.sl none 0 P).at t 4) - (DV.sl none 0 P).at t 1) + (DV.sl none 0 P).at t 3)) cap) ?_) ?_
      · rw [w0, w1, w2, w3, w4]; exact bs
      · show (t - 1 + 1).toNat < (t + 1).toNat
        omega
    · have e : ¬ hi = cap := e
      have w0 : IntKind.i64.wrap (hi - (DV.sl none 0 P).at t 1) = hi - (DV.sl none 0 P).at t 1 := wI (by omega) (by omega)
      have w1 : IntKind.i64.wrap (lo - (DV.sl none 0 P).at t 0) = lo - (DV.sl none 0 P).at t 0 := wI (by omega) (by omega)
      have w2 : IntKind.i64.wrap (hi - (DV.sl none 0 P).at t 1 + (DV.sl none 0 P).at t 3) = hi - (DV.sl none 0 P).at t 1 + (DV.sl none 0 P).at t 3 := wI (by omega) (by omega)
      have w3 : IntKind.i64.wrap (max 0 (lo - (DV.sl none 0 P).at t 0) + (DV.sl none 0 P).at t 2) = max 0 (lo - (DV.sl none 0 P).at t 0) + (DV.sl none 0 P).at t 2 := wI (by omega) (by omega)
      have ht2 : hi = if hi = cap then hi + (DV.sl none 0 P).at t 4 else hi := by rw [if_neg e]
      refine res_ite (fun q => none_step (bef_none hg ht2 ?_)) fun q => ?_
      · have q : ((lo = 1 ∧ hi = 0) ∨ IntKind.i64.wrap (hi - (DV.sl none 0 P).at t 1) < max 0 (IntKind.i64.wrap (lo - (DV.sl none 0 P).at t 0))) ∨ min (IntKind.i64.wrap (IntKind.i64.wrap (hi - (DV.sl none 0 P).at t 1) + (DV.sl none 0 P).at t 3)) cap < IntKind.i64.wrap (max 0 (IntKind.i64.wrap (lo - (DV.sl none 0 P).at t 0)) + (DV.sl none 0 P).at t 2) := q
        rw [w0, w1, w2, w3] at q; exact q
      have q : ¬ (((lo = 1 ∧ hi = 0) ∨ IntKind.i64.wrap (hi - (DV.sl none 0 P).at t 1) < max 0 (IntKind.i64.wrap (lo - (DV.sl none 0 P).at t 0))) ∨ min (IntKind.i64.wrap (IntKind.i64.wrap (hi - (DV.sl none 0 P).at t 1) + (DV.sl none 0 P).at t 3)) cap < IntKind.i64.wrap (max 0 (IntKind.i64.wrap (lo - (DV.sl none 0 P).at t 0)) + (DV.sl none 0 P).at t 2)) := q
      rw [w0, w1, w2, w3] at q
      have bs := bef_some hg ht2 q
      have gX := bg
      rw [bs] at gX
      have gX := gX.1
      dsimp only at gX
      refine res_ok (show (DV.sl none 0 L).len + 1 ≤ 8278675785607 by omega) (res_dat (.sl none 0 [[.n (IntKind.i64.wrap (max 0 (IntKind.i64.wrap (lo - (DV.sl none 0 P).at t 0)) + (DV.sl none 0 P).at t 2)), .n (min (IntKind.i64.wrap (IntKind.i64.wrap (hi - (DV.sl none 0 P).at t 1) + (DV.sl none 0 P).at t 3)) cap)]]) rfl (res_dat (.sl none 0 (L ++ [[.n (IntKind.i64.wrap (max 0 (IntKind.i64.wrap (lo - (DV.sl none 0 P).at t 0)) + (DV.sl none 0 P).at t 2)), .n (min (IntKind.i64.wrap (IntKind.i64.wrap (hi - (DV.sl none 0 P).at t 1) + (DV.sl none 0 P).at t 3)) cap)]])) rfl ?_))
      refine res_ok (show 0 ≤ IntKind.i64.wrap (max 0 (IntKind.i64.wrap (lo - (DV.sl none 0 P).at t 0)) + (DV.sl none 0 P).at t 2) ∧ IntKind.i64.wrap (max 0 (IntKind.i64.wrap (lo - (DV.sl none 0 P).at t 0)) + (DV.sl none 0 P).at t 2) ≤ 1099511627776 by rw [w1, w3]; exact gX.1) (res_ok (show 0 ≤ min (IntKind.i64.wrap (IntKind.i64.wrap (hi - (DV.sl none 0 P).at t 1) + (DV.sl none 0 P).at t 3)) cap ∧ min (IntKind.i64.wrap (IntKind.i64.wrap (hi - (DV.sl none 0 P).at t 1) + (DV.sl none 0 P).at t 3)) cap ≤ 1099511627776 by rw [w0, w2]; exact gX.2) ?_)
      refine res_chk rfl (step h0 (x := IntKind.i64.wrap (max 0 (IntKind.i64.wrap (lo - (DV.sl none 0 P).at t 0)) + (DV.sl none 0 P).at t 2)) (y := min (IntKind.i64.wrap (IntKind.i64.wrap (hi - (DV.sl none 0 P).at t 1) + (DV.sl none 0 P).at t 3)) cap) ?_) ?_
      · rw [w0, w1, w2, w3]; exact bs
      · show (t - 1 + 1).toNat < (t + 1).toNat
        omega
  · have h0 : ¬ 0 ≤ t := h0
    have et : t = -1 := by omega
    subst et
    have eL : ((DV.sl none 0 P).len - 1 - -1).toNat + 1 = (DV.sl none 0 P).len.toNat + 1 := by omega
    rw [eL] at hI2 lL
    clear hI1 hg step
    refine res_ok (show 0 ≤ (DV.sl none 0 L).len - 1 ∧ (DV.sl none 0 L).len - 1 ≤ 9223372036854775807 by omega) ?_
    refine res_lop rfl (show (0 : Int) + ((DV.sl none 0 L).len - 1) = (DV.sl none 0 P).len ∧ (0 : Int) ≤ (DV.sl none 0 L).len - 1 + 1 ∧ revP (rowsK ⟨cap, st, fl, .sl none 0 P⟩ ((DV.sl none 0 P).len.toNat + 1)) L (0 : Int).toNat from ⟨by omega, by omega, by rw [hI2], fun k hk => ?_⟩) ?_
    · rw [rowsK_len] at hk ⊢
      rw [if_neg (by omega), hI2]
    refine fun a a0 a1 b b0 b1 M hM hJ => ?_
    clear hM
    obtain ⟨hab, hle, hrev⟩ : a + b = (DV.sl none 0 P).len ∧ a ≤ b + 1 ∧ revP (rowsK ⟨cap, st, fl, .sl none 0 P⟩ ((DV.sl none 0 P).len.toNat + 1)) M a.toNat := hJ
    have lM : (DV.sl none 0 M).len = ((DV.sl none 0 P).len.toNat + 1 : Nat) := len_of (by rw [hrev.1, rowsK_len]) (by omega)
    have gR : ∀ k : Nat, k < (rowsK ⟨cap, st, fl, .sl none 0 P⟩ ((DV.sl none 0 P).len.toNat + 1)).length → ∃ x y : Int, (rowsK ⟨cap, st, fl, .sl none 0 P⟩ ((DV.sl none 0 P).len.toNat + 1))[k]? = some [.n x, .n y] ∧ (0 ≤ x ∧ x ≤ 1099511627776) ∧ 0 ≤ y ∧ y ≤ 1099511627776 := fun k hk => rowsK_good (c := ⟨cap, st, fl, .sl none 0 P⟩) (hc ▸ hr) k hk
    refine res_ite (fun hlt => ?_) fun hge => ?_
    · have hlt : a < b := hlt
      have fin : T.res [cChk 14, lBack 8, lRev 31] (fun y => y = RelF c tt ss) (T.dat (DOp.set 0) [(E.var 33), (E.num (E.var 31)), (E.num (E.el (E.var 33) (E.var 32) 0)), (E.num (E.el (E.var 33) (E.var 32) 1))] (T.dat (DOp.set 0) [(E.var 62), (E.num (E.var 32)), (E.num (E.el (E.var 33) (E.var 31) 0)), (E.num (E.el (E.var 33) (E.var 31) 1))] (T.chk 2 31 [(E.num (E.add (E.var 31) (E.lit 1))), (E.num (E.sub (E.var 32) (E.lit 1))), (E.var 63)]))) ([.n cap, .n st, .n fl, .sl none 0 P, .n tt, .n ss, .n s, .sl none 0 [[.n fl, .n cap]], .n (-1), .n lo, .n hi, .sl none 0 L, .n 0, .n 0, .n 0, .n 0, .n 0, .n 0, .n 0, .n 0, .n 0, .n 0, .n 0, .n 0, .n 0, .n 0, .n 0, .n 0, .n 0, .n 0, .n 0, .n a, .n b, .sl none 0 M] ++ List.replicate 28 (.n 0)) := by
        refine res_dat (.sl none 0 (M.modify a.toNat fun e => layG e 0 [.n ((DV.sl none 0 M).at b 0), .n ((DV.sl none 0 M).at b 1)])) rfl ?_
        refine res_dat (.sl none 0 ((M.modify a.toNat fun e => layG e 0 [.n ((DV.sl none 0 M).at b 0), .n ((DV.sl none 0 M).at b 1)]).modify b.toNat fun e => layG e 0 [.n ((DV.sl none 0 M).at a 0), .n ((DV.sl none 0 M).at a 1)])) rfl ?_
        refine res_chk rfl ?_ ?_
        · show a + 1 + (b - 1) = (DV.sl none 0 P).len ∧ a + 1 ≤ b - 1 + 1 ∧ revP (rowsK ⟨cap, st, fl, .sl none 0 P⟩ ((DV.sl none 0 P).len.toNat + 1)) ((M.modify a.toNat fun e => layG e 0 [.n ((DV.sl none 0 M).at b 0), .n ((DV.sl none 0 M).at b 1)]).modify b.toNat fun e => layG e 0 [.n ((DV.sl none 0 M).at a 0), .n ((DV.sl none 0 M).at a 1)]) (a + 1).toNat
          refine ⟨by omega, by omega, ?_⟩
          have := rev_step hrev (b := b.toNat) (by omega) (by rw [rowsK_len]; omega) gR
          rw [show ((b.toNat : Nat) : Int) = b by omega, show ((a.toNat : Nat) : Int) = a by omega] at this
          rw [show (a + 1).toNat = a.toNat + 1 by omega]
          exact this
        · show (b - 1 + 1 - (a + 1)).toNat < (b + 1 - a).toNat
          omega
      refine res_both (res_ok ⟨show 0 ≤ b by omega, show b < (DV.sl none 0 M).len by omega⟩ (res_ok ⟨show 0 ≤ a by omega, show a < (DV.sl none 0 M).len by omega⟩ fin)) (res_ok ⟨show 0 ≤ a by omega, show a < (DV.sl none 0 M).len by omega⟩ (res_ok ⟨show 0 ≤ b by omega, show b < (DV.sl none 0 M).len by omega⟩ fin))
    · have hge : ¬ a < b := hge
      have hL := rev_end (c := ⟨cap, st, fl, .sl none 0 P⟩) hrev (show (DV.sl none 0 P).len.toNat ≤ 2 * a.toNat by omega)
      rw [hc] at hL
      clear hrev gR
      have g0 := row_at hr hL (t := tt) (by omega) (by rw [cP]; omega)
      have g1 := row_at hr hL (t := tt + 1) (by omega) (by rw [cP]; omega)
      have gr := (rob_good hr (t := tt + 1) (by omega)).1
      have hp : perOk (.sl none 0 P) tt := by rw [← cP]; exact per_at hr (by omega) (by rw [cP]; omega)
      unfold perOk okN at hp
      refine res_ok (show 0 ≤ tt ∧ tt < (DV.sl none 0 M).len by omega) ?_
      refine res_ite (fun q => rel_out ha ?_) fun q => ?_
      · have q : ¬ ((DV.sl none 0 M).at tt 0 ≤ ss ∧ ss ≤ (DV.sl none 0 M).at tt 1) := q
        rw [g0.1, g0.2] at q; exact q
      have q : ¬ ¬ ((DV.sl none 0 M).at tt 0 ≤ ss ∧ ss ≤ (DV.sl none 0 M).at tt 1) := q
      rw [g0.1, g0.2] at q
      have q : inR (rob c tt) ss := Classical.not_not.1 q
      refine res_ok (show 0 ≤ tt + 1 ∧ tt + 1 < (DV.sl none 0 M).len by omega) ?_
      refine res_ite (fun z => ?_) fun z => ?_
      · have z : (DV.sl none 0 M).at (tt + 1) 1 = cap := z
        refine rel_in ha q (x := max ((DV.sl none 0 P).at tt 2) (IntKind.i64.wrap (ss - IntKind.i64.wrap (IntKind.i64.wrap ((DV.sl none 0 M).at (tt + 1) 1 + (DV.sl none 0 P).at tt 4) - (DV.sl none 0 P).at tt 1)))) ?_
        rw [g1.2] at z ⊢
        rw [wI (x := (rob c (tt + 1)).2 + (DV.sl none 0 P).at tt 4) (by omega) (by omega), wI (x := (rob c (tt + 1)).2 + (DV.sl none 0 P).at tt 4 - (DV.sl none 0 P).at tt 1) (by omega) (by omega), wI (by omega) (by omega)]
        unfold topF; rw [ccap, if_pos z, cP]
      · have z : ¬ (DV.sl none 0 M).at (tt + 1) 1 = cap := z
        refine rel_in ha q (x := max ((DV.sl none 0 P).at tt 2) (IntKind.i64.wrap (ss - IntKind.i64.wrap ((DV.sl none 0 M).at (tt + 1) 1 - (DV.sl none 0 P).at tt 1)))) ?_
        rw [g1.2] at z ⊢
        rw [wI (x := (rob c (tt + 1)).2 - (DV.sl none 0 P).at tt 1) (by omega) (by omega), wI (by omega) (by omega)]
        unfold topF; rw [ccap, if_neg z, cP]
end Go.Proofs.Ytljggpbkggkcaaa
