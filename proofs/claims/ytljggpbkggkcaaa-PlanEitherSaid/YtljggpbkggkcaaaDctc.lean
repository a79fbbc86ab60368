/- DERIVED. The reference's robust stores: the contract, proved. -/
import Derived.Test.YtljggpbkggkcaaaDctb
import Derived.Test.YtljggpbkggkcaaaDtreec
namespace Go.Proofs.Ytljggpbkggkcaaa
open Go.Dx
set_option linter.unusedVariables false
set_option linter.unusedSimpArgs false
theorem rob_succ {c : CO} {t : Int} (t0 : 0 ≤ t) (t1 : t < c.P.len) : rob c t = befF c.cap c.P t (rob c (t + 1)) := by
  unfold rob
  rw [show (c.P.len - t).toNat = (c.P.len - (t + 1)).toNat + 1 by omega]
  show befF c.cap c.P (c.P.len - 1 - ((c.P.len - (t + 1)).toNat : Nat)) (robK c (c.P.len - (t + 1)).toNat) = _
  rw [show c.P.len - 1 - ((c.P.len - (t + 1)).toNat : Nat) = t by omega]
theorem rob_good {c : CO} (h : rightC c) {t : Int} (t0 : 0 ≤ t) : good (rob c t) := by
  have := len_nn c.P
  exact robK_good h _ (by omega)
theorem mod_len {l : List (List DV)} {i : Nat} {f : List DV → List DV} : (l.modify i f).length = l.length := by simp
theorem rep_get {n k : Nat} {e : List DV} (h : k < n) : (List.replicate n e)[k]? = some e := by
  rw [List.getElem?_replicate, if_pos h]
theorem tail_step {c : CO} {t : Int} {els : List (List DV)} (t0 : 0 ≤ t) (t1 : t < c.P.len) (h : tailP c els t) {x y : Int} (hx : rob c t = (x, y)) (h2 : ∃ u v, els[t.toNat]? = some [u, v]) : t - 1 < c.P.len ∧ tailP c (els.modify t.toNat fun e => layG e 0 [.n x, .n y]) (t - 1) := by
  obtain ⟨hl, hk⟩ := h
  obtain ⟨u, v, huv⟩ := h2
  refine ⟨by omega, by rw [mod_len]; exact hl, fun k k0 k1 => ?_⟩
  by_cases e : t.toNat = k
  · subst e
    rw [mod_same huv, show ((t.toNat : Nat) : Int) = t by omega, hx]; rfl
  · rw [mod_other e]
    exact hk k (by omega) k1
theorem tail_end {c : CO} {els : List (List DV)} (h : tailP c els (-1)) : els = rowsF c := by
  apply List.ext_getElem?
  intro k
  by_cases hk : k < c.P.len.toNat + 1
  · rw [h.2 k (by omega) hk, rowsF_get hk]
  · rw [List.getElem?_eq_none (by have := h.1; omega), List.getElem?_eq_none (by rw [rowsF_len]; omega)]
set_option maxHeartbeats 4000000 in
theorem cRobustR_ok (N : Nat) (w0 : World) : ConOk Try.prog tb N w0 (cRobust 13) := by
  refine con_of_walk (tb := tb) fine (C := [cChk 15, lRobR 7]) (conCons cChkR_ok (lopCons rfl noCon)) 80 rfl ?_ N w0
  refine fun cap _ _ st _ _ fl _ _ P hP _ => ?_
  clear hP
  rw [tree_robR]
  have l0 := len_nn (.sl none 0 P)
  show T.res [cChk 15, lRobR 7] (fun y => y = RobustF ⟨cap, st, fl, .sl none 0 P⟩) _ _
  refine res_con rfl trivial ?_
  refine fun s _ _ hs => ?_
  have hs : [DV.n s] = [DV.n (chkF ⟨cap, st, fl, .sl none 0 P⟩)] := hs
  obtain ⟨es, hs⟩ := chk_in hs
  refine res_ite (fun h => ?_) fun h => ?_
  · have h : ¬ s = 0 := h
    exact res_dat (.sl none 0 []) rfl (rob_bad (by omega) es)
  have h : ¬ ¬ s = 0 := h
  rcases hs with ⟨hz, hc0, hlen, hr⟩ | q
  case inr => exact absurd q.1 h
  have hlen : (DV.sl none 0 P).len ≤ 64 := hlen
  have hr1 := hr.1
  dsimp only at hr1
  have wl : IntKind.i64.wrap ((DV.sl none 0 P).len + 1) = (DV.sl none 0 P).len + 1 := wI (by omega) (by omega)
  refine res_ok (show 0 ≤ IntKind.i64.wrap ((DV.sl none 0 P).len + 1) ∧ IntKind.i64.wrap ((DV.sl none 0 P).len + 1) ≤ 8278675785607 by rw [wl]; omega) ?_
  refine res_dat (.sl none 0 (List.replicate (IntKind.i64.wrap ((DV.sl none 0 P).len + 1)).toNat [.n 0, .n 0])) rfl ?_
  refine res_ok (show 0 ≤ (DV.sl none 0 P).len ∧ (DV.sl none 0 P).len < IntKind.i64.wrap ((DV.sl none 0 P).len + 1) by rw [wl]; omega) ?_
  refine res_dat (.sl none 0 ((List.replicate (IntKind.i64.wrap ((DV.sl none 0 P).len + 1)).toNat [.n 0, .n 0]).modify (DV.sl none 0 P).len.toNat fun e => layG e 0 [.n fl, .n cap])) rfl ?_
  refine res_lop rfl (show (DV.sl none 0 P).len - 1 < (DV.sl none 0 P).len ∧ tailP ⟨cap, st, fl, .sl none 0 P⟩ ((List.replicate (IntKind.i64.wrap ((DV.sl none 0 P).len + 1)).toNat [.n 0, .n 0]).modify (DV.sl none 0 P).len.toNat fun e => layG e 0 [.n fl, .n cap]) ((DV.sl none 0 P).len - 1) from ⟨by omega, ?_⟩) ?_
  · rw [wl]
    refine ⟨by rw [mod_len, List.length_replicate]; show ((DV.sl none 0 P).len + 1).toNat = (DV.sl none 0 P).len.toNat + 1; omega, fun k k0 k1 => ?_⟩
    · have k1 : k < (DV.sl none 0 P).len.toNat + 1 := k1
      have e : k = (DV.sl none 0 P).len.toNat := by omega
      subst e
      rw [mod_same (e := [.n 0, .n 0]) (rep_get (by omega))]
      show some [DV.n fl, .n cap] = some [.n (robK ⟨cap, st, fl, .sl none 0 P⟩ ((DV.sl none 0 P).len - (((DV.sl none 0 P).len.toNat : Nat) : Int)).toNat).1, .n (robK ⟨cap, st, fl, .sl none 0 P⟩ ((DV.sl none 0 P).len - (((DV.sl none 0 P).len.toNat : Nat) : Int)).toNat).2]
      rw [show ((DV.sl none 0 P).len - (((DV.sl none 0 P).len.toNat : Nat) : Int)).toNat = 0 by omega]; rfl
  refine fun t ht0 ht1 L hLs hI => ?_
  have two : ∀ k : Nat, k < (DV.sl none 0 P).len.toNat + 1 → L.length = (DV.sl none 0 P).len.toNat + 1 → ∃ u v, L[k]? = some [u, v] := fun k hk hl => by
    have hkl : k < L.length := by omega
    have := (hLs.2 L[k] (List.getElem_mem hkl)).len
    match hq : L[k], this with
    | [u, v], _ => exact ⟨u, v, by rw [List.getElem?_eq_getElem hkl, hq]⟩
  clear hLs
  obtain ⟨ht, hT⟩ : t < (DV.sl none 0 P).len ∧ tailP ⟨cap, st, fl, .sl none 0 P⟩ L t := hI
  have lL : (DV.sl none 0 L).len = ((DV.sl none 0 P).len.toNat + 1 : Nat) := len_of hT.1 (by omega)
  refine res_ite (fun h0 => ?_) fun h0 => ?_
  case refine_2 =>
    have h0 : ¬ 0 ≤ t := h0
    have et : t = -1 := by omega
    subst et
    exact rob_fine hc0 (tail_end hT)
  have h0 : 0 ≤ t := h0
  have wt : IntKind.i64.wrap (t + 1) = t + 1 := wI (by omega) (by omega)
  have hrow := hT.2 (t + 1).toNat (by omega) (by show (t + 1).toNat < (DV.sl none 0 P).len.toNat + 1; omega)
  rw [show (((t + 1).toNat : Nat) : Int) = t + 1 by omega] at hrow
  have hg : good (rob ⟨cap, st, fl, .sl none 0 P⟩ (t + 1)) := rob_good hr (by omega)
  have hs := rob_succ (c := ⟨cap, st, fl, .sl none 0 P⟩) h0 ht
  generalize hlh : rob ⟨cap, st, fl, .sl none 0 P⟩ (t + 1) = lh at hrow hg hs
  obtain ⟨lo, hi⟩ := lh
  have hg' := hg.1
  dsimp only at hg' hrow hs
  have a0 : (DV.sl none 0 L).at (IntKind.i64.wrap (t + 1)) 0 = lo := by
    have := (at_of hrow 0).trans (clampB_in hg'.1.1 hg'.1.2)
    rw [show (((t + 1).toNat : Nat) : Int) = t + 1 by omega] at this
    rw [wt]; exact this
  have a1 : (DV.sl none 0 L).at (IntKind.i64.wrap (t + 1)) 1 = hi := by
    have := (at_of hrow 1).trans (clampB_in hg'.2.1 hg'.2.2)
    rw [show (((t + 1).toNat : Nat) : Int) = t + 1 by omega] at this
    rw [wt]; exact this
  have hp : perOk (.sl none 0 P) t := per_at hr h0 ht
  have bg := bef_good (cap := cap) (P := .sl none 0 P) (t := t) (by omega) (by omega) hp hg
  have hp' := hp
  unfold perOk okN at hp'
  have step : ∀ {x y : Int}, befF cap (.sl none 0 P) t (lo, hi) = (x, y) → t - 1 < (DV.sl none 0 P).len ∧ tailP ⟨cap, st, fl, .sl none 0 P⟩ (L.modify t.toNat fun e => layG e 0 [.n x, .n y]) (t - 1) := fun hx => by
    exact tail_step (c := ⟨cap, st, fl, .sl none 0 P⟩) h0 ht hT (hs.trans hx) (two t.toNat (by omega) hT.1)
  have mea : (t - 1 + 1).toNat < (t + 1).toNat := by omega
  have bt : 0 ≤ t ∧ t < (DV.sl none 0 L).len := by omega
  have none_step : befF cap (.sl none 0 P) t (lo, hi) = (1, 0) → T.res [cChk 15, lRobR 7] (fun y => y = RobustF ⟨cap, st, fl, .sl none 0 P⟩) (T.ite (B.and (B.le (E.lit 0) (E.var 7)) (B.lt (E.var 7) (E.len (E.var 8))))
      (T.dat (DOp.set 0) [(E.var 8), (E.num (E.var 7)), (E.num (E.lit 1)), (E.num (E.lit 0))] (T.chk 1 7 [(E.num (E.sub (E.var 7) (E.lit 1))), (E.var 57)]))
      T.fail) ([.n cap, .n st, .n fl, .sl none 0 P, .n s, .sl none 0 (List.replicate (IntKind.i64.wrap ((DV.sl none 0 P).len + 1)).toNat [.n 0, .n 0]), .sl none 0 ((List.replicate (IntKind.i64.wrap ((DV.sl none 0 P).len + 1)).toNat [.n 0, .n 0]).modify (DV.sl none 0 P).len.toNat fun e => layG e 0 [.n fl, .n cap]), .n t, .sl none 0 L] ++ List.replicate 48 (.n 0)) := fun e => by
    refine res_ok bt (res_dat (.sl none 0 (L.modify t.toNat fun e => layG e 0 [.n 1, .n 0])) rfl ?_)
    exact res_chk rfl (step e) mea
  refine res_ok (show 0 ≤ IntKind.i64.wrap (t + 1) ∧ IntKind.i64.wrap (t + 1) < (DV.sl none 0 L).len by rw [wt]; omega) ?_
  refine res_ite (fun q => none_step ?_) fun q => ?_
  · have q : (DV.sl none 0 L).at (IntKind.i64.wrap (t + 1)) 1 < (DV.sl none 0 L).at (IntKind.i64.wrap (t + 1)) 0 := q
    rw [a0, a1] at q
    unfold befF; dsimp only; rw [if_pos q]
  have q : ¬ (DV.sl none 0 L).at (IntKind.i64.wrap (t + 1)) 1 < (DV.sl none 0 L).at (IntKind.i64.wrap (t + 1)) 0 := q
  rw [a0, a1] at q
  refine res_ok ⟨h0, ht⟩ (res_ite (fun e => ?_) fun e => ?_)
  · have e : (DV.sl none 0 L).at (IntKind.i64.wrap (t + 1)) 1 = cap := e
    rw [a1] at e
    have w0 : IntKind.i64.wrap (cap + (DV.sl none 0 P).at t 4) = cap + (DV.sl none 0 P).at t 4 := wI (by omega) (by omega)
    have w1 : IntKind.i64.wrap (cap + (DV.sl none 0 P).at t 4 - (DV.sl none 0 P).at t 1) = cap + (DV.sl none 0 P).at t 4 - (DV.sl none 0 P).at t 1 := wI (by omega) (by omega)
    have w2 : IntKind.i64.wrap (lo - (DV.sl none 0 P).at t 0) = lo - (DV.sl none 0 P).at t 0 := wI (by omega) (by omega)
    have w3 : IntKind.i64.wrap (cap + (DV.sl none 0 P).at t 4 - (DV.sl none 0 P).at t 1 + (DV.sl none 0 P).at t 3) = cap + (DV.sl none 0 P).at t 4 - (DV.sl none 0 P).at t 1 + (DV.sl none 0 P).at t 3 := wI (by omega) (by omega)
    have w4 : IntKind.i64.wrap (max 0 (lo - (DV.sl none 0 P).at t 0) + (DV.sl none 0 P).at t 2) = max 0 (lo - (DV.sl none 0 P).at t 0) + (DV.sl none 0 P).at t 2 := wI (by omega) (by omega)
    have ht2 : cap + (DV.sl none 0 P).at t 4 = if hi = cap then hi + (DV.sl none 0 P).at t 4 else hi := by rw [if_pos e, e]
    refine res_ite (fun q2 => none_step (bef_none hg ht2 (.inl (.inr ?_)))) fun q2 => ?_
    · have q2 : IntKind.i64.wrap (IntKind.i64.wrap (cap + (DV.sl none 0 P).at t 4) - (DV.sl none 0 P).at t 1) < max 0 (IntKind.i64.wrap ((DV.sl none 0 L).at (IntKind.i64.wrap (t + 1)) 0 - (DV.sl none 0 P).at t 0)) := q2
      rw [w0, w1, a0, w2] at q2; exact q2
    have q2 : ¬ IntKind.i64.wrap (IntKind.i64.wrap (cap + (DV.sl none 0 P).at t 4) - (DV.sl none 0 P).at t 1) < max 0 (IntKind.i64.wrap ((DV.sl none 0 L).at (IntKind.i64.wrap (t + 1)) 0 - (DV.sl none 0 P).at t 0)) := q2
    rw [w0, w1, a0, w2] at q2
    refine res_ite (fun q3 => none_step (bef_none hg ht2 (.inr ?_))) fun q3 => ?_
    · have q3 : min cap (IntKind.i64.wrap (IntKind.i64.wrap (IntKind.i64.wrap (cap + (DV.sl none 0 P).at t 4) - (DV.sl none 0 P).at t 1) + (DV.sl none 0 P).at t 3)) < IntKind.i64.wrap (max 0 (IntKind.i64.wrap ((DV.sl none 0 L).at (IntKind.i64.wrap (t + 1)) 0 - (DV.sl none 0 P).at t 0)) + (DV.sl none 0 P).at t 2) := q3
      rw [w0, w1, w3, a0, w2, w4] at q3; omega
    have q3 : ¬ min cap (IntKind.i64.wrap (IntKind.i64.wrap (IntKind.i64.wrap (cap + (DV.sl none 0 P).at t 4) - (DV.sl none 0 P).at t 1) + (DV.sl none 0 P).at t 3)) < IntKind.i64.wrap (max 0 (IntKind.i64.wrap ((DV.sl none 0 L).at (IntKind.i64.wrap (t + 1)) 0 - (DV.sl none 0 P).at t 0)) + (DV.sl none 0 P).at t 2) := q3
    rw [w0, w1, w3, a0, w2, w4] at q3
    have bs := bef_some hg ht2 (by omega)
    refine res_ok bt (res_dat (.sl none 0 (L.modify t.toNat fun e => layG e 0 [.n (IntKind.i64.wrap (max 0 (IntKind.i64.wrap ((DV.sl none 0 L).at (IntKind.i64.wrap (t + 1)) 0 - (DV.sl none 0 P).at t 0)) + (DV.sl none 0 P).at t 2)), .n (min cap (IntKind.i64.wrap (IntKind.i64.wrap (IntKind.i64.wrap (cap + (DV.sl none 0 P).at t 4) - (DV.sl none 0 P).at t 1) + (DV.sl none 0 P).at t 3)))])) rfl ?_)
    refine res_chk rfl (step (x := IntKind.i64.wrap (max 0 (IntKind.i64.wrap ((DV.sl none 0 L).at (IntKind.i64.wrap (t + 1)) 0 - (DV.sl none 0 P).at t 0)) + (DV.sl none 0 P).at t 2)) (y := min cap (IntKind.i64.wrap (IntKind.i64.wrap (IntKind.i64.wrap (cap + (DV.sl none 0 P).at t 4) - (DV.sl none 0 P).at t 1) + (DV.sl none 0 P).at t 3))) ?_) mea
    rw [w0, w1, w3, a0, w2, w4, bs, Int.min_comm cap]
  · have e : ¬ (DV.sl none 0 L).at (IntKind.i64.wrap (t + 1)) 1 = cap := e
    rw [a1] at e
    have w0 : IntKind.i64.wrap (hi - (DV.sl none 0 P).at t 1) = hi - (DV.sl none 0 P).at t 1 := wI (by omega) (by omega)
    have w1 : IntKind.i64.wrap (lo - (DV.sl none 0 P).at t 0) = lo - (DV.sl none 0 P).at t 0 := wI (by omega) (by omega)
    have w2 : IntKind.i64.wrap (hi - (DV.sl none 0 P).at t 1 + (DV.sl none 0 P).at t 3) = hi - (DV.sl none 0 P).at t 1 + (DV.sl none 0 P).at t 3 := wI (by omega) (by omega)
    have w3 : IntKind.i64.wrap (max 0 (lo - (DV.sl none 0 P).at t 0) + (DV.sl none 0 P).at t 2) = max 0 (lo - (DV.sl none 0 P).at t 0) + (DV.sl none 0 P).at t 2 := wI (by omega) (by omega)
    have ht2 : hi = if hi = cap then hi + (DV.sl none 0 P).at t 4 else hi := by rw [if_neg e]
    refine res_ite (fun q2 => none_step (bef_none hg ht2 (.inl (.inr ?_)))) fun q2 => ?_
    · have q2 : IntKind.i64.wrap ((DV.sl none 0 L).at (IntKind.i64.wrap (t + 1)) 1 - (DV.sl none 0 P).at t 1) < max 0 (IntKind.i64.wrap ((DV.sl none 0 L).at (IntKind.i64.wrap (t + 1)) 0 - (DV.sl none 0 P).at t 0)) := q2
      rw [a1, w0, a0, w1] at q2; exact q2
    have q2 : ¬ IntKind.i64.wrap ((DV.sl none 0 L).at (IntKind.i64.wrap (t + 1)) 1 - (DV.sl none 0 P).at t 1) < max 0 (IntKind.i64.wrap ((DV.sl none 0 L).at (IntKind.i64.wrap (t + 1)) 0 - (DV.sl none 0 P).at t 0)) := q2
    rw [a1, w0, a0, w1] at q2
    refine res_ite (fun q3 => none_step (bef_none hg ht2 (.inr ?_))) fun q3 => ?_
    · have q3 : min cap (IntKind.i64.wrap (IntKind.i64.wrap ((DV.sl none 0 L).at (IntKind.i64.wrap (t + 1)) 1 - (DV.sl none 0 P).at t 1) + (DV.sl none 0 P).at t 3)) < IntKind.i64.wrap (max 0 (IntKind.i64.wrap ((DV.sl none 0 L).at (IntKind.i64.wrap (t + 1)) 0 - (DV.sl none 0 P).at t 0)) + (DV.sl none 0 P).at t 2) := q3
      rw [a1, w0, w2, a0, w1, w3] at q3; omega
    have q3 : ¬ min cap (IntKind.i64.wrap (IntKind.i64.wrap ((DV.sl none 0 L).at (IntKind.i64.wrap (t + 1)) 1 - (DV.sl none 0 P).at t 1) + (DV.sl none 0 P).at t 3)) < IntKind.i64.wrap (max 0 (IntKind.i64.wrap ((DV.sl none 0 L).at (IntKind.i64.wrap (t + 1)) 0 - (DV.sl none 0 P).at t 0)) + (DV.sl none 0 P).at t 2) := q3
    rw [a1, w0, w2, a0, w1, w3] at q3
    have bs := bef_some hg ht2 (by omega)
    refine res_ok bt (res_dat (.sl none 0 (L.modify t.toNat fun e => layG e 0 [.n (IntKind.i64.wrap (max 0 (IntKind.i64.wrap ((DV.sl none 0 L).at (IntKind.i64.wrap (t + 1)) 0 - (DV.sl none 0 P).at t 0)) + (DV.sl none 0 P).at t 2)), .n (min cap (IntKind.i64.wrap (IntKind.i64.wrap ((DV.sl none 0 L).at (IntKind.i64.wrap (t + 1)) 1 - (DV.sl none 0 P).at t 1) + (DV.sl none 0 P).at t 3)))])) rfl ?_)
    refine res_chk rfl (step (x := IntKind.i64.wrap (max 0 (IntKind.i64.wrap ((DV.sl none 0 L).at (IntKind.i64.wrap (t + 1)) 0 - (DV.sl none 0 P).at t 0)) + (DV.sl none 0 P).at t 2)) (y := min cap (IntKind.i64.wrap (IntKind.i64.wrap ((DV.sl none 0 L).at (IntKind.i64.wrap (t + 1)) 1 - (DV.sl none 0 P).at t 1) + (DV.sl none 0 P).at t 3))) ?_) mea
    rw [a1, w0, w2, a0, w1, w3, bs, Int.min_comm cap]
end Go.Proofs.Ytljggpbkggkcaaa
