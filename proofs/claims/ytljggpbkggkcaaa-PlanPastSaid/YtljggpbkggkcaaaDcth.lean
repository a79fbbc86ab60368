/- DERIVED. Spoiling inflows: the contract, proved. -/
import Derived.Test.YtljggpbkggkcaaaDctg
import Derived.Test.YtljggpbkggkcaaaDtreei
namespace Go.Proofs.Ytljggpbkggkcaaa
open Go.Dx
set_option linter.unusedVariables false
set_option linter.unusedSimpArgs false
set_option maxHeartbeats 4000000 in
theorem cSpo_ok (N : Nat) (w0 : World) : ConOk Try.prog tb N w0 (cSpo 21) := by
  refine con_of_walk (tb := tb) fine (C := [cChk 14, cRobOf 33]) (conCons cChk_ok (conCons cRobOf_ok noCon)) 80 rfl ?_ N w0
  refine fun cap _ _ st _ _ fl _ _ P hP t _ _ s _ _ o _ _ _ => ?_
  clear hP
  rw [tree_spo]
  have l0 := len_nn (.sl none 0 P)
  show T.res [cChk 14, cRobOf 33] (fun y => y = SpoF ⟨cap, st, fl, .sl none 0 P⟩ t s o) _ _
  refine res_con rfl trivial (fun e _ _ he => ?_)
  have he : [DV.n e] = [DV.n (chkF ⟨cap, st, fl, .sl none 0 P⟩)] := he
  obtain ⟨es, hs⟩ := chk_in he
  refine res_ite (fun h => ?_) fun h => ?_
  · have h : ¬ e = 0 := h
    exact spo_bad ((ask_bad (by omega)).1.trans es.symm) h
  have h : ¬ ¬ e = 0 := h
  rcases hs with ⟨hz, hc0, hlen, hr⟩ | q
  case inr => exact absurd q.1 h
  have hlen : (DV.sl none 0 P).len ≤ 64 := hlen
  have hr1 := hr.1
  dsimp only at hr1
  refine res_ite (fun k1 => ?_) fun k1 => ?_
  case refine_2 =>
    have k1 : ¬ ¬ (t < 0 ∨ (DV.sl none 0 P).len ≤ t) := k1
    exact spo_bad (ask_one hc0 (.inl (Classical.not_not.1 k1))) (show (1 : Int) ≠ 0 by decide)
  have k1 : ¬ (t < 0 ∨ (DV.sl none 0 P).len ≤ t) := k1
  refine res_ite (fun k2 => ?_) fun k2 => ?_
  · have k2 : s < 0 ∨ cap < s := k2
    exact spo_bad (ask_one hc0 (.inr (by dsimp only; omega))) (show (1 : Int) ≠ 0 by decide)
  have k2 : ¬ (s < 0 ∨ cap < s) := k2
  have ha : askF ⟨cap, st, fl, .sl none 0 P⟩ t s = 0 := ask_fine hc0 (by dsimp only; omega)
  refine res_ite (fun k3 => ?_) fun k3 => ?_
  · have k3 : o < 0 ∨ 1099511627776 < o := k3
    exact spo_arg ha (by unfold okN; omega)
  have k3 : ¬ (o < 0 ∨ 1099511627776 < o) := k3
  have ho : okN o := by unfold okN; omega
  refine res_con rfl ⟨hlen, hr⟩ (fun c1 _ _ c2 _ _ c3 _ _ P' hP' L hL' hR => ?_)
  clear hP' hL'
  have hR : [DV.n c1, .n c2, .n c3, .sl none 0 P', .sl none 0 L] = [DV.n cap, .n st, .n fl, .sl none 0 P, .sl none 0 (rowsF ⟨cap, st, fl, .sl none 0 P⟩)] := hR
  simp only [List.cons.injEq, DV.sl.injEq, DV.n.injEq, true_and, and_true] at hR
  have hL := hR.2.2.2.2
  have lL : (DV.sl none 0 L).len = ((DV.sl none 0 P).len.toNat + 1 : Nat) := len_of (by rw [hL, rowsF_len]) (by omega)
  have g0 := row_at hr hL (t := t) (by omega) (by show t ≤ (DV.sl none 0 P).len; omega)
  have g1 := row_at hr hL (t := t + 1) (by omega) (by show t + 1 ≤ (DV.sl none 0 P).len; omega)
  have hp : perOk (.sl none 0 P) t := per_at hr (by omega) (by show t < (DV.sl none 0 P).len; omega)
  unfold perOk okN at hp
  refine res_ok (show 0 ≤ t ∧ t < (DV.sl none 0 L).len by omega) ?_
  refine res_ite (fun q => spo_out ha ho ?_) fun q => ?_
  · have q : ((DV.sl none 0 L).at t 0 ≤ s ∧ s ≤ (DV.sl none 0 L).at t 1) ∨ ¬ (((DV.sl none 0 P).at t 2 ≤ o ∧ o ≤ (DV.sl none 0 P).at t 3) ∧ o ≤ s) := q
    rw [g0.1, g0.2] at q; exact q
  have q : ¬ (((DV.sl none 0 L).at t 0 ≤ s ∧ s ≤ (DV.sl none 0 L).at t 1) ∨ ¬ (((DV.sl none 0 P).at t 2 ≤ o ∧ o ≤ (DV.sl none 0 P).at t 3) ∧ o ≤ s)) := q
  rw [g0.1, g0.2] at q
  have ob : 0 ≤ o ∧ o ≤ 1099511627776 := ho
  have w1 : IntKind.i64.wrap (s - o + (DV.sl none 0 P).at t 0) = s - o + (DV.sl none 0 P).at t 0 := wI (by omega) (by omega)
  have w2 : IntKind.i64.wrap (s - o + (DV.sl none 0 P).at t 0 - min (s - o + (DV.sl none 0 P).at t 0) cap) = s - o + (DV.sl none 0 P).at t 0 - min (s - o + (DV.sl none 0 P).at t 0) cap := wI (by omega) (by omega)
  refine res_ite (fun z => ?_) fun z => spo_lo ha ho q (.inl ?_)
  case refine_2 =>
    have z : ¬ IntKind.i64.wrap (IntKind.i64.wrap (s - o + (DV.sl none 0 P).at t 0) - min (IntKind.i64.wrap (s - o + (DV.sl none 0 P).at t 0)) cap) ≤ (DV.sl none 0 P).at t 4 := z
    rw [w1, w2] at z
    show (DV.sl none 0 P).at t 4 < s - o + (DV.sl none 0 P).at t 0 - min (s - o + (DV.sl none 0 P).at t 0) cap
    omega
  have z : IntKind.i64.wrap (IntKind.i64.wrap (s - o + (DV.sl none 0 P).at t 0) - min (IntKind.i64.wrap (s - o + (DV.sl none 0 P).at t 0)) cap) ≤ (DV.sl none 0 P).at t 4 := z
  rw [w1, w2] at z
  refine res_ok (show 0 ≤ t + 1 ∧ t + 1 < (DV.sl none 0 L).len by omega) ?_
  refine res_ite (fun y => spo_lo ha ho q (.inr ?_)) fun y => spo_hi ha ho q fun x => x.elim (fun k => ?_) ?_
  · have y : ¬ ((DV.sl none 0 L).at (t + 1) 0 ≤ min (IntKind.i64.wrap (s - o + (DV.sl none 0 P).at t 0)) cap ∧ min (IntKind.i64.wrap (s - o + (DV.sl none 0 P).at t 0)) cap ≤ (DV.sl none 0 L).at (t + 1) 1) := y
    rw [g1.1, g1.2, w1] at y; exact y
  · have k : (DV.sl none 0 P).at t 4 < s - o + (DV.sl none 0 P).at t 0 - min (s - o + (DV.sl none 0 P).at t 0) cap := k
    omega
  · have y : ¬ ¬ ((DV.sl none 0 L).at (t + 1) 0 ≤ min (IntKind.i64.wrap (s - o + (DV.sl none 0 P).at t 0)) cap ∧ min (IntKind.i64.wrap (s - o + (DV.sl none 0 P).at t 0)) cap ≤ (DV.sl none 0 L).at (t + 1) 1) := y
    rw [g1.1, g1.2, w1] at y; exact y
end Go.Proofs.Ytljggpbkggkcaaa
