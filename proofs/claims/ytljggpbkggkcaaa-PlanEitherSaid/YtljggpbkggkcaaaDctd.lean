/- DERIVED. Steps of plans: the contracts, proved. -/
import Derived.Test.YtljggpbkggkcaaaDctb
import Derived.Test.YtljggpbkggkcaaaDctc
import Derived.Test.YtljggpbkggkcaaaDconb
import Derived.Test.YtljggpbkggkcaaaDtreee
namespace Go.Proofs.Ytljggpbkggkcaaa
open Go.Dx
set_option linter.unusedVariables false
set_option linter.unusedSimpArgs false
theorem ask_bad {c : CO} {t s : Int} (h : chkF c ≠ 0) : askF c t s = chkF c ∧ askF c t s ≠ 0 := by
  unfold askF; rw [if_pos h]; exact ⟨rfl, h⟩
theorem ask_one {c : CO} {t s : Int} (h : chkF c = 0) (k : (t < 0 ∨ c.P.len ≤ t) ∨ ¬ (0 ≤ s ∧ s ≤ c.cap)) : askF c t s = 1 := by
  unfold askF; rw [if_neg (by omega), if_pos k]
theorem ask_fine {c : CO} {t s : Int} (h : chkF c = 0) (k : ¬ ((t < 0 ∨ c.P.len ≤ t) ∨ ¬ (0 ≤ s ∧ s ≤ c.cap))) : askF c t s = 0 := by
  unfold askF; rw [if_neg (by omega), if_neg k]
theorem next_bad {c : CO} {t s o i e : Int} (h : askF c t s = e) (k : e ≠ 0) : [DV.n 0, .n 0, .n 0, .n e] = NextF c t s o i := by
  unfold NextF; rw [h, if_pos k]
theorem next_arg {c : CO} {t s o i : Int} (h : askF c t s = 0) (k : ¬ (okN o ∧ okN i)) : [DV.n 0, .n 0, .n 0, .n 1] = NextF c t s o i := by
  unfold NextF; rw [if_neg (by omega), if_pos k]
theorem next_no {c : CO} {t s o i : Int} (h : askF c t s = 0) (k : okN o ∧ okN i) (q : ¬ allowed c t s o ∨ c.P.at t 4 < s - o + i - afterF c s o i) : [DV.n 0, .n 0, .n 0, .n 0] = NextF c t s o i := by
  unfold NextF; rw [if_neg (by omega), if_neg (not_not_intro k), if_pos q]
theorem next_yes {c : CO} {t s o i : Int} (h : askF c t s = 0) (k : okN o ∧ okN i) (q : ¬ (¬ allowed c t s o ∨ c.P.at t 4 < s - o + i - afterF c s o i)) {x y : Int} (hx : x = afterF c s o i) (hy : y = s - o + i - afterF c s o i) : [DV.n x, .n y, .n 1, .n 0] = NextF c t s o i := by
  unfold NextF; rw [if_neg (by omega), if_neg (not_not_intro k), if_neg q, hx, hy]
theorem cNext_ok (N : Nat) (w0 : World) : ConOk Try.prog tb N w0 (cNext 19) := by
  refine con_of_walk (tb := tb) fine (C := [cChk 14]) (conCons cChk_ok noCon) 80 rfl ?_ N w0
  refine fun cap _ _ st _ _ fl _ _ P hP t _ _ s _ _ o _ _ i _ _ _ => ?_
  clear hP
  rw [tree_next]
  have l0 := len_nn (.sl none 0 P)
  show T.res [cChk 14] (fun y => y = NextF ⟨cap, st, fl, .sl none 0 P⟩ t s o i) _ _
  refine res_con rfl trivial (fun e _ _ he => ?_)
  have he : [DV.n e] = [DV.n (chkF ⟨cap, st, fl, .sl none 0 P⟩)] := he
  obtain ⟨es, hs⟩ := chk_in he
  refine res_ite (fun h => ?_) fun h => ?_
  · have h : ¬ e = 0 := h
    exact next_bad ((ask_bad (by omega)).1.trans es.symm) h
  have h : ¬ ¬ e = 0 := h
  rcases hs with ⟨hz, hc0, hlen, hr⟩ | q
  case inr => exact absurd q.1 h
  have hlen : (DV.sl none 0 P).len ≤ 64 := hlen
  have hr1 := hr.1
  dsimp only at hr1
  refine res_ite (fun k1 => ?_) fun k1 => ?_
  case refine_2 =>
    have k1 : ¬ ¬ (t < 0 ∨ (DV.sl none 0 P).len ≤ t) := k1
    exact next_bad (ask_one hc0 (.inl (Classical.not_not.1 k1))) (show (1 : Int) ≠ 0 by decide)
  have k1 : ¬ (t < 0 ∨ (DV.sl none 0 P).len ≤ t) := k1
  refine res_ite (fun k2 => ?_) fun k2 => ?_
  · have k2 : s < 0 ∨ cap < s := k2
    exact next_bad (ask_one hc0 (.inr (by dsimp only; omega))) (show (1 : Int) ≠ 0 by decide)
  have k2 : ¬ (s < 0 ∨ cap < s) := k2
  have ha : askF ⟨cap, st, fl, .sl none 0 P⟩ t s = 0 := ask_fine hc0 (by dsimp only; omega)
  refine res_ite (fun k3 => ?_) fun k3 => ?_
  · have k3 : o < 0 ∨ 1099511627776 < o := k3
    exact next_arg ha (by unfold okN; omega)
  have k3 : ¬ (o < 0 ∨ 1099511627776 < o) := k3
  refine res_ite (fun k4 => ?_) fun k4 => ?_
  · have k4 : i < 0 ∨ 1099511627776 < i := k4
    exact next_arg ha (by unfold okN; omega)
  have k4 : ¬ (i < 0 ∨ 1099511627776 < i) := k4
  have hk : okN o ∧ okN i := by unfold okN; omega
  have w1 : IntKind.i64.wrap (s - o + i) = s - o + i := wI (by omega) (by omega)
  have w2 : IntKind.i64.wrap (s - o + i - min (s - o + i) cap) = s - o + i - min (s - o + i) cap := wI (by omega) (by omega)
  have fin : ∀ q : ¬ (((DV.sl none 0 P).at t 2 ≤ o ∧ o ≤ (DV.sl none 0 P).at t 3) ∧ o ≤ s) ∨ (DV.sl none 0 P).at t 4 < IntKind.i64.wrap (IntKind.i64.wrap (s - o + i) - min (IntKind.i64.wrap (s - o + i)) cap), ¬ allowed ⟨cap, st, fl, .sl none 0 P⟩ t s o ∨ (DV.sl none 0 P).at t 4 < s - o + i - afterF ⟨cap, st, fl, .sl none 0 P⟩ s o i := fun q => by
    rw [w1, w2] at q; exact q
  refine res_ite (fun q => next_no ha hk (fin q)) fun q => ?_
  have q : ¬ (¬ (((DV.sl none 0 P).at t 2 ≤ o ∧ o ≤ (DV.sl none 0 P).at t 3) ∧ o ≤ s) ∨ (DV.sl none 0 P).at t 4 < IntKind.i64.wrap (IntKind.i64.wrap (s - o + i) - min (IntKind.i64.wrap (s - o + i)) cap)) := q
  refine next_yes ha hk (fun z => q ?_) (x := min (IntKind.i64.wrap (s - o + i)) cap) (y := IntKind.i64.wrap (IntKind.i64.wrap (s - o + i) - min (IntKind.i64.wrap (s - o + i)) cap)) ?_ ?_
  · rw [w1, w2]; exact z
  · rw [w1]; rfl
  · rw [w1, w2]; rfl
theorem cNextR_ok (N : Nat) (w0 : World) : ConOk Try.prog tb N w0 (cNext 20) := by
  refine con_of_walk (tb := tb) fine (C := [cChk 15]) (conCons cChkR_ok noCon) 80 rfl ?_ N w0
  refine fun cap _ _ st _ _ fl _ _ P hP t _ _ s _ _ o _ _ i _ _ _ => ?_
  clear hP
  rw [tree_nextR]
  have l0 := len_nn (.sl none 0 P)
  show T.res [cChk 15] (fun y => y = NextF ⟨cap, st, fl, .sl none 0 P⟩ t s o i) _ _
  refine res_con rfl trivial (fun e _ _ he => ?_)
  have he : [DV.n e] = [DV.n (chkF ⟨cap, st, fl, .sl none 0 P⟩)] := he
  obtain ⟨es, hs⟩ := chk_in he
  refine res_ite (fun h => ?_) fun h => ?_
  · have h : ¬ e = 0 := h
    exact next_bad ((ask_bad (by omega)).1.trans es.symm) h
  have h : ¬ ¬ e = 0 := h
  rcases hs with ⟨hz, hc0, hlen, hr⟩ | q
  case inr => exact absurd q.1 h
  have hlen : (DV.sl none 0 P).len ≤ 64 := hlen
  have hr1 := hr.1
  dsimp only at hr1
  refine res_ite (fun k1 => next_bad (ask_one hc0 k1) (show (1 : Int) ≠ 0 by decide)) fun k1 => ?_
  have ha : askF ⟨cap, st, fl, .sl none 0 P⟩ t s = 0 := ask_fine hc0 k1
  have k1 : ¬ ((t < 0 ∨ (DV.sl none 0 P).len ≤ t) ∨ ¬ (0 ≤ s ∧ s ≤ cap)) := k1
  refine res_ite (fun k3 => ?_) fun k3 => ?_
  · have k3 : ¬ (0 ≤ o ∧ o ≤ 1099511627776) ∨ ¬ (0 ≤ i ∧ i ≤ 1099511627776) := k3
    exact next_arg ha (by unfold okN; omega)
  have k3 : ¬ (¬ (0 ≤ o ∧ o ≤ 1099511627776) ∨ ¬ (0 ≤ i ∧ i ≤ 1099511627776)) := k3
  have hk : okN o ∧ okN i := by unfold okN; omega
  have w1 : IntKind.i64.wrap (s - o + i) = s - o + i := wI (by omega) (by omega)
  have w2 : IntKind.i64.wrap (s - o + i - cap) = s - o + i - cap := wI (by omega) (by omega)
  have w3 : IntKind.i64.wrap (s - o + i - max 0 (s - o + i - cap)) = s - o + i - max 0 (s - o + i - cap) := wI (by omega) (by omega)
  have e1 : s - o + i - max 0 (s - o + i - cap) = min (s - o + i) cap := by omega
  have e2 : max 0 (s - o + i - cap) = s - o + i - min (s - o + i) cap := by omega
  refine res_ite (fun q => next_no ha hk (.inl q)) fun q1 => ?_
  refine res_ite (fun q => next_no ha hk (.inr ?_)) fun q2 => ?_
  · have q : (DV.sl none 0 P).at t 4 < max 0 (IntKind.i64.wrap (IntKind.i64.wrap (s - o + i) - cap)) := q
    rw [w1, w2, e2] at q; exact q
  have q2 : ¬ (DV.sl none 0 P).at t 4 < max 0 (IntKind.i64.wrap (IntKind.i64.wrap (s - o + i) - cap)) := q2
  rw [w1, w2, e2] at q2
  refine next_yes ha hk (fun z => z.elim q1 q2) (x := IntKind.i64.wrap (IntKind.i64.wrap (s - o + i) - max 0 (IntKind.i64.wrap (IntKind.i64.wrap (s - o + i) - cap)))) (y := max 0 (IntKind.i64.wrap (IntKind.i64.wrap (s - o + i) - cap))) ?_ ?_
  · rw [w1, w2, w3, e1]; rfl
  · rw [w1, w2, e2]; rfl
end Go.Proofs.Ytljggpbkggkcaaa
