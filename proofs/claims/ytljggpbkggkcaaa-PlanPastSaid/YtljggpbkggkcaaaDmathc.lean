/- DERIVED. The game of releases and inflows: arithmetic. -/
import Derived.Test.YtljggpbkggkcaaaDmathb
namespace Go.Proofs.Ytljggpbkggkcaaa
open Go.Dx
set_option linter.unusedVariables false
set_option linter.unusedSimpArgs false
theorem rob_capped {c : CO} (h : rightC c) (t : Int) : (rob c t).2 ≤ c.cap := robK_cap (by have := h.1; omega) _
theorem rob_end (c : CO) : rob c c.P.len = (c.fl, c.cap) := by unfold rob; rw [Int.sub_self]; rfl
/-- With the least release a robust store stays robust, whatever inflow comes. -/
theorem keep_all {c : CO} {t s o : Int} (hr : rightC c) (t0 : 0 ≤ t) (t1 : t < c.P.len) (h : inR (rob c t) s) (ho : o = max (c.P.at t 2) (s - (topF c t - c.P.at t 1))) :
    allowed c t s o ∧ ∀ q, c.P.at t 0 ≤ q → q ≤ c.P.at t 1 → ¬ c.P.at t 4 < s - o + q - afterF c s o q ∧ inR (rob c (t + 1)) (afterF c s o q) := by
  have hp := per_at hr t0 t1
  have hx := rob_good hr (show 0 ≤ t + 1 by omega)
  have hc := rob_capped hr (t + 1)
  rw [rob_succ t0 t1] at h
  unfold topF at ho
  unfold inR afterF allowed at *
  unfold befF at h
  generalize rob c (t + 1) = x at *
  unfold good perOk okN at *
  dsimp only at h
  by_cases c1 : x.1 > x.2
  · rw [if_pos c1] at h; dsimp only at h; omega
  rw [if_neg c1] at h
  have ht : ((if x.2 = c.cap then x.2 + c.P.at t 4 else x.2) = x.2 + c.P.at t 4 ∧ x.2 = c.cap) ∨ ((if x.2 = c.cap then x.2 + c.P.at t 4 else x.2) = x.2 ∧ x.2 ≠ c.cap) := by
    by_cases e : x.2 = c.cap
    · exact .inl ⟨if_pos e, e⟩
    · exact .inr ⟨if_neg e, e⟩
  generalize (if x.2 = c.cap then x.2 + c.P.at t 4 else x.2) = top at *
  by_cases c2 : max 0 (x.1 - c.P.at t 0) > top - c.P.at t 1
  · rw [if_pos c2] at h; dsimp only at h; omega
  rw [if_neg c2] at h
  by_cases c3 : max 0 (x.1 - c.P.at t 0) + c.P.at t 2 > min (top - c.P.at t 1 + c.P.at t 3) c.cap
  · rw [if_pos c3] at h; dsimp only at h; omega
  rw [if_neg c3] at h
  dsimp only at h
  refine ⟨by omega, fun q q0 q1 => ?_⟩
  omega
/-- From another store, every release is spoiled by the least inflow, or else by the greatest one. -/
theorem lost_some {c : CO} {t s o : Int} (hr : rightC c) (t0 : 0 ≤ t) (t1 : t < c.P.len) (hs : s ≤ c.cap) (h : ¬ inR (rob c t) s) (ho : allowed c t s o)
    (h0 : ¬ c.P.at t 4 < s - o + c.P.at t 0 - afterF c s o (c.P.at t 0)) (h1 : inR (rob c (t + 1)) (afterF c s o (c.P.at t 0))) :
    c.P.at t 4 < s - o + c.P.at t 1 - afterF c s o (c.P.at t 1) ∨ ¬ inR (rob c (t + 1)) (afterF c s o (c.P.at t 1)) := by
  refine Classical.byContradiction fun k => h ?_
  have hp := per_at hr t0 t1
  have hx := rob_good hr (show 0 ≤ t + 1 by omega)
  have hc := rob_capped hr (t + 1)
  rw [rob_succ t0 t1]
  unfold inR afterF allowed at *
  unfold befF
  generalize rob c (t + 1) = x at *
  unfold good perOk okN at *
  dsimp only
  have c1 : ¬ x.1 > x.2 := by omega
  rw [if_neg c1]
  have ht : ((if x.2 = c.cap then x.2 + c.P.at t 4 else x.2) = x.2 + c.P.at t 4 ∧ x.2 = c.cap) ∨ ((if x.2 = c.cap then x.2 + c.P.at t 4 else x.2) = x.2 ∧ x.2 ≠ c.cap) := by
    by_cases e : x.2 = c.cap
    · exact .inl ⟨if_pos e, e⟩
    · exact .inr ⟨if_neg e, e⟩
  generalize (if x.2 = c.cap then x.2 + c.P.at t 4 else x.2) = top at *
  rw [if_neg (show ¬ max 0 (x.1 - c.P.at t 0) > top - c.P.at t 1 by omega), if_neg (show ¬ max 0 (x.1 - c.P.at t 0) + c.P.at t 2 > min (top - c.P.at t 1 + c.P.at t 3) c.cap by omega)]
  dsimp only
  omega
/-- What Robust returns. -/
theorem robust_in {c : CO} {L : List (List DV)} {e : Int} (h : [DV.sl none 0 L, .n e] = RobustF c) : (e ≠ 0 ∧ L = [] ∧ e = chkF c) ∨ (e = 0 ∧ chkF c = 0 ∧ L = rowsF c) := by
  unfold RobustF at h
  by_cases c1 : chkF c ≠ 0
  · rw [if_pos c1] at h
    simp only [List.cons.injEq, DV.n.injEq, DV.sl.injEq, and_true, true_and] at h
    exact .inl ⟨by rw [h.2]; exact c1, h.1, h.2⟩
  · rw [if_neg c1] at h
    simp only [List.cons.injEq, DV.n.injEq, DV.sl.injEq, and_true, true_and] at h
    exact .inr ⟨h.2, Classical.not_not.1 c1, h.1⟩
theorem chk_zero {c : CO} (h : chkF c = 0) : c.P.len ≤ 64 ∧ rightC c := by
  unfold chkF at h
  by_cases c1 : 64 < c.P.len
  · rw [if_pos c1] at h; exact absurd h (by decide)
  rw [if_neg c1] at h
  by_cases c2 : rightC c
  · exact ⟨by omega, c2⟩
  · rw [if_neg c2] at h; exact absurd h (by decide)
end Go.Proofs.Ytljggpbkggkcaaa
