/- DERIVED. The reference's simplest number: its contract. -/
import Derived.Test.YtkcomadagclikaaBq
import Derived.Test.YtkcomadagclikaaCtB
namespace Go.Proofs.Ytkcomadagclikaa
open Go.Sx
set_option linter.unusedVariables false
set_option linter.unusedSimpArgs false
abbrev rb : List (Int × Int) := [(0, 1073741824), (1, 1073741824), (1, 1073741824), (0, 1073741824)]
theorem okSmpR {σ τ} (K : Nat) : ∀ N w0, ConOk Try.prog N w0 σ τ (cSmpR K) := by
  induction K with
  | zero =>
    refine con_of_walkQ (tb := tb) (C := []) fine noCon 1000 ⟨rb, [], []⟩ rfl fun xs hp hl => ?_
    match xs, hp with
    | [a, b, c, d], hp => exact absurd hp.2.1 (by have := hp.1.2.1; have := hp.1.2.2.1; omega)
  | succ k ih =>
    refine con_of_walkQ (tb := tb) (C := [cSmpR k]) fine (conCons ih noCon) 1000 ⟨rb, [], []⟩ rfl fun xs hp hl => ?_
    match xs, hp with
    | [a, b, c, d], hp =>
    obtain ⟨hs, hk, b1, b2, b3, b4⟩ := id hp
    obtain ⟨h1, h2, h3, h4, h5⟩ := id hs
    obtain ⟨q0, q1, q2⟩ := q_spec h1 h2
    have qt : a.tdiv b = a / b := Int.tdiv_eq_ediv_of_nonneg h1
    refine ⟨in_bnd ⟨h1, b1, h2, b2, h4, b3, h3, b4, trivial⟩, ?_⟩
    clear hl
    rw [show runQ tb [cSmpR k] 1000 (cSmpR (k + 1)).f (argsOf (cSmpR (k + 1)).args 0) ⟨rb, [], []⟩ = _ from tree_smpR k]
    simp only [T.res, resOk, svV, pvV, pvsV, cellV, cellsV, E.den, B.den, B.prop, allB, inB, kb, if_true, and_true, List.map_cons, List.map_nil, List.getD_cons_zero, List.getD_cons_succ, List.cons_append, List.nil_append, List.append_nil, List.getElem?_cons_zero, List.getElem?_cons_succ, cSmpR, qt]
    have sp := smp_b hp
    refine ⟨fun h => ?_, fun h => ?_⟩
    · have c1 : (a / b + 1) * d < c := by
        rcases h with h | h
        · subst h; omega
        · exact h
      have e : smp (k + 1) a b c d = (a / b + 1, 1) := by rw [smp, if_pos c1]
      rw [e] at sp ⊢
      simp only at sp ⊢
      exact ⟨by omega, trivial, trivial⟩
    · have c1 : ¬ (a / b + 1) * d < c := fun x => h (Or.inr x)
      obtain ⟨n1, n2, n3⟩ := hs.next c1
      have hm : 0 ≤ a / b * d := Int.mul_nonneg q0 h3
      refine ⟨⟨n1, by omega, b4, by omega, b2, by omega⟩, fun x x0 x1 y y0 y1 hxy => ?_⟩
      have e : smp (k + 1) a b c d = (a / b * (smp k d (c - a / b * d) b (a - a / b * b)).1 + (smp k d (c - a / b * d) b (a - a / b * b)).2, (smp k d (c - a / b * d) b (a - a / b * b)).1) := by rw [smp, if_neg c1]
      rw [e] at sp ⊢
      rw [hxy.1, hxy.2]
      simp only at sp ⊢
      exact ⟨by omega, trivial, trivial⟩
end Go.Proofs.Ytkcomadagclikaa
