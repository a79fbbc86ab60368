/- DERIVED. Laws of salt, walked. -/
import Derived.Test.YtalkhponnfggoaaDarg
namespace Go.Proofs.Ytalkhponnfggoaa
open Go.Dx Go.RowKit
set_option linter.unusedVariables false
set_option linter.unusedSimpArgs false
def I64 (a : Int) : Prop := -9223372036854775808 ≤ a ∧ a ≤ 9223372036854775807
theorem wf_i64 {n : Int} (h : (Lit.int .i64 n).wf = true) : I64 n := by
  simp [Lit.wf, IntKind.min, IntKind.max, IntKind.signed, IntKind.bits] at h
  exact ⟨by omega, by omega⟩
theorem mix_one {a : DV} {x y : List DV} (h : MixP a x) (k : MixP a y) : x = y := by
  obtain ⟨h1, h2, h3, h4⟩ := h
  obtain ⟨k1, k2, k3, k4⟩ := k
  by_cases c1 : 64 < a.els.length
  · rw [h1 c1, k1 c1]
  · by_cases c2 : AllR a a.els.length
    · by_cases c3 : sm a 0 a.els.length ≤ 1073741824 ∧ sm a 1 a.els.length ≤ 1073741824
      · rw [h4 (by omega) c2 c3.1 c3.2, k4 (by omega) c2 c3.1 c3.2]
      · rw [h3 (by omega) c2 c3, k3 (by omega) c2 c3]
    · rw [h2 (by omega) c2, k2 (by omega) c2]
theorem lose_one {l s e p : Int} {x y : List DV} (h : LoseP l s e p x) (k : LoseP l s e p y) : x = y := by
  obtain ⟨h1, h2, h3, h4⟩ := h
  obtain ⟨k1, k2, k3, k4⟩ := k
  by_cases c1 : okW l s
  · by_cases c2 : ((0 ≤ e ∧ e ≤ l) ∧ 0 ≤ p ∧ p ≤ l - e)
    · by_cases c3 : e = l ∧ 0 < s
      · rw [h3 c1 c2 c3, k3 c1 c2 c3]
      · rw [h4 c1 c2 c3, k4 c1 c2 c3]
    · rw [h2 c1 c2, k2 c1 c2]
  · rw [h1 c1, k1 c1]
theorem SaltSpec_any (v0 v1 v2 v3 : Value) (w : World) (g0 : SliceA w wats v0) (g1 : PairA v1) (g2 : ∃ a, v2 = .int .i64 a ∧ I64 a) (g3 : ∃ a, v3 = .int .i64 a ∧ I64 a) :
    Calls Try.prog 3 #[v0, v1, v2, v3] w fun e w' => e = .returned (.bool true) ∧ Below w.heap.size w w' := by
  obtain ⟨l, hl⟩ := g0
  obtain ⟨x, y, rfl, hx, hy⟩ := g1
  obtain ⟨e, rfl, he⟩ := g2
  obtain ⟨p, rfl, hp⟩ := g3
  refine law_of_walk (tb := tb) (P := Try.prog) fine (C := [cSane, cMix, cMixR, cLose, cLoseR]) (conCons cSane_ok (conCons cMix_ok (conCons cMixR_ok (conCons cLose_ok (conCons cLoseR_ok noCon))))) 80 3 [.c wats, .agg wat, .c i64s, .c i64s] rfl (w := w) (xs := [.sl none 0 l, .n x, .n y, .n e, .n p]) (vs := [v0, .agg #[.int .i64 x, .int .i64 y], .int .i64 e, .int .i64 p]) ?_ ?_
  · simp only [ArgsV]
    exact ⟨hl, [.n x, .n y], [.n e, .n p], [.int .i64 x, .int .i64 y], rfl, rfl, cells_pair hx hy, cell_int he, cell_int hp, trivial⟩
  · have hlen := wats_len hl.1
    rw [tree_spec]
    simp only [T.res, B.prop, E.den, E.dat, E.top, E.val, E.isD, DV.canon, List.getElem?_cons_zero, List.getElem?_cons_succ, List.getD_cons_zero, List.getD_cons_succ, List.getD_nil, List.map_cons, List.map_nil, List.cons_append, List.nil_append, allB, cSane, lawCon, cMix, cMixR, cLose, cLoseR, resB, resL', RSh.l, List.flatMap_cons, List.flatMap_nil, RC.vd, true_and]
    intro z z0 z1 hz
    simp only [List.cons.injEq, and_true, DV.n.injEq] at hz
    subst hz
    refine ⟨fun h => absurd h (by simp [DV.int]), fun _ => ⟨fun _ => trivial, fun _ => ?_⟩⟩
    intro a0 _ _ a1 _ _ a2 _ _ ha b0 _ _ b1 _ _ b2 _ _ hb c0 _ _ c1 _ _ c2 _ _ c3 _ _ c4 _ _ hc d0 _ _ d1 _ _ d2 _ _ d3 _ _ d4 _ _ hd
    have h1 := mix_one ha hb
    have h2 := lose_one hc hd
    simp only [List.cons.injEq, and_true, DV.n.injEq] at h1 h2
    obtain ⟨rfl, rfl, rfl⟩ := h1
    obtain ⟨rfl, rfl, rfl, rfl, rfl⟩ := h2
    simp
end Go.Proofs.Ytalkhponnfggoaa
