/- DERIVED. Laws of salt, walked: splitting and leaching as the specification says. -/
import Derived.Test.YtalkhponnfggoaaDturns
namespace Go.Proofs.Ytalkhponnfggoaa
open Go.Dx Go.RowKit
set_option linter.unusedVariables false
set_option linter.unusedSimpArgs false
theorem split_one {u v : Int} {d : DV} {x y : List DV} (h : SplitP u v d x) (k : SplitP u v d y) : x = y := by
  obtain ⟨h1, h2, h3, h4⟩ := h
  obtain ⟨k1, k2, k3, k4⟩ := k
  by_cases c1 : 64 < d.els.length
  · rw [h1 c1, k1 c1]
  · by_cases c2 : okW u v
    · by_cases c3 : AllI d d.els.length ∧ sm d 0 d.els.length = u
      · rw [h4 (by omega) c2 c3.1 c3.2, k4 (by omega) c2 c3.1 c3.2]
      · rw [h3 (by omega) c2 c3, k3 (by omega) c2 c3]
    · rw [h2 (by omega) c2, k2 (by omega) c2]
theorem leach_one {h f l s : Int} {x y : List DV} (a : LeachP h f l s x) (b : LeachP h f l s y) : x = y := by
  by_cases c : okL h f l s
  · rw [a.2 c, b.2 c]
  · rw [a.1 c, b.1 c]
theorem turns_one {h f l s m lim : Int} {x y : List DV} (a : TurnsP h f l s m lim x) (b : TurnsP h f l s m lim y) : x = y := by
  by_cases c : okL h f l s
  · by_cases q : ((0 ≤ m ∧ m ≤ 400) ∧ 0 ≤ lim ∧ lim ≤ 1073741824)
    · by_cases e : ∃ k : Nat, (k : Int) ≤ m ∧ Hit h f l s lim k
      · obtain ⟨k, k1, k2⟩ := e
        rw [(a.2.2 c q).1 k k1 k2, (b.2.2 c q).1 k k1 k2]
      · have e : ∀ k : Nat, (k : Int) ≤ m → ¬ Hit h f l s lim k := fun k k1 k2 => e ⟨k, k1, k2⟩
        rw [(a.2.2 c q).2 e, (b.2.2 c q).2 e]
    · rw [a.2.1 c q, b.2.1 c q]
  · rw [a.1 c, b.1 c]
theorem SaltSplitSpec_any (v0 v1 : Value) (w : World) (g0 : PairA v0) (g1 : SliceA w ints v1) : Calls Try.prog 4 #[v0, v1] w fun e w' => e = .returned (.bool true) ∧ Below w.heap.size w w' := by
  obtain ⟨x, y, rfl, hx, hy⟩ := g0
  obtain ⟨l, hl⟩ := g1
  refine law_of_walk (tb := tb) (P := Try.prog) fine (C := [cSane, cSplit, cSplitR, cSame]) (conCons cSane_ok (conCons cSplit_ok (conCons cSplitR_ok (conCons cSame_ok noCon)))) 80 4 [.agg wat, .c ints] rfl (w := w) (xs := [.n x, .n y, .sl none 0 l]) (vs := [.agg #[.int .i64 x, .int .i64 y], v1]) ?_ ?_
  · simp only [ArgsV]
    exact ⟨[.n x, .n y], [.sl none 0 l], [.int .i64 x, .int .i64 y], rfl, rfl, cells_pair hx hy, hl, trivial⟩
  · rw [tree_splitSpec]
    simp only [T.res, B.prop, E.den, E.dat, E.top, E.val, E.isD, DV.canon, List.getElem?_cons_zero, List.getElem?_cons_succ, List.getD_cons_zero, List.getD_cons_succ, List.getD_nil, List.map_cons, List.map_nil, List.cons_append, List.nil_append, allB, cSane, lawCon, cSplit, cSplitR, cSame, resB, resL', RSh.l, List.flatMap_cons, List.flatMap_nil, RC.vd, true_and]
    intro z z0 z1 hz
    simp only [List.cons.injEq, and_true, DV.n.injEq] at hz
    subst hz
    refine ⟨fun h => absurd h (by simp [DV.int]), fun _ => ⟨fun _ => trivial, fun _ => ?_⟩⟩
    intro a _ e _ _ ha b _ f _ _ hb r _ _ hr
    have h1 := split_one ha hb
    simp only [List.cons.injEq, and_true, DV.n.injEq, DV.sl.injEq, true_and] at h1
    obtain ⟨rfl, rfl⟩ := h1
    have := hr.1 rfl
    simp only [DV.n.injEq] at this
    subst this
    simp [DV.int]
theorem SaltLeachSpec_any (v0 v1 v2 v3 : Value) (w : World) (g0 : PairA v0) (g1 : PairA v1) (g2 : ∃ a, v2 = .int .i64 a ∧ I64 a) (g3 : ∃ a, v3 = .int .i64 a ∧ I64 a) : Calls Try.prog 5 #[v0, v1, v2, v3] w fun e w' => e = .returned (.bool true) ∧ Below w.heap.size w w' := by
  obtain ⟨x, y, rfl, hx, hy⟩ := g0
  obtain ⟨l, s, rfl, hl, hs⟩ := g1
  obtain ⟨m, rfl, hm⟩ := g2
  obtain ⟨n, rfl, hn⟩ := g3
  refine law_of_walk (tb := tb) (P := Try.prog) fine (C := [cSane, cLeach, cLeachR, cTurns, cTurnsR]) (conCons cSane_ok (conCons cLeach_ok (conCons cLeachR_ok (conCons cTurns_ok (conCons cTurnsR_ok noCon))))) 80 5 [.agg wat, .agg wat, .c i64s, .c i64s] rfl (w := w) (xs := [.n x, .n y, .n l, .n s, .n m, .n n]) (vs := [.agg #[.int .i64 x, .int .i64 y], .agg #[.int .i64 l, .int .i64 s], .int .i64 m, .int .i64 n]) ?_ ?_
  · simp only [ArgsV]
    exact ⟨[.n x, .n y], [.n l, .n s, .n m, .n n], [.int .i64 x, .int .i64 y], rfl, rfl, cells_pair hx hy, [.n l, .n s], [.n m, .n n], [.int .i64 l, .int .i64 s], rfl, rfl, cells_pair hl hs, cell_int hm, cell_int hn, trivial⟩
  · rw [tree_leachSpec]
    simp only [T.res, B.prop, E.den, E.dat, E.top, E.val, E.isD, DV.canon, List.getElem?_cons_zero, List.getElem?_cons_succ, List.getD_cons_zero, List.getD_cons_succ, List.getD_nil, List.map_cons, List.map_nil, List.cons_append, List.nil_append, allB, cSane, lawCon, cLeach, cLeachR, cTurns, cTurnsR, resB, resL', RSh.l, List.flatMap_cons, List.flatMap_nil, RC.vd, true_and]
    intro z z0 z1 hz
    simp only [List.cons.injEq, and_true, DV.n.injEq] at hz
    subst hz
    refine ⟨fun h => absurd h (by simp [DV.int]), fun _ => ?_⟩
    intro a0 _ _ a1 _ _ a2 _ _ a3 _ _ a4 _ _ ha b0 _ _ b1 _ _ b2 _ _ b3 _ _ b4 _ _ hb c0 _ _ c1 _ _ c2 _ _ hc d0 _ _ d1 _ _ d2 _ _ hd
    have h1 := leach_one ha hb
    have h2 := turns_one hc hd
    simp only [List.cons.injEq, and_true, DV.n.injEq] at h1 h2
    obtain ⟨rfl, rfl, rfl, rfl, rfl⟩ := h1
    obtain ⟨rfl, rfl, rfl⟩ := h2
    simp only [DV.int]
    refine ⟨fun _ => trivial, fun g => absurd ?_ g⟩
    by_cases q : c1 = 0 <;> simp [q]
end Go.Proofs.Ytalkhponnfggoaa
