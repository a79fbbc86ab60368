/- DERIVED. A law of salt, walked: shares. -/
import Derived.Test.YtalkhponnfggoaaDtreee
namespace Go.Proofs.Ytalkhponnfggoaa
open Go.Dx Go.RowKit
set_option linter.unusedVariables false
set_option linter.unusedSimpArgs false
theorem floor_bd {n t : Int} (hn : 0 < n) (ht : 0 ≤ t) : t.tdiv n * n ≤ t ∧ t < t.tdiv n * n + n ∧ 0 ≤ t.tdiv n * n := by
  rw [Int.tdiv_eq_ediv_of_nonneg ht]
  have h1 := Int.ediv_mul_le t (show n ≠ 0 by omega)
  have h2 := Int.lt_ediv_add_one_mul_self t hn
  rw [Int.add_mul, Int.one_mul] at h2
  have h3 : 0 ≤ t / n * n := Int.mul_nonneg (Int.ediv_nonneg ht (by omega)) (by omega)
  exact ⟨h1, h2, h3⟩
theorem mul_bd {s p : Int} (s0 : 0 ≤ s) (s1 : s ≤ 1073741824) (p0 : 0 ≤ p) (p1 : p ≤ 1073741824) : 0 ≤ s * p ∧ s * p ≤ 1152921504606846976 := by
  have a0 : 0 ≤ s * p := Int.mul_nonneg s0 p0
  have a1 : s * p ≤ 1073741824 * 1073741824 := Int.mul_le_mul s1 p1 p0 (by decide)
  omega
/-- A share, rounded down. -/
theorem share_near {n s p g : Int} (n0 : 0 < n) (n1 : n ≤ 1073741824) (s0 : 0 ≤ s) (s1 : s ≤ 1073741824) (p0 : 0 ≤ p) (p1 : p ≤ n) (hg : g = (s * p).tdiv n) :
    ¬ ((n < p ∨ ¬ (IntKind.i64.wrap (0 - n) < IntKind.i64.wrap (IntKind.i64.wrap (g * n) - IntKind.i64.wrap (s * p)) ∧ IntKind.i64.wrap (IntKind.i64.wrap (g * n) - IntKind.i64.wrap (s * p)) < n)) ∨ IntKind.i64.wrap (s * p) < IntKind.i64.wrap (g * n)) := by
  have m := mul_bd s0 s1 p0 (by omega)
  have f := floor_bd n0 m.1
  rw [← hg] at f
  rw [wrap_id (x := 0 - n) (by omega) (by omega), wrap_id (x := g * n) (by omega) (by omega), wrap_id (x := s * p) (by omega) (by omega), wrap_id (x := g * n - s * p) (by omega) (by omega)]
  omega
/-- A part of a split is near to its share. -/
theorem part_near {u v : Int} {d : DV} {n : Nat} (h : okW u v) (hal : AllI d n) (hs : sm d 0 n = u) {k : Nat} (hk : k < n) {g : Int} (hg : g = held u v (sm d 0 (k + 1)) - held u v (sm d 0 k)) :
    ¬ ((0 < u ∧ (u < d.at k 0 ∨ ¬ (0 - u < IntKind.i64.wrap (IntKind.i64.wrap (g * u) - IntKind.i64.wrap (v * d.at k 0)) ∧ IntKind.i64.wrap (IntKind.i64.wrap (g * u) - IntKind.i64.wrap (v * d.at k 0)) < u))) ∨ (u = 0 ∧ ¬ g = 0)) := by
  have q := h
  unfold okW at q
  have hp := hal k hk
  have p0 := (smI hal k (by omega)).1
  have m1 := sm_mono hal (k := k + 1) (by omega)
  rw [hs] at m1
  have e : sm d 0 (k + 1) = sm d 0 k + d.at k 0 := rfl
  by_cases hu : u = 0
  · have z := fun x => split_zero (d := d) h (show ¬ 0 < u by omega) x 0
    rw [z, z] at hg
    omega
  · have b0 := held_bd h p0 (by omega)
    have b1 := held_bd h (x := sm d 0 (k + 1)) (by omega) m1
    have f0 := floor_bd (n := u) (t := v * sm d 0 k) (by omega) b0.2.2.1
    have f1 := floor_bd (n := u) (t := v * sm d 0 (k + 1)) (by omega) b1.2.2.1
    have e2 : v * sm d 0 (k + 1) = v * sm d 0 k + v * d.at k 0 := by rw [e, Int.mul_add]
    have e3 : g * u = held u v (sm d 0 (k + 1)) * u - held u v (sm d 0 k) * u := by rw [hg, Int.sub_mul]
    have m := mul_bd (s := v) (p := d.at k 0) (by omega) (by omega) hp.1 hp.2
    unfold held at e3
    rw [wrap_id (x := g * u) (by omega) (by omega), wrap_id (x := v * d.at k 0) (by omega) (by omega), wrap_id (x := g * u - v * d.at k 0) (by omega) (by omega)]
    omega
theorem SaltShares_any (v0 v1 v2 v3 v4 : Value) (w : World) (g0 : PairA v0) (g1 : SliceA w ints v1) (g2 : ∃ a, v2 = .int .i64 a ∧ I64 a) (g3 : ∃ a, v3 = .int .i64 a ∧ I64 a) (g4 : PairA v4) : Calls Try.prog 7 #[v0, v1, v2, v3, v4] w fun e w' => e = .returned (.bool true) ∧ Below w.heap.size w w' := by
  obtain ⟨x, y, rfl, hx, hy⟩ := g0
  obtain ⟨a, ha⟩ := g1
  obtain ⟨ev, rfl, hev⟩ := g2
  obtain ⟨p, rfl, hp⟩ := g3
  obtain ⟨h, f, rfl, hh, hf⟩ := g4
  refine law_of_walk (tb := tb) (P := Try.prog) fine (C := [cSane, cSplit, cLose, cLeach, lShr]) (conCons cSane_ok (conCons cSplit_ok (conCons cLose_ok (conCons cLeach_ok (lopCons rfl noCon))))) 80 7 [.agg wat, .c ints, .c i64s, .c i64s, .agg wat] rfl (w := w) (xs := [.n x, .n y, .sl none 0 a, .n ev, .n p, .n h, .n f]) (vs := [.agg #[.int .i64 x, .int .i64 y], v1, .int .i64 ev, .int .i64 p, .agg #[.int .i64 h, .int .i64 f]]) ?_ ?_
  · simp only [ArgsV]
    exact ⟨[.n x, .n y], [.sl none 0 a, .n ev, .n p, .n h, .n f], [.int .i64 x, .int .i64 y], rfl, rfl, cells_pair hx hy, ha, cell_int hev, cell_int hp, [.n h, .n f], [], [.int .i64 h, .int .i64 f], rfl, rfl, cells_pair hh hf, trivial⟩
  · have hs := ha.1
    rw [tree_shares]
    simp only [T.res, B.prop, E.den, E.dat, E.top, E.val, E.isD, DV.canon, DOp.fn, chunk, List.getElem?_cons_zero, List.getElem?_cons_succ, List.getD_cons_zero, List.getD_cons_succ, List.getD_nil, List.map_cons, List.map_nil, List.cons_append, List.nil_append, List.append_assoc, allB, cSane, lawCon, cSplit, cLose, cLeach, lShr, resB, resL', RSh.l, List.flatMap_cons, List.flatMap_nil, RC.vd, List.take_succ_cons, List.take_zero, List.drop_succ_cons, List.drop_zero, List.length_cons, List.length_nil, Nat.zero_add, Nat.reduceAdd, ints_len hs, getR 172 0, getR 172 1, getR 172 2, getR 172 3, getR 172 4, getR 172 5, getR 172 6, getR 172 7, getR 172 8, getR 172 9, true_and]
    have hels : ∀ o : List (List DV), (DV.sl none 0 o).els = o := fun _ => rfl
    simp only [DV.int, hels]
    intro z z0 z1 hz
    simp only [List.cons.injEq, and_true, DV.n.injEq] at hz
    subst hz
    refine ⟨fun h => absurd h (by decide), fun _ => ⟨fun _ => trivial, fun hw => ?_⟩⟩
    have hw : okW x y := Classical.not_not.1 hw
    have q := hw
    unfold okW at q
    have leach : ∀ a2 b2 c2 d2 e2 : Int, LeachP h f x y [.n a2, .n b2, .n c2, .n d2, .n e2] → e2 = 0 → ¬ ((IntKind.i64.wrap (h + x) < c2 ∨ ¬ (IntKind.i64.wrap (0 - IntKind.i64.wrap (h + x)) < IntKind.i64.wrap (IntKind.i64.wrap (d2 * IntKind.i64.wrap (h + x)) - IntKind.i64.wrap (IntKind.i64.wrap (f + y) * c2)) ∧ IntKind.i64.wrap (IntKind.i64.wrap (d2 * IntKind.i64.wrap (h + x)) - IntKind.i64.wrap (IntKind.i64.wrap (f + y) * c2)) < IntKind.i64.wrap (h + x))) ∨ IntKind.i64.wrap (IntKind.i64.wrap (f + y) * c2) < IntKind.i64.wrap (d2 * IntKind.i64.wrap (h + x))) := by
      intro a2 b2 c2 d2 e2 k2 he
      rcases leach_inv k2 with ⟨rfl, _⟩ | ⟨_, ok, rfl, rfl, rfl, rfl⟩
      · omega
      · have o := ok
        unfold okL okW at o
        rw [wrap_id (x := a2 + c2) (by omega) (by omega), wrap_id (x := f + y) (by omega) (by omega), Int.add_comm a2 c2, Int.add_comm f y]
        exact share_near (n := c2 + a2) (s := y + f) (p := c2) (by omega) (by omega) (by omega) (by omega) (by omega) (by omega) rfl
    have lose : ∀ a1 b1 c1 d1 e1 : Int, LoseP x y ev p [.n a1, .n b1, .n c1, .n d1, .n e1] → (e1 = 0 ∧ ev < x) → ¬ ((IntKind.i64.wrap (x - ev) < c1 ∨ ¬ (IntKind.i64.wrap (0 - IntKind.i64.wrap (x - ev)) < IntKind.i64.wrap (IntKind.i64.wrap (d1 * IntKind.i64.wrap (x - ev)) - IntKind.i64.wrap (y * c1)) ∧ IntKind.i64.wrap (IntKind.i64.wrap (d1 * IntKind.i64.wrap (x - ev)) - IntKind.i64.wrap (y * c1)) < IntKind.i64.wrap (x - ev))) ∨ IntKind.i64.wrap (y * c1) < IntKind.i64.wrap (d1 * IntKind.i64.wrap (x - ev))) := by
      intro a1 b1 c1 d1 e1 k1 he
      rcases lose_inv k1 with ⟨_, _, h2, h3, rfl, rfl, rfl, rfl⟩ | h1
      · rw [wrap_id (x := x - ev) (by omega) (by omega)]
        exact share_near (n := x - ev) (s := y) (p := c1) (by omega) (by omega) (by omega) (by omega) (by omega) (by omega) rfl
      · omega
    intro l hl e _ _ hsp
    have round : ∀ i : Int, 0 ≤ i → i < (DV.sl none 0 l).len → ¬ ((0 < x ∧ (x < (DV.sl none 0 l).at i 0 ∨ ¬ (0 - x < IntKind.i64.wrap (IntKind.i64.wrap ((DV.sl none 0 l).at i 1 * x) - IntKind.i64.wrap (y * (DV.sl none 0 l).at i 0)) ∧ IntKind.i64.wrap (IntKind.i64.wrap ((DV.sl none 0 l).at i 1 * x) - IntKind.i64.wrap (y * (DV.sl none 0 l).at i 0)) < x))) ∨ (x = 0 ∧ ¬ (DV.sl none 0 l).at i 1 = 0)) := by
      intro i i0 i1
      rcases split_inv hsp with ⟨rfl, s1, s2, s3, s4, rfl⟩ | ⟨s1, rfl⟩
      · simp only [hels] at s1 s3 s4 i1 ⊢
        have hr := rows_len x y (DV.sl none 0 a) a.length
        have hlen : (DV.sl none 0 (rows x y (DV.sl none 0 a) a.length)).len = (a.length : Int) := sl_len hr (by omega)
        rw [hlen] at i1
        have r := row_at s2 s3 s4 i0 i1
        have pn := part_near s2 s3 s4 (k := i.toNat) (by omega) rfl
        rw [show ((i.toNat : Nat) : Int) = i by omega] at pn
        rw [r.1, r.2]
        exact pn
      · have : (DV.sl none 0 []).len = 0 := rfl
        omega
    have hlen : (DV.sl none 0 l).len = (l.length : Int) := wats_len hl
    have hnone : ¬ (¬ e = 0 ∧ 0 < (DV.sl none 0 l).len) := by
      rcases split_inv hsp with ⟨rfl, _⟩ | ⟨_, rfl⟩
      · omega
      · have : (DV.sl none 0 []).len = 0 := rfl
        omega
    refine ⟨by omega, fun i i0 _ hi => ⟨fun hlt => ⟨fun hb => absurd hb (round i i0 hlt), fun _ => ⟨by omega, by omega⟩⟩, fun _ => ⟨fun h => absurd h hnone, fun _ => ?_⟩⟩⟩
    intro a1 _ _ b1 _ _ c1 _ _ d1 _ _ e1 _ _ k1
    refine ⟨fun he => ⟨fun hb => absurd hb (lose _ _ _ _ _ k1 he), fun _ => ?_⟩, fun _ => ?_⟩
    · intro a2 _ _ b2 _ _ c2 _ _ d2 _ _ e2 _ _ k2
      exact ⟨fun he => ⟨fun hb => absurd hb (leach _ _ _ _ _ k2 he), fun _ => trivial⟩, fun _ => trivial⟩
    · intro a2 _ _ b2 _ _ c2 _ _ d2 _ _ e2 _ _ k2
      exact ⟨fun he => ⟨fun hb => absurd hb (leach _ _ _ _ _ k2 he), fun _ => trivial⟩, fun _ => trivial⟩
end Go.Proofs.Ytalkhponnfggoaa
