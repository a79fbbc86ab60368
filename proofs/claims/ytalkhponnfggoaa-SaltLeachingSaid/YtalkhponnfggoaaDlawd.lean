/- DERIVED. A law of salt, walked: litres and grams are conserved. -/
import Derived.Test.YtalkhponnfggoaaDlawc
import Derived.Test.YtalkhponnfggoaaDtreed
namespace Go.Proofs.Ytalkhponnfggoaa
open Go.Dx Go.RowKit
set_option linter.unusedVariables false
set_option linter.unusedSimpArgs false
theorem held_mono {w0 w1 x y : Int} (h : okW w0 w1) (h0 : 0 ≤ x) (h1 : x ≤ y) : held w0 w1 x ≤ held w0 w1 y := by
  unfold okW at h
  have p0 : 0 ≤ w1 * x := Int.mul_nonneg (by omega) h0
  have p1 : w1 * x ≤ w1 * y := Int.mul_le_mul_of_nonneg_left h1 (by omega)
  unfold held
  rw [Int.tdiv_eq_ediv_of_nonneg p0, Int.tdiv_eq_ediv_of_nonneg (by omega)]
  by_cases hw : w0 = 0
  · rw [hw, Int.ediv_zero, Int.ediv_zero]; exact Int.le_refl _
  · exact Int.ediv_le_ediv (by omega) p1
theorem held_all {w0 w1 : Int} (h : okW w0 w1) : held w0 w1 w0 = w1 := by
  unfold okW at h
  by_cases hw : w0 = 0
  · unfold held; rw [hw, Int.tdiv_zero]; omega
  · unfold held; exact Int.mul_tdiv_cancel _ hw
theorem held_zero (w0 w1 : Int) : held w0 w1 0 = 0 := by unfold held; rw [Int.mul_zero, Int.zero_tdiv]
/-- One part of a split. -/
theorem part_ok {w0 w1 : Int} {d : DV} {n : Nat} (h : okW w0 w1) (hal : AllI d n) (hs : sm d 0 n = w0) {k : Nat} (hk : k < n) :
    (0 ≤ d.at k 0 ∧ d.at k 0 ≤ 1073741824) ∧ (0 ≤ held w0 w1 (sm d 0 (k + 1)) - held w0 w1 (sm d 0 k) ∧ held w0 w1 (sm d 0 (k + 1)) - held w0 w1 (sm d 0 k) ≤ 1073741824) ∧ (0 < d.at k 0 ∨ held w0 w1 (sm d 0 (k + 1)) - held w0 w1 (sm d 0 k) = 0) := by
  have hp := hal k hk
  have p0 := (smI hal k (by omega)).1
  have m1 := sm_mono hal (k := k + 1) (by omega)
  rw [hs] at m1
  have e : sm d 0 (k + 1) = sm d 0 k + d.at k 0 := rfl
  have q := held_mono h p0 (y := sm d 0 (k + 1)) (by omega)
  have b0 := held_bd h p0 (by omega)
  have b1 := held_bd h (x := sm d 0 (k + 1)) (by omega) m1
  have h2 := h
  unfold okW at h2
  refine ⟨hp, ⟨by omega, by omega⟩, ?_⟩
  by_cases c : 0 < d.at k 0
  · exact .inl c
  · exact .inr (by rw [e, show d.at k 0 = 0 by omega, Int.add_zero]; omega)
theorem cz_two (u v : Int) : cz [.n u, .n v] 0 = clampB u ∧ cz [.n u, .n v] 1 = clampB v := ⟨rfl, rfl⟩
theorem rows_get {w0 w1 : Int} {d : DV} {n k : Nat} (hk : k < n) : (rows w0 w1 d n)[k]? = some [.n (d.at k 0), .n (held w0 w1 (sm d 0 (k + 1)) - held w0 w1 (sm d 0 k))] := by
  unfold rows
  rw [List.getElem?_map, List.getElem?_range hk]; rfl
theorem part_cz {w0 w1 : Int} {d : DV} {n : Nat} (h : okW w0 w1) (hal : AllI d n) (hs : sm d 0 n = w0) {k : Nat} (hk : k < n) :
    cz [.n (d.at k 0), .n (held w0 w1 (sm d 0 (k + 1)) - held w0 w1 (sm d 0 k))] 0 = d.at k 0 ∧ cz [.n (d.at k 0), .n (held w0 w1 (sm d 0 (k + 1)) - held w0 w1 (sm d 0 k))] 1 = held w0 w1 (sm d 0 (k + 1)) - held w0 w1 (sm d 0 k) := by
  obtain ⟨a, b, c⟩ := part_ok h hal hs hk
  rw [(cz_two _ _).1, (cz_two _ _).2]
  exact ⟨clampB_eq (by omega) (by omega), clampB_eq (by omega) (by omega)⟩
theorem rows_ok {w0 w1 : Int} {d : DV} {n : Nat} (h : okW w0 w1) (hal : AllI d n) (hs : sm d 0 n = w0) : ∀ e ∈ rows w0 w1 d n, okE e := fun e he => by
  obtain ⟨k, hk⟩ := List.mem_iff_getElem?.1 he
  have hlt : k < n := by have := (List.getElem?_eq_some_iff.1 hk).1; rwa [rows_len] at this
  rw [rows_get hlt] at hk
  cases hk
  obtain ⟨a, b, c⟩ := part_ok h hal hs hlt
  unfold okE okW
  rw [(part_cz h hal hs hlt).1, (part_cz h hal hs hlt).2]
  omega
theorem rows_sum {w0 w1 : Int} {d : DV} {n : Nat} (h : okW w0 w1) (hal : AllI d n) (hs : sm d 0 n = w0) : ∀ m : Nat, m ≤ n → sl (rows w0 w1 d m) 0 = sm d 0 m ∧ sl (rows w0 w1 d m) 1 = held w0 w1 (sm d 0 m)
  | 0, _ => by simp [rows, sl, sm, held_zero]
  | m + 1, hm => by
    have ih := rows_sum h hal hs m (by omega)
    rw [rows_succ, sl_app, sl_app, ih.1, ih.2]
    have c := part_cz h hal hs (k := m) (by omega)
    simp only [sl, List.map_cons, List.map_nil, List.sum_cons, List.sum_nil, c.1, c.2]
    refine ⟨?_, by omega⟩
    show sm d 0 m + (d.at m 0 + 0) = sm d 0 m + d.at m 0
    omega
theorem row_at {w0 w1 : Int} {d : DV} {n : Nat} (h : okW w0 w1) (hal : AllI d n) (hs : sm d 0 n = w0) {i : Int} (i0 : 0 ≤ i) (i1 : i < n) :
    (DV.sl none 0 (rows w0 w1 d n)).at i 0 = d.at i 0 ∧ (DV.sl none 0 (rows w0 w1 d n)).at i 1 = held w0 w1 (sm d 0 (i.toNat + 1)) - held w0 w1 (sm d 0 i.toNat) := by
  have hi : ((i.toNat : Nat) : Int) = i := by omega
  have c := part_cz h hal hs (k := i.toNat) (by omega)
  have e := fun j => at_cz (DV.sl none 0 (rows w0 w1 d n)) i.toNat j
  rw [hi] at e c
  rw [e 0, e 1]
  show cz ((rows w0 w1 d n).getD i.toNat []) 0 = _ ∧ cz ((rows w0 w1 d n).getD i.toNat []) 1 = _
  rw [List.getD_eq_getElem?_getD, rows_get (show i.toNat < n by omega), Option.getD_some, hi]
  exact c
theorem split_inv {u v : Int} {d : DV} {o : List (List DV)} {e : Int} (h : SplitP u v d [.sl none 0 o, .n e]) : (e = 0 ∧ d.els.length ≤ 64 ∧ okW u v ∧ AllI d d.els.length ∧ sm d 0 d.els.length = u ∧ o = rows u v d d.els.length) ∨ (e ≠ 0 ∧ o = []) := by
  by_cases c1 : 64 < d.els.length
  · have := h.1 c1
    simp only [List.cons.injEq, DV.n.injEq, DV.sl.injEq, and_true, true_and] at this
    exact .inr ⟨by omega, this.1⟩
  · by_cases c2 : okW u v
    · by_cases c3 : AllI d d.els.length ∧ sm d 0 d.els.length = u
      · have := h.2.2.2 (by omega) c2 c3.1 c3.2
        simp only [List.cons.injEq, DV.n.injEq, DV.sl.injEq, and_true, true_and] at this
        exact .inl ⟨this.2, by omega, c2, c3.1, c3.2, this.1⟩
      · have := h.2.2.1 (by omega) c2 c3
        simp only [List.cons.injEq, DV.n.injEq, DV.sl.injEq, and_true, true_and] at this
        exact .inr ⟨by omega, this.1⟩
    · have := h.2.1 (by omega) c2
      simp only [List.cons.injEq, DV.n.injEq, DV.sl.injEq, and_true, true_and] at this
      exact .inr ⟨by omega, this.1⟩
theorem share_bd {s p n : Int} (s0 : 0 ≤ s) (p0 : 0 ≤ p) (p1 : p ≤ n) : 0 ≤ (s * p).tdiv n ∧ (s * p).tdiv n ≤ s := by
  have a0 : 0 ≤ s * p := Int.mul_nonneg s0 p0
  have a1 : s * p ≤ s * n := Int.mul_le_mul_of_nonneg_left p1 s0
  rw [Int.tdiv_eq_ediv_of_nonneg a0]
  by_cases hn : n = 0
  · rw [hn, Int.ediv_zero]; omega
  · exact ⟨Int.ediv_nonneg a0 (by omega), Int.ediv_le_of_le_mul (by omega) a1⟩
theorem lose_inv {l s ev p a b c d e : Int} (h : LoseP l s ev p [.n a, .n b, .n c, .n d, .n e]) : (e = 0 ∧ okW l s ∧ ((0 ≤ ev ∧ ev ≤ l) ∧ 0 ≤ p ∧ p ≤ l - ev) ∧ ¬ (ev = l ∧ 0 < s) ∧ a = l - ev - p ∧ b = s - (s * p).tdiv (l - ev) ∧ c = p ∧ d = (s * p).tdiv (l - ev)) ∨ e ≠ 0 := by
  by_cases c1 : okW l s
  · by_cases c2 : ((0 ≤ ev ∧ ev ≤ l) ∧ 0 ≤ p ∧ p ≤ l - ev)
    · by_cases c3 : ev = l ∧ 0 < s
      · have := h.2.2.1 c1 c2 c3
        simp only [List.cons.injEq, DV.n.injEq, and_true] at this
        exact .inr (by omega)
      · have := h.2.2.2 c1 c2 c3
        simp only [List.cons.injEq, DV.n.injEq, and_true] at this
        exact .inl ⟨this.2.2.2.2, c1, c2, c3, this.1, this.2.1, this.2.2.1, this.2.2.2.1⟩
    · have := h.2.1 c1 c2
      simp only [List.cons.injEq, DV.n.injEq, and_true] at this
      exact .inr (by omega)
  · have := h.1 c1
    simp only [List.cons.injEq, DV.n.injEq, and_true] at this
    exact .inr (by omega)
theorem leach_inv {h f l s a b c d e : Int} (k : LeachP h f l s [.n a, .n b, .n c, .n d, .n e]) : (e = 430 ∧ a = 0 ∧ b = 0 ∧ c = 0 ∧ d = 0 ∧ ¬ okL h f l s) ∨ (e = 0 ∧ okL h f l s ∧ a = h ∧ b = s + f - ((s + f) * l).tdiv (l + h) ∧ c = l ∧ d = ((s + f) * l).tdiv (l + h)) := by
  by_cases q : okL h f l s
  · have := k.2 q
    simp only [List.cons.injEq, DV.n.injEq, and_true] at this
    exact .inr ⟨this.2.2.2.2, q, this.1, this.2.1, this.2.2.1, this.2.2.2.1⟩
  · have := k.1 q
    simp only [List.cons.injEq, DV.n.injEq, and_true] at this
    exact .inl ⟨this.2.2.2.2, this.1, this.2.1, this.2.2.1, this.2.2.2.1, q⟩
theorem cons_lose {l s ev p a b c d e : Int} (h : LoseP l s ev p [.n a, .n b, .n c, .n d, .n e]) : ¬ (e = 0 ∧ ((((¬ IntKind.i64.wrap (IntKind.i64.wrap (a + c) + ev) = l ∨ ¬ IntKind.i64.wrap (b + d) = s) ∨ ¬ c = p) ∨ b < 0) ∨ d < 0)) := by
  rcases lose_inv h with ⟨e0, h1, h2, h3, rfl, rfl, rfl, rfl⟩ | h1
  · have q := h1
    unfold okW at q
    have sb := share_bd (s := s) (p := c) (n := l - ev) (by omega) (by omega) (by omega)
    rw [wrap_id (x := l - ev - c + c) (by omega) (by omega), wrap_id (x := l - ev - c + c + ev) (by omega) (by omega), wrap_id (x := s - (s * c).tdiv (l - ev) + (s * c).tdiv (l - ev)) (by omega) (by omega)]
    omega
  · omega
theorem cons_leach {h f l s a b c d e : Int} (k : LeachP h f l s [.n a, .n b, .n c, .n d, .n e]) : ((¬ e = 0 ∧ c = 0 ∧ d = 0) ∧ a = 0 ∧ b = 0) ∨ (((((e = 0 ∧ a = h) ∧ c = l) ∧ IntKind.i64.wrap (b + d) = IntKind.i64.wrap (f + s)) ∧ 0 ≤ b) ∧ 0 ≤ d) := by
  rcases leach_inv k with ⟨rfl, rfl, rfl, rfl, rfl, _⟩ | ⟨rfl, q, rfl, rfl, rfl, rfl⟩
  · exact .inl ⟨⟨by decide, rfl, rfl⟩, rfl, rfl⟩
  · have q2 := q
    unfold okL okW at q2
    have sb := share_bd (s := s + f) (p := c) (n := c + a) (by omega) (by omega) (by omega)
    refine .inr ⟨⟨⟨⟨⟨rfl, rfl⟩, rfl⟩, ?_⟩, by omega⟩, by omega⟩
    congr 1; omega
theorem SaltConserved_any (v0 v1 v2 v3 v4 : Value) (w : World) (g0 : PairA v0) (g1 : SliceA w ints v1) (g2 : ∃ a, v2 = .int .i64 a ∧ I64 a) (g3 : ∃ a, v3 = .int .i64 a ∧ I64 a) (g4 : PairA v4) : Calls Try.prog 6 #[v0, v1, v2, v3, v4] w fun e w' => e = .returned (.bool true) ∧ Below w.heap.size w w' := by
  obtain ⟨x, y, rfl, hx, hy⟩ := g0
  obtain ⟨a, ha⟩ := g1
  obtain ⟨ev, rfl, hev⟩ := g2
  obtain ⟨p, rfl, hp⟩ := g3
  obtain ⟨h, f, rfl, hh, hf⟩ := g4
  refine law_of_walk (tb := tb) (P := Try.prog) fine (C := [cSane, cSplit, cMix, cLose, cLeach, lCons]) (conCons cSane_ok (conCons cSplit_ok (conCons cMix_ok (conCons cLose_ok (conCons cLeach_ok (lopCons rfl noCon)))))) 80 6 [.agg wat, .c ints, .c i64s, .c i64s, .agg wat] rfl (w := w) (xs := [.n x, .n y, .sl none 0 a, .n ev, .n p, .n h, .n f]) (vs := [.agg #[.int .i64 x, .int .i64 y], v1, .int .i64 ev, .int .i64 p, .agg #[.int .i64 h, .int .i64 f]]) ?_ ?_
  · simp only [ArgsV]
    exact ⟨[.n x, .n y], [.sl none 0 a, .n ev, .n p, .n h, .n f], [.int .i64 x, .int .i64 y], rfl, rfl, cells_pair hx hy, ha, cell_int hev, cell_int hp, [.n h, .n f], [], [.int .i64 h, .int .i64 f], rfl, rfl, cells_pair hh hf, trivial⟩
  · have hs := ha.1
    rw [tree_cons]
    simp only [T.res, B.prop, E.den, E.dat, E.top, E.val, E.isD, DV.canon, DOp.fn, chunk, List.getElem?_cons_zero, List.getElem?_cons_succ, List.getD_cons_zero, List.getD_cons_succ, List.getD_nil, List.map_cons, List.map_nil, List.cons_append, List.nil_append, List.append_assoc, allB, cSane, lawCon, cSplit, cMix, cLose, cLeach, lCons, resB, resL', RSh.l, List.flatMap_cons, List.flatMap_nil, RC.vd, List.take_succ_cons, List.take_zero, List.drop_succ_cons, List.drop_zero, List.length_cons, List.length_nil, Nat.zero_add, Nat.reduceAdd, ints_len hs, getR 183 0, getR 183 1, getR 183 2, getR 183 3, getR 183 4, getR 183 5, getR 183 6, getR 183 7, getR 183 8, getR 183 9, true_and]
    have hels : ∀ o : List (List DV), (DV.sl none 0 o).els = o := fun _ => rfl
    simp only [DV.int, hels]
    intro z z0 z1 hz
    simp only [List.cons.injEq, and_true, DV.n.injEq] at hz
    subst hz
    refine ⟨fun h => absurd h (by decide), fun _ => ?_⟩
    intro l hl e _ _ hsp
    rcases split_inv hsp with ⟨rfl, s1, s2, s3, s4, rfl⟩ | ⟨s1, rfl⟩
    · refine ⟨fun _ => ?_, fun h => absurd rfl h⟩
      simp only [hels] at s1 s3 s4 ⊢
      have hr := rows_len x y (DV.sl none 0 a) a.length
      have hlen : (DV.sl none 0 (rows x y (DV.sl none 0 a) a.length)).len = (a.length : Int) := sl_len hr (by omega)
      have hsum := rows_sum s2 s3 s4 a.length (Nat.le_refl _)
      rw [s4, held_all s2] at hsum
      have q := s2
      unfold okW at q
      rw [hlen, hr]
      intro u _ _ v _ _ e _ _ hm
      have m := mix_ok hm (by rw [hels, hr]; omega) (by rw [hels]; exact rows_ok s2 s3 s4) (by rw [hels, hsum.1]; omega) (by rw [hels, hsum.2]; omega)
      rw [hels, hsum.1, hsum.2] at m
      simp only [List.cons.injEq, DV.n.injEq, and_true] at m
      obtain ⟨rfl, rfl, rfl⟩ := m
      refine ⟨fun h => absurd h (by simp), fun _ => ⟨by omega, fun i i0 _ hi => ⟨fun hlt => ⟨fun hb => ⟨fun h => absurd h ?_, fun _ => ⟨by omega, by omega⟩⟩, fun h => h ⟨i0, hlt⟩⟩, fun _ => ?_⟩⟩⟩
      · have r := row_at s2 s3 s4 i0 hlt
        have pk := part_ok s2 s3 s4 (k := i.toNat) (by omega)
        rw [r.1, r.2]
        omega
      · intro a1 _ _ b1 _ _ c1 _ _ d1 _ _ e1 _ _ k1
        refine ⟨fun h => absurd h (cons_lose k1), fun _ => ?_⟩
        intro a2 _ _ b2 _ _ c2 _ _ d2 _ _ e2 _ _ k2
        exact ⟨fun _ => trivial, fun h => absurd (cons_leach k2) h⟩
    · refine ⟨fun h => absurd h s1, fun _ => ⟨fun h => absurd h (by decide), fun _ => ?_⟩⟩
      intro a1 _ _ b1 _ _ c1 _ _ d1 _ _ e1 _ _ k1
      refine ⟨fun h => absurd h (cons_lose k1), fun _ => ?_⟩
      intro a2 _ _ b2 _ _ c2 _ _ d2 _ _ e2 _ _ k2
      exact ⟨fun _ => trivial, fun h => absurd (cons_leach k2) h⟩
end Go.Proofs.Ytalkhponnfggoaa
