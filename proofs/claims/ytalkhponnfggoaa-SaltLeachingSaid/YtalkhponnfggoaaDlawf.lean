/- DERIVED. A law of salt, walked: leaching. -/
import Derived.Test.YtalkhponnfggoaaDtreef
namespace Go.Proofs.Ytalkhponnfggoaa
open Go.Dx Go.RowKit
set_option linter.unusedVariables false
set_option linter.unusedSimpArgs false
theorem okL_less {h f l s g : Int} (k : okL h f l s) (g0 : 0 ≤ g) (g1 : g ≤ f) : okL h g l s := by
  unfold okL okW at *
  omega
theorem stp_mono {h f l s g : Int} (k : okL h f l s) (g0 : 0 ≤ g) (g1 : g ≤ f) : stp h l s g ≤ stp h l s f := by
  unfold okL okW at k
  have p0 : 0 ≤ (s + g) * l := Int.mul_nonneg (by omega) (by omega)
  have p1 : 0 ≤ (s + f) * l := Int.mul_nonneg (by omega) (by omega)
  unfold stp
  rw [Int.tdiv_eq_ediv_of_nonneg p0, Int.tdiv_eq_ediv_of_nonneg p1]
  have e1 : (s + f) * l = (s + g) * l + (f - g) * l := by rw [← Int.add_mul]; congr 1; omega
  have e2 : (f - g) * l ≤ (f - g) * (l + h) := Int.mul_le_mul_of_nonneg_left (by omega) (by omega)
  have e3 : (s + f) * l / (l + h) ≤ ((s + g) * l + (f - g) * (l + h)) / (l + h) := Int.ediv_le_ediv (by omega) (by omega)
  rw [Int.add_mul_ediv_right _ _ (by omega)] at e3
  omega
theorem stp_fresh {h f l s : Int} (k : okL h f l s) (q : s * h ≤ f * l) : stp h l s f ≤ f := by
  unfold okL okW at k
  have p1 : 0 ≤ (s + f) * l := Int.mul_nonneg (by omega) (by omega)
  unfold stp
  rw [Int.tdiv_eq_ediv_of_nonneg p1]
  have e : s * (l + h) ≤ (s + f) * l := by rw [Int.mul_add, Int.add_mul]; omega
  have := (Int.le_ediv_iff_mul_le (show 0 < l + h by omega)).2 e
  omega
/-- A field with less salt is never ahead. -/
theorem st_mono {h f l s g : Int} (g0 : 0 ≤ g) (g1 : g ≤ f) : ∀ n : Nat, (∀ j : Nat, j < n → okL h (st h f l s j) l s) → 0 ≤ st h g l s n ∧ st h g l s n ≤ st h f l s n
  | 0, _ => ⟨g0, g1⟩
  | n + 1, k => by
    have ih := st_mono g0 g1 n fun j hj => k j (by omega)
    have kn := k n (by omega)
    have b := stp_bd (okL_less kn ih.1 ih.2)
    exact ⟨b.1, stp_mono kn ih.1 ih.2⟩
theorem least {p : Nat → Prop} : ∀ n : Nat, p n → ∃ k, k ≤ n ∧ p k ∧ ∀ j, j < k → ¬ p j := fun n h => by
  induction n using Nat.strongRecOn with
  | ind n ih =>
    by_cases e : ∃ j, j < n ∧ p j
    · obtain ⟨j, hj, hp⟩ := e
      obtain ⟨k, h1, h2, h3⟩ := ih j hj hp
      exact ⟨k, by omega, h2, h3⟩
    · exact ⟨n, Nat.le_refl n, h, fun j hj hp => e ⟨j, hj, hp⟩⟩
theorem hit_less {h f l s lim g lim2 : Int} {n : Nat} (a : Hit h f l s lim n) (g0 : 0 ≤ g) (g1 : g ≤ f) (hl : lim ≤ lim2) : ∃ k : Nat, k ≤ n ∧ Hit h g l s lim2 k := by
  have m := fun j (hj : j ≤ n) => st_mono (h := h) (l := l) (s := s) g0 g1 j fun i hi => (a.2 i (by omega)).2
  obtain ⟨k, k1, k2, k3⟩ := least (p := fun j => st h g l s j ≤ lim2) n (by have := m n (Nat.le_refl n); have := a.1; omega)
  refine ⟨k, k1, k2, fun j hj => ⟨by have := k3 j hj; omega, ?_⟩⟩
  exact okL_less (a.2 j (by omega)).2 (m j (by omega)).1 (m j (by omega)).2
theorem turns_inv {h f l s m lim n o e : Int} (k : TurnsP h f l s m lim [.n n, .n o, .n e]) : (e = 430 ∧ n = 0 ∧ o = 0 ∧ ¬ okL h f l s) ∨ (e = 1 ∧ n = 0 ∧ o = 0 ∧ okL h f l s) ∨
    (e = 0 ∧ okL h f l s ∧ ((0 ≤ m ∧ m ≤ 400) ∧ 0 ≤ lim ∧ lim ≤ 1073741824) ∧ ((o = 1 ∧ 0 ≤ n ∧ n ≤ m ∧ Hit h f l s lim n.toNat) ∨ (o = 0 ∧ n = 0 ∧ ∀ j : Nat, (j : Int) ≤ m → ¬ Hit h f l s lim j))) := by
  by_cases c : okL h f l s
  · by_cases q : ((0 ≤ m ∧ m ≤ 400) ∧ 0 ≤ lim ∧ lim ≤ 1073741824)
    · by_cases x : ∃ j : Nat, (j : Int) ≤ m ∧ Hit h f l s lim j
      · obtain ⟨j, j1, j2⟩ := x
        have := (k.2.2 c q).1 j j1 j2
        simp only [List.cons.injEq, DV.n.injEq, and_true] at this
        obtain ⟨rfl, rfl, rfl⟩ := this
        exact .inr (.inr ⟨rfl, c, q, .inl ⟨rfl, by omega, j1, by rw [Int.toNat_natCast]; exact j2⟩⟩)
      · have x : ∀ j : Nat, (j : Int) ≤ m → ¬ Hit h f l s lim j := fun j j1 j2 => x ⟨j, j1, j2⟩
        have := (k.2.2 c q).2 x
        simp only [List.cons.injEq, DV.n.injEq, and_true] at this
        exact .inr (.inr ⟨this.2.2, c, q, .inr ⟨this.2.1, this.1, x⟩⟩)
    · have := k.2.1 c q
      simp only [List.cons.injEq, DV.n.injEq, and_true] at this
      exact .inr (.inl ⟨this.2.2, this.1, this.2.1, c⟩)
  · have := k.1 c
    simp only [List.cons.injEq, DV.n.injEq, and_true] at this
    exact .inl ⟨this.2.2, this.1, this.2.1, c⟩
theorem mul_bd2 {s p : Int} (s0 : 0 ≤ s) (s1 : s ≤ 1073741824) (p0 : 0 ≤ p) (p1 : p ≤ 1073741824) : 0 ≤ s * p ∧ s * p ≤ 1152921504606846976 := by
  have a0 : 0 ≤ s * p := Int.mul_nonneg s0 p0
  have a1 : s * p ≤ 1073741824 * 1073741824 := Int.mul_le_mul s1 p1 p0 (by decide)
  omega
theorem lea_fresh {h f l s : Int} (ok : okL h f l s) : ¬ (IntKind.i64.wrap (s * h) ≤ IntKind.i64.wrap (f * l) ∧ f < s + f - ((s + f) * l).tdiv (l + h)) := by
  have o := ok
  unfold okL okW at o
  have b1 := mul_bd2 (s := s) (p := h) (by omega) (by omega) (by omega) (by omega)
  have b2 := mul_bd2 (s := f) (p := l) (by omega) (by omega) (by omega) (by omega)
  rw [wrap_id (x := s * h) (by omega) (by omega), wrap_id (x := f * l) (by omega) (by omega)]
  rintro ⟨q1, q2⟩
  have := stp_fresh ok q1
  unfold stp at this
  omega
theorem turns0 {h f l s m lim : Int} (hm : 0 ≤ m) : turnsI h f l s m lim 0 h f := ⟨by omega, rfl, rfl, fun j hj => absurd hj (by simp)⟩
theorem wf_u16 {n : Int} (h : (Lit.int .u16 n).wf = true) : 0 ≤ n ∧ n ≤ 65535 := by
  simp [Lit.wf, IntKind.min, IntKind.max, IntKind.signed, IntKind.bits] at h
  exact ⟨by omega, by omega⟩
theorem lea_pre (h f l s m lim c6 c7 c8 c9 c10 c11 c12 c13 c14 c15 c16 i lo a b : DV) : lLea.pre [h, f, l, s, m, lim, c6, c7, c8, c9, c10, c11, c12, c13, c14, c15, c16, i, lo, a, b] = (lo.int = 0 → (c15.int = 0 ∨ i.int ≤ c14.int) → turnsI h.int f.int l.int s.int m.int lim.int i.int a.int b.int) := rfl
theorem lea_mea (h f l s m lim c6 c7 c8 c9 c10 c11 c12 c13 c14 c15 c16 i lo a b : DV) : lLea.mea [h, f, l, s, m, lim, c6, c7, c8, c9, c10, c11, c12, c13, c14, c15, c16, i, lo, a, b] = (m.int + 1 - i.int).toNat := rfl
theorem lea_bnd : lLea.bnd = [big, .i 0 1, oneB, oneB] := rfl
theorem SaltLeaching_any (v0 v1 v2 v3 v4 v5 : Value) (w : World) (g0 : PairA v0) (g1 : PairA v1) (g2 : ∃ a, v2 = .int .i64 a ∧ I64 a) (g3 : ∃ a, v3 = .int .i64 a ∧ I64 a) (g4 : ∃ a : Int, v4 = .int .u16 a ∧ 0 ≤ a ∧ a ≤ 65535) (g5 : ∃ a : Int, v5 = .int .u16 a ∧ 0 ≤ a ∧ a ≤ 65535) : Calls Try.prog 10 #[v0, v1, v2, v3, v4, v5] w fun e w' => e = .returned (.bool true) ∧ Below w.heap.size w w' := by
  obtain ⟨h, f, rfl, hh, hf⟩ := g0
  obtain ⟨l, s, rfl, hl, hs⟩ := g1
  obtain ⟨m, rfl, hm⟩ := g2
  obtain ⟨lim, rfl, hlim⟩ := g3
  obtain ⟨x, rfl, hx⟩ := g4
  obtain ⟨y, rfl, hy⟩ := g5
  have c16 : ∀ c : Int, 0 ≤ c ∧ c ≤ 65535 → cellA w u16s (.n c) (.int .u16 c) := fun c hc => by
    refine ⟨?_, rfl⟩
    simp only [HasSh]
    exact ⟨c, rfl, hc, by simpa [kmin, IntKind.signed] using hc.1, by simpa [kmax, IntKind.signed, IntKind.bits] using hc.2⟩
  refine law_of_walk (tb := tb) (P := Try.prog) fine (C := [cSane, cLeach, cTurns, lLea]) (conCons cSane_ok (conCons cLeach_ok (conCons cTurns_ok (lopCons rfl noCon)))) 80 10 [.agg wat, .agg wat, .c i64s, .c i64s, .c u16s, .c u16s] rfl (w := w) (xs := [.n h, .n f, .n l, .n s, .n m, .n lim, .n x, .n y]) (vs := [.agg #[.int .i64 h, .int .i64 f], .agg #[.int .i64 l, .int .i64 s], .int .i64 m, .int .i64 lim, .int .u16 x, .int .u16 y]) ?_ ?_
  · simp only [ArgsV]
    exact ⟨[.n h, .n f], [.n l, .n s, .n m, .n lim, .n x, .n y], [.int .i64 h, .int .i64 f], rfl, rfl, cells_pair hh hf, [.n l, .n s], [.n m, .n lim, .n x, .n y], [.int .i64 l, .int .i64 s], rfl, rfl, cells_pair hl hs, cell_int hm, cell_int hlim, c16 x hx, c16 y hy, trivial⟩
  · rw [tree_leaching]
    simp only [T.res, B.prop, E.den, E.dat, E.top, E.val, E.isD, DV.canon, List.getElem?_cons_zero, List.getElem?_cons_succ, List.getD_cons_zero, List.getD_cons_succ, List.getD_nil, List.map_cons, List.map_nil, List.cons_append, List.nil_append, List.append_assoc, allB, cSane, lawCon, cLeach, cTurns, lea_pre, lea_mea, lea_bnd, resB, resL', RSh.l, List.flatMap_cons, List.flatMap_nil, RC.vd, List.take_succ_cons, List.take_zero, List.drop_succ_cons, List.drop_zero, List.length_cons, List.length_nil, Nat.zero_add, Nat.reduceAdd, getR 181 0, getR 181 1, getR 181 2, getR 181 3, getR 181 4, getR 181 5, getR 181 6, getR 181 7, getR 181 8, getR 181 9, true_and]
    simp only [DV.int]
    intro z z0 z1 hz
    simp only [List.cons.injEq, and_true, DV.n.injEq] at hz
    subst hz
    refine ⟨fun h => absurd h (by decide), fun _ => ?_⟩
    intro a1 _ _ b1 _ _ c1 _ _ d1 _ _ e1 _ _ k1 n n0 n1 o o0 o1 e e0 e1' k2
    rcases leach_inv k1 with ⟨rfl, rfl, rfl, rfl, rfl, no⟩ | ⟨rfl, ok, rfl, rfl, rfl, rfl⟩
    · rcases turns_inv k2 with ⟨rfl, rfl, rfl, _⟩ | ⟨_, _, _, ok⟩ | ⟨_, ok, _⟩
      · exact ⟨fun _ => ⟨fun _ => trivial, fun g => absurd ⟨⟨rfl, rfl⟩, rfl⟩ g⟩, fun g => absurd (by decide) g⟩
      · exact absurd ok no
      · exact absurd ok no
    · rcases turns_inv k2 with ⟨_, _, _, no⟩ | ⟨rfl, rfl, rfl, _⟩ | ⟨rfl, _, ga, hc⟩
      · exact absurd ok no
      · exact ⟨fun g => absurd rfl g, fun _ => ⟨fun g => absurd g (lea_fresh ok), fun _ => ⟨fun _ => ⟨fun _ => trivial, fun g => absurd ⟨⟨rfl, rfl⟩, rfl⟩ g⟩, fun g => absurd (by decide) g⟩⟩⟩
      · have q := ok
        unfold okL okW at q
        refine ⟨fun g => absurd rfl g, fun _ => ⟨fun g => absurd g (lea_fresh ok), fun _ => ⟨fun g => absurd rfl g, fun _ => ⟨fun g => absurd g (by omega), fun _ => ⟨fun ho => ?_, fun ho => ?_⟩⟩⟩⟩⟩
        · have hno : ∀ j : Nat, (j : Int) ≤ m → ¬ Hit a1 f c1 s lim j := by
            rcases hc with ⟨h1, _⟩ | ⟨_, _, h3⟩
            · omega
            · exact h3
          refine ⟨fun _ => ⟨fun _ => ⟨fun _ _ => turns0 (by omega), fun i i0 _ lo lo0 lo1 xh xh0 xh1 xs xs0 xs1 hi => ⟨fun hc => ⟨fun hx => ?_, fun hx => ?_⟩, fun _ => trivial⟩⟩, fun g => absurd ⟨by omega, by omega⟩ g⟩, fun g => absurd ⟨by omega, by omega⟩ g⟩
          · have hI := hi hc.2 (.inl ho)
            exact absurd ⟨by rw [← hI.2.2.1]; exact hx, hI.2.2.2⟩ (hno i.toNat (by omega))
          · have hI := hi hc.2 (.inl ho)
            rw [wrap_id (x := i + 1) (by omega) (by omega)]
            intro a2 _ _ b2 _ _ c2 _ _ d2 _ _ e2 _ _ k3
            refine ⟨fun _ => ?_, fun g => g ⟨by omega, by omega⟩⟩
            rcases leach_inv k3 with ⟨rfl, rfl, rfl, _⟩ | ⟨rfl, ok2, rfl, rfl, _⟩
            · exact ⟨fun _ => ⟨fun _ => ⟨fun _ => ⟨fun h => absurd h (by decide), by omega⟩, fun g => absurd ⟨by omega, by omega⟩ g⟩, fun g => absurd ⟨by omega, by omega⟩ g⟩, fun g => absurd (by decide) g⟩
            · have bd := stp_bd ok2
              have o2 := ok2
              unfold okL okW at o2
              unfold stp at bd
              exact ⟨fun g => absurd rfl g, fun _ => ⟨fun _ => ⟨fun _ => ⟨fun _ _ => turns_next i0 hI hc.1 hx ok2, by omega⟩, fun g => absurd ⟨by omega, by omega⟩ g⟩, fun g => absurd ⟨by omega, by omega⟩ g⟩⟩
        · obtain ⟨n0', nm, hit⟩ : 0 ≤ n ∧ n ≤ m ∧ Hit a1 f c1 s lim n.toNat := by
            rcases hc with ⟨_, h2, h3, h4⟩ | ⟨h1, _⟩
            · exact ⟨h2, h3, h4⟩
            · exact absurd h1 ho
          refine ⟨fun _ => ⟨fun _ => ⟨fun _ _ => turns0 (by omega), fun i i0 _ lo lo0 lo1 xh xh0 xh1 xs xs0 xs1 hi => ⟨fun hc => ⟨fun hx => absurd ?_ hx, fun hx => ?_⟩, fun _ => ?_⟩⟩, fun g => absurd ⟨by omega, by omega⟩ g⟩, fun g => absurd ⟨by omega, by omega⟩ g⟩
          · have hI := hi hc.2 (.inr hc.1)
            by_cases c : i = n
            · subst c
              exact .inl ⟨by rw [hI.2.2.1]; exact hit.1, rfl⟩
            · exact .inr ⟨by rw [hI.2.2.1]; exact (hit.2 i.toNat (by omega)).1, c⟩
          · have hI := hi hc.2 (.inr hc.1)
            rw [wrap_id (x := i + 1) (by omega) (by omega)]
            intro a2 _ _ b2 _ _ c2 _ _ d2 _ _ e2 _ _ k3
            refine ⟨fun g => absurd g ?_, fun _ => ⟨fun _ => ?_, fun g => g ⟨by omega, by omega⟩⟩⟩
            · rintro ⟨g1, g2⟩
              rcases leach_inv k3 with ⟨_, _, _, _, _, nok⟩ | ⟨g3, _⟩
              · apply nok
                rw [hI.2.1, hI.2.2.1]
                exact (hit.2 i.toNat (by omega)).2
              · exact g1 g3
            · rcases leach_inv k3 with ⟨rfl, rfl, rfl, _⟩ | ⟨rfl, ok2, rfl, rfl, _⟩
              · exact ⟨fun _ => ⟨fun _ => ⟨fun _ => ⟨fun h => absurd h (by decide), by omega⟩, fun g => absurd ⟨by omega, by omega⟩ g⟩, fun g => absurd ⟨by omega, by omega⟩ g⟩, fun g => absurd (by decide) g⟩
              · have bd := stp_bd ok2
                have o2 := ok2
                unfold okL okW at o2
                refine ⟨fun g => absurd rfl g, fun _ => ⟨fun _ => ⟨fun _ => ⟨fun _ hin => ?_, by omega⟩, fun g => absurd ⟨bd.1, Int.le_trans bd.2 (by omega)⟩ g⟩, fun g => absurd ⟨by omega, by omega⟩ g⟩⟩
                have hin : i + 1 ≤ n := by
                  rcases hin with h1 | h1
                  · exact absurd h1 ho
                  · exact h1
                refine turns_next i0 hI (by omega) ?_ ok2
                rw [hI.2.2.1]
                have := (hit.2 i.toNat (by omega)).1
                omega
          · intro n3 _ _ o3 _ _ e3 _ _ k4
            rw [wrap_id (x := f - x) (by omega) (by omega), wrap_id (x := lim + y) (by omega) (by omega)] at k4
            have okg := okL_less ok (g := max 0 (f - x)) (by omega) (by omega)
            obtain ⟨k, hk, hitk⟩ := hit_less hit (g := max 0 (f - x)) (lim2 := min 1073741824 (lim + y)) (by omega) (by omega) (by omega)
            have r := (k4.2.2 okg ⟨ga.1, by omega⟩).1 k (by omega) hitk
            simp only [List.cons.injEq, DV.n.injEq, and_true] at r
            obtain ⟨rfl, rfl, rfl⟩ := r
            exact ⟨fun _ => trivial, fun g => absurd ⟨⟨rfl, by decide⟩, by omega⟩ g⟩
end Go.Proofs.Ytalkhponnfggoaa
