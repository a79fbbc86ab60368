/- DERIVED. A law of salt, walked: the order of mixing. -/
import Derived.Test.YtalkhponnfggoaaDord
namespace Go.Proofs.Ytalkhponnfggoaa
open Go.Dx Go.RowKit
set_option linter.unusedVariables false
set_option linter.unusedSimpArgs false
theorem wat_rows {a : List (List DV)} (h : HasSh wats (.sl none 0 a)) : ∀ e ∈ a, ∃ p q : Int, e = [.n p, .n q] ∧ cz e 0 = p ∧ cz e 1 = q := fun e he => by
  simp only [HasSh, DV.els] at h
  have h1 := h.2 e he
  clear h
  cases e with
  | nil => simp only [HasShs] at h1
  | cons d0 e => cases e with
    | nil => simp only [HasShs, and_false] at h1
    | cons d1 e => cases e with
      | cons d2 e => simp only [HasShs, and_false] at h1
      | nil =>
        simp only [HasShs, HasSh, and_true] at h1
        obtain ⟨⟨p, rfl, hp, _⟩, ⟨q, rfl, hq, _⟩⟩ := h1
        refine ⟨p, q, rfl, ?_, ?_⟩
        · show clampB p = p
          exact clampB_eq (by omega) (by omega)
        · show clampB q = q
          exact clampB_eq (by omega) (by omega)
theorem rev_step {a b : List (List DV)} (h : HasSh wats (.sl none 0 a)) {i : Int} (i0 : 0 ≤ i) (i1 : i < a.length) (hb : b = (a.drop (i + 1).toNat).reverse) : b ++ [[.n ((DV.sl none 0 a).at i 0), .n ((DV.sl none 0 a).at i 1)]] = (a.drop (i - 1 + 1).toNat).reverse := by
  have hlt : i.toNat < a.length := by omega
  have hi : ((i.toNat : Nat) : Int) = i := by omega
  obtain ⟨p, q, e1, e2, e3⟩ := wat_rows h _ (List.getElem_mem hlt)
  have ha : ∀ j, (DV.sl none 0 a).at i j = cz (a[i.toNat]) j := fun j => by
    have h1 := at_cz (DV.sl none 0 a) i.toNat j
    rw [hi] at h1
    rw [h1]
    show cz (a.getD i.toNat []) j = _
    rw [List.getD_eq_getElem?_getD, List.getElem?_eq_getElem hlt, Option.getD_some]
  rw [ha, ha, e2, e3, ← e1, hb, show (i + 1).toNat = i.toNat + 1 by omega, show (i - 1 + 1).toNat = i.toNat by omega, List.drop_eq_getElem_cons hlt, List.reverse_cons]
theorem wf_u8 {n : Int} (h : (Lit.int .u8 n).wf = true) : 0 ≤ n ∧ n ≤ 255 := by
  simp [Lit.wf, IntKind.min, IntKind.max, IntKind.signed, IntKind.bits] at h
  exact ⟨by omega, by omega⟩
theorem SaltOrder_any (v0 v1 : Value) (w : World) (g0 : SliceA w wats v0) (g1 : ∃ a : Int, v1 = .int .u8 a ∧ 0 ≤ a ∧ a ≤ 255) : Calls Try.prog 9 #[v0, v1] w fun e w' => e = .returned (.bool true) ∧ Below w.heap.size w w' := by
  obtain ⟨a, ha⟩ := g0
  obtain ⟨c, rfl, hc⟩ := g1
  refine law_of_walk (tb := tb) (P := Try.prog) fine (C := [cSane, cMix, lOrd]) (conCons cSane_ok (conCons cMix_ok (lopCons rfl noCon))) 80 9 [.c wats, .c u8s] rfl (w := w) (xs := [.sl none 0 a, .n c]) (vs := [v0, .int .u8 c]) ?_ ?_
  · simp only [ArgsV]
    refine ⟨ha, ⟨?_, rfl⟩, trivial⟩
    simp only [HasSh]
    exact ⟨c, rfl, hc, by simpa [kmin, IntKind.signed] using hc.1, by simpa [kmax, IntKind.signed, IntKind.bits] using hc.2⟩
  · have hs := ha.1
    rw [tree_order]
    simp only [T.res, B.prop, E.den, E.dat, E.top, E.val, E.isD, DV.canon, DOp.fn, chunk, List.getElem?_cons_zero, List.getElem?_cons_succ, List.getD_cons_zero, List.getD_cons_succ, List.getD_nil, List.map_cons, List.map_nil, List.cons_append, List.nil_append, List.append_assoc, allB, cSane, lawCon, cMix, lOrd, resB, resL', RSh.l, List.flatMap_cons, List.flatMap_nil, RC.vd, List.take_succ_cons, List.take_zero, List.drop_succ_cons, List.drop_zero, List.length_cons, List.length_nil, Nat.zero_add, Nat.reduceAdd, wats_len hs, getR 100 0, getR 100 1, getR 100 2, getR 100 3, getR 100 4, getR 100 5, getR 100 6, getR 100 7, getR 100 8, getR 100 9, getR 100 10, getR 100 11, getR 100 12, getR 100 13, getR 100 14, getR 100 15, getR 100 16, true_and]
    have hels : ∀ o : List (List DV), (DV.sl none 0 o).els = o := fun _ => rfl
    simp only [DV.int, hels]
    intro z z0 z1 hz
    simp only [List.cons.injEq, and_true, DV.n.injEq] at hz
    subst hz
    refine ⟨fun h => absurd h (by decide), fun _ => ?_⟩
    intro x _ _ y _ _ e _ _ hm
    rcases mix_inv hm with ⟨rfl, m1, m2, rfl, rfl, m3, m4⟩ | ⟨m1, rfl, rfl⟩
    · refine ⟨fun h => absurd rfl h, fun _ => ?_⟩
      simp only [hels] at m1 m2 m3 m4 ⊢
      refine ⟨⟨by omega, ?_⟩, fun i i0 _ b _ ⟨hi, hb⟩ => ⟨fun h0 => ⟨fun h1 => ⟨fun _ => ⟨⟨by omega, rev_step hs h0 h1.2 hb⟩, by omega⟩, fun h => h ?_⟩, fun h => h ⟨h0, hi⟩⟩, fun h0 => ?_⟩⟩
      · rw [show ((a.length : Int) - 1 + 1).toNat = a.length by omega, List.drop_length]; rfl
      · rw [sl_len (n := b.length) rfl (by rw [hb, List.length_reverse, List.length_drop]; omega), hb, List.length_reverse, List.length_drop]; omega
      · have hb : b = a.reverse := by rw [hb, show (i + 1).toNat = 0 by omega, List.drop_zero]
        subst hb
        rw [wrap_id (x := (a.length : Int) + 1) (by omega) (by omega)]
        have hk : 0 ≤ c.tmod ((a.length : Int) + 1) ∧ c.tmod ((a.length : Int) + 1) ≤ a.length := by
          rw [Int.tmod_eq_emod_of_nonneg hc.1]
          have e1 := Int.emod_nonneg c (show (a.length : Int) + 1 ≠ 0 by omega)
          have e2 := Int.emod_lt_of_pos c (show 0 < (a.length : Int) + 1 by omega)
          omega
        generalize c.tmod ((a.length : Int) + 1) = k at hk ⊢
        refine ⟨fun h => by omega, fun _ => ⟨fun _ => ?_, fun h => h hk⟩⟩
        intro x1 _ _ y1 _ _ e1 _ _ q1
        refine ⟨fun _ => ?_, fun h => h hk⟩
        intro x2 _ _ y2 _ _ e2 _ _ q2 x3 _ _ y3 _ _ e3 _ _ q3 x4 _ _ y4 _ _ e4 _ _ q4
        have pt : ∀ e ∈ a.take k.toNat, okE e := fun e he => m2 e (List.mem_of_mem_take he)
        have pd : ∀ e ∈ a.drop k.toNat, okE e := fun e he => m2 e (List.mem_of_mem_drop he)
        have s0 := sl_split a k.toNat 0
        have s1 := sl_split a k.toNat 1
        have t0 := sl_pos pt
        have t1 := sl_pos pd
        have r1 := mix_ok q1 (by rw [hels, List.length_drop, List.length_take]; omega) (by rw [hels]; exact fun e he => pt e (List.mem_of_mem_drop he)) (by rw [hels]; simp only [Int.toNat_zero, List.drop_zero]; omega) (by rw [hels]; simp only [Int.toNat_zero, List.drop_zero]; omega)
        have r2 := mix_ok q2 (by rw [hels, List.length_drop, List.length_take]; omega) (by rw [hels]; exact fun e he => m2 e (List.mem_of_mem_take (List.mem_of_mem_drop he))) (by rw [hels, Int.toNat_natCast, List.take_length]; omega) (by rw [hels, Int.toNat_natCast, List.take_length]; omega)
        have r3 := mix_ok q3 (by rw [hels, List.length_reverse]; exact m1) (by rw [hels]; exact fun e he => m2 e (List.mem_reverse.1 he)) (by rw [hels, sl_rev]; exact m3) (by rw [hels, sl_rev]; exact m4)
        simp only [List.cons.injEq, DV.n.injEq, and_true, hels, Int.toNat_zero, List.drop_zero, Int.toNat_natCast, List.take_length, sl_rev] at r1 r2 r3
        obtain ⟨rfl, rfl, rfl⟩ := r1
        obtain ⟨rfl, rfl, rfl⟩ := r2
        obtain ⟨rfl, rfl, rfl⟩ := r3
        have cl : ∀ z : Int, 0 ≤ z → z ≤ 1073741824 → clampB z = z := fun z z0 z1 => clampB_eq (by omega) (by omega)
        have hz : ∀ u v : Int, cz [.n u, .n v] 0 = clampB u ∧ cz [.n u, .n v] 1 = clampB v := fun u v => ⟨rfl, rfl⟩
        have f0 : ∀ j, sl [[.n (sl (a.take k.toNat) 0), .n (sl (a.take k.toNat) 1)], [.n (sl (a.drop k.toNat) 0), .n (sl (a.drop k.toNat) 1)]] j = cz [.n (sl (a.take k.toNat) 0), .n (sl (a.take k.toNat) 1)] j + cz [.n (sl (a.drop k.toNat) 0), .n (sl (a.drop k.toNat) 1)] j := fun j => by simp [sl]
        have u1 := cl (sl (a.take k.toNat) 0) (by omega) (by omega)
        have u2 := cl (sl (a.take k.toNat) 1) (by omega) (by omega)
        have u3 := cl (sl (a.drop k.toNat) 0) (by omega) (by omega)
        have u4 := cl (sl (a.drop k.toNat) 1) (by omega) (by omega)
        have r4 := mix_ok q4 (by rw [hels]; simp) (by
          rw [hels]
          intro e he
          simp only [List.mem_cons, List.not_mem_nil, or_false] at he
          unfold okE okW
          rcases he with rfl | rfl
          · rw [(hz _ _).1, (hz _ _).2, u1, u2]; omega
          · rw [(hz _ _).1, (hz _ _).2, u3, u4]; omega) (by rw [hels, f0, (hz _ _).1, (hz _ _).1, u1, u3]; omega) (by rw [hels, f0, (hz _ _).2, (hz _ _).2, u2, u4]; omega)
        rw [hels, f0, f0, (hz _ _).1, (hz _ _).1, (hz _ _).2, (hz _ _).2, u1, u2, u3, u4, s0, s1] at r4
        simp only [List.cons.injEq, DV.n.injEq, and_true] at r4
        obtain ⟨rfl, rfl, rfl⟩ := r4
        simp
    · refine ⟨fun _ => ⟨fun _ => trivial, fun h => absurd ⟨rfl, rfl⟩ h⟩, fun h => absurd m1 h⟩
end Go.Proofs.Ytalkhponnfggoaa
