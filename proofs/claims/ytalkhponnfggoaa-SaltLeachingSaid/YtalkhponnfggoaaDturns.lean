/- DERIVED. Equality of lists, turns of leaching: the contracts, proved. -/
import Derived.Test.YtalkhponnfggoaaDsplitb
namespace Go.Proofs.Ytalkhponnfggoaa
open Go.Dx
set_option linter.unusedVariables false
set_option linter.unusedSimpArgs false
theorem row2 {a : List (List DV)} (ha : HasSh wats (.sl none 0 a)) {x : Int} (h0 : 0 ≤ x) (h1 : x < a.length) : ∃ p q, a[x.toNat]? = some [.n p, .n q] ∧ (DV.sl none 0 a).at x 0 = p ∧ (DV.sl none 0 a).at x 1 = q := by
  have hlt : x.toNat < a.length := by omega
  simp only [HasSh, DV.els] at ha
  obtain ⟨e, hg⟩ : ∃ e, a[x.toNat]? = some e := ⟨_, List.getElem?_eq_getElem hlt⟩
  have he := ha.2 e (List.mem_of_getElem? hg)
  clear ha
  cases e with
  | nil => simp only [HasShs] at he
  | cons d0 e => cases e with
  | nil => simp only [HasShs, and_false] at he
  | cons d1 e => cases e with
  | cons d2 e => simp only [HasShs, and_false] at he
  | nil =>
    simp only [HasShs, HasSh, and_true] at he
    obtain ⟨⟨p, rfl, hp, _⟩, ⟨q, rfl, hq, _⟩⟩ := he
    refine ⟨p, q, hg, ?_, ?_⟩
    · simp only [DV.at, DV.cell, DV.els, List.getD_eq_getElem?_getD, hg, Option.getD_some, DV.cint, DV.int]
      show clampB p = p
      exact clampB_eq (by omega) (by omega)
    · simp only [DV.at, DV.cell, DV.els, List.getD_eq_getElem?_getD, hg, Option.getD_some, DV.cint, DV.int]
      show clampB q = q
      exact clampB_eq (by omega) (by omega)
theorem row2_eq {a b : List (List DV)} (ha : HasSh wats (.sl none 0 a)) (hb : HasSh wats (.sl none 0 b)) {x : Int} (h0 : 0 ≤ x) (h1 : x < a.length) (h2 : x < b.length) :
    ((DV.sl none 0 a).at x 0 = (DV.sl none 0 b).at x 0 ∧ (DV.sl none 0 a).at x 1 = (DV.sl none 0 b).at x 1) ↔ a[x.toNat]? = b[x.toNat]? := by
  obtain ⟨p, q, a1, a2, a3⟩ := row2 ha h0 h1
  obtain ⟨u, v, b1, b2, b3⟩ := row2 hb h0 h2
  rw [a1, a2, a3, b1, b2, b3]
  simp
theorem take_more {α : Type} {a b : List α} {k : Nat} (h : a.take k = b.take k) (he : a[k]? = b[k]?) : a.take (k + 1) = b.take (k + 1) := by
  rw [List.take_add_one, List.take_add_one, h, he]
theorem cSame_ok (N : Nat) (w0 : World) : ConOk Try.prog N w0 cSame := by
  refine con_of_walk (tb := tb) fine (C := [lSame]) (lopCons rfl noCon) 80 rfl ?_ N w0
  refine fun a ha b hb _ => ?_
  have ha : HasSh wats (.sl none 0 a) := ha
  have hb : HasSh wats (.sl none 0 b) := hb
  rw [tree_same]
  simp only [T.res, B.prop, E.den, E.dat, E.top, E.val, E.isD, DV.canon, List.getElem?_cons_zero, List.getD_cons_zero, List.getD_cons_succ, List.getD_nil, List.map_cons, List.map_nil, List.cons_append, List.nil_append, allB, lSame, cSame, List.take_succ_cons, List.take_zero, List.length_cons, List.length_nil, Nat.zero_add, Nat.reduceAdd, wats_len ha, wats_len hb]
  simp only [DV.els, DV.int]
  refine ⟨fun h => ⟨fun e => absurd (by rw [e]) h, fun _ => trivial⟩, fun h => ?_⟩
  have hl : a.length = b.length := by omega
  refine ⟨⟨hl, by omega, by simp⟩, fun x h0 _ ⟨_, hx, ht⟩ => ⟨fun hlt => ⟨fun hb2 => ?_, fun hn => absurd ⟨h0, by omega⟩ hn⟩, fun hge => ?_⟩⟩
  · rw [row2_eq ha hb h0 hlt hb2.2]
    refine ⟨fun hne => ⟨fun e => absurd (by rw [e]) hne, fun _ => trivial⟩, fun he => ?_⟩
    have he := Classical.not_not.1 he
    refine ⟨⟨hl, by omega, ?_⟩, by omega⟩
    rw [show (x + 1).toNat = x.toNat + 1 by omega]
    exact take_more ht he
  · have hxa : x.toNat = a.length := by omega
    rw [hxa, List.take_length, hl, List.take_length] at ht
    exact ⟨fun _ => trivial, fun hne => absurd ht hne⟩
theorem tp1 {h f l s m lim : Int} (k : ¬ okL h f l s) : TurnsP h f l s m lim [.n 0, .n 0, .n 430] := ⟨fun _ => rfl, fun h1 => absurd h1 k, fun h1 => absurd h1 k⟩
theorem tp2 {h f l s m lim : Int} (k : okL h f l s) (q : ¬ ((0 ≤ m ∧ m ≤ 400) ∧ 0 ≤ lim ∧ lim ≤ 1073741824)) : TurnsP h f l s m lim [.n 0, .n 0, .n 1] := ⟨fun h1 => absurd k h1, fun _ _ => rfl, fun _ h1 => absurd h1 q⟩
theorem hit_one {h f l s lim : Int} {j k : Nat} (a : Hit h f l s lim j) (b : Hit h f l s lim k) : j = k := by
  rcases Nat.lt_trichotomy j k with c | c | c
  · have := (b.2 j c).1; have := a.1; omega
  · exact c
  · have := (a.2 k c).1; have := b.1; omega
theorem tp3 {h f l s m lim : Int} (k : okL h f l s) (q : ((0 ≤ m ∧ m ≤ 400) ∧ 0 ≤ lim ∧ lim ≤ 1073741824)) {n : Int} (n0 : 0 ≤ n) (n1 : n ≤ m) (a : Hit h f l s lim n.toNat) : TurnsP h f l s m lim [.n n, .n 1, .n 0] := by
  refine ⟨fun h1 => absurd k h1, fun _ h1 => absurd q h1, fun _ _ => ⟨fun j hj b => ?_, fun b => absurd a (b n.toNat (by omega))⟩⟩
  rw [hit_one b a, show ((n.toNat : Nat) : Int) = n by omega]
theorem tp4 {h f l s m lim : Int} (k : okL h f l s) (q : ((0 ≤ m ∧ m ≤ 400) ∧ 0 ≤ lim ∧ lim ≤ 1073741824)) (a : ∀ j : Nat, (j : Int) ≤ m → ¬ Hit h f l s lim j) : TurnsP h f l s m lim [.n 0, .n 0, .n 0] :=
  ⟨fun h1 => absurd k h1, fun _ h1 => absurd q h1, fun _ _ => ⟨fun j hj b => absurd b (a j hj), fun _ => rfl⟩⟩
/-- The steps of a loop over turns. -/
theorem turns_end {h f l s m lim n a b : Int} (n0 : 0 ≤ n) (i : turnsI h f l s m lim n a b) (hn : ¬ n ≤ m) : ∀ j : Nat, (j : Int) ≤ m → ¬ Hit h f l s lim j := fun j hj q => by
  obtain ⟨_, _, _, i4⟩ := i
  have := (i4 j (by omega)).1
  have := q.1
  omega
theorem turns_lost {h f l s m lim n a b : Int} (n0 : 0 ≤ n) (i : turnsI h f l s m lim n a b) (hb : ¬ b ≤ lim) (hl : ¬ okL a b l s) : ∀ j : Nat, (j : Int) ≤ m → ¬ Hit h f l s lim j := fun j hj q => by
  obtain ⟨i1, i2, i3, i4⟩ := i
  by_cases c : j < n.toNat
  · have := (i4 j c).1
    have := q.1
    omega
  · by_cases e : j = n.toNat
    · have := q.1
      rw [e, ← i3] at this
      exact hb this
    · have := (q.2 n.toNat (by omega)).2
      rw [← i3, ← i2] at this
      exact hl this
theorem turns_next {h f l s m lim n a b : Int} (n0 : 0 ≤ n) (i : turnsI h f l s m lim n a b) (hn : n ≤ m) (hb : ¬ b ≤ lim) (hl : okL a b l s) : turnsI h f l s m lim (n + 1) a (stp a l s b) := by
  obtain ⟨i1, i2, i3, i4⟩ := i
  refine ⟨by omega, i2, ?_, fun j hj => ?_⟩
  · rw [show (n + 1).toNat = n.toNat + 1 by omega, i2, i3]
    rfl
  · by_cases c : j < n.toNat
    · exact i4 j c
    · rw [show j = n.toNat by omega, ← i3, ← i2]
      exact ⟨by omega, by rw [i2] at hl ⊢; exact hl⟩
theorem stp_bd {h f l s : Int} (k : okL h f l s) : 0 ≤ stp h l s f ∧ stp h l s f ≤ s + f := by
  unfold okL okW at k
  obtain ⟨⟨⟨a0, a1⟩, b0, b1⟩, ⟨⟨⟨c0, c1⟩, d0, d1⟩, _⟩, e1, e2⟩ := k
  have p0 : 0 ≤ (s + f) * l := Int.mul_nonneg (by omega) c0
  have p1 : (s + f) * l ≤ (s + f) * (l + h) := Int.mul_le_mul_of_nonneg_left (by omega) (by omega)
  unfold stp
  rw [Int.tdiv_eq_ediv_of_nonneg p0]
  have p2 : (s + f) * l / (l + h) ≤ s + f := Int.ediv_le_of_le_mul (by omega) p1
  have p3 : 0 ≤ (s + f) * l / (l + h) := Int.ediv_nonneg p0 (by omega)
  omega
theorem leach_cases {h f l s a b c d e : Int} (k : LeachP h f l s [.n a, .n b, .n c, .n d, .n e]) : (¬ okL h f l s ∧ e = 430) ∨ (okL h f l s ∧ a = h ∧ b = stp h l s f ∧ e = 0) := by
  by_cases q : okL h f l s
  · have := k.2 q
    simp only [List.cons.injEq, DV.n.injEq, and_true] at this
    exact .inr ⟨q, this.1, this.2.1, this.2.2.2.2⟩
  · have := k.1 q
    simp only [List.cons.injEq, DV.n.injEq, and_true] at this
    exact .inl ⟨q, this.2.2.2.2⟩
theorem cTurnsR_ok (N : Nat) (w0 : World) : ConOk Try.prog N w0 cTurnsR := by
  refine con_of_walk (tb := tb) fine (C := [cLeachR, lTR]) (conCons cLeachR_ok (lopCons rfl noCon)) 80 rfl ?_ N w0
  refine fun h h0 h1 f f0 f1 l l0 l1 s s0 s1 m m0 m1 lim lim0 lim1 _ => ?_
  rw [tree_turnsR]
  simp only [T.res, B.prop, E.den, E.dat, E.top, E.val, E.isD, DV.canon, List.getElem?_cons_zero, List.getElem?_cons_succ, List.getD_cons_zero, List.getD_cons_succ, List.getD_nil, List.map_cons, List.map_nil, List.cons_append, List.nil_append, List.append_assoc, allB, lTR, cLeachR, cTurnsR, resB, resL', RSh.l, List.flatMap_cons, List.flatMap_nil, RC.vd, List.take_succ_cons, List.take_zero, List.drop_succ_cons, List.drop_zero, List.length_cons, List.length_nil, Nat.zero_add, Nat.reduceAdd, getR 56 0, getR 56 1, getR 56 2, getR 56 3, getR 56 4, true_and]
  simp only [DV.int]
  intro a _ _ b _ _ c _ _ d _ _ e _ _ hL
  rcases leach_cases hL with ⟨q, rfl⟩ | ⟨q, rfl, rfl, rfl⟩
  · exact ⟨fun _ => tp1 q, fun g => absurd (by decide : ¬ (430 : Int) = 0) g⟩
  · refine ⟨fun g => absurd rfl g, fun _ => ⟨fun g => tp2 q (by omega), fun g => ?_⟩⟩
    have ga : ((0 ≤ m ∧ m ≤ 400) ∧ 0 ≤ lim ∧ lim ≤ 1073741824) := by omega
    have q2 := q
    unfold okL okW at q2
    refine ⟨fun _ => ⟨fun _ => ⟨⟨by omega, rfl, rfl, fun j hj => absurd hj (by simp)⟩, fun n n0 _ x x0 x1 y y0 y1 hi => ⟨fun hn => ⟨fun hy => ?_, fun hy => ?_⟩, fun hn => tp4 q ga (turns_end n0 hi (by omega))⟩⟩, fun g => g (by omega)⟩, fun g => g (by omega)⟩
    · exact tp3 q ga n0 (by omega) ⟨by rw [← hi.2.2.1]; exact hy, hi.2.2.2⟩
    · intro a2 _ _ b2 _ _ c2 _ _ d2 _ _ e2 _ _ hL2
      rcases leach_cases hL2 with ⟨k, rfl⟩ | ⟨k, rfl, rfl, rfl⟩
      · exact ⟨fun _ => tp4 q ga (turns_lost n0 hi hy k), fun g => absurd (by decide : ¬ (430 : Int) = 0) g⟩
      · have bd := stp_bd k
        have k2 := k
        unfold okL okW at k2
        refine ⟨fun g => absurd rfl g, fun _ => ⟨fun _ => ⟨fun _ => ⟨turns_next n0 hi (by omega) hy k, by omega⟩, fun g => g (by omega)⟩, fun g => g (by omega)⟩⟩
theorem cTurns_ok (N : Nat) (w0 : World) : ConOk Try.prog N w0 cTurns := by
  refine con_of_walk (tb := tb) fine (C := [cLeach, lT]) (conCons cLeach_ok (lopCons rfl noCon)) 80 rfl ?_ N w0
  refine fun h h0 h1 f f0 f1 l l0 l1 s s0 s1 m m0 m1 lim lim0 lim1 _ => ?_
  rw [tree_turns]
  simp only [T.res, B.prop, E.den, E.dat, E.top, E.val, E.isD, DV.canon, List.getElem?_cons_zero, List.getElem?_cons_succ, List.getD_cons_zero, List.getD_cons_succ, List.getD_nil, List.map_cons, List.map_nil, List.cons_append, List.nil_append, List.append_assoc, allB, lT, cLeach, cTurns, resB, resL', RSh.l, List.flatMap_cons, List.flatMap_nil, RC.vd, List.take_succ_cons, List.take_zero, List.drop_succ_cons, List.drop_zero, List.length_cons, List.length_nil, Nat.zero_add, Nat.reduceAdd, getR 45 0, getR 45 1, getR 45 2, getR 45 3, getR 45 4, true_and]
  simp only [DV.int]
  intro a _ _ b _ _ c _ _ d _ _ e _ _ hL
  rcases leach_cases hL with ⟨q, rfl⟩ | ⟨q, rfl, rfl, rfl⟩
  · exact ⟨fun _ => tp1 q, fun g => absurd (by decide : ¬ (430 : Int) = 0) g⟩
  · refine ⟨fun g => absurd rfl g, fun _ => ⟨fun g => tp2 q (by omega), fun g => ?_⟩⟩
    have ga : ((0 ≤ m ∧ m ≤ 400) ∧ 0 ≤ lim ∧ lim ≤ 1073741824) := by omega
    have q2 := q
    unfold okL okW at q2
    refine ⟨fun _ => ⟨fun _ => ⟨⟨by omega, rfl, rfl, fun j hj => absurd hj (by simp)⟩, fun n n0 _ x x0 x1 y y0 y1 hi => ⟨fun hn => ⟨fun hy => ?_, fun hy => ?_⟩, fun hn => tp4 q ga (turns_end n0 hi (by omega))⟩⟩, fun g => g (by omega)⟩, fun g => g (by omega)⟩
    · exact tp3 q ga n0 (by omega) ⟨by rw [← hi.2.2.1]; exact hy, hi.2.2.2⟩
    · intro a2 _ _ b2 _ _ c2 _ _ d2 _ _ e2 _ _ hL2
      rcases leach_cases hL2 with ⟨k, rfl⟩ | ⟨k, rfl, rfl, rfl⟩
      · exact ⟨fun _ => tp4 q ga (turns_lost n0 hi hy k), fun g => absurd (by decide : ¬ (430 : Int) = 0) g⟩
      · have bd := stp_bd k
        have k2 := k
        unfold okL okW at k2
        refine ⟨fun g => absurd rfl g, fun _ => ⟨fun _ => ⟨fun _ => ⟨turns_next n0 hi (by omega) hy k, by omega⟩, fun g => g (by omega)⟩, fun g => g (by omega)⟩⟩
end Go.Proofs.Ytalkhponnfggoaa
