/- DERIVED. Splitting, of both packages: the contracts, proved. -/
import Derived.Test.YtalkhponnfggoaaDtreeb
namespace Go.Proofs.Ytalkhponnfggoaa
open Go.Dx
set_option linter.unusedVariables false
set_option linter.unusedSimpArgs false
theorem ints_len {a : List (List DV)} (ha : HasSh ints (.sl none 0 a)) : (DV.sl none 0 a).len = a.length := sh_len (Nat.le_refl _) ha
theorem allI_succ {d : DV} {x : Int} (h0 : 0 ≤ x) (h : AllI d x.toNat) (hx : 0 ≤ d.at x 0 ∧ d.at x 0 ≤ 1073741824) : AllI d (x + 1).toNat := fun k hk => by
  rw [toNat_succ h0] at hk
  by_cases e : k < x.toNat
  · exact h k e
  · rw [show (k : Int) = x by omega]; exact hx
theorem smI {d : DV} {n : Nat} (h : AllI d n) : ∀ k : Nat, k ≤ n → 0 ≤ sm d 0 k ∧ sm d 0 k ≤ k * 1073741824
  | 0, _ => by simp [sm]
  | k + 1, hk => by
    have ih := smI h k (by omega)
    have h1 := h k (by omega)
    simp only [sm]
    omega
theorem sm_mono {d : DV} {n : Nat} (h : AllI d n) {k : Nat} (hk : k ≤ n) : sm d 0 k ≤ sm d 0 n := by
  induction n with
  | zero => rw [show k = 0 by omega]; exact Int.le_refl _
  | succ n ih =>
    by_cases e : k = n + 1
    · rw [e]; exact Int.le_refl _
    · have h1 := h n (by omega)
      have h2 := ih (fun j hj => h j (by omega)) (by omega)
      simp only [sm]; omega
theorem held_bd {w0 w1 x : Int} (h : okW w0 w1) (h0 : 0 ≤ x) (h1 : x ≤ w0) : 0 ≤ held w0 w1 x ∧ held w0 w1 x ≤ w1 ∧ 0 ≤ w1 * x ∧ w1 * x ≤ 1152921504606846976 := by
  unfold okW at h
  obtain ⟨⟨⟨a0, a1⟩, b0, b1⟩, _⟩ := h
  have p0 : 0 ≤ w1 * x := Int.mul_nonneg b0 h0
  have p1 : w1 * x ≤ w1 * w0 := Int.mul_le_mul_of_nonneg_left h1 b0
  have p2 : w1 * w0 ≤ 1073741824 * 1073741824 := Int.mul_le_mul b1 a1 a0 (by decide)
  refine ⟨Int.tdiv_nonneg p0 a0, ?_, p0, by omega⟩
  unfold held
  rw [Int.tdiv_eq_ediv_of_nonneg p0]
  by_cases hw : w0 = 0
  · rw [hw, Int.ediv_zero]; exact b0
  · exact Int.ediv_le_of_le_mul (by omega) p1
theorem rows_len (w0 w1 : Int) (d : DV) (n : Nat) : (rows w0 w1 d n).length = n := by simp [rows]
theorem rows_succ (w0 w1 : Int) (d : DV) (n : Nat) : rows w0 w1 d (n + 1) = rows w0 w1 d n ++ [[.n (d.at n 0), .n (held w0 w1 (sm d 0 (n + 1)) - held w0 w1 (sm d 0 n))]] := by
  simp [rows, List.range_succ]
theorem rows_step {w0 w1 : Int} {d : DV} {x : Int} (h : 0 ≤ x) : rows w0 w1 d (x + 1).toNat = rows w0 w1 d x.toNat ++ [[.n (d.at x 0), .n (held w0 w1 (sm d 0 (x + 1).toNat) - held w0 w1 (sm d 0 x.toNat))]] := by
  rw [toNat_succ h, rows_succ, show ((x.toNat : Nat) : Int) = x by omega]
theorem sl_len {o : List (List DV)} {n : Nat} (h : o.length = n) (hn : n ≤ 100) : (DV.sl none 0 o).len = n := by
  subst h
  exact clampL_eq (by simp only [DV.els]; omega)
theorem getR {α : Type} (n k : Nat) (z d : α) (l : List α) : (List.replicate n z ++ l).getD (n + k) d = l.getD k d := by
  rw [List.getD_eq_getElem?_getD, List.getElem?_append_right (by simp), List.getD_eq_getElem?_getD]; simp
theorem takeR {α : Type} (n k : Nat) (z : α) (l : List α) : (List.replicate n z ++ l).take (n + k) = List.replicate n z ++ l.take k := by
  rw [List.take_append]; simp
theorem dropR {α : Type} (n k : Nat) (z : α) (l : List α) : (List.replicate n z ++ l).drop (n + k) = l.drop k := by
  rw [List.drop_append]; simp
theorem sp1 {u v : Int} {d : DV} (h : 64 < d.els.length) : SplitP u v d [.sl none 0 [], .n 2] := ⟨fun _ => rfl, fun h1 => by omega, fun h1 => by omega, fun h1 => by omega⟩
theorem sp2 {u v : Int} {d : DV} (h : ¬ 64 < d.els.length) (k : ¬ okW u v) : SplitP u v d [.sl none 0 [], .n 430] := ⟨fun h1 => absurd h1 h, fun _ _ => rfl, fun _ h1 => absurd h1 k, fun _ h1 => absurd h1 k⟩
theorem sp3 {u v : Int} {d : DV} (h : ¬ 64 < d.els.length) (k : okW u v) (q : ¬ (AllI d d.els.length ∧ sm d 0 d.els.length = u)) : SplitP u v d [.sl none 0 [], .n 1] :=
  ⟨fun h1 => absurd h1 h, fun _ h1 => absurd k h1, fun _ _ _ => rfl, fun _ _ h1 h2 => absurd ⟨h1, h2⟩ q⟩
theorem sp4 {u v : Int} {d : DV} (h : ¬ 64 < d.els.length) (k : okW u v) (q : AllI d d.els.length) (r : sm d 0 d.els.length = u) : SplitP u v d [.sl none 0 (rows u v d d.els.length), .n 0] :=
  ⟨fun h1 => absurd h1 h, fun _ h1 => absurd k h1, fun _ _ h1 => absurd ⟨q, r⟩ h1, fun _ _ _ _ => rfl⟩
/-- What is known in a round. -/
theorem split_round {u v : Int} {d : DV} {x l : Int} {o : List (List DV)} (hw : okW u v) (h64 : ¬ 64 < d.els.length) (hal : AllI d d.els.length) (hsum : sm d 0 d.els.length = u) (x0 : 0 ≤ x) (hx : x < d.els.length) (e1 : l = sm d 0 x.toNat) (e2 : o = rows u v d x.toNat) :
    IntKind.i64.wrap (l + d.at x 0) = sm d 0 (x + 1).toNat ∧ 0 ≤ sm d 0 (x + 1).toNat ∧ sm d 0 (x + 1).toNat ≤ 1073741824 ∧ IntKind.i64.wrap (v * sm d 0 (x + 1).toNat) = v * sm d 0 (x + 1).toNat ∧
    IntKind.i64.wrap ((v * sm d 0 (x + 1).toNat).tdiv u) = held u v (sm d 0 (x + 1).toNat) ∧ (v * l).tdiv u = held u v (sm d 0 x.toNat) ∧ (0 ≤ held u v (sm d 0 (x + 1).toNat) ∧ held u v (sm d 0 (x + 1).toNat) ≤ 1073741824) ∧
    IntKind.i64.wrap (held u v (sm d 0 (x + 1).toNat) - held u v (sm d 0 x.toNat)) = held u v (sm d 0 (x + 1).toNat) - held u v (sm d 0 x.toNat) ∧ (DV.sl none 0 o).len + 1 ≤ 8278675785607 := by
  have hp := hal x.toNat (by omega)
  rw [show ((x.toNat : Nat) : Int) = x by omega] at hp
  have hs := sm_succ (d := d) (j := 0) x0
  have m0 := sm_mono hal (k := x.toNat) (by omega)
  have m1 := sm_mono hal (k := (x + 1).toNat) (by omega)
  have p0 := (smI hal x.toNat (by omega)).1
  have p1 := (smI hal (x + 1).toNat (by omega)).1
  rw [hsum] at m0 m1
  have hw2 := hw
  unfold okW at hw2
  have q0 := held_bd hw p0 m0
  have q1 := held_bd hw p1 m1
  rw [e1, ← hs]
  refine ⟨wrap_id (by omega) (by omega), p1, by omega, wrap_id (by omega) (by omega), wrap_id (x := held u v (sm d 0 (x + 1).toNat)) (by omega) (by omega), rfl, ⟨q1.1, by omega⟩, wrap_id (by omega) (by omega), ?_⟩
  rw [sl_len (n := x.toNat) (by rw [e2, rows_len]) (by omega)]
  omega
theorem split_zero {u v : Int} {d : DV} (hw : okW u v) (h : ¬ 0 < u) (x y : Int) : held u v x = 0 := by
  unfold okW at hw
  unfold held
  rw [show u = 0 by omega, Int.tdiv_zero]
theorem cSplitR_ok (N : Nat) (w0 : World) : ConOk Try.prog N w0 cSplitR := by
  refine con_of_walk (tb := tb) fine (C := [lR1, lR2]) (lopCons rfl (lopCons rfl noCon)) 80 rfl ?_ N w0
  refine fun u u0 u1 v v0 v1 a ha _ => ?_
  have ha : HasSh ints (.sl none 0 a) := ha
  rw [tree_splitR]
  simp only [T.res, B.prop, E.den, E.dat, E.top, E.val, E.isD, DV.canon, DOp.fn, chunk, List.getElem?_cons_zero, List.getElem?_cons_succ, List.getD_cons_zero, List.getD_cons_succ, List.getD_nil, List.map_cons, List.map_nil, List.cons_append, List.nil_append, List.append_assoc, allB, lR1, lR2, cSplitR, List.take_succ_cons, List.take_zero, List.drop_succ_cons, List.drop_zero, List.length_cons, List.length_nil, Nat.zero_add, Nat.reduceAdd, ints_len ha, getR 83 0, getR 83 1, getR 83 2, getR 83 3, getR 83 4, getR 83 5, getR 83 86, getR 83 87, getR 83 88, takeR 83 1, takeR 83 4, dropR 83 1]
  simp only [DV.int]
  have hels : ∀ o : List (List DV), (DV.sl none 0 o).els = o := fun _ => rfl
  simp only [hels]
  have hd0 : (DV.sl none 0 a).els.length = a.length := rfl
  generalize DV.sl none 0 a = d at hd0 ⊢
  refine ⟨fun h => sp1 (by omega), fun h => ⟨fun hb => sp2 (by omega) hb, fun hb => ?_⟩⟩
  have hw : okW u v := Classical.not_not.1 hb
  refine ⟨⟨by omega, fun k hk => absurd hk (by simp), rfl⟩, fun i i0 _ l l0 l1 ⟨hi, hal, e1⟩ => ⟨fun hlt => ⟨fun hbad => sp3 (by omega) hw fun q => ?_, fun hg => ⟨fun c1 => ⟨⟨by omega, allI_succ i0 hal (Classical.not_not.1 hg), ?_⟩, by omega⟩, fun c1 => c1 ?_⟩⟩, fun hge => ⟨fun hne => sp3 (by omega) hw fun q => ?_, fun heq => ?_⟩⟩⟩
  · have := q.1 i.toNat (by omega)
    rw [show ((i.toNat : Nat) : Int) = i by omega] at this
    exact hbad this
  · rw [sm_succ i0, e1]
  · have hg := Classical.not_not.1 hg
    have := smI hal i.toNat (Nat.le_refl _)
    omega
  · apply hne
    rw [e1, ← q.2]
    congr 1; omega
  · have heq := Classical.not_not.1 heq
    have hn : i.toNat = d.els.length := by omega
    rw [hn] at e1 hal
    have hsum : sm d 0 d.els.length = u := by omega
    refine ⟨⟨by omega, rfl, rfl⟩, fun x x0 _ m m0 m1 o _ ⟨hx, e2, e3⟩ => ⟨fun hlt => ?_, fun hge => ?_⟩⟩
    · obtain ⟨g1, g2, g3, g4, g5, g6, g7, g8, g9⟩ := split_round hw (by omega) hal hsum x0 (by omega) e2 e3
      rw [g1, g4, g5, g6, g8]
      refine ⟨fun hu => ⟨fun _ => ⟨fun _ => ⟨⟨by omega, rfl, ?_⟩, by omega⟩, fun c => c ⟨g2, g3⟩⟩, fun c => c g9⟩, fun hu => ⟨fun _ => ⟨fun _ => ⟨⟨by omega, rfl, ?_⟩, by omega⟩, fun c => c ⟨g2, g3⟩⟩, fun c => c g9⟩⟩
      · rw [rows_step x0, e3]
      · rw [rows_step x0, e3, split_zero (d := d) hw hu _ 0, split_zero (d := d) hw hu _ 0]
        rfl
    · have hx2 : x.toNat = d.els.length := by omega
      rw [e3, hx2]
      exact sp4 (by omega) hw hal hsum
end Go.Proofs.Ytalkhponnfggoaa
