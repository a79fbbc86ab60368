/- DERIVED. A further factor; a further case. -/
import Derived.Test.YtpaphkpdnmalhaaEmathc
import Derived.Test.YtpaphkpdnmalhaaEcond
namespace Go.Proofs.Ytpaphkpdnmalhaa
open Go.Dx
set_option linter.unusedVariables false
theorem add_len (n : Int) (f : DV) : ∀ k : Nat, (addL n f k).length ≤ k
  | 0 => Nat.le_refl _
  | k + 1 => by
    have := add_len n f k
    unfold addL
    split
    · simp only [List.length_append, List.length_cons, List.length_nil]; omega
    · omega
theorem add_ok (n : Int) (f : DV) : ∀ k : Nat, k ≤ 32 → (∀ m : Nat, m < (addL n f k).length → (0 ≤ el (.sl none 0 (addL n f k)) m ∧ el (.sl none 0 (addL n f k)) m < k) ∧ (el (.sl none 0 (addL n f k)) m = n ∨ memP f (el (.sl none 0 (addL n f k)) m)) ∧
      (0 < m → el (.sl none 0 (addL n f k)) (m - 1) < el (.sl none 0 (addL n f k)) m)) ∧ (∀ x : Nat, x < k → ((x : Int) = n ∨ memP f x) → ∃ m, m < (addL n f k).length ∧ el (.sl none 0 (addL n f k)) m = x)
  | 0, _ => ⟨fun m hm => absurd hm (Nat.not_lt_zero m), fun x hx => absurd hx (Nat.not_lt_zero x)⟩
  | k + 1, hk => by
    obtain ⟨h1, h2⟩ := add_ok n f k (by omega)
    by_cases c : (k : Int) = n ∨ memP f k
    · have e : addL n f (k + 1) = addL n f k ++ [[.n k]] := if_pos c
      have el0 : el (.sl none 0 (addL n f k ++ [[.n k]])) (addL n f k).length = k := el_last rfl (by omega)
      rw [e]
      refine ⟨fun m hm => ?_, fun x hx hc => ?_⟩
      · rw [List.length_append] at hm
        have hm : m < (addL n f k).length + 1 := hm
        by_cases d : m < (addL n f k).length
        · obtain ⟨a, b, g⟩ := h1 m d
          rw [el_lt d]
          refine ⟨⟨a.1, by omega⟩, b, fun h0 => ?_⟩
          rw [el_lt (by omega)]
          exact g h0
        · obtain rfl : m = (addL n f k).length := by omega
          rw [el0]
          refine ⟨⟨by omega, by omega⟩, c, fun h0 => ?_⟩
          rw [el_lt (by omega)]
          exact (h1 _ (by omega)).1.2
      · by_cases d : x < k
        · obtain ⟨m, a, b⟩ := h2 x d hc
          exact ⟨m, by rw [List.length_append]; omega, by rw [el_lt a]; exact b⟩
        · obtain rfl : x = k := by omega
          exact ⟨(addL n f x).length, by rw [List.length_append]; exact Nat.lt_succ_self _, el0⟩
    · have e : addL n f (k + 1) = addL n f k := if_neg c
      rw [e]
      refine ⟨fun m hm => ?_, fun x hx hc => ?_⟩
      · obtain ⟨a, b, g⟩ := h1 m hm
        exact ⟨⟨a.1, by omega⟩, b, g⟩
      · by_cases d : x < k
        · exact h2 x d hc
        · obtain rfl : x = k := by omega
          exact absurd hc c
theorem add_ln {n : Int} {f : DV} {k : Nat} (hk : k ≤ 32) : (DV.sl none 0 (addL n f k)).len = (addL n f k).length := len_of (n := 32) (by have := add_len n f k; omega) (by decide)
/-- With a further factor that favours the side the same case binds. -/
theorem add_binds {S C f : DV} {side n : Int} (hc : chkF S C = 0) (hn : S.at n 0 = side) {i : Nat} (hi : i < C.len.toNat) (h : bindP S C f side i) : setP S.len (.sl none 0 (addL n f S.len.toNat)) (DV.sl none 0 (addL n f S.len.toNat)).len.toNat ∧ bindP S C (.sl none 0 (addL n f S.len.toNat)) side i := by
  obtain ⟨⟨hS, _⟩, _, _⟩ := chk_zero hc
  have l0 := len_nn S
  obtain ⟨h1, h2⟩ := add_ok n f S.len.toNat (by omega)
  have e1 := add_ln (n := n) (f := f) (k := S.len.toNat) (by omega)
  have e2 : (DV.sl none 0 (addL n f S.len.toNat)).len.toNat = (addL n f S.len.toNat).length := by omega
  refine ⟨?_, h.1, fun m hm => ?_, fun k hk => ?_⟩
  · rw [e2]
    intro m hm
    obtain ⟨a, b, g⟩ := h1 m hm
    exact ⟨⟨a.1, by omega⟩, g⟩
  · have d := (case_dec hc (i := i) (by omega) (by omega)).1.2.1 m hm
    obtain ⟨x, hx⟩ : ∃ x : Nat, el (rc C i) m = x := ⟨(el (rc C i) m).toNat, by have := d.1.1; omega⟩
    have q := h.2.1 m hm
    rw [hx] at q d ⊢
    obtain ⟨j, a, b⟩ := h2 x (by have := d.1.2; omega) (Or.inr q)
    exact ⟨j, by rw [e2]; exact a, b⟩
  · rw [e2] at hk
    obtain ⟨a, b, g⟩ := h1 k hk
    intro z
    rcases b with b | b
    · apply z.1
      rw [b, hn]; exact h.1.symm
    · obtain ⟨j, hj, ej⟩ := b
      exact h.2.2 j hj (by rw [ej]; exact z)
theorem more_binds {S : DV} {C : List (List DV)} {f : DV} {no hr g side : Int} {x y : DV} (hl : (DV.sl none 0 C).len = C.length) {i : Nat} (hi : i < C.length) : bindP S (moreC C no hr g x y) f side i ↔ bindP S (.sl none 0 C) f side i := by
  unfold bindP
  rw [more_at (by omega) (by omega), more_rc (by omega) (by omega), more_fc (by omega) (by omega)]
section
variable {S : DV} {C : List (List DV)} {no hr g : Int} {x y x' y' : DV}
/-- Where the lists of the last case lie says nothing. -/
theorem more_inv (hx : x.els = x'.els) (hy : y.els = y'.els) {i : Int} (h0 : 0 ≤ i) (h : i ≤ C.length) :
    (∀ j, j < 3 → (moreC C no hr g x y).cell i j = (moreC C no hr g x' y').cell i j) ∧ ((moreC C no hr g x y).cell i 3).els = ((moreC C no hr g x' y').cell i 3).els ∧ ((moreC C no hr g x y).cell i 4).els = ((moreC C no hr g x' y').cell i 4).els := by
  by_cases c : i < C.length
  · refine ⟨fun j _ => by rw [more_cell h0 c, more_cell h0 c], by rw [more_cell h0 c, more_cell h0 c], by rw [more_cell h0 c, more_cell h0 c]⟩
  · have c : i = C.length := by omega
    unfold moreC
    refine ⟨fun j hj => ?_, ?_, ?_⟩
    · rw [cell_last c, cell_last c]
      match j, hj with
      | 0, _ => rfl
      | 1, _ => rfl
      | 2, _ => rfl
    · rw [cell_last c, cell_last c]; exact hx
    · rw [cell_last c, cell_last c]; exact hy
theorem more_len : (moreC C no hr g x y).len = (moreC C no hr g x' y').len := by
  unfold DV.len moreC
  simp only [DV.els, List.length_append, List.length_cons, List.length_nil]
theorem more_le : (moreC C no hr g x y).len.toNat ≤ C.length + 1 := by
  unfold DV.len moreC clampL
  simp only [DV.els, List.length_append, List.length_cons, List.length_nil]
  split <;> omega
theorem case_inv (hx : x.els = x'.els) (hy : y.els = y'.els) {i : Nat} (h : i ≤ C.length) (k : caseP S (moreC C no hr g x y) i) : caseP S (moreC C no hr g x' y') i := by
  obtain ⟨a, b, c⟩ := more_inv (C := C) (no := no) (hr := hr) (g := g) hx hy (i := i) (by omega) (by omega)
  have a0 := a 0 (by decide)
  have a1 := a 1 (by decide)
  have a2 := a 2 (by decide)
  unfold caseP DV.at fc rc at k ⊢
  rw [a0, a1, a2, b, c] at k
  refine ⟨k.1, fun v => ?_, k.2.2⟩
  obtain ⟨d, _, _⟩ := more_inv (C := C) (no := no) (hr := hr) (g := g) hx hy (i := (i : Int) - 1) (by omega) (by omega)
  have := k.2.1 v
  rw [d 0 (by decide), d 1 (by decide)] at this
  exact this
theorem chk_inv (hx : x.els = x'.els) (hy : y.els = y'.els) (k : chkF S (moreC C no hr g x y) = 0) : chkF S (moreC C no hr g x' y') = 0 := by
  obtain ⟨⟨h1, h2⟩, h3, h4⟩ := chk_zero k
  rw [more_len (x' := x') (y' := y')] at h2 h4
  have q := chk_fine (S := S) (C := moreC C no hr g x' y') (by omega) ⟨h3, fun i hi => case_inv hx hy (by have := more_le (C := C) (no := no) (hr := hr) (g := g) (x := x') (y := y'); omega) (h4 i hi)⟩
  exact (n_inj q).symm
theorem few_inv (hx : x.els = x'.els) (hy : y.els = y'.els) (k : FewP S (moreC C no hr g x y)) : FewP S (moreC C no hr g x' y') := by
  unfold FewP at k ⊢
  rw [more_len (x' := x') (y' := y')] at k
  refine ⟨k.1, fun i hi => ?_⟩
  obtain ⟨_, b, c⟩ := more_inv (C := C) (no := no) (hr := hr) (g := g) hx hy (i := i) (by omega) (by have := more_le (C := C) (no := no) (hr := hr) (g := g) (x := x') (y := y'); omega)
  have := k.2 i hi
  unfold DV.len at this ⊢
  rw [b, c] at this
  exact this
end
/-- A further case ends no binding. -/
theorem more_bound {S : DV} {C : List (List DV)} {f : DV} {no hr g side : Int} {x y : DV} (hl : (DV.sl none 0 C).len = C.length) (h60 : C.length ≤ 60) (hX : chkF S (moreC C no hr g x y) = 0) (hf : setP S.len f f.len.toNat) (hs : 0 ≤ side ∧ side ≤ 1)
    {i : Nat} (hi : i < C.length) (h1 : bindP S (.sl none 0 C) f side i) (h2 : ∀ j, j < i → ¬ bindP S (.sl none 0 C) f side j) {a b e : Int} (k : [DV.n a, .n b, .n e] = BindsF S (moreC C no hr g x y) f side) : e = 0 ∧ b = 1 ∧ a = i := by
  have lX : (moreC C no hr g x y).len = (C.length : Int) + 1 := by
    unfold moreC
    rw [len_of (n := 61) (by simp; omega) (by omega)]; simp
  have q := binds_some (S := S) (C := moreC C no hr g x y) (f := f) (side := side) (ask_ok hX hf hs) (i := i) (by omega) (fun j hj z => h2 j hj ((more_binds hl (by omega)).1 z)) ((more_binds hl hi).2 h1)
  rw [← q] at k
  simp only [List.cons.injEq, DV.n.injEq, and_true] at k
  exact ⟨k.2.2, k.2.1, k.1⟩
end Go.Proofs.Ytpaphkpdnmalhaa
