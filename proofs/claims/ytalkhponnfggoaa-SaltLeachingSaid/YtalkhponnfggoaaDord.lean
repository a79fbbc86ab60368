/- DERIVED. Sums of lists of water. -/
import Derived.Test.YtalkhponnfggoaaDtreec
namespace Go.Proofs.Ytalkhponnfggoaa
open Go.Dx
set_option linter.unusedVariables false
set_option linter.unusedSimpArgs false
/-- A cell of a row, as a number. -/
def cz (e : List DV) (j : Nat) : Int := clampB (e.getD j (.n 0)).int
def sl (l : List (List DV)) (j : Nat) : Int := (l.map fun e => cz e j).sum
def okE (e : List DV) : Prop := okW (cz e 0) (cz e 1)
theorem at_cz (d : DV) (k j : Nat) : d.at (k : Int) j = cz (d.els.getD k []) j := by
  simp only [DV.at, DV.cell, DV.cint, cz, Int.toNat_natCast]
theorem sm_sl (d : DV) (j : Nat) : ∀ n : Nat, n ≤ d.els.length → sm d j n = sl (d.els.take n) j
  | 0, _ => by simp [sm, sl]
  | n + 1, h => by
    have ih := sm_sl d j n (by omega)
    have hlt : n < d.els.length := h
    rw [List.take_add_one, List.getElem?_eq_getElem hlt]
    simp only [sm, ih, sl, at_cz, Option.toList_some, List.map_append, List.map_cons, List.map_nil, List.sum_append, List.sum_cons, List.sum_nil, List.getD_eq_getElem?_getD, List.getElem?_eq_getElem hlt, Option.getD_some]
    omega
theorem sm_all (d : DV) (j : Nat) : sm d j d.els.length = sl d.els j := by rw [sm_sl d j _ (Nat.le_refl _), List.take_length]
theorem allR_iff (d : DV) : AllR d d.els.length ↔ ∀ e ∈ d.els, okE e := by
  constructor
  · intro h e he
    obtain ⟨k, hk⟩ := List.mem_iff_getElem?.1 he
    have hlt := (List.getElem?_eq_some_iff.1 hk).1
    have := h k hlt
    unfold okR at this
    rw [at_cz, at_cz, List.getD_eq_getElem?_getD, hk] at this
    exact this
  · intro h k hk
    unfold okR
    rw [at_cz, at_cz, List.getD_eq_getElem?_getD, List.getElem?_eq_getElem hk]
    exact h _ (List.getElem_mem hk)
theorem sl_app (a b : List (List DV)) (j : Nat) : sl (a ++ b) j = sl a j + sl b j := by simp [sl]
theorem sl_cons (e : List DV) (b : List (List DV)) (j : Nat) : sl (e :: b) j = cz e j + sl b j := by simp [sl]
theorem sl_rev (a : List (List DV)) (j : Nat) : sl a.reverse j = sl a j := by
  induction a with
  | nil => rfl
  | cons e a ih => rw [List.reverse_cons, sl_app, ih, sl_cons, sl_cons]; simp only [sl, List.map_nil, List.sum_nil]; omega
theorem sl_pos {a : List (List DV)} (h : ∀ e ∈ a, okE e) : 0 ≤ sl a 0 ∧ 0 ≤ sl a 1 ∧ (sl a 0 = 0 → sl a 1 = 0) := by
  induction a with
  | nil => simp [sl]
  | cons e a ih =>
    have ih := ih fun x hx => h x (List.mem_cons_of_mem _ hx)
    have he := h e (List.mem_cons_self ..)
    unfold okE okW at he
    rw [sl_cons, sl_cons]
    omega
theorem sl_split (a : List (List DV)) (k j : Nat) : sl (a.take k) j + sl (a.drop k) j = sl a j := by rw [← sl_app, List.take_append_drop]
/-- What Mix says, of the list. -/
theorem mix_ok {a : DV} {y : List DV} (h : MixP a y) (h1 : a.els.length ≤ 64) (h2 : ∀ e ∈ a.els, okE e) (h3 : sl a.els 0 ≤ 1073741824) (h4 : sl a.els 1 ≤ 1073741824) : y = [.n (sl a.els 0), .n (sl a.els 1), .n 0] := by
  have := h.2.2.2 h1 ((allR_iff a).2 h2) (by rw [sm_all]; exact h3) (by rw [sm_all]; exact h4)
  rw [sm_all, sm_all] at this
  exact this
theorem mix_inv {a : DV} {x y e : Int} (h : MixP a [.n x, .n y, .n e]) : (e = 0 ∧ a.els.length ≤ 64 ∧ (∀ e ∈ a.els, okE e) ∧ x = sl a.els 0 ∧ y = sl a.els 1 ∧ sl a.els 0 ≤ 1073741824 ∧ sl a.els 1 ≤ 1073741824) ∨ (e ≠ 0 ∧ x = 0 ∧ y = 0) := by
  by_cases c1 : 64 < a.els.length
  · have := h.1 c1
    simp only [List.cons.injEq, DV.n.injEq, and_true] at this
    exact .inr ⟨by omega, this.1, this.2.1⟩
  · by_cases c2 : AllR a a.els.length
    · by_cases c3 : sm a 0 a.els.length ≤ 1073741824 ∧ sm a 1 a.els.length ≤ 1073741824
      · have := h.2.2.2 (by omega) c2 c3.1 c3.2
        simp only [List.cons.injEq, DV.n.injEq, and_true] at this
        rw [sm_all, sm_all] at this c3
        exact .inl ⟨this.2.2, by omega, (allR_iff a).1 c2, this.1, this.2.1, c3.1, c3.2⟩
      · have := h.2.2.1 (by omega) c2 c3
        simp only [List.cons.injEq, DV.n.injEq, and_true] at this
        exact .inr ⟨by omega, this.1, this.2.1⟩
    · have := h.2.1 (by omega) c2
      simp only [List.cons.injEq, DV.n.injEq, and_true] at this
      exact .inr ⟨by omega, this.1, this.2.1⟩
end Go.Proofs.Ytalkhponnfggoaa
