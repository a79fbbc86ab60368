/- DERIVED. Lists of spans as data. -/
import Derived.Test.YtdffnmhpkapbkaaDoorEconb
import Derived.Test.YtdffnmhpkapbkaaDoorEset
namespace Go.Proofs.YtdffnmhpkapbkaaDoor
open Go.Dx
set_option linter.unusedVariables false
/-- A list of spans as data. -/
def prs (e : List DV) : Int × Int := ((e.getD 0 (.n 0)).cint, (e.getD 1 (.n 0)).cint)
def spn (d : DV) : Sp := d.els.map prs
theorem spn_len (d : DV) : (spn d).length = d.els.length := by simp [spn]
theorem spn_get {d : DV} {k : Nat} (h : k < d.els.length) : (spn d).getD k (0, 0) = (d.at k 0, d.at k 1) := by
  unfold spn
  rw [List.getD_eq_getElem?_getD, List.getElem?_map, List.getElem?_eq_getElem h]
  show prs d.els[k] = _
  have e : d.els.getD k [] = d.els[k] := by rw [List.getD_eq_getElem?_getD, List.getElem?_eq_getElem h]; rfl
  show _ = (((d.els.getD (k : Int).toNat []).getD 0 (.n 0)).cint, ((d.els.getD (k : Int).toNat []).getD 1 (.n 0)).cint)
  rw [Int.toNat_natCast, e]
  rfl
theorem spn_app (l : List (List DV)) (x y : Int) (hx : -9223372036854775808 ≤ x ∧ x ≤ 9223372036854775807) (hy : -9223372036854775808 ≤ y ∧ y ≤ 9223372036854775807) : spn (.sl none 0 (l ++ [[.n x, .n y]])) = spn (.sl none 0 l) ++ [(x, y)] := by
  unfold spn
  show (l ++ [[DV.n x, .n y]]).map prs = l.map prs ++ _
  rw [List.map_append]
  show _ ++ [(clampB x, clampB y)] = _
  unfold clampB
  rw [if_pos (by omega), if_pos (by omega)]
theorem can_iff : ∀ {l : Sp} {m : Int}, Can m l ↔ ∀ k : Nat, k < l.length → ((if k = 0 then m else (l.getD (k - 1) (0, 0)).2 + 2) ≤ (l.getD k (0, 0)).1 ∧ (l.getD k (0, 0)).1 ≤ (l.getD k (0, 0)).2)
  | [], m => ⟨fun _ k hk => absurd hk (Nat.not_lt_zero k), fun _ => trivial⟩
  | (a, b) :: r, m => by
    have ih := can_iff (l := r) (m := b + 2)
    constructor
    · intro h k hk
      cases k with
      | zero => exact h.1
      | succ k =>
        have hk : k + 1 < r.length + 1 := hk
        have := ih.1 h.2 k (by omega)
        rw [if_neg (by omega)]
        cases k with
        | zero => exact this
        | succ k => rw [if_neg (by omega)] at this; exact this
    · intro h
      refine ⟨h 0 (Nat.succ_pos _), ih.2 fun k hk => ?_⟩
      have := h (k + 1) (by show k + 1 < r.length + 1; omega)
      rw [if_neg (by omega)] at this
      cases k with
      | zero => exact this
      | succ k => rw [if_neg (by omega)]; exact this
theorem alls_iff {d : DV} (hl : d.len = d.els.length) : AllS d d.len ↔ Can 0 (spn d) ∧ ∀ p, p ∈ spn d → p.2 ≤ 73048 := by
  rw [can_iff, spn_len]
  constructor
  · intro h
    refine ⟨fun k hk => ?_, fun p hp => ?_⟩
    · have q := h k (by omega) (by omega)
      rw [spn_get hk]
      unfold OkS lst at q
      by_cases c : k = 0
      · subst c
        rw [if_pos (show ((0 : Nat) : Int) = 0 from rfl)] at q
        rw [if_pos rfl]
        exact q.1
      · rw [if_neg (by omega)] at q
        rw [if_neg c, spn_get (by omega)]
        rw [show ((k : Int) - 1) = ((k - 1 : Nat) : Int) by omega] at q
        exact q.1
    · obtain ⟨k, hk⟩ := List.mem_iff_getElem?.1 hp
      have hlt : k < (spn d).length := (List.getElem?_eq_some_iff.1 hk).1
      rw [spn_len] at hlt
      have e : (spn d).getD k (0, 0) = p := by rw [List.getD_eq_getElem?_getD, hk]; rfl
      rw [spn_get hlt] at e
      have q := h k (by omega) (by omega)
      rw [← e]
      exact q.2.2
  · rintro ⟨h, h2⟩ k k0 k1
    obtain ⟨j, rfl⟩ : ∃ j : Nat, k = j := ⟨k.toNat, by omega⟩
    have hj : j < d.els.length := by omega
    have q := h j hj
    have q2 := h2 ((spn d).getD j (0, 0)) (by
      rw [List.getD_eq_getElem?_getD, List.getElem?_eq_getElem (by rw [spn_len]; exact hj)]
      exact List.getElem_mem ..)
    rw [spn_get hj] at q q2
    have q2 : d.at j 1 ≤ 73048 := q2
    have hc : Can 0 (spn d) := can_iff.2 (by rw [spn_len]; exact h)
    unfold OkS lst
    have lo : 0 ≤ d.at j 0 := Can.le hc ⟨(d.at j 0, d.at j 1), by
      rw [← spn_get hj, List.getD_eq_getElem?_getD, List.getElem?_eq_getElem (by rw [spn_len]; exact hj)]
      exact List.getElem_mem .., Int.le_refl _, q.2⟩
    have q3 : d.at j 0 ≤ d.at j 1 := q.2
    by_cases c : j = 0
    · subst c
      rw [if_pos (show ((0 : Nat) : Int) = 0 from rfl)]
      exact ⟨⟨lo, q3⟩, Int.le_trans lo q3, q2⟩
    · rw [if_neg (by omega)]
      have q1 := q.1
      rw [if_neg c, spn_get (by omega)] at q1
      rw [show ((j : Int) - 1) = ((j - 1 : Nat) : Int) by omega]
      exact ⟨⟨q1, q3⟩, Int.le_trans lo q3, q2⟩
end Go.Proofs.YtdffnmhpkapbkaaDoor
