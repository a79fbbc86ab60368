/- DERIVED. What the search for the line needs. -/
import Derived.Test.YtcjdheaaddaagaaDctb
namespace Go.Proofs.Ytcjdheaaddaagaa
open Go.Dx
set_option linter.unusedVariables false
set_option linter.unusedSimpArgs false
theorem ab_next {b : Bool} {l : Int} {p : DV} {i : Int} (h0 : 0 ≤ i) : abF b l (el p) (i + 1).toNat = abF b l (el p) i.toNat + max 0 (lts b (p.at i 0) - l + 1) := by
  unfold abF
  rw [sum_next h0, el_at p h0]
theorem ab_cap {b : Bool} {l : Int} {c : Nat → Int} {n : Nat} (hc : Cl c n) (h1 : 0 ≤ l) (hn : n ≤ 664) : 0 ≤ abF b l c n ∧ abF b l c n ≤ 712964571800 := by
  refine ⟨sumN_nn fun i _ => by omega, ?_⟩
  have := sumN_bound (f := fun i => max 0 (lts b (c i) - l + 1)) (n := n) (b := 1073741825) fun i hi => by
    have := hc i hi
    unfold lts
    cases b <;> simp <;> omega
  have h2 : (n : Int) * 1073741825 ≤ 664 * 1073741825 := Int.mul_le_mul_of_nonneg_right (by omega) (by omega)
  show sumN _ _ ≤ _
  omega
theorem ab_t {l : Int} {c : Nat → Int} {n : Nat} : toF true l c n = sumN (fun i => c i / 2) n + abF true l c n := by
  unfold toF abF
  rw [← sumN_add]
  exact sumN_congr fun i _ => tF_l
theorem ab_f {l : Int} {c : Nat → Int} {n : Nat} (hc : Cl c n) (hl : 0 ≤ l) : toF false l c n + abF false (l + 1) c n = sumN (fun i => c i / 2) n := by
  unfold toF abF
  rw [← sumN_add]
  exact sumN_congr fun i hi => by have := tF_e hl (hc i hi).1; omega
theorem half_cap {c : Nat → Int} {n k : Nat} (hc : Cl c n) (hk : k ≤ n) (hn : n ≤ 664) : 0 ≤ sumN (fun i => c i / 2) k ∧ sumN (fun i => c i / 2) k ≤ 356482285568 := by
  refine ⟨sumN_nn fun i hi => by have := hc i (by omega); omega, ?_⟩
  have := sumN_bound (f := fun i => c i / 2) (n := k) (b := 536870912) fun i hi => by have := hc i (by omega); omega
  have h2 : (k : Int) * 536870912 ≤ 664 * 536870912 := Int.mul_le_mul_of_nonneg_right (by omega) (by omega)
  omega
theorem pRows_len (c : Nat → Int) (n : Nat) : (pRows c n).length = n := by unfold pRows; simp
theorem pRows_get (c : Nat → Int) {n k : Nat} (h : k < n) : (pRows c n)[k]? = some (prD c k) := by
  unfold pRows; rw [List.getElem?_map, List.getElem?_range h]; rfl
theorem pRows_succ (c : Nat → Int) (n : Nat) : pRows c (n + 1) = pRows c n ++ [prD c n] := by unfold pRows; rw [List.range_succ, List.map_append]; rfl
theorem at_row {K : List (List DV)} {p : DV} {j : Int} (h0 : 0 ≤ j) (hj : j ≤ 9223372036854775807) (hK : K[j.toNat]? = some (prD (el p) j.toNat)) : (DV.sl none 0 K).at j 0 = j ∧ (DV.sl none 0 K).at j 1 = p.at j 0 := by
  have e : K.getD j.toNat [] = prD (el p) j.toNat := by rw [List.getD_eq_getElem?_getD, hK]; rfl
  constructor
  · show clampB (((K.getD j.toNat []).getD 0 (.n 0)).int) = j
    rw [e]
    show clampB (j.toNat : Int) = j
    rw [Int.toNat_of_nonneg h0]; exact clampB_i64 (by omega) hj
  · show clampB (((K.getD j.toNat []).getD 1 (.n 0)).int) = p.at j 0
    rw [e]
    show clampB (el p j.toNat) = _
    rw [el_at p h0]
    unfold DV.at; exact clampB_eq (clampB_rng _).1 (clampB_rng _).2
theorem len_k {K : List (List DV)} {n : Nat} (h : K.length = n) (hn : n ≤ 664) : (DV.sl none 0 K).len = n := by
  show clampL K.length = _
  rw [h]; exact clampL_eq (by omega)
theorem DelI.start {b : Bool} {l : Int} {c : Nat → Int} {n : Nat} {i : Int} {K : List (List DV)} (h0 : 0 ≤ i) (hi : i < n) (hK : K = pRows c n) (hh : ∀ j : Nat, j < i.toNat → hasF b l (c j)) (hn : ¬ hasF b l (c i.toNat)) : DelI b l c n i (i + 1) K := by
  have e : hasI b l c (i + 1).toNat = List.range i.toNat := by
    rw [show (i + 1).toNat = i.toNat + 1 by omega, hasI_succ, if_neg hn, List.append_nil, hasI_all hh]
  subst hK
  refine ⟨by omega, by rw [e, List.length_range]; omega, pRows_len c n, ?_, fun k h1 h2 => pRows_get c h2⟩
  rw [e]
  unfold pRows
  rw [← List.map_take, List.take_range, Nat.min_eq_left (by omega)]
theorem DelI.skip {b : Bool} {l : Int} {c : Nat → Int} {n : Nat} {i j : Int} {K : List (List DV)} (h : DelI b l c n i j K) (h0 : 0 ≤ j) (hj : j < n) (hn : ¬ hasF b l (c j.toNat)) : DelI b l c n i (j + 1) K := by
  have e : hasI b l c (j + 1).toNat = hasI b l c j.toNat := by
    rw [show (j + 1).toNat = j.toNat + 1 by omega, hasI_succ, if_neg hn, List.append_nil]
  exact ⟨by omega, by rw [e]; exact h.hi, h.hK, by rw [e]; exact h.h1, fun k h1 h2 => h.h2 k (by omega) h2⟩
theorem DelI.lt {b : Bool} {l : Int} {c : Nat → Int} {n : Nat} {i j : Int} {K : List (List DV)} (h : DelI b l c n i j K) (h0 : 0 ≤ j) : 0 ≤ i ∧ i ≤ j := by
  have := hasI_le (b := b) (l := l) (c := c) (n := j.toNat)
  have := h.hi
  omega
theorem row_two {K : List (List DV)} {mx : Nat} {a b : Sh} (h : HasSh (.sl mx [a, b]) (.sl none 0 K)) : ∀ e ∈ K, ∃ u v, e = [u, v] := fun e he => by
  simp only [HasSh, DV.els] at h
  have := h.2 e he
  cases e with
  | nil => simp [HasShs] at this
  | cons u r => cases r with
    | nil => simp [HasShs] at this
    | cons v s => cases s with
      | nil => exact ⟨u, v, rfl⟩
      | cons w z => simp [HasShs] at this
theorem mod_get {α : Type} {l : List α} {i k : Nat} {f : α → α} : (l.modify i f)[k]? = if i = k then (l[k]?).map f else l[k]? := by
  rw [List.getElem?_modify]
  by_cases h : i = k <;> simp [h]
theorem DelI.keep {b : Bool} {l : Int} {p : DV} {n : Nat} {i j : Int} {K : List (List DV)} (h : DelI b l (el p) n i j K) (h0 : 0 ≤ j) (hj : j < n) (hn : hasF b l (el p j.toNat)) (h2 : ∀ e ∈ K, ∃ u v, e = [u, v]) {x y : Int} (hx : x = j) (hy : y = p.at j 0) : DelI b l (el p) n (i + 1) (j + 1) (K.modify i.toNat fun e => layG e 0 [.n x, .n y]) := by
  obtain ⟨i0, ij⟩ := h.lt h0
  have e : hasI b l (el p) (j + 1).toNat = hasI b l (el p) j.toNat ++ [j.toNat] := by
    rw [show (j + 1).toNat = j.toNat + 1 by omega, hasI_succ, if_pos hn]
  have hi := h.hi
  have hK := h.hK
  have hil : i.toNat < K.length := by omega
  obtain ⟨u, v, huv⟩ := h2 _ (List.getElem_mem hil)
  have hmod : (K.modify i.toNat fun e => layG e 0 [.n x, .n y])[i.toNat]? = some (prD (el p) j.toNat) := by
    rw [mod_get, if_pos rfl, List.getElem?_eq_getElem hil, huv]
    simp only [layG, Option.map_some, prD, hx, hy, el_at p h0, Int.toNat_of_nonneg h0]
  refine ⟨by omega, by rw [e, List.length_append]; simp; omega, by rw [List.length_modify]; exact hK, ?_, fun k h1 h3 => ?_⟩
  · rw [e, List.map_append, ← h.h1, show (i + 1).toNat = i.toNat + 1 by omega, List.take_add_one, hmod]
    congr 1
    apply List.ext_getElem?
    intro k
    rw [List.getElem?_take, List.getElem?_take]
    split
    · rw [mod_get, if_neg (by omega)]
    · rfl
  · rw [mod_get, if_neg (by omega)]
    exact h.h2 k (by omega) h3
theorem DelI.done {b : Bool} {l : Int} {c : Nat → Int} {n : Nat} {i j : Int} {K : List (List DV)} (h : DelI b l c n i j K) (h0 : 0 ≤ j) (hj : ¬ j < n) : K.take i.toNat = (hasI b l c n).map (prD c) ∧ i = ((hasI b l c n).length : Int) := by
  have e : j.toNat = n := by have := h.hj; omega
  have h1 := h.h1
  have h2 := h.hi
  rw [e] at h1 h2
  exact ⟨h1, h2⟩
theorem lat_eq {est : Int} {c : Nat → Int} {n : Nat} (hc : Cl c n) : decide (sumN (fun i => c i / 2) n < est) = latF est c n := by unfold latF; rw [toF_top hc]
/-- So many of the last level are awarded. -/
theorem rest_in {est : Int} {c : Nat → Int} {n : Nat} (he : Est est c n) {b : Bool} {l : Int} (hb : b = latF est c n) (hl : l = lvF b est c n) : 1 ≤ est - toF b (prv b l) c n ∧ est - toF b (prv b l) c n ≤ (hasI b l c n).length := by
  have il : IsL b est c n l := by rw [hl, hb]; exact lvF_isL he
  have := toF_step (b := b) he.cl il.l1
  have := il.up
  have := il.dn
  omega
end Go.Proofs.Ytcjdheaaddaagaa
