/- DERIVED. Some of the claimants: what a cut gives them is a cut of theirs. -/
import Derived.Test.YtcjdheaaddaagaaDcut
namespace Go.Proofs.Ytcjdheaaddaagaa
open Go.Dx
set_option linter.unusedVariables false
set_option linter.unusedSimpArgs false
def selI (s : Nat → Bool) (n : Nat) : List Nat := (List.range n).filter s
theorem selI_succ (s : Nat → Bool) (n : Nat) : selI s (n + 1) = selI s n ++ if s n = true then [n] else [] := by
  unfold selI
  rw [List.range_succ, List.filter_append]
  by_cases h : s n = true
  · rw [if_pos h, List.filter_cons_of_pos h]; rfl
  · rw [if_neg h, List.filter_cons_of_neg h]; rfl
theorem selI_inc (s : Nat → Bool) (n : Nat) : (selI s n).Pairwise (· < ·) := List.Pairwise.filter _ List.pairwise_lt_range
theorem selI_lt {s : Nat → Bool} {n k : Nat} (h : k ∈ selI s n) : k < n := by
  unfold selI at h
  simpa using (List.mem_filter.1 h).1
theorem selI_len (s : Nat → Bool) (n : Nat) : (selI s n).length ≤ n := by
  have := List.length_filter_le s (List.range n)
  rw [List.length_range] at this
  exact this
theorem selI_at {s : Nat → Bool} {n j : Nat} (h : j < (selI s n).length) : (selI s n).getD j 0 < n := by
  rw [List.getD_eq_getElem?_getD, List.getElem?_eq_getElem h]
  exact selI_lt (List.getElem_mem h)
theorem sumN_sel (s : Nat → Bool) (a : Nat → Int) : ∀ n, sumN (fun j => if s j = true then a j else 0) n = sumN (fun j => a ((selI s n).getD j 0)) (selI s n).length
  | 0 => rfl
  | n + 1 => by
    show sumN _ n + (if s n = true then a n else 0) = _
    rw [sumN_sel s a n, selI_succ]
    by_cases h : s n = true
    · rw [if_pos h, if_pos h, List.length_append]
      show _ = sumN _ (selI s n).length + a _
      have e : (selI s n ++ [n]).getD (selI s n).length 0 = n := by rw [List.getD_eq_getElem?_getD, List.getElem?_append_right (Nat.le_refl _)]; simp
      rw [e]
      congr 1
      exact sumN_congr fun i hi => by
        rw [List.getD_eq_getElem?_getD, List.getD_eq_getElem?_getD, List.getElem?_append_left hi]
    · rw [if_neg h, if_neg h, List.append_nil]; omega
theorem inc_le {k : Int} : ∀ {L : List Nat}, L.Pairwise (· < ·) → ∀ {j : Nat}, j < L.length → ((L.getD j 0 : Int) ≤ k ↔ j < (L.filter fun x : Nat => decide ((x : Int) ≤ k)).length)
  | [], _, j, hj => absurd hj (Nat.not_lt_zero j)
  | x :: r, h, j, hj => by
    rw [List.pairwise_cons] at h
    by_cases q : (x : Int) ≤ k
    · rw [List.filter_cons_of_pos (by simpa using q)]
      cases j with
      | zero => simpa using q
      | succ j =>
        have := inc_le (k := k) h.2 (j := j) (by simpa using hj)
        simp only [List.getD_cons_succ, List.length_cons, Nat.add_lt_add_iff_right]
        exact this
    · rw [List.filter_cons_of_neg (by simpa using q)]
      have hz : (r.filter fun x : Nat => decide ((x : Int) ≤ k)) = [] := by
        rw [List.filter_eq_nil_iff]
        intro y hy
        have := h.1 y hy
        simp only [decide_eq_true_eq]; omega
      rw [hz]
      refine ⟨fun z => ?_, fun z => absurd z (Nat.not_lt_zero _)⟩
      cases j with
      | zero => exact absurd z q
      | succ j =>
        simp only [List.getD_cons_succ] at z
        have hjl : j < r.length := by simpa using hj
        have := h.1 (r.getD j 0) (by rw [List.getD_eq_getElem?_getD, List.getElem?_eq_getElem hjl]; exact List.getElem_mem hjl)
        omega
theorem Cut.some {E : Int → Prop} {f : Int → Int → Int} (h : Cut E f) {L : List Nat} (hL : L.Pairwise (· < ·)) : ∃ g, Cut E g ∧ ∀ c (j : Nat), E c → j < L.length → g c j = f c (L.getD j 0) := by
  rcases h with h | ⟨b, l, d, k, hl, h⟩
  · exact ⟨fun _ _ => 0, .inl fun _ _ _ => rfl, fun c j hc hj => (h c _ hc).symm⟩
  · cases b
    · refine ⟨cutF false l d (((L.filter fun x : Nat => decide ((x : Int) ≤ k)).length : Int) - 1), .inr ⟨false, l, d, _, hl, fun _ _ _ => rfl⟩, fun c j hc hj => ?_⟩
      rw [h c _ hc, cut_f, cut_f]
      have := inc_le (k := k) hL hj
      have e : (l ≤ c / 2 ∧ (d < c ∨ (c = d ∧ (j : Int) ≤ ((L.filter fun x : Nat => decide ((x : Int) ≤ k)).length : Int) - 1))) ↔ (l ≤ c / 2 ∧ (d < c ∨ (c = d ∧ (L.getD j 0 : Int) ≤ k))) := by
        rw [this]
        constructor <;> (rintro ⟨h1, h2⟩; exact ⟨h1, by omega⟩)
      simp only [e]
    · refine ⟨cutF true l d ((L.filter fun x : Nat => decide ((x : Int) ≤ k - 1)).length : Int), .inr ⟨true, l, d, _, hl, fun _ _ _ => rfl⟩, fun c j hc hj => ?_⟩
      rw [h c _ hc, cut_t, cut_t]
      have := inc_le (k := k - 1) hL hj
      have e : (l ≤ c - c / 2 ∧ (c < d ∨ (c = d ∧ ((L.filter fun x : Nat => decide ((x : Int) ≤ k - 1)).length : Int) ≤ (j : Int)))) ↔ (l ≤ c - c / 2 ∧ (c < d ∨ (c = d ∧ k ≤ (L.getD j 0 : Int)))) := by
        constructor <;> (rintro ⟨h1, h2⟩; exact ⟨h1, by omega⟩)
      simp only [e]
def gSel (g : Nat → Int) (L : List Nat) : List (List DV) := L.map fun k => [.n (g k)]
theorem gSel_len (g : Nat → Int) {L : List Nat} (h : L.length ≤ 9223372036854775807) : (DV.sl none 0 (gSel g L)).len = L.length := by
  show clampL (gSel g L).length = _
  unfold gSel
  rw [List.length_map]
  exact clampL_eq h
theorem gSel_at (g : Nat → Int) {L : List Nat} {j : Nat} (h : j < L.length) (h0 : -9223372036854775808 ≤ g (L.getD j 0)) (h1 : g (L.getD j 0) ≤ 9223372036854775807) : el (DV.sl none 0 (gSel g L)) j = g (L.getD j 0) := by
  show clampB ((((gSel g L).getD (j : Int).toNat []).getD 0 (.n 0)).int) = _
  have e : (gSel g L).getD j [] = [.n (g (L.getD j 0))] := by
    unfold gSel
    rw [List.getD_eq_getElem?_getD, List.getElem?_map, List.getElem?_eq_getElem h, List.getD_eq_getElem?_getD, List.getElem?_eq_getElem h]; rfl
  rw [Int.toNat_natCast, e]
  show clampB (g (L.getD j 0)) = _
  exact clampB_i64 h0 h1
theorem gRows_el (g : Nat → Int) {n k : Nat} (h : k < n) (h0 : -9223372036854775808 ≤ g k) (h1 : g k ≤ 9223372036854775807) : el (DV.sl none 0 (gRows g n)) k = g k := gAt g h h0 h1
/-- Some divide what they had together. -/
theorem some_same {est : Int} {p : DV} (h : chkF est p = 0) (s : Nat → Bool) {q : DV} (hq : q = .sl none 0 (gSel (el p) (selI s (nn p)))) {sum : Int} (hs : sum = sumN (fun j => if s j = true then vecF est p (el p j) j else 0) (nn p)) :
    chkF sum q = 0 ∧ awF sum q = [.sl none 0 (gSel (fun i => vecF est p (el p i) i) (selI s (nn p))), .n 0] := by
  have hi := chk_in h
  have hE : ∀ c : Int, (0 ≤ c ∧ c ≤ 1073741824) → 0 ≤ c := fun c hc => hc.1
  have hV := vec_cut h fun c => 0 ≤ c ∧ c ≤ 1073741824
  have hlp := len_nn p
  have hnn := nn_eq p
  have hll := selI_len s (nn p)
  have hql : q.len = (selI s (nn p)).length := by rw [hq]; exact gSel_len _ (by omega)
  have hqn : nn q = (selI s (nn p)).length := by show q.len.toNat = _; rw [hql, Int.toNat_natCast]
  have hcl : ∀ k, k < nn p → 0 ≤ el p k ∧ el p k ≤ 1073741824 := hi.2.1
  have hqe : ∀ j, j < (selI s (nn p)).length → el q j = el p ((selI s (nn p)).getD j 0) := fun j hj => by
    have := hcl _ (selI_at hj)
    rw [hq]; exact gSel_at _ hj (by omega) (by omega)
  have hsum : sum = sumN (fun j => vecF est p (el p ((selI s (nn p)).getD j 0)) ((selI s (nn p)).getD j 0 : Nat)) (selI s (nn p)).length := by
    rw [hs, sumN_sel s (fun j => vecF est p (el p j) j)]
  have hc : chkF sum q = 0 := by
    unfold chkF
    rw [if_neg (by omega), if_pos]
    refine ⟨fun j hj => ?_, ?_, ?_⟩
    · rw [hqn] at hj; rw [hqe j hj]; exact hcl _ (selI_at hj)
    · rw [hsum]; exact sumN_nn fun j hj => (Cut.rng hE hV (hcl _ (selI_at hj))).1
    · rw [hsum, hqn]
      exact sumN_le fun j hj => by rw [hqe j hj]; exact (Cut.rng hE hV (hcl _ (selI_at hj))).2
  refine ⟨hc, ?_⟩
  obtain ⟨g, hg, hgv⟩ := Cut.some hV (selI_inc s (nn p))
  have hW := vec_cut hc fun c => 0 ≤ c ∧ c ≤ 1073741824
  have hsm : sumN (fun j => vecF sum q (el q j) j) (nn q) = sumN (fun j => g (el q j) j) (nn q) := by
    rw [vec_sum hc]
    conv => lhs; rw [hsum]
    rw [hqn]
    exact sumN_congr fun j hj => by rw [hqe j hj, hgv _ j (hcl _ (selI_at hj)) hj]
  have hsame := Cut.same hE hW hg (c := el q) (n := nn q) (fun j hj => by rw [hqn] at hj; rw [hqe j hj]; exact hcl _ (selI_at hj)) hsm
  rw [aw_vec hc]
  congr 2
  rw [gRows_congr fun j hj => hsame j hj]
  apply List.ext_getElem?
  intro j
  by_cases hj : j < nn q
  · rw [gRows_get _ hj]
    rw [hqn] at hj
    unfold gSel
    rw [List.getElem?_map, List.getElem?_eq_getElem hj, hqe j hj, hgv _ j (hcl _ (selI_at hj)) hj, List.getD_eq_getElem?_getD, List.getElem?_eq_getElem hj]
    rfl
  · rw [List.getElem?_eq_none (by rw [gRows_len]; omega), List.getElem?_eq_none (by unfold gSel; rw [List.length_map]; omega)]
end Go.Proofs.Ytcjdheaaddaagaa
