/- DERIVED. The garment's levels and orders. -/
import Derived.Test.YtcjdheaaddaagaaDmath
namespace Go.Proofs.Ytcjdheaaddaagaa
open Go.Dx
set_option linter.unusedVariables false
set_option linter.unusedSimpArgs false
/-- Claims that are right. -/
def Cl (c : Nat → Int) (n : Nat) : Prop := ∀ i, i < n → 0 ≤ c i ∧ c i ≤ 1073741824
theorem tF_step {b : Bool} {l c : Int} (h : 1 ≤ l) (h0 : 0 ≤ c) : tF b l c = tF b (prv b l) c + if hasF b l c then 1 else 0 := by
  unfold tF prv hasF lts
  cases b <;> simp <;> split <;> omega
theorem tF_e {l c : Int} (h : 0 ≤ l) (h0 : 0 ≤ c) : tF false l c = c / 2 - max 0 (lts false c - (l + 1) + 1) := by
  unfold tF lts; simp; omega
theorem tF_l {l c : Int} : tF true l c = c / 2 + max 0 (lts true c - l + 1) := by
  unfold tF lts; simp
theorem tF_top {c : Int} (h : 0 ≤ c) (k : c ≤ 1073741824) : tF false 1073741824 c = c / 2 := by unfold tF; simp; omega
theorem tF_bot {c : Int} (h : 0 ≤ c) (k : c ≤ 1073741824) : tF true 1073741825 c = c / 2 := by unfold tF; simp; omega
theorem tF_one {c : Int} (h : 0 ≤ c) : tF true 1 c = c := by unfold tF; simp; omega
theorem tF_zero {c : Int} (h : 0 ≤ c) : tF false 0 c = 0 := by unfold tF; simp; omega
theorem tF_me {l m c : Int} (h : l ≤ m) : tF false l c ≤ tF false m c := by unfold tF; simp; omega
theorem tF_ml {l m c : Int} (h : l ≤ m) : tF true m c ≤ tF true l c := by unfold tF; simp; omega
theorem tF_nn {b : Bool} {l c : Int} (h : 0 ≤ c) : 0 ≤ tF b l c := by unfold tF; cases b <;> simp <;> omega
theorem tF_le {b : Bool} {l c : Int} (h : 0 ≤ c) (h1 : 1 ≤ l ∨ b = false) : tF b l c ≤ c := by unfold tF; cases b <;> simp at * <;> omega
/-- A level where the estate ends. -/
structure IsL (b : Bool) (est : Int) (c : Nat → Int) (n : Nat) (l : Int) : Prop where
  l1 : 1 ≤ l
  l2 : l ≤ 1073741824
  up : est ≤ toF b l c n
  dn : toF b (prv b l) c n < est
theorem toF_me {l m : Int} {c : Nat → Int} {n : Nat} (h : l ≤ m) : toF false l c n ≤ toF false m c n := sumN_le fun i _ => tF_me h
theorem toF_ml {l m : Int} {c : Nat → Int} {n : Nat} (h : l ≤ m) : toF true m c n ≤ toF true l c n := sumN_le fun i _ => tF_ml h
theorem IsL.uniq {b : Bool} {est : Int} {c : Nat → Int} {n : Nat} {l m : Int} (h : IsL b est c n l) (k : IsL b est c n m) : l = m := by
  have h3 := h.up; have h4 := h.dn; have k3 := k.up; have k4 := k.dn
  rcases Int.lt_trichotomy l m with q | q | q
  · cases b
    · have := toF_me (c := c) (n := n) (l := l) (m := prv false m) (by simp [prv]; omega); omega
    · have := toF_ml (c := c) (n := n) (l := prv true l) (m := m) (by simp [prv]; omega); omega
  · exact q
  · cases b
    · have := toF_me (c := c) (n := n) (l := m) (m := prv false l) (by simp [prv]; omega); omega
    · have := toF_ml (c := c) (n := n) (l := prv true m) (m := l) (by simp [prv]; omega); omega
/-- An estate that is right, and not 0. -/
structure Est (est : Int) (c : Nat → Int) (n : Nat) : Prop where
  cl : Cl c n
  n1 : n ≤ 664
  e1 : 1 ≤ est
  e2 : est ≤ sumN c n
theorem toF_top {c : Nat → Int} {n : Nat} (h : Cl c n) : toF false 1073741824 c n = sumN (fun i => c i / 2) n := sumN_congr fun i hi => tF_top (h i hi).1 (h i hi).2
theorem toF_bot {c : Nat → Int} {n : Nat} (h : Cl c n) : toF true 1073741825 c n = sumN (fun i => c i / 2) n := sumN_congr fun i hi => tF_bot (h i hi).1 (h i hi).2
theorem toF_one {c : Nat → Int} {n : Nat} (h : Cl c n) : toF true 1 c n = sumN c n := sumN_congr fun i hi => tF_one (h i hi).1
theorem toF_zero {c : Nat → Int} {n : Nat} (h : Cl c n) : toF false 0 c n = 0 := sumN_zero fun i hi => tF_zero (h i hi).1
/-- The search's end is the level. -/
theorem LvI.isL {est : Int} {c : Nat → Int} {n : Nat} {lo hi : Int} (he : Est est c n) (h : LvI (latF est c n) est c n lo hi) (k : ¬ lo < hi) : IsL (latF est c n) est c n lo := by
  obtain ⟨h1, h2, h3, h4, h5⟩ := h
  have e : hi = lo := by omega
  subst e
  refine ⟨h1, h3, ?_, ?_⟩
  · generalize hb : latF est c n = b at *
    cases b
    · simpa [PF] using h4
    · by_cases q : 1 < hi
      · have := h5 q
        simp only [PF, if_true] at this
        rw [show hi - 1 + 1 = hi by omega] at this
        omega
      · have e1 : hi = 1 := by omega
        subst e1
        rw [toF_one he.cl]; exact he.e2
  · generalize hb : latF est c n = b at *
    cases b
    · by_cases q : 1 < hi
      · have := h5 q
        simp only [PF] at this
        show toF false (hi - 1) c n < est
        simp at this; exact this
      · have e1 : hi = 1 := by omega
        subst e1
        show toF false (1 - 1) c n < est
        rw [show (1 : Int) - 1 = 0 by omega, toF_zero he.cl]
        have := he.e1; omega
    · simpa [PF, prv] using h4
theorem PF_top {est : Int} {c : Nat → Int} {n : Nat} (he : Est est c n) : PF (latF est c n) est c n 1073741824 := by
  unfold PF
  cases hb : latF est c n
  · simp only [Bool.false_eq_true, if_false]
    unfold latF at hb
    simpa using hb
  · simp only [if_true]
    unfold latF at hb
    rw [toF_top he.cl] at hb
    rw [show (1073741824 : Int) + 1 = 1073741825 by omega, toF_bot he.cl]
    simpa using hb
theorem LvI.start {est : Int} {c : Nat → Int} {n : Nat} (he : Est est c n) : LvI (latF est c n) est c n 1 1073741824 := ⟨by omega, by omega, by omega, PF_top he, fun h => by omega⟩
theorem PF_mono {b : Bool} {est : Int} {c : Nat → Int} {n : Nat} {l m : Int} (h : l ≤ m) (k : PF b est c n l) : PF b est c n m := by
  unfold PF at *
  cases b
  · simp at *; have := toF_me (c := c) (n := n) h; omega
  · simp at *; have := toF_ml (c := c) (n := n) (show l + 1 ≤ m + 1 by omega); omega
theorem LvI.left {b : Bool} {est : Int} {c : Nat → Int} {n : Nat} {lo hi : Int} (h : LvI b est c n lo hi) (k : lo < hi) (q : PF b est c n ((lo + hi) / 2)) : LvI b est c n lo ((lo + hi) / 2) := by
  obtain ⟨h1, h2, h3, h4, h5⟩ := h
  exact ⟨h1, by omega, by omega, q, h5⟩
theorem LvI.right {b : Bool} {est : Int} {c : Nat → Int} {n : Nat} {lo hi : Int} (h : LvI b est c n lo hi) (k : lo < hi) (q : ¬ PF b est c n ((lo + hi) / 2)) : LvI b est c n ((lo + hi) / 2 + 1) hi := by
  obtain ⟨h1, h2, h3, h4, h5⟩ := h
  exact ⟨by omega, by omega, by omega, h4, fun _ => by rw [show (lo + hi) / 2 + 1 - 1 = (lo + hi) / 2 by omega]; exact q⟩
theorem bis_ok {b : Bool} {est : Int} {c : Nat → Int} {n : Nat} : ∀ (f : Nat) (lo hi : Int), LvI b est c n lo hi → hi - lo < 2 ^ f → ∃ hi', LvI b est c n (bis (fun l => decide (PF b est c n l)) f lo hi) hi' ∧ ¬ bis (fun l => decide (PF b est c n l)) f lo hi < hi'
  | 0, lo, hi, h, k => ⟨hi, h, by simp only [bis]; simp at k; omega⟩
  | f + 1, lo, hi, h, k => by
    simp only [bis]
    cases hd : decide (lo < hi)
    · exact ⟨hi, h, by simpa using hd⟩
    · have hlt : lo < hi := by simpa using hd
      have e : (2 : Int) ^ (f + 1) = 2 * 2 ^ f := by rw [Int.pow_succ, Int.mul_comm]
      simp only
      cases hq : decide (PF b est c n ((lo + hi) / 2))
      · exact bis_ok f _ _ (h.right hlt (by simpa using hq)) (by rw [e] at k; omega)
      · exact bis_ok f _ _ (h.left hlt (by simpa using hq)) (by rw [e] at k; omega)
theorem lvF_isL {est : Int} {c : Nat → Int} {n : Nat} (he : Est est c n) : IsL (latF est c n) est c n (lvF (latF est c n) est c n) := by
  obtain ⟨hi', h1, h2⟩ := bis_ok (b := latF est c n) (est := est) (c := c) (n := n) 31 1 1073741824 (LvI.start he) (by decide)
  exact h1.isL he h2
theorem LvI.lv {est : Int} {c : Nat → Int} {n : Nat} {lo hi : Int} (he : Est est c n) (h : LvI (latF est c n) est c n lo hi) (k : ¬ lo < hi) : lo = lvF (latF est c n) est c n := (h.isL he k).uniq (lvF_isL he)
/-! The reference's search for late litres. -/
theorem LvL.start {est : Int} {c : Nat → Int} {n : Nat} (he : Est est c n) (hb : latF est c n = true) : LvL est c n 1 1073741824 := by
  refine ⟨by omega, by omega, by omega, by rw [toF_one he.cl]; exact he.e2, ?_⟩
  have := PF_top he
  rw [hb] at this
  simpa [PF] using this
theorem LvL.lv {est : Int} {c : Nat → Int} {n : Nat} {lo hi : Int} (he : Est est c n) (hb : latF est c n = true) (h : LvL est c n lo hi) (k : ¬ lo < hi) : lo = lvF (latF est c n) est c n := by
  obtain ⟨h1, h2, h3, h4, h5⟩ := h
  have e : hi = lo := by omega
  subst e
  refine IsL.uniq (b := latF est c n) ?_ (lvF_isL he)
  rw [hb]
  exact ⟨h1, h3, h4, h5⟩
/-! What has a litre of a level. -/
theorem hasI_mem {b : Bool} {l : Int} {c : Nat → Int} {n i : Nat} : i ∈ hasI b l c n ↔ i < n ∧ hasF b l (c i) := by
  unfold hasI; simp
theorem hasI_succ {b : Bool} {l : Int} {c : Nat → Int} {n : Nat} : hasI b l c (n + 1) = hasI b l c n ++ (if hasF b l (c n) then [n] else []) := by
  unfold hasI
  rw [List.range_succ, List.filter_append]
  congr 1
  by_cases h : hasF b l (c n) <;> simp [h]
theorem hasI_all {b : Bool} {l : Int} {c : Nat → Int} {n : Nat} (h : ∀ i, i < n → hasF b l (c i)) : hasI b l c n = List.range n := by
  unfold hasI
  rw [List.filter_eq_self]
  intro i hi
  simpa using h i (by simpa using hi)
theorem hasI_len {b : Bool} {l : Int} {c : Nat → Int} (p : Nat → Prop) [DecidablePred p] : ∀ n, (((hasI b l c n).filter fun i => decide (p i)).length : Int) = sumN (fun i => if hasF b l (c i) ∧ p i then 1 else 0) n
  | 0 => rfl
  | n + 1 => by
    rw [hasI_succ, List.filter_append, List.length_append]
    show _ = sumN _ n + _
    rw [← hasI_len p n]
    by_cases h : hasF b l (c n) <;> by_cases k : p n <;> simp [h, k]
theorem hasI_num {b : Bool} {l : Int} {c : Nat → Int} (n : Nat) : ((hasI b l c n).length : Int) = sumN (fun i => if hasF b l (c i) then 1 else 0) n := by
  have := hasI_len (b := b) (l := l) (c := c) (fun _ => True) n
  rw [List.filter_eq_self.2 (by simp)] at this
  simpa using this
theorem hasI_le {b : Bool} {l : Int} {c : Nat → Int} {n : Nat} : (hasI b l c n).length ≤ n := by
  have := List.length_filter_le (fun i => decide (hasF b l (c i))) (List.range n)
  unfold hasI
  simpa using this
theorem toF_step {b : Bool} {l : Int} {c : Nat → Int} {n : Nat} (hc : Cl c n) (h : 1 ≤ l) : toF b l c n = toF b (prv b l) c n + (hasI b l c n).length := by
  rw [hasI_num]
  unfold toF
  rw [← sumN_add]
  exact sumN_congr fun i hi => tF_step h (hc i hi).1
/-! A list in order: who is in its first part. -/
theorem ah_total (b : Bool) (c i d k : Int) : ahF b c i d k ∨ ahF b d k c i := by unfold ahF; cases b <;> simp <;> omega
theorem ah_anti {b : Bool} {c i d k : Int} (h : ahF b c i d k) (q : ahF b d k c i) : c = d ∧ i = k := by unfold ahF at *; cases b <;> simp at * <;> omega
theorem ah_trans {b : Bool} {c i d k e m : Int} (h : ahF b c i d k) (q : ahF b d k e m) : ahF b c i e m := by unfold ahF at *; cases b <;> simp at * <;> omega
theorem ah_refl (b : Bool) (c i : Int) : ahF b c i c i := by unfold ahF; cases b <;> simp
/-- In a list that is strictly ordered, as many stand until a place as are ahead. -/
theorem rank_aux {α : Type} {R : α → α → Prop} [DecidableRel R] (refl : ∀ x, R x x) : ∀ (L : List α), L.Pairwise (fun x y => R x y ∧ ¬ R y x) → ∀ (p : Nat) (x : α), L[p]? = some x → (L.filter fun y => decide (R y x)).length = p + 1
  | [], _, p, x, h => by simp at h
  | a :: L, hL, 0, x, h => by
    simp only [List.getElem?_cons_zero, Option.some.injEq] at h
    subst h
    rw [List.pairwise_cons] at hL
    rw [List.filter_cons_of_pos (by simpa using refl a)]
    have : L.filter (fun y => decide (R y a)) = [] := List.filter_eq_nil_iff.2 fun y hy => by simpa using (hL.1 y hy).2
    rw [this]; rfl
  | a :: L, hL, p + 1, x, h => by
    simp only [List.getElem?_cons_succ] at h
    rw [List.pairwise_cons] at hL
    rw [List.filter_cons_of_pos (by simpa using (hL.1 x (List.mem_of_getElem? h)).1), List.length_cons, rank_aux refl L hL.2 p x h]
/-- The first part of an ordered list. -/
theorem take_iff {α : Type} {R : α → α → Prop} [DecidableRel R] (refl : ∀ x, R x x) {L : List α} (hL : L.Pairwise (fun x y => R x y ∧ ¬ R y x)) {q : Nat} {t x : α} (ht : L[q]? = some t) (hx : x ∈ L) : x ∈ L.take (q + 1) ↔ R x t := by
  obtain ⟨p, hp⟩ := List.mem_iff_getElem?.1 hx
  have hpl := (List.getElem?_eq_some_iff.1 hp)
  have hql := (List.getElem?_eq_some_iff.1 ht)
  obtain ⟨hpl, ep⟩ := hpl
  obtain ⟨hql, eq⟩ := hql
  have key := List.pairwise_iff_getElem.1 hL
  constructor
  · intro h
    obtain ⟨p', hp'⟩ := List.mem_iff_getElem?.1 h
    rw [List.getElem?_take] at hp'
    split at hp'
    · rename_i hlt
      obtain ⟨h1, h2⟩ := List.getElem?_eq_some_iff.1 hp'
      by_cases e : p' = q
      · subst e; rw [← h2, ← eq]; exact refl _
      · rw [← h2, ← eq]; exact (key p' q h1 hql (by omega)).1
    · cases hp'
  · intro h
    by_cases e : p ≤ q
    · refine List.mem_iff_getElem?.2 ⟨p, ?_⟩
      rw [List.getElem?_take, if_pos (by omega)]; exact hp
    · exfalso
      have := (key q p hql hpl (by omega)).2
      rw [eq, ep] at this
      exact this h
end Go.Proofs.Ytcjdheaaddaagaa
