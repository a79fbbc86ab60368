/- DERIVED. Plain facts for FieldPolySpec: when numbers are different; the two forms of the terms of At. -/
import Derived.Test.YtmmoenbdlfmgeaaLaws
import Derived.Test.YtmmoenbdlfmgeaaSlices
namespace Go.Proofs.Ytmmoenbdlfmgeaa
open Go.RowKit Go.Maps
set_option linter.unusedVariables false
set_option linter.unusedSimpArgs false
/-- The X stand for pairwise different numbers. -/
def Dif (pts : List (Int × Int)) : Prop := ∀ i, i < pts.length → ∀ j, j < i → md (pts[i]?.getD (0, 0)).1 ≠ md (pts[j]?.getD (0, 0)).1
def fresh : List Lit → List Lit → Prop
  | _, [] => True
  | acc, x :: r => acc.any (fun y => y.sameKey x) = false ∧ fresh (acc ++ [x]) r
theorem fold_le : ∀ (xs acc : List Lit), (xs.foldl addKey acc).length ≤ acc.length + xs.length
  | [], acc => by simp
  | x :: r, acc => by
    have h := fold_le r (addKey acc x)
    rw [List.foldl_cons]
    have : (addKey acc x).length ≤ acc.length + 1 := by
      unfold addKey; split <;> simp
    simp only [List.length_cons]
    omega
theorem fold_eq : ∀ (xs acc : List Lit), (xs.foldl addKey acc).length = acc.length + xs.length ↔ fresh acc xs
  | [], acc => by simp [fresh]
  | x :: r, acc => by
    rw [List.foldl_cons]
    unfold fresh
    cases hx : acc.any (fun y => y.sameKey x) with
    | true =>
      have : addKey acc x = acc := by unfold addKey; rw [if_pos hx]
      rw [this]
      have := fold_le r acc
      simp; omega
    | false =>
      have : addKey acc x = acc ++ [x] := by unfold addKey; rw [if_neg (by rw [hx]; simp)]
      rw [this]
      have := fold_eq r (acc ++ [x])
      simp at this ⊢
      rw [← this]; omega
theorem same_int (a b : Int) : Lit.sameKey (.int .i64 a) (.int .i64 b) = decide (a = b) := by
  by_cases h : a = b
  · subst h; simp [Lit.sameKey]
  · rw [sameKey_ne (by intro e; cases e; exact h rfl)]; simp [h]
theorem fresh_iff : ∀ (l acc : List Int), fresh (acc.map (.int .i64)) (l.map (.int .i64)) ↔ ∀ i, i < l.length → ∀ y ∈ acc ++ l.take i, y ≠ l[i]?.getD 0
  | [], acc => by simp [fresh]
  | x :: r, acc => by
    have ih := fresh_iff r (acc ++ [x])
    simp only [List.map_cons, fresh]
    rw [show (acc.map (Lit.int .i64)) ++ [.int .i64 x] = (acc ++ [x]).map (.int .i64) from by simp, ih]
    constructor
    · rintro ⟨h1, h2⟩ i hi y hy
      cases i with
      | zero =>
        simp at hy ⊢
        intro e; subst e
        rw [List.any_eq_false] at h1
        have := h1 (.int .i64 y) (List.mem_map_of_mem hy)
        rw [same_int] at this; simp at this
      | succ i =>
        have := h2 i (by simpa using hi) y (by simp at hy ⊢; rcases hy with h | h | h <;> simp [h])
        simpa using this
    · intro h
      refine ⟨?_, fun i hi y hy => ?_⟩
      · rw [List.any_eq_false]
        intro z hz
        obtain ⟨y, hy, rfl⟩ := List.mem_map.1 hz
        have := h 0 (by simp) y (by simp [hy])
        rw [same_int]; simpa using this
      · have := h (i + 1) (by simpa using hi) y (by simp at hy ⊢; rcases hy with h | h | h <;> simp [h])
        simpa using this
theorem dst_iff (pts : List (Int × Int)) : dstB pts = true ↔ Dif pts := by
  unfold dstB seenD
  have hk : ∀ x ∈ keysOf pts pts.length, WideAt.IsKeyLit x := by
    intro x hx
    obtain ⟨p, _, rfl⟩ := List.mem_map.1 hx
    exact trivial
  rw [size_setOf _ _ hk]
  have e : keysOf pts pts.length = (pts.map (fun p => md p.1)).map (.int .i64) := by simp [keysOf]
  have h1 := fold_eq (keysOf pts pts.length) []
  have h2 := fresh_iff (pts.map (fun p => md p.1)) []
  rw [e] at h1 ⊢
  simp only [List.map_nil, List.length_nil, List.length_map, Nat.zero_add, List.nil_append] at h1 h2
  have h3 : ((((pts.map (fun p => md p.1)).map (Lit.int .i64)).foldl addKey []).length : Int) = (pts.length : Int) ↔ (((pts.map (fun p => md p.1)).map (Lit.int .i64)).foldl addKey []).length = pts.length := by omega
  rw [beq_iff_eq, h3, h1, h2]
  unfold Dif
  constructor
  · intro h i hi j hj
    have := h i hi (md (pts[j]?.getD (0, 0)).1) (by
      rw [List.mem_iff_getElem?]
      refine ⟨j, ?_⟩
      rw [List.getElem?_take]; simp [hj, show j < pts.length from by omega])
    simp [hi] at this
    simp [hi, show j < pts.length from by omega] at this ⊢
    exact fun e => this e.symm
  · intro h i hi y hy
    obtain ⟨j, hj⟩ := List.mem_iff_getElem?.1 hy
    rw [List.getElem?_take] at hj
    by_cases hji : j < i
    · have := h i hi j hji
      simp [hji, hi, show j < pts.length from by omega] at hj this ⊢
      rw [← hj]; exact fun e => this e.symm
    · simp [hji] at hj

theorem md_shift (a b : Int) : md (a + (1073741789 - md b)) = md (a + -md b) := by unfold md; omega
theorem md_diff_nz (a b : Int) (h : md a ≠ md b) : md (a + -md b) ≠ 0 := by unfold md at *; omega
theorem invF_md (n : Int) : invF (md n) = invF n := by rw [invF_eq, invF_eq, md_pow_md]
theorem invF_mul (a b : Int) : invF (a * b) = md (invF a * invF b) := by rw [invF_eq, invF_eq, invF_eq, Int.mul_pow, md_mul]
theorem invF_one : invF 1 = 1 := by rw [invF_fp]; decide +kernel

theorem blw_nz (xi : Int) : ∀ (l : List (Int × Int)) (s : Int), md s ≠ 0 → (∀ x ∈ l, md xi ≠ md x.1) → md (l.foldl (fun s x => md (s * md (xi + (1073741789 - md x.1)))) s) ≠ 0
  | [], s, hs, _ => hs
  | x :: r, s, hs, h => by
    rw [List.foldl_cons]
    refine blw_nz xi r _ ?_ (fun y hy => h y (by simp [hy]))
    rw [md_md]
    refine mul_nz _ _ hs ?_
    rw [md_md, md_shift]
    exact md_diff_nz _ _ (h x (by simp))
theorem mem_oth {pts : List (Int × Int)} {i k : Nat} {x : Int × Int} (h : x ∈ oth pts i k) : ∃ j, j < k ∧ j ≠ i ∧ x = pts[j]?.getD (0, 0) := by
  unfold oth at h
  obtain ⟨j, hj, rfl⟩ := List.mem_map.1 h
  simp at hj
  exact ⟨j, hj.1, hj.2, rfl⟩
theorem nz_of_dif {pts : List (Int × Int)} (h : Dif pts) : AllNz pts := by
  intro i hi
  refine blw_nz _ _ 1 (by decide) (fun x hx => ?_)
  obtain ⟨j, hj, hne, rfl⟩ := mem_oth hx
  rcases Nat.lt_or_gt_of_ne hne with hl | hl
  · exact h i hi j hl
  · exact fun e => h j hj i hl e.symm

/-- A term of At as the reference reckons it, when the first points but one have come. -/
def rpart (y at_ xi : Int) (l : List (Int × Int)) : Int := l.foldl (fun s x => md (s * md (md (at_ + -md x.1) * invF (md (xi + -md x.1))))) (md y)
theorem rpart_snoc (y at_ xi : Int) (l : List (Int × Int)) (x : Int × Int) : rpart y at_ xi (l ++ [x]) = md (rpart y at_ xi l * md (md (at_ + -md x.1) * invF (md (xi + -md x.1)))) := by simp [rpart]
theorem rpart_fold (at_ xi : Int) : ∀ (l : List (Int × Int)) (s1 s2 : Int),
    l.foldl (fun s x => md (s * md (md (at_ + -md x.1) * invF (md (xi + -md x.1))))) (md (s1 * invF s2)) = md (l.foldl (fun s x => md (s * md (at_ + (1073741789 - md x.1)))) s1 * invF (l.foldl (fun s x => md (s * md (xi + (1073741789 - md x.1)))) s2))
  | [], s1, s2 => rfl
  | x :: r, s1, s2 => by
    simp only [List.foldl_cons]
    rw [← rpart_fold at_ xi r]
    congr 1
    rw [md_shift, md_shift, invF_md, invF_md, invF_mul, invF_md]
    simp only [md_mull, md_mulr]
    congr 1
    simp only [Int.mul_assoc, Int.mul_left_comm, Int.mul_comm]
theorem rpart_eq (pts : List (Int × Int)) (at_ : Int) (i : Nat) : rpart (pts[i]?.getD (0, 0)).2 at_ (pts[i]?.getD (0, 0)).1 (oth pts i pts.length) = term pts at_ i := by
  have h := rpart_fold at_ (pts[i]?.getD (0, 0)).1 (oth pts i pts.length) (md (pts[i]?.getD (0, 0)).2) 1
  rw [invF_one, Int.mul_one, md_md] at h
  exact h
theorem rpart_bd (y at_ xi : Int) (l : List (Int × Int)) : 0 ≤ rpart y at_ xi l ∧ rpart y at_ xi l < 1073741789 := by
  rcases List.eq_nil_or_concat l with h | ⟨l', x, h⟩
  · rw [h]; exact ⟨md_lo _, md_hi _⟩
  · rw [h, List.concat_eq_append, rpart_snoc]; exact ⟨md_lo _, md_hi _⟩
end Go.Proofs.Ytmmoenbdlfmgeaa
