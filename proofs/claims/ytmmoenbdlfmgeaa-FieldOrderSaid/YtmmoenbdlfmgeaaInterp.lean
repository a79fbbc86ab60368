/- DERIVED. Plain facts on interpolation: At is the one polynomial through the points. -/
import Derived.Test.YtmmoenbdlfmgeaaPoly
import Derived.Test.YtmmoenbdlfmgeaaSums
namespace Go.Proofs.Ytmmoenbdlfmgeaa
set_option linter.unusedVariables false
set_option linter.unusedSimpArgs false
theorem md_hor (at_ : Int) (cs : List Int) : md (hor at_ cs) = hor at_ cs := by
  cases cs with
  | nil => rfl
  | cons c r => simp only [hor, md_md]
/-- The product with at + c. -/
def mulLin (c : Int) (l : List Int) : List Int := addP (0 :: l) (mulP c l)
theorem mulLin_len (c : Int) (l : List Int) : (mulLin c l).length = l.length + 1 := by simp [mulLin, addP_len, mulP]
theorem hor_mulLin (at_ c : Int) (l : List Int) : hor at_ (mulLin c l) = md (hor at_ l * (at_ + c)) := by
  unfold mulLin
  rw [hor_add, hor_mul]
  simp only [hor, Int.add_zero, md_md]
  rw [md_addl', md_addr', Int.mul_add, Int.mul_comm c]
/-- The rest of a division by at - r, and what is left. -/
def quo (r : Int) : List Int → List Int
  | [] => []
  | _ :: t => if t = [] then [] else hor r t :: quo r t
theorem quo_len (r : Int) : ∀ l : List Int, (quo r l).length = l.length - 1
  | [] => rfl
  | c :: t => by
    unfold quo
    by_cases h : t = []
    · subst h; simp
    · rw [if_neg h]
      have := quo_len r t
      have : 0 < t.length := List.length_pos_iff.2 h
      simp; omega
theorem md_amr (a c b : Int) : md (a + c * md b) = md (a + c * b) := by rw [← md_addr', md_mulr', md_addr']
theorem quo_eq (at_ r : Int) : ∀ l : List Int, hor at_ l = md (hor r l + (at_ - r) * hor at_ (quo r l))
  | [] => by simp [hor, quo]; rfl
  | c :: t => by
    unfold quo
    by_cases h : t = []
    · subst h; simp [hor]; rw [md_md]
    · rw [if_neg h]
      have ih := quo_eq at_ r t
      simp only [hor]
      rw [ih]
      generalize hor at_ (quo r t) = q
      generalize hor r t = e
      simp only [md_addl', md_addr', md_mull', md_mulr', md_amr]
      congr 1
      have h1 : (at_ - r) * (q * at_ + e) = (at_ - r) * q * at_ + (at_ - r) * e := by rw [Int.mul_add, Int.mul_assoc]
      have h2 : (e + (at_ - r) * q) * at_ = e * at_ + (at_ - r) * q * at_ := by rw [Int.add_mul]
      have h3 : (at_ - r) * e = at_ * e - r * e := by rw [Int.sub_mul]
      have h4 : at_ * e = e * at_ := Int.mul_comm _ _
      have h5 : r * e = e * r := Int.mul_comm _ _
      omega
theorem hor_md (a : Int) : ∀ cs : List Int, hor (md a) cs = hor a cs
  | [] => rfl
  | c :: r => by simp only [hor, hor_md a r, md_mulr']
/-- A polynomial with as many different roots as coefficients is 0 everywhere. -/
theorem roots (at_ : Int) : ∀ (xs cs : List Int), cs.length ≤ xs.length → (∀ i, i < xs.length → ∀ j, j < i → md (xs[i]?.getD 0) ≠ md (xs[j]?.getD 0)) → (∀ x ∈ xs, hor x cs = 0) → hor at_ cs = 0
  | [], cs, hl, _, _ => by
    have : cs = [] := List.length_eq_zero_iff.1 (by simpa using hl)
    subst this; rfl
  | x :: r, cs, hl, hd, h0 => by
    have hq : ∀ y, hor y (quo x cs) = 0 := fun y => by
      refine roots y r (quo x cs) (by rw [quo_len]; simp at hl; omega) (fun i hi j hj => by
        have := hd (i + 1) (by simpa using hi) (j + 1) (by omega); simpa using this) (fun z hz => ?_)
      have h1 := quo_eq z x cs
      rw [h0 x (by simp), h0 z (by simp [hz]), Int.zero_add] at h1
      have hne : md (z - x) ≠ 0 := by
        obtain ⟨k, hk⟩ := List.mem_iff_getElem?.1 hz
        obtain ⟨hk1, hk2⟩ := List.getElem?_eq_some_iff.1 hk
        have := hd (k + 1) (by simpa using hk1) 0 (by omega)
        simp [hk] at this
        intro e; apply this; unfold md at *; omega
      apply Classical.byContradiction; intro hnz
      have hnz' : md (hor z (quo x cs)) ≠ 0 := by rw [md_hor]; exact hnz
      exact mul_nz _ _ hne hnz' h1.symm
    have h1 := quo_eq at_ x cs
    rw [hq at_, h0 x (by simp), Int.mul_zero, Int.zero_add] at h1
    rw [h1]; rfl
/-- The term of At as a polynomial. -/
def prodP : List (Int × Int) → List Int → List Int
  | [], acc => acc
  | x :: r, acc => prodP r (mulLin (1073741789 - md x.1) acc)
theorem prodP_len : ∀ (l : List (Int × Int)) (acc : List Int), (prodP l acc).length = l.length + acc.length
  | [], acc => by simp [prodP]
  | x :: r, acc => by rw [prodP, prodP_len r, mulLin_len]; simp; omega
theorem prodP_hor (at_ : Int) : ∀ (l : List (Int × Int)) (acc : List Int), hor at_ (prodP l acc) = l.foldl (fun s x => md (s * md (at_ + (1073741789 - md x.1)))) (hor at_ acc)
  | [], acc => rfl
  | x :: r, acc => by rw [prodP, prodP_hor at_ r, hor_mulLin, List.foldl_cons, md_mulr']
def termP (pts : List (Int × Int)) (i : Nat) : List Int := mulP (invF (blw (pts[i]?.getD (0, 0)).1 (oth pts i pts.length))) (prodP (oth pts i pts.length) [(pts[i]?.getD (0, 0)).2])
theorem termP_hor (pts : List (Int × Int)) (at_ : Int) (i : Nat) : hor at_ (termP pts i) = term pts at_ i := by
  unfold termP term abv
  rw [hor_mul, prodP_hor]
  simp only [hor]
  rw [Int.zero_mul, show md 0 = 0 from rfl, Int.zero_add, Int.mul_comm]
theorem oth_len' (pts : List (Int × Int)) (i : Nat) (h : i < pts.length) : (oth pts i pts.length).length + 1 ≤ pts.length := by
  have : ∀ k, i < k → (oth pts i k).length + 1 ≤ k := by
    intro k
    induction k with
    | zero => intro h; omega
    | succ k ih =>
      intro h
      by_cases e : k = i
      · rw [oth_same pts i k e]; have := oth_len pts i k; omega
      · rw [oth_succ pts i k e]; have := ih (by omega); simp; omega
  exact this _ h
def atP (pts : List (Int × Int)) : Nat → List Int
  | 0 => []
  | k + 1 => addP (atP pts k) (termP pts k)
theorem atP_hor (pts : List (Int × Int)) (at_ : Int) : ∀ k, hor at_ (atP pts k) = atV pts at_ k
  | 0 => rfl
  | k + 1 => by rw [atP, hor_add, atP_hor pts at_ k, termP_hor]; rfl
theorem atP_len (pts : List (Int × Int)) : ∀ k, k ≤ pts.length → (atP pts k).length ≤ pts.length
  | 0, _ => Nat.zero_le _
  | k + 1, h => by
    have h1 := atP_len pts k (by omega)
    have h2 := oth_len' pts k (by omega)
    rw [atP, addP_len]
    have : (termP pts k).length ≤ pts.length := by simp only [termP, mulP, List.length_map, prodP_len, List.length_singleton]; omega
    omega
/-- A factor 0 makes a product 0. -/
theorem prod_zero (at_ : Int) : ∀ (l : List (Int × Int)) (s : Int), (∃ x ∈ l, md at_ = md x.1) → l.foldl (fun s x => md (s * md (at_ + (1073741789 - md x.1)))) s = 0 := by
  have hz : ∀ (l : List (Int × Int)), l.foldl (fun s x => md (s * md (at_ + (1073741789 - md x.1)))) 0 = 0 := by
    intro l
    induction l with
    | nil => rfl
    | cons x r ih => rw [List.foldl_cons, Int.zero_mul]; exact ih
  intro l
  induction l with
  | nil => rintro s ⟨x, hx, _⟩; cases hx
  | cons x r ih =>
    rintro s ⟨y, hy, he⟩
    rw [List.foldl_cons]
    by_cases hx : md at_ = md x.1
    · have : md (at_ + (1073741789 - md x.1)) = 0 := by unfold md at *; omega
      rw [this, Int.mul_zero]; exact hz r
    · refine ih _ ⟨y, ?_, he⟩
      rcases List.mem_cons.1 hy with rfl | h
      · exact absurd he hx
      · exact h
theorem mem_oth' {pts : List (Int × Int)} {i j k : Nat} (h : j < k) (hne : j ≠ i) : pts[j]?.getD (0, 0) ∈ oth pts i k := by
  unfold oth
  exact List.mem_map.2 ⟨j, by simp [h, hne], rfl⟩
theorem abv_blw (at_ : Int) : ∀ (l : List (Int × Int)) (s1 s2 : Int), md (l.foldl (fun s x => md (s * md (at_ + (1073741789 - md x.1)))) (md (s1 * s2))) = md (s1 * l.foldl (fun s x => md (s * md (at_ + (1073741789 - md x.1)))) s2)
  | [], s1, s2 => md_md _
  | x :: r, s1, s2 => by
    simp only [List.foldl_cons]
    rw [← abv_blw at_ r s1]
    congr 2
    simp only [md_mull', md_mulr', Int.mul_assoc]
theorem foldl_md (at_ : Int) : ∀ (l : List (Int × Int)) (s : Int), md s = s → md (l.foldl (fun s x => md (s * md (at_ + (1073741789 - md x.1)))) s) = l.foldl (fun s x => md (s * md (at_ + (1073741789 - md x.1)))) s
  | [], s, h => h
  | x :: r, s, h => by rw [List.foldl_cons]; exact foldl_md at_ r _ (md_md _)
/-- At the X of a point a term is its Y, at another point's X it is 0. -/
theorem term_self {pts : List (Int × Int)} (hd : Dif pts) (i : Nat) (hi : i < pts.length) : term pts (pts[i]?.getD (0, 0)).1 i = md (pts[i]?.getD (0, 0)).2 := by
  have hz := nz_of_dif hd i hi
  unfold term abv
  unfold blw at *
  generalize (pts[i]?.getD (0, 0)).1 = x at *
  generalize (pts[i]?.getD (0, 0)).2 = y at *
  have h1 := abv_blw x (oth pts i pts.length) y 1
  rw [Int.mul_one, foldl_md x _ _ (md_md _)] at h1
  rw [h1]
  generalize (oth pts i pts.length).foldl (fun s x_1 => md (s * md (x + (1073741789 - md x_1.1)))) 1 = b at *
  rw [md_mull', Int.mul_assoc, ← md_mulr', inv_one b hz, Int.mul_one]
theorem term_other {pts : List (Int × Int)} (i j : Nat) (hj : j < pts.length) (hne : j ≠ i) : term pts (pts[j]?.getD (0, 0)).1 i = 0 := by
  unfold term abv
  rw [prod_zero _ _ _ ⟨_, mem_oth' hj hne, rfl⟩, Int.zero_mul]; rfl
theorem atV_points {pts : List (Int × Int)} (hd : Dif pts) (j : Nat) (hj : j < pts.length) : ∀ k, k ≤ pts.length → atV pts (pts[j]?.getD (0, 0)).1 k = if j < k then md (pts[j]?.getD (0, 0)).2 else 0
  | 0, _ => by simp [atV]
  | k + 1, h => by
    rw [atV, atV_points hd j hj k (by omega)]
    by_cases e : j = k
    · subst e; rw [term_self hd j hj]; simp [md_md]
    · rw [term_other k j hj e]
      by_cases h1 : j < k
      · rw [if_pos h1, if_pos (by omega), Int.add_zero, md_md]
      · rw [if_neg h1, if_neg (by omega)]; rfl
theorem atV_at {pts : List (Int × Int)} (hd : Dif pts) (j : Nat) (hj : j < pts.length) : atV pts (pts[j]?.getD (0, 0)).1 pts.length = md (pts[j]?.getD (0, 0)).2 := by
  rw [atV_points hd j hj _ (Nat.le_refl _), if_pos hj]
/-- THE ONE POLYNOMIAL: whatever polynomial with no more coefficients goes through the points is At everywhere. -/
theorem interp {pts : List (Int × Int)} (hd : Dif pts) (cs : List Int) (hl : cs.length ≤ pts.length) (hv : ∀ j, j < pts.length → hor (pts[j]?.getD (0, 0)).1 cs = md (pts[j]?.getD (0, 0)).2) (at_ : Int) :
    atV pts at_ pts.length = hor at_ cs := by
  have h := roots at_ (pts.map (·.1)) (addP (atP pts pts.length) (mulP (-1) cs)) (by
      rw [addP_len]; have := atP_len pts pts.length (Nat.le_refl _); simp [mulP]; omega) (fun i hi j hj => by
      have hi' : i < pts.length := by simpa using hi
      have := hd i hi' j hj
      simp [hi', show j < pts.length from by omega] at this ⊢
      exact this) (fun x hx => by
      obtain ⟨p, hp, rfl⟩ := List.mem_map.1 hx
      obtain ⟨j, hj⟩ := List.mem_iff_getElem?.1 hp
      obtain ⟨hj1, hj2⟩ := List.getElem?_eq_some_iff.1 hj
      have e : p = pts[j]?.getD (0, 0) := by rw [hj]; rfl
      rw [hor_add, hor_mul, atP_hor, e, atV_at hd j hj1, hv j hj1]
      unfold md; omega)
  rw [hor_add, hor_mul, atP_hor] at h
  have b1 := atV_bd pts at_ pts.length
  have b2 := hor_bd at_ cs
  unfold md at h
  omega
end Go.Proofs.Ytmmoenbdlfmgeaa
