/- DERIVED. Numbers modulo an odd number: signs of residues, their reciprocity, and what they say of powers. -/
import Derived.KernelRfl
namespace Go.Proofs.YtbkjjehfidnagaaDoor
set_option linter.unusedVariables false
/-- Sums and products over a list. -/
def sm (f : Nat → Nat) : List Nat → Nat
  | [] => 0
  | k :: l => f k + sm f l
def pr (f : Nat → Nat) : List Nat → Nat
  | [] => 1
  | k :: l => f k * pr f l
theorem sm_perm {f : Nat → Nat} {l m : List Nat} (h : l.Perm m) : sm f l = sm f m := by
  induction h with
  | nil => rfl
  | cons x _ ih => simp only [sm, ih]
  | swap x y l => simp only [sm]; omega
  | trans _ _ h1 h2 => rw [h1, h2]
theorem pr_perm {f : Nat → Nat} {l m : List Nat} (h : l.Perm m) : pr f l = pr f m := by
  induction h with
  | nil => rfl
  | cons x _ ih => simp only [pr, ih]
  | swap x y l => simp only [pr]; rw [← Nat.mul_assoc, ← Nat.mul_assoc, Nat.mul_comm (f y)]
  | trans _ _ h1 h2 => rw [h1, h2]
theorem sm_map {f g : Nat → Nat} : ∀ l, sm f (l.map g) = sm (fun k => f (g k)) l
  | [] => rfl
  | k :: l => by simp only [List.map_cons, sm, sm_map l]
theorem pr_map {f g : Nat → Nat} : ∀ l, pr f (l.map g) = pr (fun k => f (g k)) l
  | [] => rfl
  | k :: l => by simp only [List.map_cons, pr, pr_map l]
theorem sm_add {f g : Nat → Nat} : ∀ l, sm (fun k => f k + g k) l = sm f l + sm g l
  | [] => rfl
  | k :: l => by simp only [sm, sm_add l]; omega
theorem sm_congr {f g : Nat → Nat} : ∀ {l : List Nat}, (∀ k ∈ l, f k = g k) → sm f l = sm g l
  | [], _ => rfl
  | k :: l, h => by simp only [sm]; rw [h k (List.mem_cons_self ..), sm_congr fun x hx => h x (List.mem_cons_of_mem _ hx)]
theorem sm_mod {f g : Nat → Nat} : ∀ {l : List Nat}, (∀ k ∈ l, f k % 2 = g k % 2) → sm f l % 2 = sm g l % 2
  | [], _ => rfl
  | k :: l, h => by
    have h1 := h k (List.mem_cons_self ..)
    have h2 := sm_mod fun x hx => h x (List.mem_cons_of_mem _ hx)
    simp only [sm]; omega
theorem pr_mod {f g : Nat → Nat} {n : Nat} : ∀ {l : List Nat}, (∀ k ∈ l, f k % n = g k % n) → pr f l % n = pr g l % n
  | [], _ => rfl
  | k :: l, h => by
    simp only [pr]
    rw [Nat.mul_mod, h k (List.mem_cons_self ..), pr_mod fun x hx => h x (List.mem_cons_of_mem _ hx), ← Nat.mul_mod]
theorem sm_const (c : Nat) : ∀ l, sm (fun _ => c) l = l.length * c
  | [] => by simp [sm]
  | k :: l => by simp only [sm, sm_const c l, List.length_cons, Nat.add_mul]; omega
theorem sm_swap {f : Nat → Nat → Nat} (m : List Nat) : ∀ l, sm (fun k => sm (fun j => f k j) m) l = sm (fun j => sm (fun k => f k j) l) m
  | [] => by
    simp only [sm]
    rw [sm_const 0 m]; simp
  | k :: l => by
    simp only [sm]
    rw [sm_swap m l, ← sm_add]
/-- The numbers from 1 on. -/
def up : Nat → List Nat
  | 0 => []
  | n + 1 => (n + 1) :: up n
theorem mem_up {k : Nat} : ∀ {n}, k ∈ up n ↔ 1 ≤ k ∧ k ≤ n
  | 0 => by simp [up]; omega
  | n + 1 => by rw [up, List.mem_cons, mem_up]; omega
theorem len_up : ∀ n, (up n).length = n
  | 0 => rfl
  | n + 1 => by rw [up, List.length_cons, len_up n]
theorem nodup_up : ∀ n, (up n).Nodup
  | 0 => List.nodup_nil
  | n + 1 => by
    rw [up, List.nodup_cons]
    exact ⟨fun h => by have := (mem_up.1 h).2; omega, nodup_up n⟩
theorem perm_of_sub : ∀ {l m : List Nat}, l.Nodup → (∀ x ∈ l, x ∈ m) → ∃ r, m.Perm (l ++ r)
  | [], m, _, _ => ⟨m, List.Perm.refl _⟩
  | x :: l, m, h, hs => by
    have h1 := List.nodup_cons.1 h
    obtain ⟨r, hr⟩ := perm_of_sub (l := l) (m := m.erase x) h1.2 fun y hy => by
      have hne : y ≠ x := fun e => h1.1 (e ▸ hy)
      exact (List.mem_erase_of_ne hne).2 (hs y (List.mem_cons_of_mem _ hy))
    exact ⟨r, (List.perm_cons_erase (hs x (List.mem_cons_self ..))).trans (List.Perm.cons x hr)⟩
theorem perm_of_same {l m : List Nat} (h : l.Nodup) (hs : ∀ x ∈ l, x ∈ m) (hl : m.length = l.length) : l.Perm m := by
  obtain ⟨r, hr⟩ := perm_of_sub h hs
  have := hr.length_eq
  rw [List.length_append] at this
  have : r = [] := List.eq_nil_of_length_eq_zero (by omega)
  rw [this, List.append_nil] at hr
  exact hr.symm
/-! Residues. -/
def ee (a n k : Nat) : Nat := if n / 2 < a * k % n then 1 else 0
def ph (a n k : Nat) : Nat := if n / 2 < a * k % n then n - a * k % n else a * k % n
def cnt (a n : Nat) : Nat := sm (ee a n) (up (n / 2))
theorem dvd_small {n k : Nat} (h : n ∣ k) (h1 : 1 ≤ k) (h2 : k < n) : False := by
  have := Nat.le_of_dvd (by omega) h
  omega
theorem res_pos {a n k : Nat} (hc : Nat.Coprime a n) (h1 : 1 ≤ k) (h2 : k < n) : 1 ≤ a * k % n := by
  rcases Nat.eq_zero_or_pos (a * k % n) with h | h
  · exact (dvd_small (Nat.Coprime.dvd_of_dvd_mul_left hc.symm (Nat.dvd_of_mod_eq_zero h)) h1 h2).elim
  · exact h
theorem ph_mem {a n k : Nat} (ho : n % 2 = 1) (hc : Nat.Coprime a n) (hk : k ∈ up (n / 2)) : ph a n k ∈ up (n / 2) := by
  obtain ⟨h1, h2⟩ := mem_up.1 hk
  have h3 := res_pos hc h1 (show k < n by omega)
  have h4 := Nat.mod_lt (a * k) (show 0 < n by omega)
  rw [mem_up]
  unfold ph
  split <;> omega
theorem cancel_mod {a n k l : Nat} (hc : Nat.Coprime a n) (hk : k < n) (hl : l ≤ k) (h : a * k % n = a * l % n) : k = l := by
  have h1 : n ∣ a * (k - l) := by
    rw [Nat.mul_sub]
    exact Nat.dvd_of_mod_eq_zero (Nat.sub_mod_eq_zero_of_mod_eq h)
  have h2 := Nat.Coprime.dvd_of_dvd_mul_left hc.symm h1
  rcases Nat.eq_zero_or_pos (k - l) with e | e
  · omega
  · exact (dvd_small h2 e (by omega)).elim
theorem cancel_any {a n k l : Nat} (hc : Nat.Coprime a n) (hk : k < n) (hl : l < n) (h : a * k % n = a * l % n) : k = l := by
  rcases Nat.le_total l k with e | e
  · exact cancel_mod hc hk e h
  · exact (cancel_mod hc hl e h.symm).symm
theorem no_sum {a n k l : Nat} (hc : Nat.Coprime a n) (h1 : 1 ≤ k) (h2 : k + l < n) (h : a * k % n + a * l % n = n) : False := by
  have h3 : n ∣ a * (k + l) := by
    refine Nat.dvd_of_mod_eq_zero ?_
    rw [Nat.mul_add, Nat.add_mod, h, Nat.mod_self]
  exact dvd_small (Nat.Coprime.dvd_of_dvd_mul_left hc.symm h3) (by omega) h2
theorem ph_inj {a n k l : Nat} (ho : n % 2 = 1) (hc : Nat.Coprime a n) (hk : k ∈ up (n / 2)) (hl : l ∈ up (n / 2)) (h : ph a n k = ph a n l) : k = l := by
  obtain ⟨k1, k2⟩ := mem_up.1 hk
  obtain ⟨l1, l2⟩ := mem_up.1 hl
  have k4 := Nat.mod_lt (a * k) (show 0 < n by omega)
  have l4 := Nat.mod_lt (a * l) (show 0 < n by omega)
  unfold ph at h
  split at h <;> split at h
  · exact cancel_any hc (by omega) (by omega) (by omega)
  · exact (no_sum hc k1 (show k + l < n by omega) (by omega)).elim
  · exact (no_sum hc k1 (show k + l < n by omega) (by omega)).elim
  · exact cancel_any hc (by omega) (by omega) h
theorem ph_perm {a n : Nat} (ho : n % 2 = 1) (hc : Nat.Coprime a n) : ((up (n / 2)).map (ph a n)).Perm (up (n / 2)) := by
  refine perm_of_same ?_ ?_ ?_
  · refine List.pairwise_map.2 ?_
    exact List.Pairwise.imp_of_mem (fun hx hy hne e => hne (ph_inj ho hc hx hy e)) (nodup_up (n / 2))
  · intro x hx
    obtain ⟨k, hk, rfl⟩ := List.mem_map.1 hx
    exact ph_mem ho hc hk
  · rw [List.length_map]
theorem sm_ph {a n : Nat} (f : Nat → Nat) (ho : n % 2 = 1) (hc : Nat.Coprime a n) : sm (fun k => f (ph a n k)) (up (n / 2)) = sm f (up (n / 2)) := by
  rw [← sm_map, sm_perm (ph_perm ho hc)]
theorem neg_mod {a n r : Nat} (h1 : r < n) (h2 : 1 ≤ a * r % n) : a * (n - r) % n = n - a * r % n := by
  have h3 : (a * (n - r) % n + a * r % n) % n = 0 := by
    rw [← Nat.add_mod, ← Nat.mul_add, show n - r + r = n by omega, Nat.mul_mod_left]
  have h4 := Nat.mod_lt (a * r) (show 0 < n by omega)
  have h5 := Nat.mod_lt (a * (n - r)) (show 0 < n by omega)
  have h6 := Nat.dvd_of_mod_eq_zero h3
  obtain ⟨c, hc⟩ := h6
  have : c = 1 := by
    rcases Nat.lt_or_ge c 1 with e | e
    · have : c = 0 := by omega
      rw [this, Nat.mul_zero] at hc; omega
    · rcases Nat.lt_or_ge 1 c with f | f
      · have := Nat.mul_le_mul_left n (show 2 ≤ c from f); omega
      · omega
  rw [this, Nat.mul_one] at hc
  omega
theorem ee_mul {a b n k : Nat} (ho : n % 2 = 1) (ha : Nat.Coprime a n) (hb : Nat.Coprime b n) (hk : k ∈ up (n / 2)) : ee (a * b) n k % 2 = (ee b n k + ee a n (ph b n k)) % 2 := by
  obtain ⟨k1, k2⟩ := mem_up.1 hk
  have hr := res_pos hb k1 (show k < n by omega)
  have hlt := Nat.mod_lt (b * k) (show 0 < n by omega)
  have e1 : a * b * k % n = a * (b * k % n) % n := by
    rw [Nat.mul_assoc, Nat.mul_mod, Nat.mul_mod a (b * k % n), Nat.mod_mod]
  have hp := res_pos ha hr hlt
  have hq := Nat.mod_lt (a * (b * k % n)) (show 0 < n by omega)
  unfold ee
  rw [e1]
  unfold ph
  by_cases h : n / 2 < b * k % n
  · rw [if_pos h, if_pos h, neg_mod hlt hp]
    split <;> split <;> omega
  · rw [if_neg h, if_neg h]
    split <;> rfl
theorem cnt_mul {a b n : Nat} (ho : n % 2 = 1) (ha : Nat.Coprime a n) (hb : Nat.Coprime b n) : cnt (a * b) n % 2 = (cnt a n + cnt b n) % 2 := by
  unfold cnt
  rw [sm_mod fun k hk => ee_mul ho ha hb hk, sm_add, sm_ph _ ho hb]
  omega
theorem cnt_mod (a n : Nat) : cnt (a % n) n = cnt a n := by
  unfold cnt
  refine sm_congr fun k _ => ?_
  unfold ee
  rw [Nat.mod_mul_mod]
/-! Two. -/
theorem cnt_gt (t : Nat) : ∀ h, sm (fun k => if t < k then 1 else 0) (up h) = h - t
  | 0 => by simp [up, sm]
  | h + 1 => by
    rw [up, sm, cnt_gt t h]
    split <;> omega
theorem cnt_two {n : Nat} (ho : n % 2 = 1) : cnt 2 n = n / 2 - n / 4 := by
  unfold cnt
  rw [← cnt_gt]
  refine sm_congr fun k hk => ?_
  obtain ⟨k1, k2⟩ := mem_up.1 hk
  unfold ee
  rw [Nat.mod_eq_of_lt (show 2 * k < n by omega)]
  split <;> split <;> omega
/-! Reciprocity. -/
theorem par_mul {a k : Nat} (h : a % 2 = 1) : a * k % 2 = k % 2 := by
  rw [Nat.mul_mod, h, Nat.one_mul, Nat.mod_mod]
theorem term_par {a n k : Nat} (ha : a % 2 = 1) (ho : n % 2 = 1) : (k + a * k / n + (ph a n k + ee a n k)) % 2 = 0 := by
  have h1 := par_mul (k := k) ha
  have h2 := par_mul (k := a * k / n) ho
  have h3 := Nat.div_add_mod (a * k) n
  have h4 := Nat.mod_lt (a * k) (show 0 < n by omega)
  unfold ph ee
  generalize n * (a * k / n) = B at *
  generalize a * k / n = q at *
  generalize a * k % n = r at *
  generalize a * k = A at *
  split <;> omega
theorem floor_par {a n : Nat} (ha : a % 2 = 1) (ho : n % 2 = 1) (hc : Nat.Coprime a n) : sm (fun k => a * k / n) (up (n / 2)) % 2 = cnt a n % 2 := by
  have h1 : sm (fun k => k + a * k / n + (ph a n k + ee a n k)) (up (n / 2)) % 2 = sm (fun _ => 0) (up (n / 2)) % 2 := sm_mod fun k _ => (term_par ha ho)
  have h2 := sm_ph (fun k => k) ho hc
  rw [sm_add, sm_add (f := fun k => k), sm_add (f := ph a n), h2, sm_const] at h1
  unfold cnt
  have e : sm (fun k => ee a n k) (up (n / 2)) = sm (ee a n) (up (n / 2)) := rfl
  omega
theorem count_le {n x : Nat} (hn : 0 < n) : ∀ H, sm (fun l => if n * l ≤ x then 1 else 0) (up H) = min H (x / n)
  | 0 => by simp [up, sm]
  | H + 1 => by
    rw [up, sm, count_le hn H]
    have : n * (H + 1) ≤ x ↔ H + 1 ≤ x / n := by rw [Nat.le_div_iff_mul_le hn, Nat.mul_comm]
    split <;> rename_i h <;> rw [this] at h <;> omega
theorem floor_le {m n k : Nat} (hm : m % 2 = 1) (hn : n % 2 = 1) (hk : k ≤ n / 2) : m * k / n ≤ m / 2 := by
  have h1 : m * (2 * k + 1) ≤ m * n := Nat.mul_le_mul_left m (by omega)
  have h2 : m * k < n * (m / 2 + 1) := by
    have e1 : m * (2 * k + 1) = 2 * (m * k) + m := by rw [Nat.mul_add, ← Nat.mul_assoc, Nat.mul_comm m 2, Nat.mul_assoc, Nat.mul_one]
    have e2 : m * n = 2 * (n * (m / 2)) + n := by
      conv => lhs; rw [show m = 2 * (m / 2) + 1 by omega]
      rw [Nat.add_mul, Nat.one_mul, Nat.mul_assoc, Nat.mul_comm (m / 2)]
    rw [Nat.mul_add, Nat.mul_one]
    omega
  have := (Nat.div_lt_iff_lt_mul (show 0 < n by omega)).2 (show m * k < (m / 2 + 1) * n by rw [Nat.mul_comm (m / 2 + 1)]; exact h2)
  omega
theorem lattice {m n : Nat} (hm : m % 2 = 1) (hn : n % 2 = 1) (hc : Nat.Coprime m n) : sm (fun k => m * k / n) (up (n / 2)) + sm (fun l => n * l / m) (up (m / 2)) = (n / 2) * (m / 2) := by
  have e1 : sm (fun k => m * k / n) (up (n / 2)) = sm (fun k => sm (fun l => if n * l ≤ m * k then 1 else 0) (up (m / 2))) (up (n / 2)) := sm_congr fun k hk => by
    rw [count_le (by omega)]
    have := floor_le hm hn (mem_up.1 hk).2
    omega
  have e2 : sm (fun l => n * l / m) (up (m / 2)) = sm (fun l => sm (fun k => if m * k ≤ n * l then 1 else 0) (up (n / 2))) (up (m / 2)) := sm_congr fun l hl => by
    rw [count_le (by omega)]
    have := floor_le hn hm (mem_up.1 hl).2
    omega
  rw [e1, e2, sm_swap (up (n / 2)) (up (m / 2)), ← sm_add]
  have e3 : sm (fun k => sm (fun l => if n * l ≤ m * k then 1 else 0) (up (m / 2)) + sm (fun l => if m * k ≤ n * l then 1 else 0) (up (m / 2))) (up (n / 2)) = sm (fun _ => m / 2) (up (n / 2)) := sm_congr fun k hk => by
    rw [← sm_add, sm_congr (g := fun _ => 1), sm_const, len_up, Nat.mul_one]
    intro l hl
    obtain ⟨k1, k2⟩ := mem_up.1 hk
    obtain ⟨l1, l2⟩ := mem_up.1 hl
    have : n * l ≠ m * k := fun e => dvd_small (n := m) (k := l) (Nat.Coprime.dvd_of_dvd_mul_left hc ⟨k, e⟩) l1 (by omega)
    split <;> split <;> omega
  rw [e3, sm_const, len_up]
theorem recip {m n : Nat} (hm : m % 2 = 1) (hn : n % 2 = 1) (hc : Nat.Coprime m n) : (cnt m n + cnt n m) % 2 = (n / 2) * (m / 2) % 2 := by
  have h1 := floor_par hm hn hc
  have h2 := floor_par hn hm hc.symm
  have h3 := lattice hm hn hc
  omega
/-! Powers. -/
theorem pr_mulc {f : Nat → Nat} (a : Nat) : ∀ l, pr (fun k => a * f k) l = a ^ l.length * pr f l
  | [] => by simp [pr]
  | k :: l => by
    simp only [pr, pr_mulc a l, List.length_cons, Nat.pow_succ]
    rw [Nat.mul_assoc, Nat.mul_assoc, Nat.mul_left_comm (f k), Nat.mul_left_comm a (a ^ l.length)]
theorem pr_pow {f g : Nat → Nat} (c : Nat) : ∀ l, pr (fun k => c ^ f k * g k) l = c ^ sm f l * pr g l
  | [] => by simp [pr, sm]
  | k :: l => by
    simp only [pr, sm, pr_pow c l, Nat.pow_add]
    rw [Nat.mul_assoc, Nat.mul_assoc, Nat.mul_left_comm (g k)]
theorem pr_cop {n : Nat} : ∀ {l : List Nat}, (∀ k ∈ l, Nat.Coprime k n) → Nat.Coprime (pr (fun k => k) l) n
  | [], _ => Nat.coprime_one_left n
  | k :: l, h => Nat.Coprime.mul_left (h k (List.mem_cons_self ..)) (pr_cop fun x hx => h x (List.mem_cons_of_mem _ hx))
theorem cancel_le {x y F n : Nat} (hc : Nat.Coprime F n) (hl : y ≤ x) (h : x * F % n = y * F % n) : x % n = y % n := by
  have h1 : n ∣ (x - y) * F := by
    rw [Nat.sub_mul]
    exact Nat.dvd_of_mod_eq_zero (Nat.sub_mod_eq_zero_of_mod_eq h)
  obtain ⟨c, hcc⟩ := Nat.Coprime.dvd_of_dvd_mul_right hc.symm h1
  rw [show x = y + n * c by omega, Nat.add_mul_mod_self_left]
theorem cancel_pr {x y F n : Nat} (hc : Nat.Coprime F n) (h : x * F % n = y * F % n) : x % n = y % n := by
  rcases Nat.le_total y x with e | e
  · exact cancel_le hc e h
  · exact (cancel_le hc e h.symm).symm
theorem gauss {a n : Nat} (ho : n % 2 = 1) (hc : Nat.Coprime a n) (hp : ∀ k, 1 ≤ k → k < n → Nat.Coprime k n) : a ^ (n / 2) % n = (n - 1) ^ cnt a n % n := by
  refine cancel_pr (F := pr (fun k => k) (up (n / 2))) (pr_cop fun k hk => hp k (mem_up.1 hk).1 (by have := (mem_up.1 hk).2; have := (mem_up.1 hk).1; omega)) ?_
  have h1 := pr_mulc (f := fun k => k) a (up (n / 2))
  rw [len_up] at h1
  have h2 := pr_pow (f := ee a n) (g := ph a n) (n - 1) (up (n / 2))
  have h3 : pr (ph a n) (up (n / 2)) = pr (fun k => k) (up (n / 2)) := by
    have e := pr_map (f := fun j => j) (g := ph a n) (up (n / 2))
    rw [pr_perm (ph_perm ho hc)] at e
    exact e.symm
  rw [h3] at h2
  rw [← h1]
  unfold cnt
  rw [← h2]
  refine pr_mod fun k hk => ?_
  obtain ⟨k1, k2⟩ := mem_up.1 hk
  have h4 := Nat.mod_lt (a * k) (show 0 < n by omega)
  have h5 := res_pos hc k1 (show k < n by omega)
  unfold ee ph
  split
  · rw [Nat.pow_one]
    have e := neg_mod (a := n - 1) (n := n) (r := n - a * k % n) (by omega) (by
      rcases Nat.eq_zero_or_pos ((n - 1) * (n - a * k % n) % n) with e | e
      · have hcop : Nat.Coprime (n - 1) n := hp (n - 1) (by omega) (by omega)
        exact (dvd_small (Nat.Coprime.dvd_of_dvd_mul_left hcop.symm (Nat.dvd_of_mod_eq_zero e)) (by omega) (by omega)).elim
      · exact e)
    rw [show n - (n - a * k % n) = a * k % n by omega] at e
    have e2 : (n - 1) * (a * k % n) % n = n - a * k % n := by
      have := neg_mod (a := a * k % n) (n := n) (r := 1) (by omega) (by rw [Nat.mul_one, Nat.mod_mod]; exact h5)
      rw [Nat.mul_one, Nat.mod_mod] at this
      rw [Nat.mul_comm]; exact this
    omega
  · rw [Nat.pow_zero, Nat.one_mul, Nat.mod_mod]
theorem neg_pow {n : Nat} (hn : 2 ≤ n) : ∀ c, (n - 1) ^ c % n = if c % 2 = 0 then 1 else n - 1
  | 0 => by rw [Nat.pow_zero, Nat.mod_eq_of_lt (by omega)]; rfl
  | c + 1 => by
    rw [Nat.pow_succ, Nat.mul_mod, neg_pow hn c, Nat.mod_eq_of_lt (show n - 1 < n by omega)]
    by_cases h : c % 2 = 0
    · rw [if_pos h, if_neg (by omega), Nat.one_mul, Nat.mod_eq_of_lt (by omega)]
    · rw [if_neg h, if_pos (by omega)]
      have : (n - 1) * (n - 1) = 1 + n * (n - 2) := by
        obtain ⟨m, rfl⟩ : ∃ m, n = m + 2 := ⟨n - 2, by omega⟩
        simp only [Nat.add_sub_cancel, show m + 2 - 1 = m + 1 by omega]
        rw [Nat.add_mul, Nat.mul_add, Nat.add_mul]
        omega
      rw [this, Nat.add_mul_mod_self_left, Nat.mod_eq_of_lt (by omega)]
/-! The prime. -/
def PP : Nat := 2147483579
def QQ : Nat := 1073741789
/-- No number from lo to lo + 2 ^ k - 1 divides n. -/
def noDiv (n : Nat) : Nat → Nat → Bool
  | 0, d => !(Nat.beq (n % d) 0)
  | k + 1, d => noDiv n k d && noDiv n k (d + 2 ^ k)
theorem noDiv_ok {n : Nat} : ∀ {k lo}, noDiv n k lo = true → ∀ d, lo ≤ d → d < lo + 2 ^ k → n % d ≠ 0
  | 0, lo, h, d, h1, h2 => fun e => by
    have : d = lo := by simp at h2; omega
    subst this
    rw [noDiv, e] at h
    cases h
  | k + 1, lo, h, d, h1, h2 => by
    simp only [noDiv, Bool.and_eq_true] at h
    rw [Nat.pow_succ] at h2
    rcases Nat.lt_or_ge d (lo + 2 ^ k) with e | e
    · exact noDiv_ok h.1 d h1 e
    · exact noDiv_ok h.2 d e (by omega)
theorem cop_of {n : Nat} (hn : 2 ≤ n) (h : ∀ d, 2 ≤ d → d * d ≤ n → n % d ≠ 0) : ∀ k, 1 ≤ k → k < n → Nat.Coprime k n := fun k h1 h2 => by
  have hg1 := Nat.gcd_dvd_left k n
  have hg2 := Nat.gcd_dvd_right k n
  show Nat.gcd k n = 1
  generalize Nat.gcd k n = g at *
  obtain ⟨c, hc⟩ := hg2
  have hg3 := Nat.le_of_dvd (by omega) hg1
  rcases Nat.lt_or_ge g 2 with e | e
  · rcases Nat.eq_zero_or_pos g with z | z
    · rw [z, Nat.zero_mul] at hc; omega
    · omega
  · have c2 : 2 ≤ c := by
      rcases Nat.lt_or_ge c 2 with f | f
      · rcases Nat.eq_zero_or_pos c with z | z
        · rw [z, Nat.mul_zero] at hc; omega
        · have : c = 1 := by omega
          rw [this, Nat.mul_one] at hc; omega
      · exact f
    rcases Nat.le_total g c with f | f
    · exact (h g e (by rw [hc]; exact Nat.mul_le_mul_left g f) (by rw [hc, Nat.mul_mod_right])).elim
    · exact (h c c2 (by rw [hc]; exact Nat.mul_le_mul_right c f) (by rw [hc, Nat.mul_mod_left])).elim
theorem P_noDiv : noDiv PP 16 2 = true := by kernel_rfl
theorem P_cop : ∀ k, 1 ≤ k → k < PP → Nat.Coprime k PP := cop_of (by decide) fun d h1 h2 => noDiv_ok P_noDiv d h1 (by
  rcases Nat.lt_or_ge d (2 + 2 ^ 16) with e | e
  · exact e
  · have := Nat.mul_le_mul e e
    have : (2 + 2 ^ 16) * (2 + 2 ^ 16) > PP := by decide
    omega)
theorem euler {x : Nat} (h1 : 1 ≤ x) (h2 : x < PP) : x ^ QQ % PP = if cnt x PP % 2 = 0 then 1 else PP - 1 := by
  have := gauss (a := x) (n := PP) (by decide) (P_cop x h1 h2) P_cop
  rw [neg_pow (by decide)] at this
  exact this
end Go.Proofs.YtbkjjehfidnagaaDoor
