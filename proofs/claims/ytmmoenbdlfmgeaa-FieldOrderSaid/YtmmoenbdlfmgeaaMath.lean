/- Plain arithmetic: Q = 1073741789 is prime; Fermat's little theorem. -/
namespace Go.Proofs.Ytmmoenbdlfmgeaa
def chk (b : Nat) : Nat → Bool
  | 0 => true
  | n + 1 => (1073741789 % (b + n) != 0) && chk b n
theorem chk_spec (b n : Nat) (h : chk b n = true) (d : Nat) (h1 : b ≤ d) (h2 : d < b + n) : 1073741789 % d ≠ 0 := by
  induction n with
  | zero => omega
  | succ n ih =>
    simp only [chk, Bool.and_eq_true, bne_iff_ne] at h
    by_cases e : d = b + n
    · subst e; exact h.1
    · exact ih h.2 (by omega)
def chks (b s : Nat) : Nat → Bool
  | 0 => true
  | n + 1 => chk (b + s * n) s && chks b s n
theorem chks_spec (b s n : Nat) (h : chks b s n = true) (d : Nat) (h1 : b ≤ d) (h2 : d < b + s * n) : 1073741789 % d ≠ 0 := by
  induction n with
  | zero => omega
  | succ n ih =>
    simp only [chks, Bool.and_eq_true] at h
    by_cases e : d < b + s * n
    · exact ih h.2 e
    · exact chk_spec _ _ h.1 d (by omega) (by rw [Nat.mul_succ] at h2; omega)
theorem no_div : chks 2 200 164 = true := by decide +kernel
/-- No number from 2 to Q - 1 divides Q. -/
theorem prime (d : Nat) (h1 : 2 ≤ d) (h2 : d < 1073741789) : 1073741789 % d ≠ 0 := by
  intro h
  by_cases h3 : d < 2 + 200 * 164
  · exact chks_spec 2 200 164 no_div d h1 h3 h
  · obtain ⟨m, hm⟩ := Nat.dvd_of_mod_eq_zero h
    have hm1 : 2 ≤ m := by
      rcases m with _ | _ | m
      · omega
      · omega
      · omega
    have hm2 : m < 2 + 200 * 164 := by
      apply Nat.lt_of_not_le; intro h4
      have : (2 + 200 * 164) * (2 + 200 * 164) ≤ d * m := Nat.mul_le_mul (by omega) h4
      omega
    exact chks_spec 2 200 164 no_div m hm1 hm2 (by rw [hm]; exact Nat.mul_mod_left _ _)
theorem coprime (a : Nat) (h1 : 0 < a) (h2 : a < 1073741789) : Nat.gcd a 1073741789 = 1 := by
  have hd : Nat.gcd a 1073741789 ∣ 1073741789 := Nat.gcd_dvd_right _ _
  have hl : Nat.gcd a 1073741789 ≤ a := Nat.gcd_le_left _ h1
  have hp : 0 < Nat.gcd a 1073741789 := Nat.gcd_pos_of_pos_left _ h1
  apply Classical.byContradiction; intro hne
  exact prime _ (by omega) (by omega) (Nat.mod_eq_zero_of_dvd hd)
theorem euclid (a b : Nat) (h1 : 0 < a) (h2 : a < 1073741789) (h : 1073741789 ∣ a * b) : 1073741789 ∣ b := by
  have hc : Nat.Coprime 1073741789 a := by rw [Nat.coprime_comm]; exact coprime a h1 h2
  exact hc.dvd_of_dvd_mul_left h

/-- Binomial coefficients. -/
def ch : Nat → Nat → Nat
  | _, 0 => 1
  | 0, _ + 1 => 0
  | n + 1, k + 1 => ch n k + ch n (k + 1)
theorem ch_zero (n : Nat) : ch n 0 = 1 := by cases n <;> rfl
theorem ch_big (n : Nat) : ∀ k, n < k → ch n k = 0 := by
  induction n with
  | zero => intro k h; cases k with | zero => omega | succ k => rfl
  | succ n ih => intro k h; cases k with | zero => omega | succ k => simp only [ch]; rw [ih k (by omega), ih (k + 1) (by omega)]
theorem ch_self (n : Nat) : ch n n = 1 := by
  induction n with
  | zero => rfl
  | succ n ih => simp only [ch]; rw [ih, ch_big n (n + 1) (by omega)]
theorem ch_mul (n : Nat) : ∀ k, (k + 1) * ch (n + 1) (k + 1) = (n + 1) * ch n k := by
  induction n with
  | zero => intro k; cases k with | zero => rfl | succ k => simp [ch]
  | succ n ih =>
    intro k
    cases k with
    | zero =>
      have := ih 0
      simp only [ch, ch_zero] at this ⊢; omega
    | succ k =>
      have h1 := ih k
      have h2 := ih (k + 1)
      show (k + 1 + 1) * (ch (n + 1) (k + 1) + ch (n + 1) (k + 1 + 1)) = (n + 1 + 1) * ch (n + 1) (k + 1)
      have h3 : ch (n + 1) (k + 1) = ch n k + ch n (k + 1) := rfl
      rw [Nat.mul_add, h2, Nat.add_mul (k + 1) 1, h1, h3, Nat.add_mul (n + 1) 1, Nat.mul_add (n + 1)]
      omega
theorem ch_dvd (p : Nat) (hc : ∀ a, 0 < a → a < p → Nat.Coprime p a) (k : Nat) (h1 : 0 < k) (h2 : k < p) : p ∣ ch p k := by
  obtain ⟨j, rfl⟩ : ∃ j, k = j + 1 := ⟨k - 1, by omega⟩
  obtain ⟨q, rfl⟩ : ∃ q, p = q + 1 := ⟨p - 1, by omega⟩
  exact (hc (j + 1) (by omega) h2).dvd_of_dvd_mul_left ⟨_, ch_mul q j⟩
/-- The sum of the first terms of a binomial. -/
def bs (a n : Nat) : Nat → Nat
  | 0 => 0
  | k + 1 => bs a n k + ch n k * a ^ k
theorem bs_step (a n : Nat) : ∀ k, bs a (n + 1) (k + 1) = bs a n (k + 1) + a * bs a n k := by
  intro k
  induction k with
  | zero => simp [bs, ch_zero]
  | succ k ih =>
    show bs a (n + 1) (k + 1) + ch (n + 1) (k + 1) * a ^ (k + 1) = bs a n (k + 1) + ch n (k + 1) * a ^ (k + 1) + a * (bs a n k + ch n k * a ^ k)
    rw [ih]
    show _ + (ch n k + ch n (k + 1)) * a ^ (k + 1) = _
    rw [Nat.add_mul, Nat.mul_add, Nat.pow_succ]
    have : a * (ch n k * a ^ k) = ch n k * (a ^ k * a) := by rw [Nat.mul_left_comm, Nat.mul_comm a]
    omega
theorem bs_big (a n k : Nat) (h : n < k) : bs a n (k + 1) = bs a n k := by simp [bs, ch_big n k h]
theorem binom (a n : Nat) : (1 + a) ^ n = bs a n (n + 1) := by
  induction n with
  | zero => simp [bs, ch_zero]
  | succ n ih =>
    rw [Nat.pow_succ, ih, bs_step, bs_big a n (n + 1) (by omega), Nat.mul_add, Nat.mul_one, Nat.mul_comm a]
theorem bs_mod (p : Nat) (hc : ∀ a, 0 < a → a < p → Nat.Coprime p a) (a : Nat) : ∀ k, k < p → ∃ m, bs a p (k + 1) = 1 + p * m := by
  intro k
  induction k with
  | zero => intro _; exact ⟨0, by simp [bs, ch_zero]⟩
  | succ k ih =>
    intro h
    obtain ⟨m, hm⟩ := ih (by omega)
    obtain ⟨c, hc⟩ := ch_dvd p hc (k + 1) (by omega) h
    refine ⟨m + c * a ^ (k + 1), ?_⟩
    show bs a p (k + 1) + ch p (k + 1) * a ^ (k + 1) = _
    rw [hm, hc, Nat.mul_add, Nat.mul_assoc]; omega
theorem fermat_add (p : Nat) (h0 : 1 < p) (hc : ∀ a, 0 < a → a < p → Nat.Coprime p a) (a : Nat) : (1 + a) ^ p % p = (1 + a ^ p) % p := by
  obtain ⟨m, hm⟩ := bs_mod p hc a (p - 1) (by omega)
  have h1 := binom a p
  have h2 : bs a p (p + 1) = bs a p p + ch p p * a ^ p := rfl
  rw [ch_self, Nat.one_mul] at h2
  rw [show p - 1 + 1 = p from by omega] at hm
  rw [h1, h2, hm, show 1 + p * m + a ^ p = (1 + a ^ p) + p * m from by omega, Nat.add_mul_mod_self_left]
theorem fermat (p : Nat) (h0 : 1 < p) (hc : ∀ a, 0 < a → a < p → Nat.Coprime p a) (a : Nat) : a ^ p % p = a % p := by
  induction a with
  | zero => rw [Nat.zero_pow (by omega)]
  | succ a ih =>
    rw [Nat.add_comm a 1, fermat_add p h0 hc, Nat.add_mod, ih, ← Nat.add_mod]
theorem inv' (p K : Nat) (hK : p = K + 2) (hc : ∀ a, 0 < a → a < p → Nat.Coprime p a) (a : Nat) (h1 : 0 < a) (h2 : a < p) : (a * a ^ K) % p = 1 % p := by
  have h := fermat p (by omega) hc a
  have e : a ^ p = a * (a * a ^ K) := by
    rw [hK, Nat.pow_succ, Nat.pow_succ, Nat.mul_comm, Nat.mul_comm (a ^ K)]
  rw [e] at h
  generalize a * a ^ K = x at *
  have hx : p ∣ a * (x + (p - 1)) := by
    rw [Nat.mul_add]
    apply Nat.dvd_of_mod_eq_zero
    rw [Nat.add_mod, h, ← Nat.add_mod]
    rw [show a + a * (p - 1) = a * p from by have e2 : a * p = a * (1 + (p - 1)) := by rw [show 1 + (p - 1) = p from by omega]
                                             rw [e2, Nat.mul_add, Nat.mul_one]]
    exact Nat.mul_mod_left _ _
  obtain ⟨c, hcc⟩ := (hc a h1 h2).dvd_of_dvd_mul_left hx
  have : x = 1 + p * (c - 1) := by
    have : 1 ≤ c := by
      rcases c with _ | c
      · omega
      · omega
    rw [Nat.mul_sub, Nat.mul_one]
    have : p ≤ p * c := Nat.le_mul_of_pos_right _ this
    omega
  rw [this, Nat.add_mul_mod_self_left]
/-- The power to Q - 2 is the inverse. -/
theorem inv (K : Nat) (hK : K = 1073741787) (a : Nat) (h1 : 0 < a) (h2 : a < 1073741789) : (a * a ^ K) % 1073741789 = 1 := by
  have := inv' 1073741789 K (by omega) (fun a h1 h2 => by rw [Nat.coprime_comm]; exact coprime a h1 h2) a h1 h2
  rw [this]
end Go.Proofs.Ytmmoenbdlfmgeaa
