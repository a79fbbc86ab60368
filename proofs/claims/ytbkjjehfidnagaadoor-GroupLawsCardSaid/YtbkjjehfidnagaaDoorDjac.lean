/- DERIVED. The algorithm of Jacobi, step by step. -/
import Derived.Test.YtbkjjehfidnagaaDoorDnum
namespace Go.Proofs.YtbkjjehfidnagaaDoor
set_option linter.unusedVariables false
/-- The sign of a modulo n (0: plus, 1: minus). -/
def jp (a n : Nat) : Nat := cnt a n % 2
theorem jp_mod (a n : Nat) : jp (a % n) n = jp a n := by unfold jp; rw [cnt_mod]
theorem jp_one (a : Nat) : jp a 1 = 0 := rfl
theorem jp_unit {n : Nat} (ho : n % 2 = 1) : jp 1 n = 0 := by
  unfold jp cnt
  rw [sm_congr (g := fun _ => 0), sm_const]
  · simp
  · intro k hk
    obtain ⟨k1, k2⟩ := mem_up.1 hk
    unfold ee
    rw [Nat.one_mul, Nat.mod_eq_of_lt (by omega), if_neg (by omega)]
theorem cop_two {n : Nat} (ho : n % 2 = 1) : Nat.Coprime 2 n := by
  show Nat.gcd 2 n = 1
  rw [Nat.gcd_rec, ho, Nat.gcd_one_left]
theorem jp_two {n : Nat} (ho : n % 2 = 1) : jp 2 n = if n % 8 = 3 ∨ n % 8 = 5 then 1 else 0 := by
  unfold jp
  rw [cnt_two ho]
  split <;> omega
theorem jp_mul {a b n : Nat} (ho : n % 2 = 1) (ha : Nat.Coprime a n) (hb : Nat.Coprime b n) : jp (a * b) n = (jp a n + jp b n) % 2 := by
  unfold jp
  rw [cnt_mul ho ha hb]; omega
theorem cop_pow {n : Nat} (ho : n % 2 = 1) : ∀ t, Nat.Coprime (2 ^ t) n
  | 0 => Nat.coprime_one_left n
  | t + 1 => by rw [Nat.pow_succ]; exact Nat.Coprime.mul_left (cop_pow ho t) (cop_two ho)
theorem jp_pow {n : Nat} (ho : n % 2 = 1) : ∀ t, jp (2 ^ t) n = t * jp 2 n % 2
  | 0 => by rw [Nat.pow_zero, jp_unit ho, Nat.zero_mul]
  | t + 1 => by
    rw [Nat.pow_succ, jp_mul ho (cop_pow ho t) (cop_two ho), jp_pow ho t, Nat.add_mul, Nat.one_mul]
    omega
/-- What the twos of a number do. -/
theorem jp_twos {a n t : Nat} (ho : n % 2 = 1) (hc : Nat.Coprime (2 ^ t * a) n) : jp (2 ^ t * a) n = ((if t % 2 = 1 ∧ (n % 8 = 3 ∨ n % 8 = 5) then 1 else 0) + jp a n) % 2 := by
  have ha : Nat.Coprime a n := Nat.Coprime.coprime_mul_left hc
  rw [jp_mul ho (cop_pow ho t) ha, jp_pow ho, jp_two ho]
  have hj : jp a n < 2 := Nat.mod_lt _ (by decide)
  by_cases h8 : n % 8 = 3 ∨ n % 8 = 5
  · rw [if_pos h8, Nat.mul_one]
    by_cases ht : t % 2 = 1
    · rw [if_pos ⟨ht, h8⟩]; omega
    · rw [if_neg fun h => ht h.1]; omega
  · rw [if_neg h8, Nat.mul_zero, if_neg fun h => h8 h.2]
theorem par_half {m n : Nat} (hm : m % 2 = 1) (hn : n % 2 = 1) : (n / 2) * (m / 2) % 2 = if m % 4 = 3 ∧ n % 4 = 3 then 1 else 0 := by
  rw [Nat.mul_mod]
  have h1 : n / 2 % 2 = 0 ∨ n / 2 % 2 = 1 := by omega
  have h2 : m / 2 % 2 = 0 ∨ m / 2 % 2 = 1 := by omega
  rcases h1 with h1 | h1 <;> rcases h2 with h2 | h2 <;> rw [h1, h2] <;> split <;> omega
theorem jp_swap {m n : Nat} (hm : m % 2 = 1) (hn : n % 2 = 1) (hc : Nat.Coprime m n) : jp m n = ((if m % 4 = 3 ∧ n % 4 = 3 then 1 else 0) + jp n m) % 2 := by
  have h1 := recip hm hn hc
  rw [par_half hm hn] at h1
  unfold jp
  split at h1 <;> rename_i h
  · rw [if_pos h]; omega
  · rw [if_neg h]; omega
/-- The sign as a number. -/
def sg (p : Nat) : Int := if p % 2 = 0 then 1 else -1
theorem sg_add (p q : Nat) : sg (p + q) = sg p * sg q := by
  unfold sg
  by_cases hp : p % 2 = 0 <;> by_cases hq : q % 2 = 0
  · rw [if_pos hp, if_pos hq, if_pos (by omega)]; rfl
  · rw [if_pos hp, if_neg hq, if_neg (by omega)]; rfl
  · rw [if_neg hp, if_pos hq, if_neg (by omega)]; rfl
  · rw [if_neg hp, if_neg hq, if_pos (by omega)]; rfl
theorem sg_mod (p : Nat) : sg (p % 2) = sg p := by unfold sg; rw [Nat.mod_mod]
/-- Jacobi's symbol of coprime numbers. -/
def js (a n : Nat) : Int := sg (jp a n)
theorem js_mod (a n : Nat) : js (a % n) n = js a n := by unfold js; rw [jp_mod]
theorem js_one (a : Nat) : js a 1 = 1 := rfl
theorem js_twos {a n t : Nat} (ho : n % 2 = 1) (hc : Nat.Coprime (2 ^ t * a) n) : js (2 ^ t * a) n = (if t % 2 = 1 ∧ (n % 8 = 3 ∨ n % 8 = 5) then -1 else 1) * js a n := by
  unfold js
  rw [jp_twos ho hc, sg_mod, sg_add]
  split <;> rfl
theorem js_swap {m n : Nat} (hm : m % 2 = 1) (hn : n % 2 = 1) (hc : Nat.Coprime m n) : js m n = (if m % 4 = 3 ∧ n % 4 = 3 then -1 else 1) * js n m := by
  unfold js
  rw [jp_swap hm hn hc, sg_mod, sg_add]
  split <;> rfl
/-! Elements. -/
def V (x : Int) : Prop := 1 ≤ x ∧ x < 2147483579 ∧ x.toNat ^ QQ % PP = 1
theorem js_euler {x : Nat} (h1 : 1 ≤ x) (h2 : x < PP) : js x PP = 1 ↔ x ^ QQ % PP = 1 := by
  rw [euler h1 h2]
  unfold js sg jp
  rw [Nat.mod_mod]
  by_cases h : cnt x PP % 2 = 0
  · rw [if_pos h, if_pos h]; simp
  · rw [if_neg h, if_neg h]; decide
end Go.Proofs.YtbkjjehfidnagaaDoor
