/- DERIVED. Products and powers of elements. -/
import Derived.Test.YtbkjjehfidnagaaDoorDcon
namespace Go.Proofs.YtbkjjehfidnagaaDoor
set_option linter.unusedVariables false
theorem pw_mul (a b n : Nat) : (a * b % PP) ^ n % PP = (a ^ n % PP * (b ^ n % PP)) % PP := by rw [← Nat.pow_mod, Nat.mul_pow, Nat.mul_mod]
theorem pw_add (a m n : Nat) : a ^ (m + n) % PP = (a ^ m % PP * (a ^ n % PP)) % PP := by rw [Nat.pow_add, Nat.mul_mod]
theorem pw_pw (a m n : Nat) : (a ^ m % PP) ^ n % PP = a ^ (m * n) % PP := by rw [← Nat.pow_mod, Nat.pow_mul]
theorem one_pw (n : Nat) : 1 ^ n % PP = 1 := by rw [Nat.one_pow]; rfl
theorem pw_Q {a : Nat} (h : a ^ QQ % PP = 1) (q r : Nat) : a ^ (QQ * q + r) % PP = a ^ r % PP := by
  rw [pw_add, ← pw_pw, h, one_pw, Nat.one_mul, Nat.mod_mod]
theorem pw_cong {a u v : Nat} (h : a ^ QQ % PP = 1) (e : u % QQ = v % QQ) : a ^ u % PP = a ^ v % PP := by
  rw [← Nat.div_add_mod u QQ, ← Nat.div_add_mod v QQ, pw_Q h, pw_Q h, e]
theorem pr_toNat {a b : Int} (ha : 0 ≤ a) (hb : 0 ≤ b) : (prodF a b).toNat = a.toNat * b.toNat % PP := by
  obtain ⟨m, rfl⟩ := Int.eq_ofNat_of_zero_le ha
  obtain ⟨n, rfl⟩ := Int.eq_ofNat_of_zero_le hb
  rfl
theorem pr_nat (m n : Nat) : prodF m n = ((m * n % PP : Nat) : Int) := rfl
theorem pr_rng {a b : Int} (ha : 0 ≤ a) (hb : 0 ≤ b) : 0 ≤ prodF a b ∧ prodF a b < 2147483579 := ⟨Int.emod_nonneg _ (by decide), Int.emod_lt_of_pos _ (by decide)⟩
theorem pw_rng (a n : Int) : 0 ≤ pwF a n ∧ pwF a n < 2147483579 := by
  unfold pwF
  have := Nat.mod_lt (a.toNat ^ n.toNat) (show 0 < PP by decide)
  have e : PP = 2147483579 := rfl
  omega
theorem V_pos {x : Int} (h : V x) : 0 ≤ x := by have := h.1; omega
theorem V_of {x : Nat} (h1 : x < PP) (h2 : x ^ QQ % PP = 1) : V (x : Int) := by
  have e : PP = 2147483579 := rfl
  refine ⟨?_, by omega, by simpa using h2⟩
  rcases Nat.eq_zero_or_pos x with z | z
  · rw [z] at h2
    have : (0 : Nat) ^ QQ = 0 := Nat.zero_pow (n := QQ) (show 0 < QQ by unfold QQ; omega)
    rw [this] at h2
    simp at h2
  · omega
theorem V_nat {x : Int} (h : V x) : ∃ n : Nat, x = n ∧ 1 ≤ n ∧ n < PP ∧ n ^ QQ % PP = 1 := by
  have e : PP = 2147483579 := rfl
  have := V_pos h
  exact ⟨x.toNat, by omega, by have := h.1; omega, by have := h.2.1; omega, h.2.2⟩
theorem V_one : V 1 := ⟨by decide, by decide, by rw [show (1 : Int).toNat = 1 from rfl]; exact one_pw QQ⟩
theorem V_mul {a b : Int} (ha : V a) (hb : V b) : V (prodF a b) := by
  obtain ⟨m, rfl, _, _, h1⟩ := V_nat ha
  obtain ⟨n, rfl, _, _, h2⟩ := V_nat hb
  rw [pr_nat]
  exact V_of (Nat.mod_lt _ (by decide)) (by rw [pw_mul, h1, h2]; rfl)
theorem V_pow {a n : Int} (ha : V a) : V (pwF a n) := by
  obtain ⟨m, rfl, _, _, h1⟩ := V_nat ha
  unfold pwF
  refine V_of (Nat.mod_lt _ (by decide)) ?_
  rw [pw_pw, Nat.mul_comm, ← pw_pw, Int.toNat_natCast, h1, one_pw]
theorem pr_comm (a b : Int) : prodF a b = prodF b a := by unfold prodF; rw [Int.mul_comm]
theorem pr_assoc (a b c : Int) : prodF (prodF a b) c = prodF a (prodF b c) := by
  unfold prodF
  rw [Int.mul_emod (a * b % 2147483579), Int.emod_emod, ← Int.mul_emod, Int.mul_emod a (b * c % 2147483579), Int.emod_emod, ← Int.mul_emod, Int.mul_assoc]
theorem pr_one {a : Int} (h : V a) : prodF a 1 = a := by unfold prodF; rw [Int.mul_one]; exact Int.emod_eq_of_lt (V_pos h) h.2.1
theorem pw_0 {a : Int} : pwF a 0 = 1 := by unfold pwF; rfl
theorem pw_1 {a : Int} (h : V a) : pwF a 1 = a := by
  obtain ⟨m, rfl, _, h2, _⟩ := V_nat h
  unfold pwF
  rw [show (1 : Int).toNat = 1 from rfl, Nat.pow_one, Int.toNat_natCast, Nat.mod_eq_of_lt h2]
theorem pw_2 {a : Int} (h : V a) : pwF a 2 = prodF a a := by
  obtain ⟨m, rfl, _, h2, _⟩ := V_nat h
  unfold pwF
  rw [show (2 : Int).toNat = 2 from rfl, Int.toNat_natCast, pr_nat, Nat.pow_two]
/-- Exponents count modulo the order. -/
theorem ex_rng (n : Int) : 0 ≤ expF n ∧ expF n < 1073741789 := ⟨Int.emod_nonneg _ (by decide), Int.emod_lt_of_pos _ (by decide)⟩
theorem pw_same {a : Int} (h : V a) {u v : Int} (hu : 0 ≤ u) (hv : 0 ≤ v) (e : expF u = expF v) : pwF a u = pwF a v := by
  obtain ⟨x, rfl⟩ := Int.eq_ofNat_of_zero_le hu
  obtain ⟨y, rfl⟩ := Int.eq_ofNat_of_zero_le hv
  unfold pwF
  congr 1
  refine pw_cong h.2.2 ?_
  have e : ((x : Int)) % (1073741789 : Int) = (y : Int) % 1073741789 := e
  rw [Int.toNat_natCast, Int.toNat_natCast]
  show x % 1073741789 = y % 1073741789
  omega
theorem pw_sum {a : Int} (h : V a) {u v : Int} (hu : 0 ≤ u) (hv : 0 ≤ v) : prodF (pwF a u) (pwF a v) = pwF a (u + v) := by
  obtain ⟨x, rfl⟩ := Int.eq_ofNat_of_zero_le hu
  obtain ⟨y, rfl⟩ := Int.eq_ofNat_of_zero_le hv
  unfold pwF
  rw [pr_nat, show ((x : Int) + (y : Int)).toNat = x + y by omega, Int.toNat_natCast, Int.toNat_natCast, ← pw_add]
theorem pw_prod {a : Int} (h : V a) {u v : Int} (hu : 0 ≤ u) (hv : 0 ≤ v) : pwF (pwF a u) v = pwF a (u * v) := by
  obtain ⟨x, rfl⟩ := Int.eq_ofNat_of_zero_le hu
  obtain ⟨y, rfl⟩ := Int.eq_ofNat_of_zero_le hv
  unfold pwF
  rw [show ((x : Int) * (y : Int)).toNat = x * y by rw [← Int.natCast_mul]; rfl, Int.toNat_natCast, Int.toNat_natCast, Int.toNat_natCast, pw_pw]
theorem pw_both {a b : Int} (ha : V a) (hb : V b) {u : Int} : pwF (prodF a b) u = prodF (pwF a u) (pwF b u) := by
  have h1 := V_pos ha; have h2 := V_pos hb
  unfold pwF
  rw [pr_nat, pr_toNat h1 h2, pw_mul]
theorem ex_add (i k : Int) : expF (expF i + expF k) = expF (expF (i + k)) := by
  unfold expF
  rw [Int.emod_emod, ← Int.add_emod]
theorem ex_mul (i k : Int) : expF (expF i * expF k) = expF (expF (i * k)) := by
  unfold expF
  rw [Int.emod_emod, ← Int.mul_emod]
theorem P_of {a : Int} (h : V a) (i k : Int) : prodF (pwF a (expF i)) (pwF a (expF k)) = pwF a (expF (i + k)) := by
  rw [pw_sum h (ex_rng i).1 (ex_rng k).1]
  exact pw_same h (by have := (ex_rng i).1; have := (ex_rng k).1; omega) (ex_rng _).1 (ex_add i k)
theorem PP_of {a : Int} (h : V a) (i k : Int) : pwF (pwF a (expF i)) (expF k) = pwF a (expF (i * k)) := by
  rw [pw_prod h (ex_rng i).1 (ex_rng k).1]
  exact pw_same h (Int.mul_nonneg (ex_rng i).1 (ex_rng k).1) (ex_rng _).1 (ex_mul i k)
theorem inv_of {a : Int} (h : V a) : prodF a (pwF a (expF (-1))) = 1 := by
  have := P_of h 1 (-1)
  rw [show expF 1 = 1 from rfl, pw_1 h] at this
  rw [this]
  exact pw_0
/-! Squares. -/
theorem eul {x : Nat} (h1 : 1 ≤ x) (h2 : x < PP) : x ^ QQ % PP = 1 ∨ x ^ QQ % PP = PP - 1 := by
  rw [euler h1 h2]
  split
  · exact .inl rfl
  · exact .inr rfl
theorem sq_V {x : Nat} (h1 : 1 ≤ x) (h2 : x < PP) : V ((x * x % PP : Nat) : Int) := by
  refine V_of (Nat.mod_lt _ (by decide)) ?_
  rw [pw_mul]
  rcases eul h1 h2 with e | e <;> rw [e] <;> rfl
theorem neg_V {x : Nat} (h1 : 1 ≤ x) (h2 : x < PP) : (PP - x) ^ QQ % PP = if x ^ QQ % PP = 1 then PP - 1 else 1 := by
  have e : (PP - 1) * x % PP = PP - x := by
    have := neg_mod (a := x) (n := PP) (r := 1) (by decide) (by rw [Nat.mul_one, Nat.mod_eq_of_lt h2]; exact h1)
    rw [Nat.mul_one, Nat.mod_eq_of_lt h2] at this
    rw [Nat.mul_comm]; exact this
  have q : (PP - 1) ^ QQ % PP = PP - 1 := by rw [neg_pow (by decide)]; rfl
  rw [← e, pw_mul, q]
  rcases eul h1 h2 with k | k
  · rw [k]; rfl
  · rw [k]; rfl
theorem V_neg {x : Int} (h1 : 1 ≤ x) (h2 : x < 2147483579) : V (2147483579 - x) ↔ ¬ V x := by
  obtain ⟨n, rfl⟩ := Int.eq_ofNat_of_zero_le (show 0 ≤ x by omega)
  have e : PP = 2147483579 := rfl
  have h := neg_V (x := n) (by omega) (by omega)
  have t : ((2147483579 : Int) - (n : Int)).toNat = PP - n := by omega
  unfold V
  rw [t, Int.toNat_natCast, h]
  constructor
  · intro hh hk
    have h3 := hh.2.2
    rw [if_pos hk.2.2] at h3
    exact absurd h3 (by decide)
  · intro hh
    refine ⟨by omega, by omega, ?_⟩
    rw [if_neg fun hk => hh ⟨h1, h2, hk⟩]
theorem root_of {x : Int} (h : V x) : pwF (pwF x (expF 536870895)) (expF 2) = x := by
  rw [PP_of h]
  exact pw_1 h
end Go.Proofs.YtbkjjehfidnagaaDoor
