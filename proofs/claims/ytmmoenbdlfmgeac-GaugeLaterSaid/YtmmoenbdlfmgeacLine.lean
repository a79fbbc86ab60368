/- DERIVED. Gauges: the piecewise line, on numbers. -/
import Derived.Test.YtmmoenbdlfmgeacCheck
namespace Go.Proofs.Ytmmoenbdlfmgeac
set_option linter.unusedVariables false
set_option linter.unusedSimpArgs false
def seg (a b : Int × Int) (st : Int) : Int := (b.2 - a.2) * (st - a.1)
def sLo (a b : Int × Int) (st : Int) : Int := a.2 + seg a b st / (b.1 - a.1)
def sHi (a b : Int × Int) (st : Int) : Int := a.2 + (seg a b st + (b.1 - a.1) - 1) / (b.1 - a.1)
def lo : List (Int × Int) → Int → Int
  | [], _ => 0
  | [a], _ => a.2
  | a :: b :: r, st => if st ≤ a.1 then a.2 else if st < b.1 then sLo a b st else lo (b :: r) st
def hi : List (Int × Int) → Int → Int
  | [], _ => 0
  | [a], _ => a.2
  | a :: b :: r, st => if st ≤ a.1 then a.2 else if st < b.1 then sHi a b st else hi (b :: r) st
def Srt : List (Int × Int) → Prop
  | [] => True
  | [_] => True
  | a :: b :: r => a.1 < b.1 ∧ a.2 ≤ b.2 ∧ Srt (b :: r)
theorem Srt.tail {a : Int × Int} {r : List (Int × Int)} (h : Srt (a :: r)) : Srt r := by
  cases r with
  | nil => trivial
  | cons b r => exact h.2.2
abbrev at_ (pts : List (Int × Int)) (k : Nat) : Int × Int := pts[k]?.getD (0, 0)
theorem at_succ (a : Int × Int) (r : List (Int × Int)) (k : Nat) : at_ (a :: r) (k + 1) = at_ r k := by simp [at_]
theorem at_zero (a : Int × Int) (r : List (Int × Int)) : at_ (a :: r) 0 = a := by simp [at_]
theorem Srt.head {a : Int × Int} : ∀ {r : List (Int × Int)} (h : Srt (a :: r)) (k : Nat), k < (a :: r).length → a.1 ≤ (at_ (a :: r) k).1 := by
  intro r
  induction r generalizing a with
  | nil => intro h k hk; have : k = 0 := by simpa using hk
           subst this; simp [at_]
  | cons b r ih =>
    intro h k hk
    cases k with
    | zero => simp [at_]
    | succ k =>
      rw [at_succ]
      have := ih h.2.2 k (by simpa using hk)
      have := h.1
      omega
theorem Srt.of_at : ∀ (pts : List (Int × Int)), (∀ k, k + 1 < pts.length → (at_ pts k).1 < (at_ pts (k + 1)).1 ∧ (at_ pts k).2 ≤ (at_ pts (k + 1)).2) → Srt pts
  | [], _ => trivial
  | [_], _ => trivial
  | a :: b :: r, h => by
    have h0 := h 0 (by simp)
    simp [at_] at h0
    refine ⟨h0.1, h0.2, Srt.of_at (b :: r) (fun k hk => ?_)⟩
    have := h (k + 1) (by simp at hk ⊢; omega)
    rwa [at_succ, at_succ] at this
theorem Srt.lt {pts : List (Int × Int)} (h : Srt pts) : ∀ (k : Nat), k + 1 < pts.length → (at_ pts k).1 < (at_ pts (k + 1)).1 ∧ (at_ pts k).2 ≤ (at_ pts (k + 1)).2 := by
  induction pts with
  | nil => intro k hk; simp at hk
  | cons a r ih =>
    intro k hk
    cases k with
    | zero =>
      cases r with
      | nil => simp at hk
      | cons b r => simp [at_]; exact ⟨h.1, h.2.1⟩
    | succ k => rw [at_succ, at_succ]; exact ih h.tail k (by simp at hk ⊢; omega)
/-- At or before the first point. -/
theorem lo_first (a : Int × Int) (r : List (Int × Int)) (st : Int) (h : st ≤ a.1) : lo (a :: r) st = a.2 ∧ hi (a :: r) st = a.2 := by
  cases r <;> simp [lo, hi, h]
/-- Between two points. -/
theorem lo_mid : ∀ (pts : List (Int × Int)) (h : Srt pts) (k : Nat) (st : Int), k + 1 < pts.length → (at_ pts k).1 < st → st < (at_ pts (k + 1)).1 →
    lo pts st = sLo (at_ pts k) (at_ pts (k + 1)) st ∧ hi pts st = sHi (at_ pts k) (at_ pts (k + 1)) st
  | [], _, k, st, hk, _, _ => by simp at hk
  | [_], _, k, st, hk, _, _ => by simp at hk
  | a :: b :: r, h, 0, st, _, h1, h2 => by
    rw [at_succ, at_zero, at_zero] at *
    simp [lo, hi, show ¬ st ≤ a.1 from by omega, h2]
  | a :: b :: r, h, k + 1, st, hk, h1, h2 => by
    rw [at_succ] at h1
    rw [at_succ] at h2
    rw [at_succ, at_succ]
    have hh := h.tail.head k (by simp at hk ⊢; omega)
    have := h.1
    have ih := lo_mid (b :: r) h.tail k st (by simp at hk ⊢; omega) h1 h2
    rw [← ih.1, ← ih.2]
    simp [lo, hi, show ¬ st ≤ a.1 from by omega, show ¬ st < b.1 from by omega]
/-- At a point. -/
theorem lo_at : ∀ (pts : List (Int × Int)) (h : Srt pts) (k : Nat), k < pts.length → lo pts (at_ pts k).1 = (at_ pts k).2 ∧ hi pts (at_ pts k).1 = (at_ pts k).2
  | [], _, k, hk => by simp at hk
  | [a], _, k, hk => by
    have : k = 0 := by simpa using hk
    subst this; simp [lo, hi, at_]
  | a :: b :: r, h, 0, _ => by rw [at_zero]; exact lo_first a _ _ (Int.le_refl _)
  | a :: b :: r, h, k + 1, hk => by
    rw [at_succ]
    have hh := h.tail.head k (by simp at hk ⊢; omega)
    have := h.1
    have ih := lo_at (b :: r) h.tail k (by simp at hk ⊢; omega)
    rw [← ih.1]
    refine ⟨?_, ?_⟩
    · rw [ih.1]; conv => rhs; rw [← ih.1]
      simp [lo, show ¬ (at_ (b :: r) k).1 ≤ a.1 from by omega, show ¬ (at_ (b :: r) k).1 < b.1 from by omega]
    · rw [ih.1]; conv => rhs; rw [← ih.2]
      simp [hi, show ¬ (at_ (b :: r) k).1 ≤ a.1 from by omega, show ¬ (at_ (b :: r) k).1 < b.1 from by omega]
/-- At or behind the last point. -/
theorem lo_last : ∀ (pts : List (Int × Int)) (h : Srt pts) (k : Nat) (st : Int), k + 1 = pts.length → (at_ pts k).1 ≤ st → lo pts st = (at_ pts k).2 ∧ hi pts st = (at_ pts k).2
  | [], _, k, st, hk, _ => by simp at hk
  | [a], _, k, st, hk, _ => by
    have : k = 0 := by simpa using hk
    subst this; simp [lo, hi, at_]
  | a :: b :: r, h, 0, st, hk, _ => by simp at hk
  | a :: b :: r, h, k + 1, st, hk, h1 => by
    rw [at_succ] at h1 ⊢
    have hh := h.tail.head k (by simp at hk ⊢; omega)
    have := h.1
    have ih := lo_last (b :: r) h.tail k st (by simp at hk ⊢; omega) h1
    rw [← ih.1]
    refine ⟨?_, ?_⟩
    · simp [lo, show ¬ st ≤ a.1 from by omega, show ¬ st < b.1 from by omega]
    · rw [ih.1, ← ih.2]; simp [hi, show ¬ st ≤ a.1 from by omega, show ¬ st < b.1 from by omega]
theorem seg_nn (a b : Int × Int) (st : Int) (h2 : a.2 ≤ b.2) (hs : a.1 ≤ st) : 0 ≤ seg a b st := Int.mul_nonneg (by omega) (by omega)
theorem seg_mono (a b : Int × Int) (st st' : Int) (h2 : a.2 ≤ b.2) (hs : st ≤ st') : seg a b st ≤ seg a b st' := Int.mul_le_mul_of_nonneg_left (by omega) (by omega)
theorem seg_le (a b : Int × Int) (st : Int) (h1 : a.1 < b.1) (h2 : a.2 ≤ b.2) (hs : st ≤ b.1) : seg a b st ≤ (b.2 - a.2) * (b.1 - a.1) := Int.mul_le_mul_of_nonneg_left (by omega) (by omega)
theorem sLo_bd (a b : Int × Int) (st : Int) (h1 : a.1 < b.1) (h2 : a.2 ≤ b.2) (hs : a.1 ≤ st) (ht : st ≤ b.1) : a.2 ≤ sLo a b st ∧ sLo a b st ≤ sHi a b st ∧ sHi a b st ≤ b.2 ∧ sHi a b st ≤ sLo a b st + 1 := by
  have n0 := seg_nn a b st h2 hs
  have n1 := seg_le a b st h1 h2 ht
  have hd : 0 < b.1 - a.1 := by omega
  unfold sLo sHi
  generalize hd' : b.1 - a.1 = d at *
  generalize seg a b st = s at *
  have q0 : 0 ≤ s / d := Int.ediv_nonneg n0 (by omega)
  have q1 : s / d ≤ (s + d - 1) / d := Int.ediv_le_ediv hd (by omega)
  have q2 : (s + d - 1) / d ≤ b.2 - a.2 := by
    have : s + d - 1 < (b.2 - a.2 + 1) * d := by rw [Int.add_mul, Int.one_mul]; omega
    have := Int.ediv_lt_of_lt_mul hd this
    omega
  have q3 : (s + d - 1) / d ≤ s / d + 1 := by
    have : s + d - 1 ≤ s + d := by omega
    have := Int.ediv_le_ediv hd this
    have e : (s + d) / d = s / d + 1 := by rw [Int.add_ediv_of_dvd_right (Int.dvd_refl d), Int.ediv_self (by omega)]
    omega
  omega
theorem sLo_mono (a b : Int × Int) (st st' : Int) (h1 : a.1 < b.1) (h2 : a.2 ≤ b.2) (hs : st ≤ st') : sLo a b st ≤ sLo a b st' ∧ sHi a b st ≤ sHi a b st' := by
  have hm := seg_mono a b st st' h2 hs
  have hd : 0 < b.1 - a.1 := by omega
  unfold sLo sHi
  have := Int.ediv_le_ediv hd hm
  have := Int.ediv_le_ediv hd (show seg a b st + (b.1 - a.1) - 1 ≤ seg a b st' + (b.1 - a.1) - 1 by omega)
  omega
theorem lo_ge : ∀ (a : Int × Int) (r : List (Int × Int)) (h : Srt (a :: r)) (st : Int), a.2 ≤ lo (a :: r) st ∧ lo (a :: r) st ≤ hi (a :: r) st ∧ hi (a :: r) st ≤ lo (a :: r) st + 1
  | a, [], _, st => by simp [lo, hi]; omega
  | a, b :: r, h, st => by
    have ⟨i1, i2, i3⟩ := lo_ge b r h.tail st
    have := h.2.1
    simp only [lo, hi]
    split
    · omega
    · split
      · have := sLo_bd a b st h.1 h.2.1 (by omega) (by omega); omega
      · omega
theorem lo_mono : ∀ (a : Int × Int) (r : List (Int × Int)) (h : Srt (a :: r)) (st st' : Int), st ≤ st' → lo (a :: r) st ≤ lo (a :: r) st' ∧ hi (a :: r) st ≤ hi (a :: r) st'
  | a, [], _, st, st', _ => by simp [lo, hi]
  | a, b :: r, h, st, st', hs => by
    have ⟨i1, i2⟩ := lo_mono b r h.tail st st' hs
    have ⟨g1, g2, g3⟩ := lo_ge a (b :: r) h st'
    have ⟨k1, k2, k3⟩ := lo_ge b r h.tail st'
    by_cases c1 : st ≤ a.1
    · have := lo_first a (b :: r) st c1; omega
    · simp only [lo, hi, c1, if_false, show ¬ st' ≤ a.1 from by omega]
      by_cases c2 : st' < b.1
      · have := sLo_mono a b st st' h.1 h.2.1 hs
        simp only [c2, show st < b.1 from by omega, if_true]; exact this
      · simp only [c2, if_false]
        by_cases c3 : st < b.1
        · have := sLo_bd a b st h.1 h.2.1 (by omega) (by omega)
          simp only [c3, if_true]; omega
        · simp only [c3, if_false]; exact ⟨i1, i2⟩
/-- A table as Check accepts it. -/
structure Tab (pts : List (Int × Int)) : Prop where
  ne : pts ≠ []
  le : pts.length ≤ 64
  srt : Srt pts
  bd : ∀ k, k < pts.length → 0 ≤ (at_ pts k).1 ∧ (at_ pts k).1 ≤ 1048576 ∧ 0 ≤ (at_ pts k).2 ∧ (at_ pts k).2 ≤ 1073741824
theorem allTo_t {pts : List (Int × Int)} {n k : Nat} (h : allTo pts n = true) (hk : k < n) : okAt pts k = true := by
  cases ho : okAt pts k with
  | true => rfl
  | false => rw [allTo_f hk ho] at h; cases h
theorem chk_tab {no rc cl dr si : Int} {pts : List (Int × Int)} (h : chk no rc cl dr si pts = 0) : Tab pts ∧ (0 ≤ cl ∧ cl ≤ 1000 ∧ 0 ≤ dr ∧ dr ≤ 1000 ∧ 0 ≤ si ∧ si ≤ 4096) := by
  unfold chk at h
  split at h
  · cases h
  · split at h
    · rename_i hl hq
      simp only [Bool.and_eq_true, decide_eq_true_eq] at hq
      obtain ⟨⟨hf, hne⟩, hall⟩ := hq
      simp only [fOk, Bool.and_eq_true] at hf
      obtain ⟨⟨_, f3, f4⟩, f5⟩ := hf
      have f3 := inB_t f3; have f4 := inB_t f4; have f5 := inB_t f5
      refine ⟨⟨hne, by omega, Srt.of_at _ (fun k hk => ?_), fun k hk => ?_⟩, by omega⟩
      · have := allTo_t hall hk
        simp [okAt] at this
        exact ⟨this.2.1, this.2.2⟩
      · have := allTo_t hall hk
        simp [okAt] at this
        have a1 := inB_t this.1.1; have a2 := inB_t this.1.2
        exact ⟨a1.1, a1.2, a2.1, a2.2⟩
    · cases h
theorem chk_cases (no rc cl dr si : Int) (pts : List (Int × Int)) : chk no rc cl dr si pts = 0 ∨ chk no rc cl dr si pts = 2 ∨ chk no rc cl dr si pts = 240 := by
  unfold chk; split
  · simp
  · split <;> simp
end Go.Proofs.Ytmmoenbdlfmgeac
