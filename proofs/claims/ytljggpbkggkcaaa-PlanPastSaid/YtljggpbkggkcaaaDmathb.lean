/- DERIVED. Firm demands: arithmetic. -/
import Derived.Test.YtljggpbkggkcaaaDcti
namespace Go.Proofs.Ytljggpbkggkcaaa
open Go.Dx
set_option linter.unusedVariables false
set_option linter.unusedSimpArgs false
/-- A period as it is told. -/
def rowAt (P : DV) (k : Int) : List DV := [.n (P.at k 0), .n (P.at k 1), .n (P.at k 2), .n (P.at k 3), .n (P.at k 4)]
theorem clampB_i64 {x : Int} (h : -9223372036854775808 ≤ x) (k : x ≤ 9223372036854775807) : clampB x = x := by unfold clampB; rw [if_pos (by omega)]
theorem list5 {α : Type} : ∀ {l : List α}, l.length = 5 → ∃ x0 x1 x2 x3 x4, l = [x0, x1, x2, x3, x4]
  | [x0, x1, x2, x3, x4], _ => ⟨x0, x1, x2, x3, x4, rfl⟩
theorem cell64 {x : DV} (h : HasSh i64s x) : ∃ a : Int, x = .n a ∧ clampB a = a := by
  simp only [HasSh] at h
  obtain ⟨a, rfl, h1, _⟩ := h
  exact ⟨a, rfl, clampB_i64 h1.1 h1.2⟩
theorem shs5 {e : List DV} (h : HasShs [i64s, i64s, i64s, i64s, i64s] e) : ∃ a b c d f : Int, e = [.n a, .n b, .n c, .n d, .n f] ∧ clampB a = a ∧ clampB b = b ∧ clampB c = c ∧ clampB d = d ∧ clampB f = f := by
  obtain ⟨x0, x1, x2, x3, x4, rfl⟩ := list5 h.len
  simp only [HasShs] at h
  obtain ⟨h0, h1, h2, h3, h4, _⟩ := h
  obtain ⟨a, rfl, ha⟩ := cell64 h0
  obtain ⟨b, rfl, hb⟩ := cell64 h1
  obtain ⟨c, rfl, hc⟩ := cell64 h2
  obtain ⟨d, rfl, hd⟩ := cell64 h3
  obtain ⟨f, rfl, hf⟩ := cell64 h4
  exact ⟨a, b, c, d, f, rfl, ha, hb, hc, hd, hf⟩
/-- Rows of numbers. -/
def rowsOk (P : List (List DV)) : Prop := ∀ k : Nat, k < P.length → P[k]? = some (rowAt (.sl none 0 P) k)
theorem rowsOk_of {P : List (List DV)} (h : HasSh pers (.sl none 0 P)) : rowsOk P := fun k hk => by
  have he := h.2 P[k] (List.getElem_mem hk)
  obtain ⟨a, b, c, d, f, e, ha, hb, hc, hd, hf⟩ := shs5 he
  have g : P[k]? = some [.n a, .n b, .n c, .n d, .n f] := by rw [List.getElem?_eq_getElem hk, e]
  rw [g]
  unfold rowAt
  rw [at_of g 0, at_of g 1, at_of g 2, at_of g 3, at_of g 4]
  show some [DV.n a, .n b, .n c, .n d, .n f] = some [.n (clampB a), .n (clampB b), .n (clampB c), .n (clampB d), .n (clampB f)]
  rw [ha, hb, hc, hd, hf]
theorem setK_get {P : List (List DV)} (S : DV) (n : Int) {k : Nat} (hr : rowsOk P) (hk : k < P.length) : ∀ i : Nat, (setK P S n i)[k]? = some (if k < i then [.n ((DV.sl none 0 P).at k 0), .n ((DV.sl none 0 P).at k 1), .n (n * S.at k 0), .n ((DV.sl none 0 P).at k 3), .n ((DV.sl none 0 P).at k 4)] else rowAt (.sl none 0 P) k)
  | 0 => hr k hk
  | i + 1 => by
    have ih := setK_get S n hr hk i
    show ((setK P S n i).modify i _)[k]? = _
    by_cases e : i = k
    · subst e
      rw [if_neg (by omega)] at ih
      rw [mod_same ih, if_pos (by omega)]; rfl
    · rw [mod_other e, ih]
      by_cases q : k < i
      · rw [if_pos q, if_pos (by omega)]
      · rw [if_neg q, if_neg (by omega)]
/-- A course whose demands are n times a shape, its numbers. -/
theorem dem_at {c : CO} {P : List (List DV)} (hc : c.P = .sl none 0 P) (hr : rowsOk P) (hl : P.length ≤ 64) {S : DV} {n : Int} (hn0 : 0 ≤ n) (hn1 : n ≤ 1048577) (hs : shOk S P.length) {k : Nat} (hk : k < P.length) : (dem c S n).P.at k 0 = c.P.at k 0 ∧ (dem c S n).P.at k 1 = c.P.at k 1 ∧ (dem c S n).P.at k 2 = n * S.at k 0 ∧ (dem c S n).P.at k 3 = c.P.at k 3 ∧ (dem c S n).P.at k 4 = c.P.at k 4 := by
  have hlen : c.P.len.toNat = P.length := by
    rw [hc]; show (clampL P.length).toNat = _
    rw [clampL_eq (by omega)]; omega
  have g := setK_get (P := P) S n hr hk P.length
  rw [if_pos hk] at g
  have e : (dem c S n).P = .sl none 0 (setK P S n P.length) := by
    unfold dem; rw [hlen, hc]; rfl
  have hs' := hs k hk
  have b0 : 0 ≤ n * S.at k 0 := Int.mul_nonneg hn0 hs'.1
  have b1 : n * S.at k 0 ≤ 1048577 * 1048576 := Int.mul_le_mul hn1 hs'.2 hs'.1 (by decide)
  have cc : ∀ j : Nat, clampB ((DV.sl none 0 P).at k j) = (DV.sl none 0 P).at k j := fun j => by
    have := clampB_rng (((DV.sl none 0 P).cell k j).int)
    show clampB (clampB _) = clampB _
    generalize clampB (((DV.sl none 0 P).cell k j).int) = z at *
    unfold clampB; rw [if_pos this]
  rw [e, hc, at_of g 0, at_of g 1, at_of g 2, at_of g 3, at_of g 4]
  refine ⟨cc 0, cc 1, ?_, cc 3, cc 4⟩
  show clampB (n * S.at k 0) = _
  unfold clampB; rw [if_pos (by omega)]
theorem dem_len {c : CO} {P : List (List DV)} (hc : c.P = .sl none 0 P) {S : DV} {n : Int} : (dem c S n).P.len = c.P.len := by
  rw [hc]; show clampL (setK _ S n _).length = clampL P.length
  rw [setK_len, hc]; rfl
/-- As wide, or wider. -/
def wider (x y : Int × Int) : Prop := x.1 > x.2 ∨ (y.1 ≤ x.1 ∧ x.2 ≤ y.2)
theorem bef_wider {cap : Int} {P Q : DV} {t : Int} {x y : Int × Int} (h : wider x y) (hy : y.2 ≤ cap) (h0 : P.at t 0 = Q.at t 0) (h1 : P.at t 1 = Q.at t 1) (h2 : Q.at t 2 ≤ P.at t 2) (h3 : P.at t 3 = Q.at t 3) (h4 : P.at t 4 = Q.at t 4) (h5 : 0 ≤ P.at t 4) : wider (befF cap P t x) (befF cap Q t y) := by
  have none : ∀ z, wider (1, 0) z := fun z => .inl (by decide)
  unfold befF
  dsimp only
  by_cases c1 : x.1 > x.2
  · rw [if_pos c1]; exact none _
  rw [if_neg c1]
  have hw := h.resolve_left c1
  have tops : (if x.2 = cap then x.2 + P.at t 4 else x.2) ≤ (if y.2 = cap then y.2 + Q.at t 4 else y.2) := by
    split <;> split <;> omega
  generalize (if x.2 = cap then x.2 + P.at t 4 else x.2) = tx at *
  generalize (if y.2 = cap then y.2 + Q.at t 4 else y.2) = ty at *
  by_cases c2 : max 0 (x.1 - P.at t 0) > tx - P.at t 1
  · rw [if_pos c2]; exact none _
  rw [if_neg c2]
  by_cases c3 : max 0 (x.1 - P.at t 0) + P.at t 2 > min (tx - P.at t 1 + P.at t 3) cap
  · rw [if_pos c3]; exact none _
  rw [if_neg c3, if_neg (by omega), if_neg (by omega), if_neg (by omega)]
  exact .inr ⟨by dsimp only; omega, by dsimp only; omega⟩
theorem bef_cap {cap : Int} {P : DV} {t : Int} {x : Int × Int} (h : 0 ≤ cap) : (befF cap P t x).2 ≤ cap := by
  unfold befF
  dsimp only
  generalize (if x.2 = cap then x.2 + P.at t 4 else x.2) = top
  by_cases c1 : x.1 > x.2
  · rw [if_pos c1]; exact h
  rw [if_neg c1]
  by_cases c2 : max 0 (x.1 - P.at t 0) > top - P.at t 1
  · rw [if_pos c2]; exact h
  rw [if_neg c2]
  by_cases c3 : max 0 (x.1 - P.at t 0) + P.at t 2 > min (top - P.at t 1 + P.at t 3) cap
  · rw [if_pos c3]; exact h
  rw [if_neg c3]
  exact Int.min_le_right _ _
theorem robK_cap {c : CO} (h : 0 ≤ c.cap) : ∀ k : Nat, (robK c k).2 ≤ c.cap
  | 0 => Int.le_refl _
  | k + 1 => bef_cap h
/-- A lesser demand than one that is met is met as well. -/
theorem met_less {c : CO} {P : List (List DV)} (hc : c.P = .sl none 0 P) (hr : rowsOk P) (hl : P.length ≤ 64) {S : DV} {m n : Int} (hm0 : 0 ≤ m) (hmn : m ≤ n) (hn1 : n ≤ 1048577) (hs : shOk S P.length) (h : met c S n) : met c S m := by
  obtain ⟨⟨hR1, hR2⟩, hI⟩ := h
  have lm := dem_len hc (S := S) (n := m)
  have ln := dem_len hc (S := S) (n := n)
  have lp : c.P.len = P.length := by rw [hc]; exact clampL_eq (show P.length ≤ 9223372036854775807 by omega)
  have all : ∀ k : Nat, k < P.length → perOk (dem c S m).P k ∧ wider (1, 0) (1, 0) := fun k hk => by
    have a := dem_at hc hr hl hm0 (by omega) hs hk
    have b := dem_at hc hr hl (by omega) hn1 hs hk
    have p := hR2 k (by rw [ln, lp]; omega)
    have hs' := hs k hk
    have e : m * S.at k 0 ≤ n * S.at k 0 := Int.mul_le_mul_of_nonneg_right hmn hs'.1
    have z : 0 ≤ m * S.at k 0 := Int.mul_nonneg hm0 hs'.1
    unfold perOk okN at *
    rw [b.1, b.2.1, b.2.2.1, b.2.2.2.1, b.2.2.2.2] at p
    rw [a.1, a.2.1, a.2.2.1, a.2.2.2.1, a.2.2.2.2]
    exact ⟨by omega, .inl (by decide)⟩
  have hRm : rightC (dem c S m) := ⟨hR1, fun k hk => (all k (by rw [lm, lp] at hk; omega)).1⟩
  refine ⟨hRm, ?_⟩
  have hcap : 0 ≤ c.cap := by have := hR1.1.1; exact this
  have key : ∀ k : Nat, (k : Int) ≤ c.P.len → wider (robK (dem c S n) k) (robK (dem c S m) k) := by
    intro k
    induction k with
    | zero => intro _; exact .inr ⟨Int.le_refl _, Int.le_refl _⟩
    | succ k ih =>
      intro hk
      have w := ih (by omega)
      have hkk : (c.P.len - 1 - (k : Int)).toNat < P.length := by omega
      have ek : (((c.P.len - 1 - (k : Int)).toNat : Nat) : Int) = c.P.len - 1 - k := by omega
      have a := dem_at hc hr hl hm0 (by omega) hs hkk
      have b := dem_at hc hr hl (by omega) hn1 hs hkk
      have hs' := hs _ hkk
      have e : m * S.at (c.P.len - 1 - (k : Int)).toNat 0 ≤ n * S.at (c.P.len - 1 - (k : Int)).toNat 0 := Int.mul_le_mul_of_nonneg_right hmn hs'.1
      have p := hR2 (c.P.len - 1 - (k : Int)).toNat (by rw [ln, lp]; omega)
      unfold perOk okN at p
      rw [ek] at a b p e
      show wider (befF c.cap (dem c S n).P ((dem c S n).P.len - 1 - k) (robK (dem c S n) k)) (befF c.cap (dem c S m).P ((dem c S m).P.len - 1 - k) (robK (dem c S m) k))
      rw [lm, ln]
      exact bef_wider w (robK_cap (c := dem c S m) hcap k) (by rw [a.1, b.1]) (by rw [a.2.1, b.2.1]) (by rw [a.2.2.1, b.2.2.1]; exact e) (by rw [a.2.2.2.1, b.2.2.2.1]) (by rw [a.2.2.2.2, b.2.2.2.2]) (by omega)
  have w := key (c.P.len - 0).toNat (by have := len_nn c.P; omega)
  unfold inR rob at *
  rw [lm]
  rw [ln] at hI
  rcases w with w | w
  · omega
  · omega
/-- What the search finds. -/
theorem bs_spec {p : Int → Prop} [DecidablePred p] : ∀ (f : Nat) (lo hi : Int), 0 ≤ lo → lo ≤ hi → hi - lo < 2 ^ f → (lo = 0 ∨ p (lo - 1)) → (hi = 1048577 ∨ ¬ p hi) → 0 ≤ bs p f lo hi ∧ bs p f lo hi ≤ hi ∧ (bs p f lo hi = 0 ∨ p (bs p f lo hi - 1)) ∧ (bs p f lo hi = 1048577 ∨ ¬ p (bs p f lo hi))
  | 0, lo, hi, h0, h1, h2, h3, h4 => by
    have : lo = hi := by simp at h2; omega
    subst this
    exact ⟨h0, h1, h3, h4⟩
  | f + 1, lo, hi, h0, h1, h2, h3, h4 => by
    rw [Int.pow_succ] at h2
    unfold bs
    by_cases c1 : lo < hi
    · rw [if_pos c1]
      by_cases c2 : p ((lo + hi) / 2)
      · rw [if_pos c2]
        exact bs_spec f _ _ (by omega) (by omega) (by omega) (.inr (by rw [Int.add_sub_cancel]; exact c2)) h4
      · rw [if_neg c2]
        have := bs_spec f _ _ h0 (show lo ≤ (lo + hi) / 2 by omega) (by omega) h3 (.inr c2)
        exact ⟨this.1, by omega, this.2.2⟩
    · rw [if_neg c1]
      have : lo = hi := by omega
      subst this
      exact ⟨h0, h1, h3, h4⟩
theorem first_spec (c : CO) (S : DV) : 0 ≤ firstF c S ∧ firstF c S ≤ 1048577 ∧ (firstF c S = 0 ∨ met c S (firstF c S - 1)) ∧ (firstF c S = 1048577 ∨ ¬ met c S (firstF c S)) :=
  bs_spec 21 0 1048577 (by decide) (by decide) (by decide) (.inl rfl) (.inl rfl)
/-- Where met ends. -/
theorem first_eq {c : CO} {P : List (List DV)} (hc : c.P = .sl none 0 P) (hr : rowsOk P) (hl : P.length ≤ 64) {S : DV} (hs : shOk S P.length) {x : Int} (h0 : 0 ≤ x) (h1 : x ≤ 1048577) (h2 : x = 0 ∨ met c S (x - 1)) (h3 : x = 1048577 ∨ ¬ met c S x) : firstF c S = x := by
  obtain ⟨f0, f1, f2, f3⟩ := first_spec c S
  rcases Int.lt_trichotomy (firstF c S) x with q | q | q
  · exfalso
    rcases f3 with f3 | f3
    · omega
    · exact f3 (met_less hc hr hl f0 (by omega) (by omega) hs (h2.resolve_left (by omega)))
  · exact q
  · exfalso
    rcases h3 with h3 | h3
    · omega
    · exact h3 (met_less hc hr hl h0 (by omega) (by omega) hs (f2.resolve_left (by omega)))
end Go.Proofs.Ytljggpbkggkcaaa
