/- DERIVED. The operations of intervals keep their contracts. -/
import Derived.Test.YtgaaommfemgnnaaTree
namespace Go.Proofs.Ytgaaommfemgnnaa
open Go.Sx
set_option linter.unusedVariables false
set_option linter.unusedSimpArgs false
theorem w_id {z : Int} (h1 : -9223372036854775808 ≤ z) (h2 : z ≤ 9223372036854775807) : IntKind.i64.wrap z = z := wrap_in .i64 z h1 h2
theorem con_or {P : Program} {N : Nat} {w0 : World} {σ : List (Option Addr × Nat)} {τ : List Value} (c : Con) (p q : List Int → Prop) (h1 : ConOk P N w0 σ τ { c with pre := p }) (h2 : ConOk P N w0 σ τ { c with pre := q }) (h : ∀ xs, c.pre xs → p xs ∨ q xs) : ConOk P N w0 σ τ c := by
  intro hn n args xs w hs ht ha hp hB
  rcases h _ hp with k | k
  · exact h1 hn n args xs w hs ht ha k hB
  · exact h2 hn n args xs w hs ht ha k hB
theorem mul_hi {x y : Int} (hx : 0 ≤ x) (hx2 : x ≤ 18446744073709551615) (hy : 0 ≤ y) (hy2 : y ≤ 18446744073709551615) (X1 X0 Y1 Y0 : Int) (e1 : X1 = x / 4294967296) (e0 : X0 = x % 4294967296) (f1 : Y1 = y / 4294967296) (f0 : Y0 = y % 4294967296) :
    (X1 * Y1 + (X1 * Y0 + X0 * Y0 / 4294967296) / 4294967296 + ((X1 * Y0 + X0 * Y0 / 4294967296) % 4294967296 + X0 * Y1) / 4294967296) = x * y / 18446744073709551616 ∧ 0 ≤ x * y / 18446744073709551616 ∧ x * y / 18446744073709551616 ≤ 18446744073709551615 ∧ 0 ≤ X0 * Y0 ∧ 0 ≤ X1 * Y0 ∧ 0 ≤ X0 * Y1 := by
  have ex : x = X1 * 4294967296 + X0 := by omega
  have ey : y = Y1 * 4294967296 + Y0 := by omega
  have a1 : 0 ≤ X1 ∧ X1 ≤ 4294967295 := by omega
  have a0 : 0 ≤ X0 ∧ X0 ≤ 4294967295 := by omega
  have b1 : 0 ≤ Y1 ∧ Y1 ≤ 4294967295 := by omega
  have b0 : 0 ≤ Y0 ∧ Y0 ≤ 4294967295 := by omega
  have e : x * y = X1 * Y1 * 18446744073709551616 + (X1 * Y0 + X0 * Y1) * 4294967296 + X0 * Y0 := by rw [ex, ey]; grind
  have g : ∀ {p q : Int}, 0 ≤ p → p ≤ 4294967295 → 0 ≤ q → q ≤ 4294967295 → 0 ≤ p * q ∧ p * q ≤ 18446744065119617025 := fun h1 h2 h3 h4 => by
    have h5 := Int.mul_nonneg h1 h3
    have h6 := Int.mul_le_mul h2 h4 h3 (show (0 : Int) ≤ 4294967295 by omega)
    omega
  have p11 := g a1.1 a1.2 b1.1 b1.2
  have p10 := g a1.1 a1.2 b0.1 b0.2
  have p01 := g a0.1 a0.2 b1.1 b1.2
  have p00 := g a0.1 a0.2 b0.1 b0.2
  rw [e]
  clear e ex ey e1 e0 f1 f0 a1 a0 b1 b0 g hx hx2 hy hy2
  generalize X1 * Y1 = A at *
  generalize X1 * Y0 = B at *
  generalize X0 * Y1 = C at *
  generalize X0 * Y0 = D at *
  refine ⟨?_, ?_, ?_, p00.1, p10.1, p01.1⟩ <;> omega
theorem okMul64 {σ τ} : ∀ N w0, ConOk Try.prog N w0 σ τ cMul64 := by
  refine con_of_walk (tb := tb) (C := []) fine noCon 1000 ⟨[u64b, u64b], [], []⟩ rfl fun xs hp hl => ?_
  match xs, hp with
  | [x, y], hp =>
  obtain ⟨⟨h1, h2⟩, ⟨h3, h4⟩⟩ := hp
  refine ⟨in_bnd ⟨h1, h2, h3, h4, trivial⟩, ?_⟩
  clear hl
  rw [show runP tb [] 1000 cMul64.f (argsOf cMul64.args 0) ⟨[u64b, u64b], [], []⟩ = _ from tree_mul64]
  simp only [T.res, resOk, svV, pvV, pvsV, cellV, cellsV, E.den, B.den, B.prop, allB, inB, kb, if_true, and_true, true_and, List.map_cons, List.map_nil, List.getD_cons_zero, List.getD_cons_succ, List.cons_append, List.nil_append, List.append_nil, List.getElem?_cons_zero, List.getElem?_cons_succ, List.take_succ_cons, List.take_zero, List.length_cons, List.length_nil, cMul64]
  obtain ⟨m1, m2, m3, m4, m5, m6⟩ := mul_hi h1 h2 h3 h4 _ _ _ _ rfl rfl rfl rfl
  have tq : ∀ {a : Int}, 0 ≤ a → a.tdiv 4294967296 = a / 4294967296 := fun h => Int.tdiv_eq_ediv_of_nonneg h
  have tr : ∀ {a : Int}, 0 ≤ a → a.tmod 4294967296 = a % 4294967296 := fun h => Int.tmod_eq_emod_of_nonneg h
  have n1 : 0 ≤ x % 4294967296 * (y % 4294967296) / 4294967296 := by omega
  have n2 : 0 ≤ (x / 4294967296 * (y % 4294967296) + x % 4294967296 * (y % 4294967296) / 4294967296) % 4294967296 := by omega
  rw [tq h1, tq h3, tr h1, tr h3, tq m4, tq (by omega), tr (by omega), tq (by omega), m1, w_u64]
  generalize x * y = z at *
  exact ⟨⟨by omega, by omega, by omega, by omega⟩, by omega⟩
theorem sgn_mul {x y X Y : Int} (hx : X = max x (0 - x)) (hy : Y = max y (0 - y)) : 0 ≤ X * Y ∧ ((x < 0 ∧ y < 0 ∨ 0 ≤ x ∧ 0 ≤ y) → x * y = X * Y) ∧ (¬ (x < 0 ∧ y < 0 ∨ 0 ≤ x ∧ 0 ≤ y) → x * y = -(X * Y)) := by
  refine ⟨Int.mul_nonneg (by omega) (by omega), ?_, ?_⟩
  · rintro (h | h)
    · rw [show X = -x by omega, show Y = -y by omega, Int.neg_mul_neg]
    · rw [show X = x by omega, show Y = y by omega]
  · intro h
    rcases Int.lt_or_le x 0 with h1 | h1
    · rw [show X = -x by omega, show Y = y by omega, Int.neg_mul, Int.neg_neg]
    · rw [show X = x by omega, show Y = -y by omega, Int.mul_neg, Int.neg_neg]
theorem okProd {σ τ} : ∀ N w0, ConOk Try.prog N w0 σ τ cProd := by
  refine con_of_walk (tb := tb) (C := [cMul64]) fine (conCons okMul64 noCon) 1000 ⟨[mm, mm], [], []⟩ rfl fun xs hp hl => ?_
  match xs, hp with
  | [x, y], hp =>
  obtain ⟨⟨h1, h2⟩, ⟨h3, h4⟩⟩ := hp
  refine ⟨in_bnd ⟨h1, h2, h3, h4, trivial⟩, ?_⟩
  clear hl
  rw [show runP tb [cMul64] 1000 cProd.f (argsOf cProd.args 0) ⟨[mm, mm], [], []⟩ = _ from tree_prod]
  simp only [T.res, resOk, svV, pvV, pvsV, cellV, cellsV, E.den, B.den, B.prop, allB, inB, kb, if_true, and_true, true_and, List.map_cons, List.map_nil, List.getD_cons_zero, List.getD_cons_succ, List.cons_append, List.nil_append, List.append_nil, List.getElem?_cons_zero, List.getElem?_cons_succ, List.take_succ_cons, List.take_zero, List.length_cons, List.length_nil, cProd, cMul64, w_u64, Int.tdiv_one]
  have wx : max x (0 - x) % 18446744073709551616 = max x (0 - x) := by omega
  have wy : max y (0 - y) % 18446744073709551616 = max y (0 - y) := by omega
  rw [wx, wy]
  obtain ⟨s1, s2, s3⟩ := sgn_mul (x := x) (y := y) rfl rfl
  refine ⟨⟨⟨by omega, by omega⟩, by omega, by omega⟩, fun hi h0 h5 lo l0 l5 he => ?_⟩
  generalize max x (0 - x) * max y (0 - y) = m at *
  generalize x * y = z at *
  unfold clip
  clear wx wy
  refine ⟨fun hh => ⟨fun hs => ?_, fun hs => ?_⟩, fun hh => ⟨fun hq => ⟨fun hs => ?_, fun hs => ?_⟩, fun hq => ⟨fun hs => ?_, fun hs => ?_⟩⟩⟩
  · have := s3 hs
    rw [if_neg (by omega), if_pos (by omega)]
    exact ⟨⟨by omega, by omega⟩, rfl⟩
  · have := s2 (Classical.not_not.1 hs)
    rw [if_pos (by omega)]
    exact ⟨⟨by omega, by omega⟩, rfl⟩
  · have := s3 hs
    rw [if_neg (by omega), if_pos (by omega)]
    exact ⟨⟨by omega, by omega⟩, rfl⟩
  · have := s2 (Classical.not_not.1 hs)
    rw [if_pos (by omega)]
    exact ⟨⟨by omega, by omega⟩, rfl⟩
  · have := s3 hs
    rw [if_neg (by omega), if_neg (by omega)]
    exact ⟨⟨by omega, by omega⟩, by omega⟩
  · have := s2 (Classical.not_not.1 hs)
    rw [if_neg (by omega), if_neg (by omega)]
    exact ⟨⟨by omega, by omega⟩, by omega⟩
theorem fits_lem {x y X Y : Int} (hX : 1 ≤ X) (hx : X = max x (0 - x)) (hy : Y = max y (0 - y)) : (Y ≤ (1099511627776 : Int).tdiv X ↔ In (x * y)) := by
  rw [Int.tdiv_eq_ediv_of_nonneg (by omega), Int.le_ediv_iff_mul_le (by omega)]
  obtain ⟨s1, s2, s3⟩ := sgn_mul hx hy
  rw [Int.mul_comm Y X]
  generalize X * Y = m at *
  generalize x * y = z at *
  by_cases h : x < 0 ∧ y < 0 ∨ 0 ≤ x ∧ 0 ≤ y
  · have := s2 h; omega
  · have := s3 h; omega
theorem okFits {σ τ} : ∀ N w0, ConOk Try.prog N w0 σ τ cFits := by
  intro N w0
  refine con_or cFits (fun | [x, y] => (-1099511627776 ≤ x ∧ x ≤ -1) ∧ In y | _ => False) (fun | [x, y] => (0 ≤ x ∧ x ≤ 1099511627776) ∧ In y | _ => False) ?_ ?_ ?_
  · refine con_of_walk (tb := tb) (C := []) fine noCon 1000 ⟨[(-1099511627776, -1), mm], [], []⟩ rfl (fun xs hp hl => ?_) N w0
    match xs, hp with
    | [x, y], hp =>
    obtain ⟨⟨h1, h2⟩, ⟨h3, h4⟩⟩ := hp
    refine ⟨in_bnd ⟨h1, h2, h3, h4, trivial⟩, ?_⟩
    change (runP tb [] 1000 cFits.f (argsOf cFits.args 0) ⟨[(-1099511627776, -1), mm], [], []⟩).res [] _ [_, y] [_, y]
    rw [tree_fitsN]
    have := fits_lem (x := x) (y := y) (X := 0 - x) (by omega) (by omega) rfl
    simp only [T.res, resOk, svV, pvV, pvsV, cellV, cellsV, E.den, B.den, B.prop, allB, inB, kb, if_true, and_true, true_and, List.map_cons, List.map_nil, List.getD_cons_zero, List.getD_cons_succ, List.cons_append, List.nil_append, List.append_nil, List.getElem?_cons_zero, List.getElem?_cons_succ, List.take_succ_cons, List.take_zero, List.length_cons, List.length_nil, cFits]
    rw [← this]
    generalize (1099511627776 : Int).tdiv (0 - x) = q
    generalize max y (0 - y) = Y
    by_cases h : Y ≤ q <;> simp [h, bI]
  · refine con_or _ (fun | [x, y] => x = 0 ∧ In y | _ => False) (fun | [x, y] => (1 ≤ x ∧ x ≤ 1099511627776) ∧ In y | _ => False) ?_ ?_ ?_
    · refine con_of_walk (tb := tb) (C := []) fine noCon 1000 ⟨[(0, 0), mm], [], []⟩ rfl (fun xs hp hl => ?_) N w0
      match xs, hp with
      | [x, y], hp =>
      obtain ⟨h1, ⟨h3, h4⟩⟩ := hp
      subst h1
      refine ⟨in_bnd ⟨by omega, by omega, h3, h4, trivial⟩, ?_⟩
      change (runP tb [] 1000 cFits.f (argsOf cFits.args 0) ⟨[(0, 0), mm], [], []⟩).res [] _ [_, y] [_, y]
      rw [tree_fitsZ]
      simp only [T.res, resOk, svV, pvV, pvsV, cellV, cellsV, E.den, B.den, B.prop, allB, inB, kb, if_true, and_true, true_and, List.map_cons, List.map_nil, List.getD_cons_zero, List.getD_cons_succ, List.cons_append, List.nil_append, List.append_nil, List.getElem?_cons_zero, List.getElem?_cons_succ, List.take_succ_cons, List.take_zero, List.length_cons, List.length_nil, cFits]
      simp [In, bI]
    · refine con_of_walk (tb := tb) (C := []) fine noCon 1000 ⟨[(1, 1099511627776), mm], [], []⟩ rfl (fun xs hp hl => ?_) N w0
      match xs, hp with
      | [x, y], hp =>
      obtain ⟨⟨h1, h2⟩, ⟨h3, h4⟩⟩ := hp
      refine ⟨in_bnd ⟨h1, h2, h3, h4, trivial⟩, ?_⟩
      change (runP tb [] 1000 cFits.f (argsOf cFits.args 0) ⟨[(1, 1099511627776), mm], [], []⟩).res [] _ [_, y] [_, y]
      rw [tree_fitsP]
      have := fits_lem (x := x) (y := y) (X := x) (by omega) (by omega) rfl
      simp only [T.res, resOk, svV, pvV, pvsV, cellV, cellsV, E.den, B.den, B.prop, allB, inB, kb, if_true, and_true, true_and, List.map_cons, List.map_nil, List.getD_cons_zero, List.getD_cons_succ, List.cons_append, List.nil_append, List.append_nil, List.getElem?_cons_zero, List.getElem?_cons_succ, List.take_succ_cons, List.take_zero, List.length_cons, List.length_nil, cFits]
      rw [← this]
      generalize (1099511627776 : Int).tdiv x = q
      generalize max y (0 - y) = Y
      by_cases h : Y ≤ q <;> simp [h, bI]
    · intro xs h
      match xs, h with
      | [x, y], h =>
        obtain ⟨⟨h1, h2⟩, h3⟩ := h
        by_cases h0 : x = 0
        · exact Or.inl ⟨h0, h3⟩
        · exact Or.inr ⟨⟨by omega, h2⟩, h3⟩
  · intro xs h
    match xs, h with
    | [x, y], h =>
      obtain ⟨⟨h1, h2⟩, h3⟩ := h
      by_cases h0 : x < 0
      · exact Or.inl ⟨⟨h1, by omega⟩, h3⟩
      · exact Or.inr ⟨⟨by omega, h2⟩, h3⟩
end Go.Proofs.Ytgaaommfemgnnaa
