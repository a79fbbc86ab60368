/- DERIVED. Products, squares and roots of intervals keep their contracts. -/
import Derived.Test.YtgaaommfemgnnaaCtB
namespace Go.Proofs.Ytgaaommfemgnnaa
open Go.Sx
set_option linter.unusedVariables false
set_option linter.unusedSimpArgs false
theorem clip_in {z : Int} (h : In z) : clip z = z := by unfold clip; rw [if_neg (by omega), if_neg (by omega)]
theorem clip_big {z : Int} (h : 1099511627776 < z) : 1099511627776 < clip z := by unfold clip; split <;> (try split) <;> omega
theorem clip_low {z : Int} (h : z < -1099511627776) : clip z < -1099511627776 := by unfold clip; split <;> (try split) <;> omega
theorem in_mul {x y : Int} (hx : In x) (hy : In y) : -1208925819614629174706176 ≤ x * y ∧ x * y ≤ 1208925819614629174706176 := by
  have := mul_rng hx.1 hx.2 hy.1 hy.2
  simp [imax, iabs] at this
  omega
theorem nest_min {a b c : Int} (h : b ≤ c) : min (min a b) c = min a b := by omega
theorem nest_max {a b c : Int} (h : b ≤ c) : max (max a c) b = max a c := by omega
theorem nst {lo hi q : Int} (h : lo ≤ hi) : min (min q lo) hi = min lo q ∧ max (max q lo) hi = max hi q ∧ min lo q ≤ max hi q := by omega
theorem mul_nest {q0 q1 q2 q3 q4 L1 H1 L2 H2 L3 H3 L4 H4 : Int} (h : q1 = q0) (l1 : min (min q1 q0) q0 = L1) (g1 : max (max q1 q0) q0 = H1) (l2 : min (min q2 L1) H1 = L2) (g2 : max (max q2 L1) H1 = H2) (l3 : min (min q3 L2) H2 = L3) (g3 : max (max q3 L2) H2 = H3) (l4 : min (min q4 L3) H3 = L4) (g4 : max (max q4 L3) H3 = H4) :
    L4 = min (min (min q1 q2) q3) q4 ∧ H4 = max (max (max q1 q2) q3) q4 := by
  have a1 : L1 = q1 := by omega
  have b1 : H1 = q1 := by omega
  obtain ⟨a2, b2, c2⟩ := nst (q := q2) (lo := L1) (hi := H1) (by omega)
  rw [l2] at a2
  rw [g2] at b2
  obtain ⟨a3, b3, c3⟩ := nst (q := q3) (lo := L2) (hi := H2) (by rw [a2, b2]; exact c2)
  rw [l3] at a3
  rw [g3] at b3
  obtain ⟨a4, b4, c4⟩ := nst (q := q4) (lo := L3) (hi := H3) (by rw [a3, b3]; exact c3)
  rw [l4] at a4
  rw [g4] at b4
  rw [a4, a3, a2, a1, b4, b3, b2, b1]
  exact ⟨rfl, rfl⟩
theorem clip_min {p q : Int} : clip (min p q) = min (clip p) (clip q) := by unfold clip; split <;> (try split) <;> (try split) <;> (try split) <;> (try split) <;> (try split) <;> omega
theorem clip_max {p q : Int} : clip (max p q) = max (clip p) (clip q) := by unfold clip; split <;> (try split) <;> (try split) <;> (try split) <;> (try split) <;> (try split) <;> omega
theorem mul_end {A : Prop} (hA : A) {p q r s L H : Int} (hL : L = min (min (min (clip p) (clip q)) (clip r)) (clip s)) (hH : H = max (max (max (clip p) (clip q)) (clip r)) (clip s)) :
    ((L < -1099511627776 ∨ H < L) ∨ 1099511627776 < H → ((-1099511627776 : Int) ≤ 0 ∧ (0 : Int) ≤ 1099511627776 ∧ (-1099511627776 : Int) ≤ 0 ∧ (0 : Int) ≤ 1099511627776 ∧ (0 : Int) ≤ 2 ∧ (2 : Int) ≤ 130) ∧ OpP A (min (min (min p q) r) s) (max (max (max p q) r) s) 0 0 2) ∧
    (¬ ((L < -1099511627776 ∨ H < L) ∨ 1099511627776 < H) → (-1099511627776 ≤ L ∧ L ≤ 1099511627776 ∧ -1099511627776 ≤ H ∧ H ≤ 1099511627776 ∧ (0 : Int) ≤ 0 ∧ (0 : Int) ≤ 130) ∧ OpP A (min (min (min p q) r) s) (max (max (max p q) r) s) L H 0) := by
  rw [← clip_min, ← clip_min, ← clip_min] at hL
  rw [← clip_max, ← clip_max, ← clip_max] at hH
  have hl : min (min (min p q) r) s ≤ max (max (max p q) r) s := by omega
  generalize min (min (min p q) r) s = l at *
  generalize max (max (max p q) r) s = h at *
  have l1 := clip_in (z := l)
  have l2 := clip_big (z := l)
  have l3 := clip_low (z := l)
  have h1 := clip_in (z := h)
  have h2 := clip_big (z := h)
  have h3 := clip_low (z := h)
  refine ⟨fun k => ⟨by decide, op_big hA ?_⟩, fun k => ⟨?_, op_ok hA ?_ ?_ ?_⟩⟩ <;> omega
theorem okMul {σ τ} : ∀ N w0, ConOk Try.prog N w0 σ τ (cMul 17) := by
  refine con_of_walk (tb := tb) (C := [cProd]) fine (conCons okProd noCon) 1000 ⟨[i64b, i64b, i64b, i64b], [], []⟩ rfl fun xs hp hl => ?_
  match xs, hp with
  | [a, b, c, d], hp =>
  obtain ⟨⟨h1, h2⟩, ⟨h3, h4⟩, ⟨h5, h6⟩, ⟨h7, h8⟩⟩ := hp
  refine ⟨in_bnd ⟨h1, h2, h3, h4, h5, h6, h7, h8, trivial⟩, ?_⟩
  clear hl
  rw [show runP tb [cProd] 1000 (cMul 17).f (argsOf (cMul 17).args 0) ⟨[i64b, i64b, i64b, i64b], [], []⟩ = _ from tree_mul]
  simp only [T.res, resOk, svV, pvV, pvsV, cellV, cellsV, E.den, B.den, B.prop, allB, inB, kb, if_true, and_true, true_and, List.map_cons, List.map_nil, List.getD_cons_zero, List.getD_cons_succ, List.cons_append, List.nil_append, List.append_nil, List.getElem?_cons_zero, List.getElem?_cons_succ, List.take_succ_cons, List.take_zero, List.length_cons, List.length_nil, cMul, cOp, cProd, min4, max4]
  refine ⟨fun h => ⟨⟨by decide, by decide, by decide, by decide, by decide, by decide⟩, op_no (by omega)⟩, fun n1 => ⟨fun h => ⟨⟨by decide, by decide, by decide, by decide, by decide, by decide⟩, op_no (by omega)⟩, fun n2 => ?_⟩⟩
  have hA : V a b ∧ V c d := ⟨by omega, by omega⟩
  have ia : In a := by omega
  have ib : In b := by omega
  have ic : In c := by omega
  have id : In d := by omega
  refine ⟨⟨ia, ic⟩, fun q0 _ _ e0 => ⟨⟨ia, ic⟩, fun q1 _ _ e1 => ⟨⟨ia, id⟩, fun q2 _ _ e2 => ⟨⟨ib, ic⟩, fun q3 _ _ e3 => ⟨⟨ib, id⟩, fun q4 _ _ e4 => ?_⟩⟩⟩⟩⟩
  generalize g1 : min (min q1 q0) q0 = L1
  generalize g2 : max (max q1 q0) q0 = H1
  generalize g3 : min (min q2 L1) H1 = L2
  generalize g4 : max (max q2 L1) H1 = H2
  generalize g5 : min (min q3 L2) H2 = L3
  generalize g6 : max (max q3 L2) H2 = H3
  generalize g7 : min (min q4 L3) H3 = L4
  generalize g8 : max (max q4 L3) H3 = H4
  obtain ⟨hL, hH⟩ := mul_nest (e1.trans e0.symm) g1 g2 g3 g4 g5 g6 g7 g8
  rw [e1, e2, e3, e4] at hL hH
  exact mul_end hA hL hH
theorem okMulR {σ τ} : ∀ N w0, ConOk Try.prog N w0 σ τ (cMul 18) := by
  refine con_of_walk (tb := tb) (C := [cFits]) fine (conCons okFits noCon) 1000 ⟨[i64b, i64b, i64b, i64b], [], []⟩ rfl fun xs hp hl => ?_
  match xs, hp with
  | [a, b, c, d], hp =>
  obtain ⟨⟨h1, h2⟩, ⟨h3, h4⟩, ⟨h5, h6⟩, ⟨h7, h8⟩⟩ := hp
  refine ⟨in_bnd ⟨h1, h2, h3, h4, h5, h6, h7, h8, trivial⟩, ?_⟩
  clear hl
  rw [show runP tb [cFits] 1000 (cMul 18).f (argsOf (cMul 18).args 0) ⟨[i64b, i64b, i64b, i64b], [], []⟩ = _ from tree_mulR]
  simp only [T.res, resOk, svV, pvV, pvsV, cellV, cellsV, E.den, B.den, B.prop, allB, inB, kb, if_true, and_true, true_and, List.map_cons, List.map_nil, List.getD_cons_zero, List.getD_cons_succ, List.cons_append, List.nil_append, List.append_nil, List.getElem?_cons_zero, List.getElem?_cons_succ, List.take_succ_cons, List.take_zero, List.length_cons, List.length_nil, cMul, cOp, cFits, min4, max4]
  refine ⟨fun h => ⟨⟨by decide, by decide, by decide, by decide, by decide, by decide⟩, op_no (by omega)⟩, fun n1 => ?_⟩
  have hA : V a b ∧ V c d := ⟨by omega, by omega⟩
  have ia : In a := by omega
  have ib : In b := by omega
  have ic : In c := by omega
  have id : In d := by omega
  generalize a * c = p at *
  generalize a * d = q at *
  generalize b * c = r at *
  generalize b * d = s at *
  refine ⟨⟨ia, ic⟩, fun k1 _ _ e1 => ⟨fun f1 => ⟨⟨ia, id⟩, fun k2 _ _ e2 => ⟨fun f2 => ⟨⟨ib, ic⟩, fun k3 _ _ e3 => ⟨fun f3 => ⟨⟨ib, id⟩, fun k4 _ _ e4 => ⟨fun f4 => ?_, fun f4 => ?_⟩⟩, fun f3 => ?_⟩⟩, fun f2 => ?_⟩⟩, fun f1 => ?_⟩⟩
  · exact ⟨⟨by decide, by decide, by decide, by decide, by decide, by decide⟩, op_big hA (by omega)⟩
  · rw [w_id (z := p) (by omega) (by omega), w_id (z := q) (by omega) (by omega), w_id (z := r) (by omega) (by omega), w_id (z := s) (by omega) (by omega)]
    exact ⟨⟨by omega, by omega, by omega, by omega, by decide, by decide⟩, op_ok hA (by omega) rfl rfl⟩
  · exact ⟨⟨by decide, by decide, by decide, by decide, by decide, by decide⟩, op_big hA (by omega)⟩
  · exact ⟨⟨by decide, by decide, by decide, by decide, by decide, by decide⟩, op_big hA (by omega)⟩
  · exact ⟨⟨by decide, by decide, by decide, by decide, by decide, by decide⟩, op_big hA (by omega)⟩
theorem sq_pos (x : Int) : 0 ≤ x * x := by
  rcases Int.lt_or_le x 0 with h | h
  · exact Int.le_of_lt (Int.mul_pos_of_neg_of_neg h h)
  · exact Int.mul_nonneg h h
theorem sq_le {x y : Int} (h : 0 ≤ x) (k : x ≤ y) : x * x ≤ y * y := Int.mul_le_mul k k h (Int.le_trans h k)
theorem sq_le' {x y : Int} (h : y ≤ 0) (k : x ≤ y) : y * y ≤ x * x := by
  have := sq_le (x := -y) (y := -x) (by omega) (by omega)
  rw [Int.neg_mul_neg, Int.neg_mul_neg] at this; exact this
theorem okSqr {σ τ} : ∀ N w0, ConOk Try.prog N w0 σ τ (cSqr 21) := by
  refine con_of_walk (tb := tb) (C := [cProd]) fine (conCons okProd noCon) 1000 ⟨[i64b, i64b], [], []⟩ rfl fun xs hp hl => ?_
  match xs, hp with
  | [a, b], hp =>
  obtain ⟨⟨h1, h2⟩, ⟨h3, h4⟩⟩ := hp
  refine ⟨in_bnd ⟨h1, h2, h3, h4, trivial⟩, ?_⟩
  clear hl
  rw [show runP tb [cProd] 1000 (cSqr 21).f (argsOf (cSqr 21).args 0) ⟨[i64b, i64b], [], []⟩ = _ from tree_sqr]
  simp only [T.res, resOk, svV, pvV, pvsV, cellV, cellsV, E.den, B.den, B.prop, allB, inB, kb, if_true, and_true, true_and, List.map_cons, List.map_nil, List.getD_cons_zero, List.getD_cons_succ, List.cons_append, List.nil_append, List.append_nil, List.getElem?_cons_zero, List.getElem?_cons_succ, List.take_succ_cons, List.take_zero, List.length_cons, List.length_nil, cSqr, cProd, min2, max2]
  refine ⟨fun h => ⟨⟨by decide, by decide, by decide, by decide, by decide, by decide⟩, op_no (by omega)⟩, fun n1 => ?_⟩
  have hA : V a b := by omega
  have ia : In a := by omega
  have ib : In b := by omega
  have pa := sq_pos a
  have pb := sq_pos b
  generalize a * a = p at *
  generalize b * b = q at *
  refine ⟨⟨ia, ia⟩, fun k1 _ _ e1 => ⟨⟨ib, ib⟩, fun k2 _ _ e2 => ?_⟩⟩
  have hx : max k1 k2 = clip (max p q) := by rw [clip_max, e1, e2]
  have hy : min k1 k2 = clip (min p q) := by rw [clip_min, e1, e2]
  have l1 := clip_in (z := max p q)
  have l2 := clip_big (z := max p q)
  have l3 := clip_in (z := min p q)
  have l4 := clip_big (z := min p q)
  rw [hx, hy]
  generalize clip (max p q) = x at *
  generalize clip (min p q) = y at *
  refine ⟨fun hc => ?_, fun hc => ?_⟩
  · rw [if_pos hc]
    refine ⟨fun h => ⟨⟨by decide, by decide, by decide, by decide, by decide, by decide⟩, op_big hA (by omega)⟩, fun h => ⟨⟨by omega, by omega, by omega, by omega, by decide, by decide⟩, op_ok hA (by omega) (by omega) (by omega)⟩⟩
  · rw [if_neg hc]
    refine ⟨fun h => ⟨⟨by decide, by decide, by decide, by decide, by decide, by decide⟩, op_big hA (by omega)⟩, fun h => ⟨⟨by omega, by omega, by omega, by omega, by decide, by decide⟩, op_ok hA (by omega) (by omega) (by omega)⟩⟩
theorem op_un {A : Prop} {lo hi x y e : Int} (h : OpP A lo hi x y e) : (A ∧ V lo hi ∧ x = lo ∧ y = hi ∧ e = 0) ∨ (A ∧ ¬ V lo hi ∧ x = 0 ∧ y = 0 ∧ e = 2) ∨ (¬ A ∧ x = 0 ∧ y = 0 ∧ e = 130) := by
  by_cases hA : A
  · by_cases hv : V lo hi
    · exact Or.inl ⟨hA, hv, h.1 hA hv⟩
    · exact Or.inr (Or.inl ⟨hA, hv, h.2.1 hA hv⟩)
  · exact Or.inr (Or.inr ⟨hA, h.2.2 hA⟩)
theorem sq_sides {a b : Int} (h : a ≤ b) : min (min (min (a * a) (a * b)) (b * a)) (b * b) ≤ min (a * a) (b * b) ∧ max (max (max (a * a) (a * b)) (b * a)) (b * b) = max (a * a) (b * b) ∧ (¬ (a ≤ 0 ∧ 0 ≤ b) → min (min (min (a * a) (a * b)) (b * a)) (b * b) = min (a * a) (b * b)) ∧ (0 ≤ a → a * a ≤ b * b) ∧ (b ≤ 0 → b * b ≤ a * a) ∧ -max (a * a) (b * b) ≤ min (min (min (a * a) (a * b)) (b * a)) (b * b) := by
  have pa := sq_pos a
  have pb := sq_pos b
  have c := Int.mul_comm b a
  have e1 := sq_pos (a + b)
  have e2 := sq_pos (a - b)
  have f1 : (a + b) * (a + b) = a * a + 2 * (a * b) + b * b := by grind
  have f2 : (a - b) * (a - b) = a * a - 2 * (a * b) + b * b := by grind
  rw [f1] at e1
  rw [f2] at e2
  have g1 : 0 ≤ a → a * a ≤ a * b ∧ a * b ≤ b * b := fun k => ⟨Int.mul_le_mul_of_nonneg_left h k, Int.mul_le_mul_of_nonneg_right h (Int.le_trans k h)⟩
  have g2 : b ≤ 0 → b * b ≤ a * b ∧ a * b ≤ a * a := fun k => by
    have h1 := Int.mul_le_mul_of_nonneg_left (a := -b) (b := -a) (c := -b) (by omega) (by omega)
    have h2 := Int.mul_le_mul_of_nonneg_left (a := -b) (b := -a) (c := -a) (by omega) (by omega)
    rw [Int.neg_mul_neg, Int.neg_mul_neg] at h1 h2
    omega
  rw [c]
  generalize a * a = p at *
  generalize b * b = q at *
  generalize a * b = r at *
  refine ⟨by omega, by omega, fun k => ?_, fun k => by have := g1 k; omega, fun k => by have := g2 k; omega, by omega⟩
  rcases Int.lt_or_le 0 a with h1 | h1
  · have := g1 (by omega); omega
  · have := g2 (by omega); omega
theorem okSqrR {σ τ} : ∀ N w0, ConOk Try.prog N w0 σ τ (cSqr 22) := by
  refine con_of_walk (tb := tb) (C := [cMul 18]) fine (conCons okMulR noCon) 1000 ⟨[i64b, i64b], [], []⟩ rfl fun xs hp hl => ?_
  match xs, hp with
  | [a, b], hp =>
  obtain ⟨⟨h1, h2⟩, ⟨h3, h4⟩⟩ := hp
  refine ⟨in_bnd ⟨h1, h2, h3, h4, trivial⟩, ?_⟩
  clear hl
  rw [show runP tb [cMul 18] 1000 (cSqr 22).f (argsOf (cSqr 22).args 0) ⟨[i64b, i64b], [], []⟩ = _ from tree_sqrR]
  simp only [T.res, resOk, svV, pvV, pvsV, cellV, cellsV, E.den, B.den, B.prop, allB, inB, kb, if_true, and_true, true_and, List.map_cons, List.map_nil, List.getD_cons_zero, List.getD_cons_succ, List.cons_append, List.nil_append, List.append_nil, List.getElem?_cons_zero, List.getElem?_cons_succ, List.take_succ_cons, List.take_zero, List.length_cons, List.length_nil, cSqr, cMul, cOp, min2, max2, min4, max4]
  refine ⟨⟨⟨h1, h2⟩, ⟨h3, h4⟩, ⟨h1, h2⟩, h3, h4⟩, fun x x0 x1 y y0 y1 e e0 e1 he => ?_⟩
  have hu := op_un he
  clear he
  refine ⟨fun he0 => ⟨⟨x0, x1, y0, y1, e0, e1⟩, ?_⟩, fun he0 => ?_⟩
  · rcases hu with ⟨_, _, _, _, h⟩ | ⟨hA, hv, rfl, rfl, rfl⟩ | ⟨hA, rfl, rfl, rfl⟩
    · exact absurd h he0
    · have hs := sq_sides (a := a) (b := b) (by omega)
      have pa := sq_pos a
      have pb := sq_pos b
      generalize min (min (min (a * a) (a * b)) (b * a)) (b * b) = l at *
      generalize max (max (max (a * a) (a * b)) (b * a)) (b * b) = m at *
      refine op_big hA.1 ?_
      by_cases hc : a ≤ 0 ∧ 0 ≤ b
      · rw [if_pos hc]; omega
      · rw [if_neg hc]; have := hs.2.2.1 hc; omega
    · exact op_no (by omega)
  · have he0 : e = 0 := by omega
    rcases hu with ⟨hA, hv, hx, hy, h⟩ | ⟨hA, hv, _, _, h⟩ | ⟨hA, _, _, h⟩
    · have hs := sq_sides (a := a) (b := b) (by omega)
      have pa := sq_pos a
      have pb := sq_pos b
      generalize min (min (min (a * a) (a * b)) (b * a)) (b * b) = l at *
      generalize max (max (max (a * a) (a * b)) (b * a)) (b * b) = m at *
      generalize a * a = p at *
      generalize b * b = q at *
      have wp : IntKind.i64.wrap p = p := w_id (by omega) (by omega)
      have wq : IntKind.i64.wrap q = q := w_id (by omega) (by omega)
      rw [wp, wq]
      refine ⟨fun ha => ⟨fun hb => ?_, fun hb => ?_⟩, fun ha => ⟨fun hb => ?_, fun hb => ?_⟩⟩
      · exact absurd ha (by omega)
      · exact ⟨⟨by omega, by omega, by omega, by omega, by decide, by decide⟩, by rw [if_neg (by omega)]; exact op_ok hA.1 (by omega) (by omega) (by omega)⟩
      · exact ⟨⟨by omega, by omega, by omega, by omega, by decide, by decide⟩, by rw [if_neg (by omega)]; exact op_ok hA.1 (by omega) (by omega) (by omega)⟩
      · exact ⟨⟨by omega, by omega, by omega, by omega, by decide, by decide⟩, by rw [if_pos (by omega)]; exact op_ok hA.1 (by omega) (by omega) (by omega)⟩
    · omega
    · omega
theorem rt_le {x y : Int} (h0 : 0 ≤ y) (h : x * x < (y + 1) * (y + 1)) : x ≤ y := by
  rcases Int.lt_or_le y x with k | k
  · have := sq_le (x := y + 1) (y := x) (by omega) (by omega); omega
  · exact k
theorem rt_step {n r b : Int} (h1 : 0 ≤ r) (h2 : 0 < b) (hi : RtI n r b) (hn : n ≤ 1099511627776) :
    ((r + b) * (r + b) ≤ n → RtI n (r + b) (b.tdiv 2) ∧ r + b ≤ 1048576) ∧ (¬ (r + b) * (r + b) ≤ n → RtI n r (b.tdiv 2)) := by
  obtain ⟨i1, i2⟩ := hi
  rcases i2 with ⟨i2, _⟩ | ⟨j, hj, i3⟩
  · omega
  have hb : (b.tdiv 2 = 0 ∧ b = 1) ∨ ∃ i : Nat, b.tdiv 2 = 2 ^ i ∧ b = 2 * 2 ^ i := by
    cases j with
    | zero => left; subst hj; decide
    | succ i => right; refine ⟨i, ?_, ?_⟩
                · rw [Int.tdiv_eq_ediv_of_nonneg (by omega), hj, Int.pow_succ]; omega
                · rw [hj, Int.pow_succ]; omega
  refine ⟨fun h => ⟨⟨h, ?_⟩, ?_⟩, fun h => ⟨i1, ?_⟩⟩
  · rcases hb with ⟨e1, e2⟩ | ⟨i, e1, e2⟩
    · left; subst e2; refine ⟨e1, ?_⟩; rw [show r + 1 + 1 = r + 2 * 1 by omega]; exact i3
    · right; refine ⟨i, e1, ?_⟩; rw [e1, show r + b + 2 * 2 ^ i = r + 2 * b by omega]; exact i3
  · exact rt_le (by decide) (Int.lt_of_le_of_lt (Int.le_trans h hn) (by decide))
  · rcases hb with ⟨e1, e2⟩ | ⟨i, e1, e2⟩
    · left; subst e2; exact ⟨e1, by omega⟩
    · right; refine ⟨i, e1, ?_⟩; rw [e1, ← e2]; omega
theorem okRt {σ τ} : ∀ N w0, ConOk Try.prog N w0 σ τ (cRt 44) := by
  refine con_of_walk (tb := tb) (C := [lRt]) fine (lopCons rfl noCon) 1000 ⟨[(0, 1099511627776)], [], []⟩ rfl fun xs hp hl => ?_
  match xs, hp with
  | [n], hp =>
  obtain ⟨h1, h2⟩ := hp
  refine ⟨in_bnd ⟨h1, h2, trivial⟩, ?_⟩
  clear hl
  rw [show runP tb [lRt] 1000 (cRt 44).f (argsOf (cRt 44).args 0) ⟨[(0, 1099511627776)], [], []⟩ = _ from tree_rt]
  simp only [T.res, resOk, svV, pvV, pvsV, cellV, cellsV, E.den, B.den, B.prop, allB, inB, kb, if_true, and_true, true_and, List.map_cons, List.map_nil, List.getD_cons_zero, List.getD_cons_succ, List.cons_append, List.nil_append, List.append_nil, List.getElem?_cons_zero, List.getElem?_cons_succ, List.take_succ_cons, List.take_zero, List.length_cons, List.length_nil, cRt, lRt]
  refine ⟨⟨⟨by omega, Or.inr ⟨20, by decide, by omega⟩⟩, by decide, by decide, by decide, by decide⟩, fun r r0 r1 b b0 b1 hi => ⟨fun hb => ?_, fun hb => ?_⟩⟩
  · obtain ⟨s1, s2⟩ := rt_step r0 hb hi h2
    have hd : 0 ≤ b.tdiv 2 ∧ b.tdiv 2 < b := by rw [Int.tdiv_eq_ediv_of_nonneg b0]; omega
    refine ⟨fun h => ?_, fun h => ?_⟩
    · obtain ⟨s1, s3⟩ := s1 h
      exact ⟨s1, ⟨by omega, by omega, by omega, by omega⟩, by omega⟩
    · exact ⟨s2 h, ⟨by omega, by omega, by omega, by omega⟩, by omega⟩
  · obtain ⟨i1, i2⟩ := hi
    rcases i2 with ⟨_, i2⟩ | ⟨j, hj, _⟩
    · exact ⟨⟨r0, r1⟩, r0, i1, i2⟩
    · have : 0 < b := by rw [hj]; exact Int.pow_pos (by decide)
      omega
theorem okRtr {σ τ} : ∀ N w0, ConOk Try.prog N w0 σ τ (cRt 45) := by
  refine con_of_walk (tb := tb) (C := [lRt]) fine (lopCons rfl noCon) 1000 ⟨[(0, 1099511627776)], [], []⟩ rfl fun xs hp hl => ?_
  match xs, hp with
  | [n], hp =>
  obtain ⟨h1, h2⟩ := hp
  refine ⟨in_bnd ⟨h1, h2, trivial⟩, ?_⟩
  clear hl
  rw [show runP tb [lRt] 1000 (cRt 45).f (argsOf (cRt 45).args 0) ⟨[(0, 1099511627776)], [], []⟩ = _ from tree_rtR]
  simp only [T.res, resOk, svV, pvV, pvsV, cellV, cellsV, E.den, B.den, B.prop, allB, inB, kb, if_true, and_true, true_and, List.map_cons, List.map_nil, List.getD_cons_zero, List.getD_cons_succ, List.cons_append, List.nil_append, List.append_nil, List.getElem?_cons_zero, List.getElem?_cons_succ, List.take_succ_cons, List.take_zero, List.length_cons, List.length_nil, cRt, lRt]
  refine ⟨⟨⟨by omega, Or.inr ⟨20, by decide, by omega⟩⟩, by decide, by decide, by decide, by decide⟩, fun r r0 r1 b b0 b1 hi => ⟨fun hb => ?_, fun hb => ?_⟩⟩
  · obtain ⟨s1, s2⟩ := rt_step r0 hb hi h2
    have hd : 0 ≤ b.tdiv 2 ∧ b.tdiv 2 < b := by rw [Int.tdiv_eq_ediv_of_nonneg b0]; omega
    refine ⟨fun h => ?_, fun h => ?_⟩
    · obtain ⟨s1, s3⟩ := s1 h
      exact ⟨s1, ⟨by omega, by omega, by omega, by omega⟩, by omega⟩
    · exact ⟨s2 h, ⟨by omega, by omega, by omega, by omega⟩, by omega⟩
  · obtain ⟨i1, i2⟩ := hi
    rcases i2 with ⟨_, i2⟩ | ⟨j, hj, _⟩
    · exact ⟨⟨r0, r1⟩, r0, i1, i2⟩
    · have : 0 < b := by rw [hj]; exact Int.pow_pos (by decide)
      omega
theorem root_no {a b : Int} (h : ¬ V a b) : RootP a b 0 0 130 := ⟨fun a => absurd a h, fun a => absurd a h, fun _ => ⟨rfl, rfl, rfl⟩⟩
theorem root_neg {a b : Int} (h : V a b) (k : a < 0) : RootP a b 0 0 1 := ⟨fun _ n => absurd n (by omega), fun _ _ => ⟨rfl, rfl, rfl⟩, fun n => absurd h n⟩
theorem root_ok {a b x y : Int} (h : V a b) (k : 0 ≤ a) (hx : IsRt a x) (hy : IsUp b y) : RootP a b x y 0 := ⟨fun _ _ => ⟨hx, hy, rfl⟩, fun _ n => absurd n (by omega), fun n => absurd h n⟩
theorem up_same {n r : Int} (h : IsRt n r) (k : ¬ r * r < n) : IsUp n r := by
  refine ⟨h.1, by omega, ?_⟩
  by_cases h0 : r = 0
  · exact Or.inl h0
  · right
    have h1 := h.1
    have e : (r - 1) * (r - 1) = r * r - 2 * r + 1 := by grind
    have h2 := h.2.1
    rw [e]; omega
theorem up_next {n r : Int} (h : IsRt n r) (k : r * r < n) : IsUp n (r + 1) := ⟨by have := h.1; omega, Int.le_of_lt h.2.2, Or.inr (by rw [show r + 1 - 1 = r by omega]; exact k)⟩
theorem up_le {n y : Int} (h : IsUp n y) (k : n ≤ 1099511627776) : y ≤ 1048576 := by
  rcases h.2.2 with e | e
  · omega
  · have := rt_le (x := y - 1) (y := 1048575) (by decide) (Int.lt_of_lt_of_le e k); omega
theorem okRoot {σ τ} : ∀ N w0, ConOk Try.prog N w0 σ τ (cRoot 23) := by
  refine con_of_walk (tb := tb) (C := [cRt 44]) fine (conCons okRt noCon) 1000 ⟨[i64b, i64b], [], []⟩ rfl fun xs hp hl => ?_
  match xs, hp with
  | [a, b], hp =>
  obtain ⟨⟨h1, h2⟩, ⟨h3, h4⟩⟩ := hp
  refine ⟨in_bnd ⟨h1, h2, h3, h4, trivial⟩, ?_⟩
  clear hl
  rw [show runP tb [cRt 44] 1000 (cRoot 23).f (argsOf (cRoot 23).args 0) ⟨[i64b, i64b], [], []⟩ = _ from tree_root]
  simp only [T.res, resOk, svV, pvV, pvsV, cellV, cellsV, E.den, B.den, B.prop, allB, inB, kb, if_true, and_true, true_and, List.map_cons, List.map_nil, List.getD_cons_zero, List.getD_cons_succ, List.cons_append, List.nil_append, List.append_nil, List.getElem?_cons_zero, List.getElem?_cons_succ, List.take_succ_cons, List.take_zero, List.length_cons, List.length_nil, cRoot, cRt]
  refine ⟨fun h => ⟨⟨by decide, by decide, by decide, by decide, by decide, by decide⟩, root_no (by omega)⟩, fun n1 => ⟨fun h => ⟨⟨by decide, by decide, by decide, by decide, by decide, by decide⟩, root_neg (by omega) h⟩, fun n2 => ?_⟩⟩
  refine ⟨⟨by omega, by omega⟩, fun x x0 x1 hx => ⟨⟨by omega, by omega⟩, fun y y0 y1 hy => ⟨fun h => ?_, fun h => ?_⟩⟩⟩
  · have hu := up_next hy h
    have := up_le hu (by omega)
    exact ⟨⟨x0, x1, by omega, this, by decide, by decide⟩, root_ok (by omega) (by omega) hx hu⟩
  · exact ⟨⟨x0, x1, y0, y1, by decide, by decide⟩, root_ok (by omega) (by omega) hx (up_same hy h)⟩
theorem okRootR {σ τ} : ∀ N w0, ConOk Try.prog N w0 σ τ (cRoot 24) := by
  refine con_of_walk (tb := tb) (C := [cRt 45]) fine (conCons okRtr noCon) 1000 ⟨[i64b, i64b], [], []⟩ rfl fun xs hp hl => ?_
  match xs, hp with
  | [a, b], hp =>
  obtain ⟨⟨h1, h2⟩, ⟨h3, h4⟩⟩ := hp
  refine ⟨in_bnd ⟨h1, h2, h3, h4, trivial⟩, ?_⟩
  clear hl
  rw [show runP tb [cRt 45] 1000 (cRoot 24).f (argsOf (cRoot 24).args 0) ⟨[i64b, i64b], [], []⟩ = _ from tree_rootR]
  simp only [T.res, resOk, svV, pvV, pvsV, cellV, cellsV, E.den, B.den, B.prop, allB, inB, kb, if_true, and_true, true_and, List.map_cons, List.map_nil, List.getD_cons_zero, List.getD_cons_succ, List.cons_append, List.nil_append, List.append_nil, List.getElem?_cons_zero, List.getElem?_cons_succ, List.take_succ_cons, List.take_zero, List.length_cons, List.length_nil, cRoot, cRt]
  refine ⟨fun h => ⟨⟨by decide, by decide, by decide, by decide, by decide, by decide⟩, root_no (by omega)⟩, fun n1 => ⟨fun h => ⟨⟨by decide, by decide, by decide, by decide, by decide, by decide⟩, root_neg (by omega) h⟩, fun n2 => ?_⟩⟩
  refine ⟨⟨by omega, by omega⟩, fun y y0 y1 hy => ⟨fun h => ⟨⟨by omega, by omega⟩, fun x x0 x1 hx => ?_⟩, fun h => ⟨⟨by omega, by omega⟩, fun x x0 x1 hx => ?_⟩⟩⟩
  · have hu := up_next hy h
    have := up_le hu (by omega)
    exact ⟨⟨x0, x1, by omega, this, by decide, by decide⟩, root_ok (by omega) (by omega) hx hu⟩
  · exact ⟨⟨x0, x1, y0, y1, by decide, by decide⟩, root_ok (by omega) (by omega) hx (up_same hy h)⟩
end Go.Proofs.Ytgaaommfemgnnaa
