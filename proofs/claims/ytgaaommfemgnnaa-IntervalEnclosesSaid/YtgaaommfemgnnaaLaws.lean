/- DERIVED. The laws of intervals. -/
import Derived.Test.YtgaaommfemgnnaaTreeL
namespace Go.Proofs.Ytgaaommfemgnnaa
open Go.Sx Go.RowKit
set_option linter.unusedVariables false
set_option linter.unusedSimpArgs false
theorem okSane {σ τ} : ∀ N w0, ConOk Try.prog N w0 σ τ (trueCon 12) := fun N w0 => trueCon_ok fun w =>
  sx_law (tb := tb) (w := w) (σ := []) (τ := []) fine (C := []) (fun c hc => by cases hc) 4000 12 [] ⟨[], [], []⟩ [] bnd_nil (by rw [tree_sane]; exact rfl)
def Num (v : Value) : Prop := ∃ a : Int, v = .int .i64 a ∧ I64 a
theorem OpP.eq {A : Prop} {lo hi x y e x' y' e' : Int} (h : OpP A lo hi x y e) (h' : OpP A lo hi x' y' e') : x = x' ∧ y = y' ∧ e = e' := by
  rcases op_un h with ⟨a, b, c, d, f⟩ | ⟨a, b, c, d, f⟩ | ⟨a, c, d, f⟩ <;> rcases op_un h' with ⟨a', b', c', d', f'⟩ | ⟨a', b', c', d', f'⟩ | ⟨a', c', d', f'⟩ <;> first | exact absurd a a' | exact absurd a' a | exact absurd b b' | exact absurd b' b | (subst c d f c' d' f'; exact ⟨rfl, rfl, rfl⟩)
theorem MeetP.eq {a b c d x y k e x' y' k' e' : Int} (h : MeetP a b c d x y k e) (h' : MeetP a b c d x' y' k' e') : x = x' ∧ y = y' ∧ k = k' ∧ e = e' := by
  by_cases hv : V a b ∧ V c d
  · by_cases hm : max a c ≤ min b d
    · have := h.1 hv hm; have := h'.1 hv hm; omega
    · have := h.2.1 hv (by omega); have := h'.2.1 hv (by omega); omega
  · have := h.2.2 hv; have := h'.2.2 hv; omega
theorem InP.eq {a b c d k e k' e' : Int} (h : InP a b c d k e) (h' : InP a b c d k' e') (l : 0 ≤ k) (u : k ≤ 1) (l' : 0 ≤ k') (u' : k' ≤ 1) : k = k' ∧ e = e' := by
  by_cases hv : V a b ∧ V c d
  · have := h.1 hv; have := h'.1 hv; omega
  · have := h.2 hv; have := h'.2 hv; omega
set_option maxRecDepth 100000 in
set_option maxHeartbeats 4000000 in
theorem IntervalSpec_walk (x0 y0 x1 y1 : Int) (w : World) (hx0 : I64 x0) (hy0 : I64 y0) (hx1 : I64 x1) (hy1 : I64 y1) : Calls Try.prog 3 #[.agg #[.int .i64 x0, .int .i64 y0], .agg #[.int .i64 x1, .int .i64 y1]] w fun e w' => e = .returned (.bool true) ∧ Below w.heap.size w w' := by
  refine sx_law (tb := tb) (w := w) (σ := []) (τ := []) fine (C := [trueCon 12, cAdd 13, cAdd 14, cSub 15, cSub 16, cMul 17, cMul 18])
    ((conCons okSane (conCons okAdd (conCons okAddr (conCons okSub (conCons okSubr (conCons okMul (conCons okMulR noCon))))))) _ _) 1000 3 (argsOf [.agg [some .i64, some .i64], .agg [some .i64, some .i64]] 0) ⟨[i64b, i64b, i64b, i64b], [], []⟩ [x0, y0, x1, y1]
    (in_bnd ⟨hx0.1, hx0.2, hy0.1, hy0.2, hx1.1, hx1.2, hy1.1, hy1.2, trivial⟩) ?_
  rw [tree_l3]
  simp only [T.law, Bool.false_eq_true, E.den, B.prop, allB, inB, List.map_cons, List.map_nil, List.getD_cons_zero, List.getD_cons_succ, List.cons_append, List.nil_append, List.append_nil, List.getElem?_cons_zero, List.getElem?_cons_succ, true_and, and_true, trueCon, cFits, cAdd, cSub, cMul, cOp, cMeet, cHull, cIn, cSqr, cRoot]
  have hI : I4 x0 y0 x1 y1 := ⟨hx0, hy0, hx1, hy1⟩
  refine fun s _ _ _ => ⟨hI, fun x _ _ y _ _ e _ _ h1 => ⟨hI, fun x' _ _ y' _ _ e' _ _ h1' => ⟨hI, fun x2 _ _ y2 _ _ e2 _ _ h2 => ⟨hI, fun x2' _ _ y2' _ _ e2' _ _ h2' => ⟨hI, fun x3 _ _ y3 _ _ e3 _ _ h3 => ⟨hI, fun x3' _ _ y3' _ _ e3' _ _ h3' => ?_⟩⟩⟩⟩⟩⟩
  have q1 := h1.eq h1'; have q2 := h2.eq h2'; have q3 := h3.eq h3'
  clear h1 h1' h2 h2' h3 h3'
  refine ⟨fun h => ⟨fun h' => ?_, fun h' => ?_⟩, fun h => ?_⟩ <;> omega
theorem IntervalSpec_any (v0 v1 : Value) (w : World) (g0 : Pair v0) (g1 : Pair v1) : Calls Try.prog 3 #[v0, v1] w fun e w' => e = .returned (.bool true) ∧ Below w.heap.size w w' := by
  obtain ⟨x0, y0, rfl, hx0, hy0⟩ := g0
  obtain ⟨x1, y1, rfl, hx1, hy1⟩ := g1
  exact IntervalSpec_walk x0 y0 x1 y1 w hx0 hy0 hx1 hy1
set_option maxRecDepth 100000 in
set_option maxHeartbeats 4000000 in
theorem IntervalMeetSpec_walk (x0 y0 x1 y1 : Int) (w : World) (hx0 : I64 x0) (hy0 : I64 y0) (hx1 : I64 x1) (hy1 : I64 y1) : Calls Try.prog 5 #[.agg #[.int .i64 x0, .int .i64 y0], .agg #[.int .i64 x1, .int .i64 y1]] w fun e w' => e = .returned (.bool true) ∧ Below w.heap.size w w' := by
  refine sx_law (tb := tb) (w := w) (σ := []) (τ := []) fine (C := [trueCon 12, cMeet 27, cMeet 28, cHull 29, cHull 30, cIn 31, cIn 32])
    ((conCons okSane (conCons okMeet (conCons okMeetR (conCons okHull (conCons okHullR (conCons okIn (conCons okInR noCon))))))) _ _) 1000 5 (argsOf [.agg [some .i64, some .i64], .agg [some .i64, some .i64]] 0) ⟨[i64b, i64b, i64b, i64b], [], []⟩ [x0, y0, x1, y1]
    (in_bnd ⟨hx0.1, hx0.2, hy0.1, hy0.2, hx1.1, hx1.2, hy1.1, hy1.2, trivial⟩) ?_
  rw [tree_l5]
  simp only [T.law, Bool.false_eq_true, E.den, B.prop, allB, inB, List.map_cons, List.map_nil, List.getD_cons_zero, List.getD_cons_succ, List.cons_append, List.nil_append, List.append_nil, List.getElem?_cons_zero, List.getElem?_cons_succ, true_and, and_true, trueCon, cFits, cAdd, cSub, cMul, cOp, cMeet, cHull, cIn, cSqr, cRoot]
  have hI : I4 x0 y0 x1 y1 := ⟨hx0, hy0, hx1, hy1⟩
  refine fun s _ _ _ => ⟨hI, fun x _ _ y _ _ k _ _ e _ _ h1 => ⟨hI, fun x' _ _ y' _ _ k' _ _ e' _ _ h1' => ⟨hI, fun x2 _ _ y2 _ _ e2 _ _ h2 => ⟨hI, fun x2' _ _ y2' _ _ e2' _ _ h2' => ⟨hI, fun k3 l3 u3 e3 _ _ h3 => ⟨hI, fun k3' l3' u3' e3' _ _ h3' => ?_⟩⟩⟩⟩⟩⟩
  have q1 := h1.eq h1'; have q2 := h2.eq h2'; have q3 := h3.eq h3' l3 u3 l3' u3'
  clear h1 h1' h2 h2' h3 h3'
  refine ⟨⟨⟨⟨⟨⟨⟨?_, ?_⟩, ?_⟩, ?_⟩, ?_⟩, ?_⟩, ?_⟩, ?_⟩ <;> omega
theorem IntervalMeetSpec_any (v0 v1 : Value) (w : World) (g0 : Pair v0) (g1 : Pair v1) : Calls Try.prog 5 #[v0, v1] w fun e w' => e = .returned (.bool true) ∧ Below w.heap.size w w' := by
  obtain ⟨x0, y0, rfl, hx0, hy0⟩ := g0
  obtain ⟨x1, y1, rfl, hx1, hy1⟩ := g1
  exact IntervalMeetSpec_walk x0 y0 x1 y1 w hx0 hy0 hx1 hy1
theorem hull_ok {a b c d x y e : Int} (h : OpP (V a b ∧ V c d) (min2 a c) (max2 b d) x y e) (hv : V a b ∧ V c d) : x = min a c ∧ y = max b d ∧ e = 0 := by
  refine h.1 hv ?_
  simp only [min2, max2]
  omega
set_option maxRecDepth 100000 in
set_option maxHeartbeats 4000000 in
theorem IntervalLattice_walk (x0 y0 x1 y1 x2 y2 x3 : Int) (w : World) (hx0 : I64 x0) (hy0 : I64 y0) (hx1 : I64 x1) (hy1 : I64 y1) (hx2 : I64 x2) (hy2 : I64 y2) (hx3 : I64 x3) : Calls Try.prog 11 #[.agg #[.int .i64 x0, .int .i64 y0], .agg #[.int .i64 x1, .int .i64 y1], .agg #[.int .i64 x2, .int .i64 y2], .int .i64 x3] w fun e w' => e = .returned (.bool true) ∧ Below w.heap.size w w' := by
  refine sx_law (tb := tb) (w := w) (σ := []) (τ := []) fine (C := [trueCon 12, cMeet 27, cHull 29, cIn 31])
    ((conCons okSane (conCons okMeet (conCons okHull (conCons okIn noCon)))) _ _) 1000 11 (argsOf [.agg [some .i64, some .i64], .agg [some .i64, some .i64], .agg [some .i64, some .i64], .int .i64] 0) ⟨[i64b, i64b, i64b, i64b, i64b, i64b, i64b], [], []⟩ [x0, y0, x1, y1, x2, y2, x3]
    (in_bnd ⟨hx0.1, hx0.2, hy0.1, hy0.2, hx1.1, hx1.2, hy1.1, hy1.2, hx2.1, hx2.2, hy2.1, hy2.2, hx3.1, hx3.2, trivial⟩) ?_
  rw [tree_l11]
  simp only [T.law, Bool.false_eq_true, E.den, B.prop, allB, inB, List.map_cons, List.map_nil, List.getD_cons_zero, List.getD_cons_succ, List.cons_append, List.nil_append, List.append_nil, List.getElem?_cons_zero, List.getElem?_cons_succ, true_and, and_true, trueCon, cFits, cAdd, cSub, cMul, cOp, cMeet, cHull, cIn, cSqr, cRoot]
  have hI : I4 x0 y0 x1 y1 := ⟨hx0, hy0, hx1, hy1⟩
  refine fun s _ _ _ => ⟨hI, fun x lx ux y ly uy k lk uk e _ _ h1 => ⟨hI, fun p lp up q lq uq f _ _ h2 => ?_⟩⟩
  have ip : I64 p := ⟨by omega, by omega⟩
  have iq : I64 q := ⟨by omega, by omega⟩
  by_cases hv : V x0 y0 ∧ V x1 y1
  · obtain ⟨hp, hq, hf⟩ := hull_ok h2 hv
    have hM : (max x0 x1 ≤ min y0 y1 ∧ x = max x0 x1 ∧ y = min y0 y1 ∧ k = 1 ∧ e = 0) ∨ (min y0 y1 < max x0 x1 ∧ x = 0 ∧ y = 0 ∧ k = 0 ∧ e = 0) := by
      by_cases hm : max x0 x1 ≤ min y0 y1
      · exact Or.inl ⟨hm, h1.1 hv hm⟩
      · exact Or.inr ⟨by omega, h1.2.1 hv (by omega)⟩
    clear h1 h2
    refine ⟨fun h => by omega, fun _ => ⟨fun h => by omega, fun _ => ⟨⟨hx0, hy0, ip, iq⟩, fun k1 l1 u1 e1 _ _ h3 => ⟨⟨hx1, hy1, ip, iq⟩, fun k2 l2 u2 e2 _ _ h4 => ?_⟩⟩⟩⟩
    have g3 := h3.1 ⟨hv.1, by omega⟩
    have g4 := h4.1 ⟨hv.2, by omega⟩
    refine ⟨fun h => by omega, fun _ => ⟨⟨hx0, hy0, hx2, hy2⟩, fun k3 l3 u3 e3 _ _ h5 => ⟨⟨hx1, hy1, hx2, hy2⟩, fun k4 l4 u4 e4 _ _ h6 => ⟨⟨ip, iq, hx2, hy2⟩, fun k5 l5 u5 e5 _ _ h7 => ?_⟩⟩⟩⟩
    by_cases hw : V x2 y2
    · have g5 := h5.1 ⟨hv.1, hw⟩; have g6 := h6.1 ⟨hv.2, hw⟩; have g7 := h7.1 ⟨by omega, hw⟩
      clear h3 h4 h5 h6 h7 g3 g4 hM
      by_cases hin : k5 = 1
      · have hin' := g7.1.1 hin
        have a1 := g5.1.2 (by omega); have a2 := g6.1.2 (by omega)
        omega
      · have hin' := fun h => hin (g7.1.2 h)
        by_cases a1 : k3 = 1
        · have b1 := g5.1.1 a1
          have a2 : k4 ≠ 1 := fun h => by have := g6.1.1 h; exact hin' (by omega)
          omega
        · omega
    · have g5 := h5.2 (fun h => hw h.2); have g6 := h6.2 (fun h => hw h.2); have g7 := h7.2 (fun h => hw h.2)
      omega
  · have g1 := h1.2.2 hv; have g2 := h2.2.2 hv
    refine ⟨fun _ => ?_, fun h => by omega⟩
    omega
theorem IntervalLattice_any (v0 v1 v2 v3 : Value) (w : World) (g0 : Pair v0) (g1 : Pair v1) (g2 : Pair v2) (g3 : Num v3) : Calls Try.prog 11 #[v0, v1, v2, v3] w fun e w' => e = .returned (.bool true) ∧ Below w.heap.size w w' := by
  obtain ⟨x0, y0, rfl, hx0, hy0⟩ := g0
  obtain ⟨x1, y1, rfl, hx1, hy1⟩ := g1
  obtain ⟨x2, y2, rfl, hx2, hy2⟩ := g2
  obtain ⟨x3, rfl, hx3⟩ := g3
  exact IntervalLattice_walk x0 y0 x1 y1 x2 y2 x3 w hx0 hy0 hx1 hy1 hx2 hy2 hx3
theorem w_in {z : Int} (h : In z) : IntKind.i64.wrap z = z := w_id (by omega) (by omega)
theorem lin {x a b : Int} (c : Int) (h1 : a ≤ x) (h2 : x ≤ b) : min (a * c) (b * c) ≤ x * c ∧ x * c ≤ max (a * c) (b * c) := by
  rcases Int.lt_or_le c 0 with k | k
  · have e1 := Int.mul_le_mul_of_nonpos_right h1 (Int.le_of_lt k)
    have e2 := Int.mul_le_mul_of_nonpos_right h2 (Int.le_of_lt k)
    omega
  · have e1 := Int.mul_le_mul_of_nonneg_right h1 k
    have e2 := Int.mul_le_mul_of_nonneg_right h2 k
    omega
theorem encl {a b c d x y : Int} (h1 : a ≤ x) (h2 : x ≤ b) (h3 : c ≤ y) (h4 : y ≤ d) : min4 (a * c) (a * d) (b * c) (b * d) ≤ x * y ∧ x * y ≤ max4 (a * c) (a * d) (b * c) (b * d) := by
  have p := lin c h1 h2
  have q := lin d h1 h2
  have r := lin x h3 h4
  rw [Int.mul_comm y x, Int.mul_comm c x, Int.mul_comm d x] at r
  simp only [min4, max4]
  omega
theorem min4_one (p q r s : Int) : min4 p q r s = p ∨ min4 p q r s = q ∨ min4 p q r s = r ∨ min4 p q r s = s := by simp only [min4]; omega
theorem max4_one (p q r s : Int) : max4 p q r s = p ∨ max4 p q r s = q ∨ max4 p q r s = r ∨ max4 p q r s = s := by simp only [max4]; omega
theorem sq_in {a b x : Int} (h1 : a ≤ x) (h2 : x ≤ b) : (if a ≤ 0 ∧ 0 ≤ b then 0 else min2 (a * a) (b * b)) ≤ x * x ∧ x * x ≤ max2 (a * a) (b * b) ∧ 0 ≤ (if a ≤ 0 ∧ 0 ≤ b then 0 else min2 (a * a) (b * b)) := by
  have pa := sq_pos a
  have pb := sq_pos b
  have px := sq_pos x
  simp only [min2, max2]
  refine ⟨?_, ?_, ?_⟩
  · split
    · exact px
    · rename_i h
      rcases Int.lt_or_le 0 a with k | k
      · have := sq_le (x := a) (y := x) (by omega) h1; omega
      · have := sq_le' (x := x) (y := b) (by omega) h2; omega
  · rcases Int.lt_or_le 0 x with k | k
    · have := sq_le (x := x) (y := b) (by omega) h2; omega
    · have := sq_le' (x := a) (y := x) (by omega) h1; omega
  · split <;> omega
theorem sq_mul {a b x y e u v f : Int} (h : V a b) (h1 : OpP (V a b) (if a ≤ 0 ∧ 0 ≤ b then 0 else min2 (a * a) (b * b)) (max2 (a * a) (b * b)) x y e) (h2 : OpP (V a b ∧ V a b) (min4 (a * a) (a * b) (b * a) (b * b)) (max4 (a * a) (a * b) (b * a) (b * b)) u v f) :
    e = f ∧ (e = 0 → u ≤ x ∧ y ≤ v ∧ V u v ∧ V x y ∧ x = (if a ≤ 0 ∧ 0 ≤ b then 0 else min2 (a * a) (b * b)) ∧ y = max2 (a * a) (b * b)) := by
  obtain ⟨s1, s2, s3, s4, s5, s6⟩ := sq_sides (a := a) (b := b) (by omega)
  have pa := sq_pos a
  have pb := sq_pos b
  have q1 : min4 (a * a) (a * b) (b * a) (b * b) ≤ (if a ≤ 0 ∧ 0 ≤ b then 0 else min2 (a * a) (b * b)) ∧ (if a ≤ 0 ∧ 0 ≤ b then 0 else min2 (a * a) (b * b)) ≤ max2 (a * a) (b * b) ∧ 0 ≤ (if a ≤ 0 ∧ 0 ≤ b then 0 else min2 (a * a) (b * b)) := by
    simp only [min4, min2, max2]
    split
    · rename_i hc
      have := (encl (x := a) (y := b) (a := a) (b := b) (c := a) (d := b) (by omega) (by omega) (by omega) (by omega)).1
      have h3 : a * b ≤ 0 := Int.mul_nonpos_of_nonpos_of_nonneg hc.1 hc.2
      simp only [min4] at this
      omega
    · omega
  simp only [max4] at h2
  rw [s2] at h2
  generalize (if a ≤ 0 ∧ 0 ≤ b then 0 else min2 (a * a) (b * b)) = l at *
  have s6' : -max2 (a * a) (b * b) ≤ min4 (a * a) (a * b) (b * a) (b * b) := by simp only [max2, min4]; exact s6
  change OpP (V a b ∧ V a b) (min4 (a * a) (a * b) (b * a) (b * b)) (max2 (a * a) (b * b)) u v f at h2
  clear s1 s2 s3 s4 s5 s6 pa pb
  generalize min4 (a * a) (a * b) (b * a) (b * b) = m at *
  generalize max2 (a * a) (b * b) = M at *
  by_cases hM : M ≤ 1099511627776
  · have := h1.1 h (by omega); have := h2.1 ⟨h, h⟩ (by omega)
    exact ⟨by omega, fun _ => by omega⟩
  · have := h1.2.1 h (by omega); have := h2.2.1 ⟨h, h⟩ (by omega)
    exact ⟨by omega, fun _ => by omega⟩
set_option maxRecDepth 100000 in
set_option maxHeartbeats 4000000 in
theorem IntervalRoots_walk (x0 y0 x1 : Int) (w : World) (hx0 : I64 x0) (hy0 : I64 y0) (hx1 : I64 x1) : Calls Try.prog 7 #[.agg #[.int .i64 x0, .int .i64 y0], .int .i64 x1] w fun e w' => e = .returned (.bool true) ∧ Below w.heap.size w w' := by
  refine sx_law (tb := tb) (w := w) (σ := []) (τ := []) fine (C := [trueCon 12, cSqr 21, cMul 17, cIn 31, cRoot 23])
    ((conCons okSane (conCons okSqr (conCons okMul (conCons okIn (conCons okRoot noCon))))) _ _) 1000 7 (argsOf [.agg [some .i64, some .i64], .int .i64] 0) ⟨[i64b, i64b, i64b], [], []⟩ [x0, y0, x1]
    (in_bnd ⟨hx0.1, hx0.2, hy0.1, hy0.2, hx1.1, hx1.2, trivial⟩) ?_
  rw [tree_l7]
  simp only [T.law, Bool.false_eq_true, E.den, B.prop, allB, inB, List.map_cons, List.map_nil, List.getD_cons_zero, List.getD_cons_succ, List.cons_append, List.nil_append, List.append_nil, List.getElem?_cons_zero, List.getElem?_cons_succ, true_and, and_true, trueCon, cFits, cAdd, cSub, cMul, cOp, cMeet, cHull, cIn, cSqr, cRoot]
  refine fun s _ _ _ => ⟨fun _ => trivial, fun hv0 => ⟨fun _ => trivial, fun hx => ?_⟩⟩
  have hv : V x0 y0 := by omega
  refine ⟨⟨hx0, hy0⟩, fun a la ua b lb ub e _ _ h1 => ⟨⟨hx0, hy0, hx0, hy0⟩, fun c lc uc d ld ud f _ _ h2 => ?_⟩⟩
  obtain ⟨hef, hok⟩ := sq_mul hv h1 h2
  clear h1 h2
  have hR : ∀ p q g : Int, RootP x0 y0 p q g → 0 ≤ p → p ≤ 1048576 → 0 ≤ q → q ≤ 1048576 → ((x0 < 0 → (g = 1 ∧ p = 0 ∧ q = 0)) ∧ (¬ x0 < 0 → (g = 0 ∧ p ≤ q) ∧ ((p * p ≤ x0 ∧ x0 < (p + 1) * (p + 1)) ∧ y0 ≤ q * q) ∧ (q = 0 ∨ (q - 1) * (q - 1) < y0))) := by
    intro p q g hr p0 p1 q0 q1
    refine ⟨fun h => ?_, fun h => ?_⟩
    · have := hr.2.1 hv h; omega
    · obtain ⟨r1, r2, r3⟩ := hr.1 hv (by omega)
      refine ⟨⟨r3, ?_⟩, ⟨⟨r1.2.1, r1.2.2⟩, r2.2.1⟩, r2.2.2⟩
      refine rt_le q0 ?_
      have h1 := r1.2.1; have h2 := r2.2.1
      have h3 : (q + 1) * (q + 1) = q * q + 2 * q + 1 := by grind
      omega
  refine ⟨fun h => by omega, fun _ => ⟨fun he => ⟨⟨⟨by omega, by omega⟩, ⟨by omega, by omega⟩, ⟨by omega, by omega⟩, by omega, by omega⟩, fun k lk uk g _ _ h3 => ?_⟩, fun he => ⟨⟨hx0, hy0⟩, fun p lp up q lq uq g _ _ h4 => ?_⟩⟩⟩
  · obtain ⟨o1, o2, o3, o4, o5, o6⟩ := hok he
    obtain ⟨i1, i2⟩ := h3.1 ⟨o4, o3⟩
    have i3 := i1.2 ⟨o1, o2⟩
    obtain ⟨t1, t2, t3⟩ := sq_in (a := x0) (b := y0) (x := x1) (by omega) (by omega)
    rw [← o5] at t1
    rw [← o6] at t2
    rw [← o5] at t3
    have t2' : x1 * x1 ≤ 1099511627776 := by omega
    rw [w_in (z := x1 * x1) ⟨by omega, t2'⟩]
    generalize x1 * x1 = sq at *
    clear o5 o6 i1 h3
    refine ⟨fun h => by omega, fun _ => ⟨⟨hx0, hy0⟩, fun p lp up q lq uq g' _ _ h4 => ?_⟩⟩
    have := hR p q g' h4 lp up lq uq
    refine ⟨this.1, fun hn => ⟨fun h => by have := (this.2 hn).1; omega, fun _ => (this.2 hn).2⟩⟩
  · have := hR p q g h4 lp up lq uq
    refine ⟨this.1, fun hn => ⟨fun h => by have := (this.2 hn).1; omega, fun _ => (this.2 hn).2⟩⟩
theorem IntervalRoots_any (v0 v1 : Value) (w : World) (g0 : Pair v0) (g1 : Num v1) : Calls Try.prog 7 #[v0, v1] w fun e w' => e = .returned (.bool true) ∧ Below w.heap.size w w' := by
  obtain ⟨x0, y0, rfl, hx0, hy0⟩ := g0
  obtain ⟨x1, rfl, hx1⟩ := g1
  exact IntervalRoots_walk x0 y0 x1 w hx0 hy0 hx1
theorem fits_c {x y k : Int} (h : k = 1 ↔ In (x * y)) (l : 0 ≤ k) (u : k ≤ 1) : (¬ k = 0) ↔ In (x * y) := by
  rw [← h]; omega
theorem mul_un {a b c d x y e : Int} (h : OpP (V a b ∧ V c d) (min4 (a * c) (a * d) (b * c) (b * d)) (max4 (a * c) (a * d) (b * c) (b * d)) x y e) (hv : V a b ∧ V c d) :
    (e = 0 ∧ x = min4 (a * c) (a * d) (b * c) (b * d) ∧ y = max4 (a * c) (a * d) (b * c) (b * d) ∧ In (a * c) ∧ In (a * d) ∧ In (b * c) ∧ In (b * d) ∧ V x y) ∨ (e = 2 ∧ ¬ (In (a * c) ∧ In (a * d) ∧ In (b * c) ∧ In (b * d))) := by
  have hle : V (min4 (a * c) (a * d) (b * c) (b * d)) (max4 (a * c) (a * d) (b * c) (b * d)) ↔ (In (a * c) ∧ In (a * d) ∧ In (b * c) ∧ In (b * d)) := by simp only [min4, max4]; omega
  rcases op_un h with ⟨_, h2, h3, h4, h5⟩ | ⟨_, h2, h3, h4, h5⟩ | ⟨h1, _⟩
  · have := hle.1 h2
    exact Or.inl ⟨h5, h3, h4, this.1, this.2.1, this.2.2.1, this.2.2.2, by rw [h3, h4]; exact h2⟩
  · exact Or.inr ⟨h5, fun h => h2 (hle.2 h)⟩
  · exact absurd hv h1
set_option maxRecDepth 100000 in
set_option maxHeartbeats 4000000 in
theorem IntervalEncloses_walk (x0 y0 x1 y1 x2 x3 : Int) (w : World) (hx0 : I64 x0) (hy0 : I64 y0) (hx1 : I64 x1) (hy1 : I64 y1) (hx2 : I64 x2) (hx3 : I64 x3) : Calls Try.prog 6 #[.agg #[.int .i64 x0, .int .i64 y0], .agg #[.int .i64 x1, .int .i64 y1], .int .i64 x2, .int .i64 x3] w fun e w' => e = .returned (.bool true) ∧ Below w.heap.size w w' := by
  refine sx_law (tb := tb) (w := w) (σ := []) (τ := []) fine (C := [trueCon 12, cAdd 13, cSub 15, cMul 17, cFits])
    ((conCons okSane (conCons okAdd (conCons okSub (conCons okMul (conCons okFits noCon))))) _ _) 1000 6 (argsOf [.agg [some .i64, some .i64], .agg [some .i64, some .i64], .int .i64, .int .i64] 0) ⟨[i64b, i64b, i64b, i64b, i64b, i64b], [], []⟩ [x0, y0, x1, y1, x2, x3]
    (in_bnd ⟨hx0.1, hx0.2, hy0.1, hy0.2, hx1.1, hx1.2, hy1.1, hy1.2, hx2.1, hx2.2, hx3.1, hx3.2, trivial⟩) ?_
  rw [tree_l6]
  simp only [T.law, Bool.false_eq_true, E.den, B.prop, allB, inB, List.map_cons, List.map_nil, List.getD_cons_zero, List.getD_cons_succ, List.cons_append, List.nil_append, List.append_nil, List.getElem?_cons_zero, List.getElem?_cons_succ, true_and, and_true, trueCon, cFits, cAdd, cSub, cMul, cOp, cMeet, cHull, cIn, cSqr, cRoot]
  refine fun s _ _ _ => ⟨fun _ => trivial, fun hv0 => ⟨fun _ => trivial, fun hv1 => ⟨fun _ => trivial, fun hx => ?_⟩⟩⟩
  have hI : I4 x0 y0 x1 y1 := ⟨hx0, hy0, hx1, hy1⟩
  have hv : V x0 y0 ∧ V x1 y1 := ⟨by omega, by omega⟩
  refine ⟨hI, fun a la ua b lb ub e le ue h1 => ⟨hI, fun c lc uc d ld ud f lf uf h2 => ⟨hI, fun p lp up q lq uq g lg ug h3 => ?_⟩⟩⟩
  have w1 : IntKind.i64.wrap (x0 + x1) = x0 + x1 := w_id (by omega) (by omega)
  have w2 : IntKind.i64.wrap (x0 - y1) = x0 - y1 := w_id (by omega) (by omega)
  have w3 : IntKind.i64.wrap (y0 - x1) = y0 - x1 := w_id (by omega) (by omega)
  rw [w1, w2, w3]
  have g1 := op_un h1
  have g2 := op_un h2
  have g3 := mul_un h3 hv
  clear w1 w2 w3 h1 h2 h3
  refine ⟨fun h => by omega, fun _ => ⟨fun h => by omega, fun _ => ?_⟩⟩
  clear g1 g2
  obtain ⟨E1, E2⟩ := encl (x := x2) (y := x3) (a := x0) (b := y0) (c := x1) (d := y1) (by omega) (by omega) (by omega) (by omega)
  have M1 := min4_one (x0 * x1) (x0 * y1) (y0 * x1) (y0 * y1)
  have M2 := max4_one (x0 * x1) (x0 * y1) (y0 * x1) (y0 * y1)
  have i0 : In x0 := by omega
  have j0 : In y0 := by omega
  have i1 : In x1 := by omega
  have j1 : In y1 := by omega
  clear hI hx hv0 hv1 la ua lb ub le ue lc uc ld ud lf uf
  refine ⟨⟨i0, i1⟩, fun k1 l1 u1 t1 => ⟨fun n1 => ⟨⟨i0, j1⟩, fun k2 l2 u2 t2 => ⟨fun n2 => ⟨⟨j0, i1⟩, fun k3 l3 u3 t3 => ⟨fun n3 => ⟨⟨j0, j1⟩, fun k4 l4 u4 t4 => ⟨fun hg => ?_, fun hg => ⟨fun hp => ?_, fun hn => ?_⟩⟩⟩, fun n3 => ⟨fun hg => ?_, fun hg => ?_⟩⟩⟩, fun n2 => ⟨fun hg => ?_, fun hg => ?_⟩⟩⟩, fun n1 => ⟨fun hg => ?_, fun hg => ?_⟩⟩⟩
  · have := fits_c t1 l1 u1; have := fits_c t2 l2 u2; have := fits_c t3 l3 u3; have := fits_c t4 l4 u4
    generalize x0 * x1 = A at *; generalize x0 * y1 = B at *; generalize y0 * x1 = C at *; generalize y0 * y1 = D at *
    omega
  · rcases g3 with ⟨_, e1, e2, k5, k6, k7, k8, _⟩ | ⟨h, _⟩
    · rw [w_in k5, w_in k6, w_in k7, w_in k8, e1, e2]
      rw [← e1] at M1
      rw [← e2] at M2
      rw [← e1, ← e2]
      generalize x0 * x1 = A at *; generalize x0 * y1 = B at *; generalize y0 * x1 = C at *; generalize y0 * y1 = D at *
      clear e1 e2 k5 k6 k7 k8 E1 E2 hp t1 t2 t3 t4
      refine ⟨fun h1 => ⟨fun _ => trivial, fun n1 => ⟨fun _ => trivial, fun n2 => ⟨fun _ => trivial, fun n3 => ⟨fun _ => trivial, fun n4 => by omega⟩⟩⟩⟩, fun m1 => ⟨fun h1 => ⟨fun _ => trivial, fun n1 => ⟨fun _ => trivial, fun n2 => ⟨fun _ => trivial, fun n3 => ⟨fun _ => trivial, fun n4 => by omega⟩⟩⟩⟩, fun m2 => ⟨fun h1 => ⟨fun _ => trivial, fun n1 => ⟨fun _ => trivial, fun n2 => ⟨fun _ => trivial, fun n3 => ⟨fun _ => trivial, fun n4 => by omega⟩⟩⟩⟩, fun m3 => ⟨fun h1 => ⟨fun _ => trivial, fun n1 => ⟨fun _ => trivial, fun n2 => ⟨fun _ => trivial, fun n3 => ⟨fun _ => trivial, fun n4 => by omega⟩⟩⟩⟩, fun m4 => by omega⟩⟩⟩⟩
    · omega
  · rcases g3 with ⟨_, e1, e2, k5, k6, k7, k8, kv⟩ | ⟨h, _⟩
    · refine hn ⟨(fits_c t4 l4 u4).2 k8, ?_⟩
      rw [← e1] at E1
      rw [← e2] at E2
      have : In (x2 * x3) := by omega
      rw [w_in this]
      exact ⟨E1, E2⟩
    · omega
  all_goals
    rcases g3 with ⟨_, e1, e2, k5, k6, k7, k8, kv⟩ | ⟨h, hno⟩
    · first
        | omega
        | exact absurd ((fits_c t1 l1 u1).2 k5) (by omega)
        | exact absurd ((fits_c t2 l2 u2).2 k6) (by omega)
        | exact absurd ((fits_c t3 l3 u3).2 k7) (by omega)
    · omega
theorem IntervalEncloses_any (v0 v1 v2 v3 : Value) (w : World) (g0 : Pair v0) (g1 : Pair v1) (g2 : Num v2) (g3 : Num v3) : Calls Try.prog 6 #[v0, v1, v2, v3] w fun e w' => e = .returned (.bool true) ∧ Below w.heap.size w w' := by
  obtain ⟨x0, y0, rfl, hx0, hy0⟩ := g0
  obtain ⟨x1, y1, rfl, hx1, hy1⟩ := g1
  obtain ⟨x2, rfl, hx2⟩ := g2
  obtain ⟨x3, rfl, hx3⟩ := g3
  exact IntervalEncloses_walk x0 y0 x1 y1 x2 x3 w hx0 hy0 hx1 hy1 hx2 hx3
theorem mnC (a b c d : Int) : min4 (c * a) (c * b) (d * a) (d * b) = min4 (a * c) (a * d) (b * c) (b * d) ∧ max4 (c * a) (c * b) (d * a) (d * b) = max4 (a * c) (a * d) (b * c) (b * d) := by
  rw [Int.mul_comm c a, Int.mul_comm c b, Int.mul_comm d a, Int.mul_comm d b]
  simp only [min4, max4]
  omega
theorem some4 {a b c d S : Int} (hab : a ≤ b) (hcd : c ≤ d) (h : S = min4 (a * c) (a * d) (b * c) (b * d) ∨ S = max4 (a * c) (a * d) (b * c) (b * d)) : ∃ p q, a ≤ p ∧ p ≤ b ∧ c ≤ q ∧ q ≤ d ∧ S = p * q := by
  have h1 := min4_one (a * c) (a * d) (b * c) (b * d)
  have h2 := max4_one (a * c) (a * d) (b * c) (b * d)
  have h3 : S = a * c ∨ S = a * d ∨ S = b * c ∨ S = b * d := by
    rcases h with h | h <;> rw [h] <;> assumption
  rcases h3 with h | h | h | h
  · exact ⟨a, c, by omega, by omega, by omega, by omega, h⟩
  · exact ⟨a, d, by omega, by omega, by omega, by omega, h⟩
  · exact ⟨b, c, by omega, by omega, by omega, by omega, h⟩
  · exact ⟨b, d, by omega, by omega, by omega, by omega, h⟩
theorem mul_ass {a0 a1 b0 b1 c0 c1 u v s t L H L' H' : Int} (ha : a0 ≤ a1) (hb : b0 ≤ b1) (hc : c0 ≤ c1) (hu : u = min4 (a0 * b0) (a0 * b1) (a1 * b0) (a1 * b1)) (hv : v = max4 (a0 * b0) (a0 * b1) (a1 * b0) (a1 * b1))
    (hs : s = min4 (b0 * c0) (b0 * c1) (b1 * c0) (b1 * c1)) (ht : t = max4 (b0 * c0) (b0 * c1) (b1 * c0) (b1 * c1))
    (hL : L = min4 (u * c0) (u * c1) (v * c0) (v * c1)) (hH : H = max4 (u * c0) (u * c1) (v * c0) (v * c1)) (hL' : L' = min4 (a0 * s) (a0 * t) (a1 * s) (a1 * t)) (hH' : H' = max4 (a0 * s) (a0 * t) (a1 * s) (a1 * t)) : L = L' ∧ H = H' := by
  have huv : u ≤ v := by rw [hu, hv]; simp only [min4, max4]; omega
  have hst : s ≤ t := by rw [hs, ht]; simp only [min4, max4]; omega
  have k1 : ∀ p S, a0 ≤ p → p ≤ a1 → S = s ∨ S = t → L ≤ p * S ∧ p * S ≤ H := by
    intro p S p0 p1 hS
    obtain ⟨q, r, q0, q1, r0, r1, e⟩ := some4 (S := S) hb hc (by rw [← hs, ← ht]; exact hS)
    have e1 := encl (x := p) (y := q) p0 p1 q0 q1
    rw [← hu, ← hv] at e1
    have e2 := encl (x := p * q) (y := r) e1.1 e1.2 r0 r1
    rw [← hL, ← hH, Int.mul_assoc, ← e] at e2
    exact e2
  have k2 : ∀ r S, c0 ≤ r → r ≤ c1 → S = u ∨ S = v → L' ≤ S * r ∧ S * r ≤ H' := by
    intro r S r0 r1 hS
    obtain ⟨p, q, p0, p1, q0, q1, e⟩ := some4 (S := S) ha hb (by rw [← hu, ← hv]; exact hS)
    have e1 := encl (x := q) (y := r) q0 q1 r0 r1
    rw [← hs, ← ht] at e1
    have e2 := encl (x := p) (y := q * r) p0 p1 e1.1 e1.2
    rw [← hL', ← hH', ← Int.mul_assoc, ← e] at e2
    exact e2
  have a1' := k1 a0 s (by omega) (by omega) (Or.inl rfl); have a2' := k1 a0 t (by omega) (by omega) (Or.inr rfl)
  have a3' := k1 a1 s (by omega) (by omega) (Or.inl rfl); have a4' := k1 a1 t (by omega) (by omega) (Or.inr rfl)
  have b1' := k2 c0 u (by omega) (by omega) (Or.inl rfl); have b2' := k2 c1 u (by omega) (by omega) (Or.inl rfl)
  have b3' := k2 c0 v (by omega) (by omega) (Or.inr rfl); have b4' := k2 c1 v (by omega) (by omega) (Or.inr rfl)
  simp only [min4, max4] at hL hH hL' hH'
  clear k1 k2 hu hv hs ht
  generalize u * c0 = A at *; generalize u * c1 = B at *; generalize v * c0 = C at *; generalize v * c1 = D at *
  generalize a0 * s = E at *; generalize a0 * t = F at *; generalize a1 * s = G at *; generalize a1 * t = K at *
  omega
theorem mul_dis {a0 a1 b0 b1 c0 c1 u v s t L H : Int} (ha : a0 ≤ a1) (hb : b0 ≤ b1) (hc : c0 ≤ c1) (hu : u = min4 (a0 * b0) (a0 * b1) (a1 * b0) (a1 * b1)) (hv : v = max4 (a0 * b0) (a0 * b1) (a1 * b0) (a1 * b1))
    (hs : s = min4 (a0 * c0) (a0 * c1) (a1 * c0) (a1 * c1)) (ht : t = max4 (a0 * c0) (a0 * c1) (a1 * c0) (a1 * c1))
    (hL : L = min4 (a0 * (b0 + c0)) (a0 * (b1 + c1)) (a1 * (b0 + c0)) (a1 * (b1 + c1))) (hH : H = max4 (a0 * (b0 + c0)) (a0 * (b1 + c1)) (a1 * (b0 + c0)) (a1 * (b1 + c1))) : u + s ≤ L ∧ H ≤ v + t := by
  simp only [min4, max4] at *
  simp only [Int.mul_add] at hL hH
  generalize a0 * b0 = A at *; generalize a0 * b1 = B at *; generalize a1 * b0 = C at *; generalize a1 * b1 = D at *
  generalize a0 * c0 = E at *; generalize a0 * c1 = F at *; generalize a1 * c0 = G at *; generalize a1 * c1 = K at *
  have h1 : u ≤ A ∧ u ≤ B ∧ u ≤ C ∧ u ≤ D := by clear hv hs ht hL hH; omega
  have h2 : A ≤ v ∧ B ≤ v ∧ C ≤ v ∧ D ≤ v := by clear hu hs ht hL hH; omega
  have h3 : s ≤ E ∧ s ≤ F ∧ s ≤ G ∧ s ≤ K := by clear hv hu ht hL hH; omega
  have h4 : E ≤ t ∧ F ≤ t ∧ G ≤ t ∧ K ≤ t := by clear hv hs hu hL hH; omega
  have h5 : L = A + E ∨ L = B + F ∨ L = C + G ∨ L = D + K := by clear hv hs ht hu hH h1 h2 h3 h4; omega
  have h6 : H = A + E ∨ H = B + F ∨ H = C + G ∨ H = D + K := by clear hv hs ht hL hu h1 h2 h3 h4 h5; omega
  clear hu hv hs ht hL hH
  omega
theorem mul_val {a b c d x y e : Int} (h : OpP (V a b ∧ V c d) (min4 (a * c) (a * d) (b * c) (b * d)) (max4 (a * c) (a * d) (b * c) (b * d)) x y e) (he : e = 0) : (V a b ∧ V c d) ∧ V x y ∧ x = min4 (a * c) (a * d) (b * c) (b * d) ∧ y = max4 (a * c) (a * d) (b * c) (b * d) := by
  rcases op_un h with ⟨h1, h2, h3, h4, h5⟩ | ⟨_, h2, h3, h4, h5⟩ | ⟨h1, _, _, h5⟩
  · rw [h3, h4]; exact ⟨h1, h2, rfl, rfl⟩
  · omega
  · omega
theorem mul_comm' {a b c d x y e x' y' e' : Int} (h : OpP (V a b ∧ V c d) (min4 (a * c) (a * d) (b * c) (b * d)) (max4 (a * c) (a * d) (b * c) (b * d)) x y e) (h' : OpP (V c d ∧ V a b) (min4 (c * a) (c * b) (d * a) (d * b)) (max4 (c * a) (c * b) (d * a) (d * b)) x' y' e') : x = x' ∧ y = y' ∧ e = e' := by
  rw [(mnC a b c d).1, (mnC a b c d).2, show (V c d ∧ V a b) = (V a b ∧ V c d) from propext And.comm] at h'
  exact h.eq h'
theorem r64 {x : Int} (h : -1099511627776 ≤ x) (k : x ≤ 1099511627776) : I64 x := ⟨by omega, by omega⟩
set_option maxRecDepth 100000 in
set_option maxHeartbeats 4000000 in
theorem IntervalLaws_walk (x0 y0 x1 y1 x2 y2 : Int) (w : World) (hx0 : I64 x0) (hy0 : I64 y0) (hx1 : I64 x1) (hy1 : I64 y1) (hx2 : I64 x2) (hy2 : I64 y2) : Calls Try.prog 10 #[.agg #[.int .i64 x0, .int .i64 y0], .agg #[.int .i64 x1, .int .i64 y1], .agg #[.int .i64 x2, .int .i64 y2]] w fun e w' => e = .returned (.bool true) ∧ Below w.heap.size w w' := by
  refine sx_law (tb := tb) (w := w) (σ := []) (τ := []) fine (C := [trueCon 12, cAdd 13, cSub 15, cMul 17, cIn 31])
    ((conCons okSane (conCons okAdd (conCons okSub (conCons okMul (conCons okIn noCon))))) _ _) 1000 10 (argsOf [.agg [some .i64, some .i64], .agg [some .i64, some .i64], .agg [some .i64, some .i64]] 0) ⟨[i64b, i64b, i64b, i64b, i64b, i64b], [], []⟩ [x0, y0, x1, y1, x2, y2]
    (in_bnd ⟨hx0.1, hx0.2, hy0.1, hy0.2, hx1.1, hx1.2, hy1.1, hy1.2, hx2.1, hx2.2, hy2.1, hy2.2, trivial⟩) ?_
  rw [tree_l10]
  simp only [T.law, Bool.false_eq_true, E.den, B.prop, allB, inB, List.map_cons, List.map_nil, List.getD_cons_zero, List.getD_cons_succ, List.cons_append, List.nil_append, List.append_nil, List.getElem?_cons_zero, List.getElem?_cons_succ, true_and, and_true, trueCon, cFits, cAdd, cSub, cMul, cOp, cMeet, cHull, cIn, cSqr, cRoot]
  refine fun s _ _ _ => ⟨⟨hx0, hy0, hx1, hy1⟩, fun a la ua b lb ub e _ _ h1 => ⟨⟨hx1, hy1, hx0, hy0⟩, fun c lc uc d ld ud f _ _ h2 => ⟨⟨hx0, hy0, hx1, hy1⟩, fun a' lx ux b' lx' ux' ex _ _ h3 => ⟨⟨hx1, hy1, hx0, hy0⟩, fun y ly uy y' ly' uy' ey0 _ _ h4 => ⟨fun hq => ?_, fun _ => ⟨fun he => ?_, fun he => ?_⟩⟩⟩⟩⟩⟩
  · have q1 := mul_comm' h3 h4
    have q2 : a = c ∧ b = d ∧ e = f := by
      rw [show (V x1 y1 ∧ V x0 y0) = (V x0 y0 ∧ V x1 y1) from propext And.comm, Int.add_comm x1 x0, Int.add_comm y1 y0] at h2
      exact h1.eq h2
    omega
  · refine ⟨⟨r64 la ua, r64 lb ub, hx1, hy1⟩, fun g lg ug g' lg' ug' eg _ _ h5 => ⟨⟨hx0, hy0, r64 lg ug, r64 lg' ug'⟩, fun k0 l0 u0 e0 _ _ h50 => ⟨fun hb => ?_, fun _ => ⟨⟨hx1, hy1, hx2, hy2⟩, fun m lm um n ln un eb _ _ h6 => ⟨⟨r64 la ua, r64 lb ub, hx2, hy2⟩, fun p lp up q lq uq ep _ _ h7 => ⟨⟨hx0, hy0, r64 lm um, r64 ln un⟩, fun p' lp' up' q' lq' uq' ep' _ _ h8 => ?_⟩⟩⟩⟩⟩⟩
    · have q1 := op_un h1; have q2 := op_un h5
      have q3 := h50.1 ⟨by omega, by omega⟩
      omega
    refine ⟨fun hb => ?_, fun _ => ⟨⟨hx1, hy1, hx2, hy2⟩, fun yl lyl uyl yu lyu uyu ey _ _ h9 => ⟨⟨r64 lx ux, r64 lx' ux', hx2, hy2⟩, fun z lz uz z' lz' uz' ez _ _ h10 => ⟨⟨hx0, hy0, r64 lyl uyl, r64 lyu uyu⟩, fun w lw uw w' lw' uw' ew _ _ h11 => ⟨fun hb => ?_, fun _ => ⟨⟨hx0, hy0, hx2, hy2⟩, fun xz _ _ xz' _ _ exz _ _ h12 => ⟨⟨hx0, hy0, r64 lm um, r64 ln un⟩, fun wh lwh uwh wh' lwh' uwh' ewh _ _ h13 => ⟨⟨r64 lx ux, r64 lx' ux', by refine r64 ?_ ?_ <;> assumption, by refine r64 ?_ ?_ <;> assumption⟩, fun pa lpa upa pa' lpa' upa' epa _ _ h14 => ⟨fun _ => trivial, fun hn => ⟨⟨r64 lwh uwh, r64 lwh' uwh', r64 lpa upa, r64 lpa' upa'⟩, fun k lk uk ek _ _ h15 => ?_⟩⟩⟩⟩⟩⟩⟩⟩⟩⟩
    · have q1 := op_un h1; have q2 := op_un h6; have q3 := op_un h7; have q4 := op_un h8
      omega
    · have m1 := mul_val h3 hb.1.1.1.1; have m2 := mul_val h9 hb.1.1.1.2; have m3 := mul_val h10 hb.1.1.2; have m4 := mul_val h11 hb.1.2
      exact hb.2 (mul_ass (by omega) (by omega) (by omega) m1.2.2.1 m1.2.2.2 m2.2.2.1 m2.2.2.2 m3.2.2.1 m3.2.2.2 m4.2.2.1 m4.2.2.2)
    · have o1 : eb = 0 := by omega
      have o2 : ex = 0 := by omega
      have o3 : exz = 0 := by omega
      have o4 : ewh = 0 := by omega
      have o5 : epa = 0 := by omega
      have m1 := mul_val h3 o2; have m2 := mul_val h12 o3; have m3 := mul_val h13 o4
      have m4 := op_un h6; have m5 := op_un h14
      have hm : m = x1 + x2 ∧ n = y1 + y2 := by omega
      rw [hm.1, hm.2] at m3
      obtain ⟨d1, d2⟩ := mul_dis (by omega) (by omega) (by omega) m1.2.2.1 m1.2.2.2 m2.2.2.1 m2.2.2.2 m3.2.2.1 m3.2.2.2
      have hwv : V wh wh' := m3.2.1
      have v15 : V pa pa' ∧ pa = a' + xz ∧ pa' = b' + xz' := by omega
      have i := h15.1 ⟨hwv, v15.1⟩
      clear m1 m2 m3 h3 h9 h10 h11 h12 h13 h6 h7 h8 h14 h15 h1 h2 h4
      omega
  · refine ⟨⟨hx1, hy1, hx2, hy2⟩, fun m lm um n ln un eb _ _ h6 => ⟨⟨r64 la ua, r64 lb ub, hx2, hy2⟩, fun p lp up q lq uq ep _ _ h7 => ⟨⟨hx0, hy0, r64 lm um, r64 ln un⟩, fun p' lp' up' q' lq' uq' ep' _ _ h8 => ?_⟩⟩⟩
    refine ⟨⟨hx1, hy1, hx2, hy2⟩, fun yl lyl uyl yu lyu uyu ey _ _ h9 => ⟨⟨r64 lx ux, r64 lx' ux', hx2, hy2⟩, fun z lz uz z' lz' uz' ez _ _ h10 => ⟨⟨hx0, hy0, r64 lyl uyl, r64 lyu uyu⟩, fun w lw uw w' lw' uw' ew _ _ h11 => ⟨fun hb => ?_, fun _ => ⟨⟨hx0, hy0, hx2, hy2⟩, fun xz _ _ xz' _ _ exz _ _ h12 => ⟨⟨hx0, hy0, r64 lm um, r64 ln un⟩, fun wh lwh uwh wh' lwh' uwh' ewh _ _ h13 => ⟨⟨r64 lx ux, r64 lx' ux', by refine r64 ?_ ?_ <;> assumption, by refine r64 ?_ ?_ <;> assumption⟩, fun pa lpa upa pa' lpa' upa' epa _ _ h14 => ⟨fun _ => trivial, fun hn => ⟨⟨r64 lwh uwh, r64 lwh' uwh', r64 lpa upa, r64 lpa' upa'⟩, fun k lk uk ek _ _ h15 => ?_⟩⟩⟩⟩⟩⟩⟩⟩⟩
    · have m1 := mul_val h3 hb.1.1.1.1; have m2 := mul_val h9 hb.1.1.1.2; have m3 := mul_val h10 hb.1.1.2; have m4 := mul_val h11 hb.1.2
      exact hb.2 (mul_ass (by omega) (by omega) (by omega) m1.2.2.1 m1.2.2.2 m2.2.2.1 m2.2.2.2 m3.2.2.1 m3.2.2.2 m4.2.2.1 m4.2.2.2)
    · have o1 : eb = 0 := by omega
      have o2 : ex = 0 := by omega
      have o3 : exz = 0 := by omega
      have o4 : ewh = 0 := by omega
      have o5 : epa = 0 := by omega
      have m1 := mul_val h3 o2; have m2 := mul_val h12 o3; have m3 := mul_val h13 o4
      have m4 := op_un h6; have m5 := op_un h14
      have hm : m = x1 + x2 ∧ n = y1 + y2 := by omega
      rw [hm.1, hm.2] at m3
      obtain ⟨d1, d2⟩ := mul_dis (by omega) (by omega) (by omega) m1.2.2.1 m1.2.2.2 m2.2.2.1 m2.2.2.2 m3.2.2.1 m3.2.2.2
      have hwv : V wh wh' := m3.2.1
      have v15 : V pa pa' ∧ pa = a' + xz ∧ pa' = b' + xz' := by omega
      have i := h15.1 ⟨hwv, v15.1⟩
      clear m1 m2 m3 h3 h9 h10 h11 h12 h13 h6 h7 h8 h14 h15 h1 h2 h4
      omega
theorem IntervalLaws_any (v0 v1 v2 : Value) (w : World) (g0 : Pair v0) (g1 : Pair v1) (g2 : Pair v2) : Calls Try.prog 10 #[v0, v1, v2] w fun e w' => e = .returned (.bool true) ∧ Below w.heap.size w w' := by
  obtain ⟨x0, y0, rfl, hx0, hy0⟩ := g0
  obtain ⟨x1, y1, rfl, hx1, hy1⟩ := g1
  obtain ⟨x2, y2, rfl, hx2, hy2⟩ := g2
  exact IntervalLaws_walk x0 y0 x1 y1 x2 y2 w hx0 hy0 hx1 hy1 hx2 hy2
end Go.Proofs.Ytgaaommfemgnnaa
