/- DERIVED. IntervalInside, for any arguments. -/
import Derived.Test.YtgaaommfemgnnaaEcx
import Derived.Test.YtgaaommfemgnnaaElawr
import Derived.Test.YtgaaommfemgnnaaEtrn
namespace Go.Proofs.Ytgaaommfemgnnaa
open Go.Dx Go.RowKit
set_option linter.unusedVariables false
theorem lin {x a b : Int} (c : Int) (h1 : a ≤ x) (h2 : x ≤ b) : min (a * c) (b * c) ≤ x * c ∧ x * c ≤ max (a * c) (b * c) := by
  rcases Int.lt_or_le c 0 with k | k
  · have e1 := Int.mul_le_mul_of_nonpos_right h1 (Int.le_of_lt k)
    have e2 := Int.mul_le_mul_of_nonpos_right h2 (Int.le_of_lt k)
    omega
  · have e1 := Int.mul_le_mul_of_nonneg_right h1 k
    have e2 := Int.mul_le_mul_of_nonneg_right h2 k
    omega
theorem encl {a b c d x y : Int} (h1 : a ≤ x) (h2 : x ≤ b) (h3 : c ≤ y) (h4 : y ≤ d) : min4 (a * c) (a * d) (b * c) (b * d) ≤ x * y ∧ x * y ≤ max4 (a * c) (a * d) (b * c) (b * d) := by
  have p := lin c h1 h2
  have q := lin d h1 h2
  have r := lin x h3 h4
  rw [Int.mul_comm y x, Int.mul_comm c x, Int.mul_comm d x] at r
  simp only [min4, max4]
  omega
theorem sq_in {a b x : Int} (h1 : a ≤ x) (h2 : x ≤ b) : (if a ≤ 0 ∧ 0 ≤ b then 0 else min (a * a) (b * b)) ≤ x * x ∧ x * x ≤ max (a * a) (b * b) ∧ 0 ≤ (if a ≤ 0 ∧ 0 ≤ b then 0 else min (a * a) (b * b)) := by
  have pa := sq_pos a
  have pb := sq_pos b
  have px := sq_pos x
  refine ⟨?_, ?_, ?_⟩
  · split
    · exact px
    · rename_i h
      rcases Int.lt_or_le 0 a with k | k
      · have := sq_le (x := a) (y := x) (by omega) h1; omega
      · have := sq_le' (x := x) (y := b) (by omega) h2; omega
  · rcases Int.lt_or_le 0 x with k | k
    · have := sq_le (x := x) (y := b) (by omega) h2; omega
    · have := sq_le' (x := a) (y := x) (by omega) h1; omega
  · split <;> omega
/-- What is inside gives what is inside. -/
def Q (x y e x' y' e' : Int) : Prop := e' = 0 → e = 0 ∧ V x y ∧ V x' y' ∧ x' ≤ x ∧ y ≤ y'
theorem q_op {A A' : Prop} {lo hi lo' hi' x y e x' y' e' : Int} (h : OpP A lo hi x y e) (h' : OpP A' lo' hi' x' y' e') (hA : A) (k : lo' ≤ lo ∧ hi ≤ hi' ∧ lo ≤ hi) : Q x y e x' y' e' := fun he => by
  rcases op_un h' with ⟨_, v, q1, q2, _⟩ | ⟨_, _, _, _, q⟩ | ⟨_, _, _, q⟩
  · have := h.1 hA (by omega)
    omega
  · omega
  · omega
theorem q_mul {a b c d p q r s : Int} (h1 : c ≤ a) (h2 : b ≤ d) (h3 : r ≤ p) (h4 : q ≤ s) (hab : a ≤ b) (hpq : p ≤ q) :
    min4 (c * r) (c * s) (d * r) (d * s) ≤ min4 (a * p) (a * q) (b * p) (b * q) ∧ max4 (a * p) (a * q) (b * p) (b * q) ≤ max4 (c * r) (c * s) (d * r) (d * s) ∧ min4 (a * p) (a * q) (b * p) (b * q) ≤ max4 (a * p) (a * q) (b * p) (b * q) := by
  have e1 := encl (a := c) (b := d) (c := r) (d := s) (x := a) (y := p) (by omega) (by omega) (by omega) (by omega)
  have e2 := encl (a := c) (b := d) (c := r) (d := s) (x := a) (y := q) (by omega) (by omega) (by omega) (by omega)
  have e3 := encl (a := c) (b := d) (c := r) (d := s) (x := b) (y := p) (by omega) (by omega) (by omega) (by omega)
  have e4 := encl (a := c) (b := d) (c := r) (d := s) (x := b) (y := q) (by omega) (by omega) (by omega) (by omega)
  simp only [min4, max4] at *
  omega
theorem q_sqr {a b c d : Int} (h1 : c ≤ a) (h2 : b ≤ d) (hab : a ≤ b) : sqL c d ≤ sqL a b ∧ max (a * a) (b * b) ≤ max (c * c) (d * d) ∧ sqL a b ≤ max (a * a) (b * b) := by
  have e1 := sq_in (a := c) (b := d) (x := a) (by omega) (by omega)
  have e2 := sq_in (a := c) (b := d) (x := b) (by omega) (by omega)
  have pa := sq_pos a
  have pb := sq_pos b
  unfold sqL
  refine ⟨?_, by omega, by split <;> omega⟩
  by_cases k : a ≤ 0 ∧ 0 ≤ b
  · rw [if_pos k, if_pos (by omega)]; exact Int.le_refl _
  · rw [if_neg k]; omega
theorem q_scl {a b c d n D x y e x' y' e' : Int} (h : SclP a b n D x y e) (h' : SclP c d n D x' y' e') (va : V a b) (h1 : c ≤ a) (h2 : b ≤ d) : Q x y e x' y' e' := fun he => by
  rcases scl_in h' with ⟨_, vc, vr, v, q1, q2⟩ | ⟨q, _⟩
  · have d1 := vr.1
    have l1 := lin n h1 (show a ≤ d by omega)
    have l2 := lin n (show c ≤ b by omega) h2
    rw [Int.mul_comm c, Int.mul_comm d, Int.mul_comm a] at l1
    rw [Int.mul_comm c, Int.mul_comm d, Int.mul_comm b] at l2
    have f1 := flo_mono (x := min (n * c) (n * d)) (y := min (n * a) (n * b)) (d := D) (by omega) (by omega)
    have f2 := cei_mono (x := max (n * a) (n * b)) (y := max (n * c) (n * d)) (d := D) (by omega) (by omega)
    have f3 := (flo_cei (x := min (n * a) (n * b)) (d := D) (by omega)).1
    have f4 := cei_mono (x := min (n * a) (n * b)) (y := max (n * a) (n * b)) (d := D) (by omega) (by omega)
    have := (h.2.2 va vr).1 trivial (by omega)
    omega
  · exact absurd he q
theorem rt_up {a b x y : Int} (h : IsRt a x) (k : IsUp b y) (hab : a ≤ b) : x ≤ y := by
  refine rt_le k.1 ?_
  have h1 := h.2.1
  have h2 := k.2.1
  have e : (y + 1) * (y + 1) = y * y + 2 * y + 1 := by grind
  have := k.1
  omega
theorem q_root {a b c d x y e x' y' e' : Int} (h : RootP a b x y e) (h' : RootP c d x' y' e') (va : V a b) (vc : V c d) (h1 : c ≤ a) (h2 : b ≤ d) (bx : x ≤ 1048576 ∧ y ≤ 1048576 ∧ x' ≤ 1048576 ∧ y' ≤ 1048576) : Q x y e x' y' e' := fun he => by
  by_cases c0 : 0 ≤ c
  · obtain ⟨k1, k2, _⟩ := h'.1 vc c0
    obtain ⟨m1, m2, m3⟩ := h.1 va (by omega)
    have r1 := rt_up m1 m2 va.2.1
    have r2 := rt_up k1 k2 vc.2.1
    have r3 : x' ≤ x := rt_le m1.1 (by have := k1.2.1; have := m1.2.2; omega)
    have r4 : y ≤ y' := by
      rcases m2.2.2 with z | z
      · have := k2.1; omega
      · by_cases q : y ≤ y'
        · exact q
        · exfalso
          have ky := k2.1
          have m : y' * y' ≤ (y - 1) * (y - 1) := Int.mul_le_mul (by omega) (by omega) ky (by omega)
          have := k2.2.1
          omega
    have := m1.1
    have := k1.1
    exact ⟨m3, by omega, by omega, r3, r4⟩
  · have := h'.2.1 vc (by omega)
    omega
theorem cB {x : Int} (h : -9223372036854775808 ≤ x) (k : x ≤ 18446744073709551615) : clampB x = x := by unfold clampB; rw [if_pos ⟨h, k⟩]
theorem q_cl {x y e x' y' e' : Int} (h : Q x y e x' y' e') (b1 : In x ∧ In y ∧ 0 ≤ e ∧ e ≤ 140) (b2 : In x' ∧ In y' ∧ 0 ≤ e' ∧ e' ≤ 140) : Q (clampB x) (clampB y) (clampB e) (clampB x') (clampB y') (clampB e') := by
  rw [cB (by omega) (by omega), cB (by omega) (by omega), cB (by omega) (by omega), cB (by omega) (by omega), cB (by omega) (by omega), cB (by omega) (by omega)]
  exact h
theorem in_in {a b c d k f : Int} (h : InP a b c d k f) (hf : f = 0) (hk : ¬ k = 0) (k1 : 0 ≤ k ∧ k ≤ 1) : V a b ∧ V c d ∧ c ≤ a ∧ b ≤ d := by
  by_cases v : V a b ∧ V c d
  · have := (h.1 v).1.1 (by omega)
    exact ⟨v.1, v.2, this.1, this.2⟩
  · have := h.2 v
    omega
set_option maxRecDepth 100000 in
set_option maxHeartbeats 4000000 in
theorem walk_ins (a0 a1 b0 b1 c0 c1 d0 d1 N D : Int) : (runC tb [lawCon 12 [], cIn 31, cAdd 13, cSub 15, cMul 17, cSqr 21, cScl 25, cRoot 23, cHull 29, lIns] 80 (lawCon 9 [two, two, two, two, two])).res [lawCon 12 [], cIn 31, cAdd 13, cSub 15, cMul 17, cSqr 21, cScl 25, cRoot 23, cHull 29, lIns] (fun ys => ys = [.n 1]) [.n a0, .n a1, .n b0, .n b1, .n c0, .n c1, .n d0, .n d1, .n N, .n D] := by
  rw [tree_lins]
  refine res_con rfl trivial (fun z _ _ hz => ?_)
  obtain rfl := n_inj (show [DV.n z] = [.n 1] from hz)
  refine res_ite (fun h => absurd (show (1 : Int) = 0 from h) (by decide)) fun _ => ?_
  refine res_con rfl trivial (fun k k0 k1 f _ _ h1 => ?_)
  replace h1 := cvh (b := InP a0 a1 c0 c1 k f) (by kernel_rfl) h1
  refine res_con rfl trivial (fun l l0 l1 g _ _ h2 => ?_)
  replace h2 := cvh (b := InP b0 b1 d0 d1 l g) (by kernel_rfl) h2
  refine res_ite (fun _ => rfl) fun m => ?_
  replace m := cvh (b := ¬ (((¬ f = 0 ∨ ¬ g = 0) ∨ k = 0) ∨ l = 0)) (by kernel_rfl) m
  obtain ⟨va, vc, i1, i2⟩ := in_in h1 (by omega) (by omega) ⟨k0, k1⟩
  obtain ⟨vb, vd, j1, j2⟩ := in_in h2 (by omega) (by omega) ⟨l0, l1⟩
  clear h1 h2 m
  refine res_con rfl trivial (fun x0 p0 q0 y0 r0 s0 e0 t0 u0 h0 => ?_)
  replace h0 := cvh (b := OpP (V a0 a1 ∧ V b0 b1) (a0 + b0) (a1 + b1) x0 y0 e0) (by kernel_rfl) h0
  refine res_con rfl trivial (fun x1 p1 q1 y1 r1 s1 e1 t1 u1 h1 => ?_)
  replace h1 := cvh (b := OpP (V a0 a1 ∧ V b0 b1) (a0 - b1) (a1 - b0) x1 y1 e1) (by kernel_rfl) h1
  refine res_con rfl trivial (fun x2 p2 q2 y2 r2 s2 e2 t2 u2 h2 => ?_)
  replace h2 := cvh (b := OpP (V a0 a1 ∧ V b0 b1) (min4 (a0 * b0) (a0 * b1) (a1 * b0) (a1 * b1)) (max4 (a0 * b0) (a0 * b1) (a1 * b0) (a1 * b1)) x2 y2 e2) (by kernel_rfl) h2
  refine res_con rfl trivial (fun x3 p3 q3 y3 r3 s3 e3 t3 u3 h3 => ?_)
  replace h3 := cvh (b := OpP (V a0 a1) (sqL a0 a1) (max (a0 * a0) (a1 * a1)) x3 y3 e3) (by kernel_rfl) h3
  refine res_con rfl trivial (fun x4 p4 q4 y4 r4 s4 e4 t4 u4 h4 => ?_)
  replace h4 := cvh (b := SclP a0 a1 N D x4 y4 e4) (by kernel_rfl) h4
  refine res_con rfl trivial (fun x5 p5 q5 y5 r5 s5 e5 t5 u5 h5 => ?_)
  replace h5 := cvh (b := RootP a0 a1 x5 y5 e5) (by kernel_rfl) h5
  refine res_con rfl trivial (fun x6 p6 q6 y6 r6 s6 e6 t6 u6 h6 => ?_)
  replace h6 := cvh (b := OpP (V a0 a1 ∧ V b0 b1) (min a0 b0) (max a1 b1) x6 y6 e6) (by kernel_rfl) h6
  refine res_con rfl trivial (fun x7 p7 q7 y7 r7 s7 e7 t7 u7 h7 => ?_)
  replace h7 := cvh (b := OpP (V c0 c1 ∧ V d0 d1) (c0 + d0) (c1 + d1) x7 y7 e7) (by kernel_rfl) h7
  refine res_con rfl trivial (fun x8 p8 q8 y8 r8 s8 e8 t8 u8 h8 => ?_)
  replace h8 := cvh (b := OpP (V c0 c1 ∧ V d0 d1) (c0 - d1) (c1 - d0) x8 y8 e8) (by kernel_rfl) h8
  refine res_con rfl trivial (fun x9 p9 q9 y9 r9 s9 e9 t9 u9 h9 => ?_)
  replace h9 := cvh (b := OpP (V c0 c1 ∧ V d0 d1) (min4 (c0 * d0) (c0 * d1) (c1 * d0) (c1 * d1)) (max4 (c0 * d0) (c0 * d1) (c1 * d0) (c1 * d1)) x9 y9 e9) (by kernel_rfl) h9
  refine res_con rfl trivial (fun x10 p10 q10 y10 r10 s10 e10 t10 u10 h10 => ?_)
  replace h10 := cvh (b := OpP (V c0 c1) (sqL c0 c1) (max (c0 * c0) (c1 * c1)) x10 y10 e10) (by kernel_rfl) h10
  refine res_con rfl trivial (fun x11 p11 q11 y11 r11 s11 e11 t11 u11 h11 => ?_)
  replace h11 := cvh (b := SclP c0 c1 N D x11 y11 e11) (by kernel_rfl) h11
  refine res_con rfl trivial (fun x12 p12 q12 y12 r12 s12 e12 t12 u12 h12 => ?_)
  replace h12 := cvh (b := RootP c0 c1 x12 y12 e12) (by kernel_rfl) h12
  refine res_con rfl trivial (fun x13 p13 q13 y13 r13 s13 e13 t13 u13 h13 => ?_)
  replace h13 := cvh (b := OpP (V c0 c1 ∧ V d0 d1) (min c0 d0) (max c1 d1) x13 y13 e13) (by kernel_rfl) h13
  have g0 : Q x0 y0 e0 x7 y7 e7 := q_op h0 h7 ⟨va, vb⟩ (by omega)
  have g1 : Q x1 y1 e1 x8 y8 e8 := q_op h1 h8 ⟨va, vb⟩ (by omega)
  have g2 : Q x2 y2 e2 x9 y9 e9 := q_op h2 h9 ⟨va, vb⟩ (q_mul i1 i2 j1 j2 va.2.1 vb.2.1)
  have g3 : Q x3 y3 e3 x10 y10 e10 := q_op h3 h10 va (q_sqr i1 i2 va.2.1)
  have g4 : Q x4 y4 e4 x11 y11 e11 := q_scl h4 h11 va i1 i2
  have g5 : Q x5 y5 e5 x12 y12 e12 := q_root h5 h12 va vc i1 i2 ⟨by omega, by omega, by omega, by omega⟩
  have g6 : Q x6 y6 e6 x13 y13 e13 := q_op h6 h13 ⟨va, vb⟩ (by omega)
  clear h0 h1 h2 h3 h4 h5 h6 h7 h8 h9 h10 h11 h12 h13
  refine res_dat (.sl none 0 [[.n x0, .n y0, .n e0], [.n x1, .n y1, .n e1], [.n x2, .n y2, .n e2], [.n x3, .n y3, .n e3], [.n x4, .n y4, .n e4], [.n x5, .n y5, .n e5], [.n x6, .n y6, .n e6]]) (by kernel_rfl) ?_
  refine res_dat (.sl none 0 [[.n x7, .n y7, .n e7], [.n x8, .n y8, .n e8], [.n x9, .n y9, .n e9], [.n x10, .n y10, .n e10], [.n x11, .n y11, .n e11], [.n x12, .n y12, .n e12], [.n x13, .n y13, .n e13]]) (by kernel_rfl) ?_
  have all : ∀ i : Int, 0 ≤ i → i < 7 → Q (((.sl none 0 [[.n x0, .n y0, .n e0], [.n x1, .n y1, .n e1], [.n x2, .n y2, .n e2], [.n x3, .n y3, .n e3], [.n x4, .n y4, .n e4], [.n x5, .n y5, .n e5], [.n x6, .n y6, .n e6]]) : DV).at i 0) (((.sl none 0 [[.n x0, .n y0, .n e0], [.n x1, .n y1, .n e1], [.n x2, .n y2, .n e2], [.n x3, .n y3, .n e3], [.n x4, .n y4, .n e4], [.n x5, .n y5, .n e5], [.n x6, .n y6, .n e6]]) : DV).at i 1) (((.sl none 0 [[.n x0, .n y0, .n e0], [.n x1, .n y1, .n e1], [.n x2, .n y2, .n e2], [.n x3, .n y3, .n e3], [.n x4, .n y4, .n e4], [.n x5, .n y5, .n e5], [.n x6, .n y6, .n e6]]) : DV).at i 2) (((.sl none 0 [[.n x7, .n y7, .n e7], [.n x8, .n y8, .n e8], [.n x9, .n y9, .n e9], [.n x10, .n y10, .n e10], [.n x11, .n y11, .n e11], [.n x12, .n y12, .n e12], [.n x13, .n y13, .n e13]]) : DV).at i 0) (((.sl none 0 [[.n x7, .n y7, .n e7], [.n x8, .n y8, .n e8], [.n x9, .n y9, .n e9], [.n x10, .n y10, .n e10], [.n x11, .n y11, .n e11], [.n x12, .n y12, .n e12], [.n x13, .n y13, .n e13]]) : DV).at i 1) (((.sl none 0 [[.n x7, .n y7, .n e7], [.n x8, .n y8, .n e8], [.n x9, .n y9, .n e9], [.n x10, .n y10, .n e10], [.n x11, .n y11, .n e11], [.n x12, .n y12, .n e12], [.n x13, .n y13, .n e13]]) : DV).at i 2) := fun i h0 h7 => by
    rcases (show i = 0 ∨ i = 1 ∨ i = 2 ∨ i = 3 ∨ i = 4 ∨ i = 5 ∨ i = 6 by omega) with rfl | rfl | rfl | rfl | rfl | rfl | rfl
    · have z := q_cl g0 ⟨⟨by omega, by omega⟩, ⟨by omega, by omega⟩, t0, u0⟩ ⟨⟨by omega, by omega⟩, ⟨by omega, by omega⟩, t7, u7⟩
      exact z
    · have z := q_cl g1 ⟨⟨by omega, by omega⟩, ⟨by omega, by omega⟩, t1, u1⟩ ⟨⟨by omega, by omega⟩, ⟨by omega, by omega⟩, t8, u8⟩
      exact z
    · have z := q_cl g2 ⟨⟨by omega, by omega⟩, ⟨by omega, by omega⟩, t2, u2⟩ ⟨⟨by omega, by omega⟩, ⟨by omega, by omega⟩, t9, u9⟩
      exact z
    · have z := q_cl g3 ⟨⟨by omega, by omega⟩, ⟨by omega, by omega⟩, t3, u3⟩ ⟨⟨by omega, by omega⟩, ⟨by omega, by omega⟩, t10, u10⟩
      exact z
    · have z := q_cl g4 ⟨⟨by omega, by omega⟩, ⟨by omega, by omega⟩, t4, u4⟩ ⟨⟨by omega, by omega⟩, ⟨by omega, by omega⟩, t11, u11⟩
      exact z
    · have z := q_cl g5 ⟨⟨by omega, by omega⟩, ⟨by omega, by omega⟩, t5, u5⟩ ⟨⟨by omega, by omega⟩, ⟨by omega, by omega⟩, t12, u12⟩
      exact z
    · have z := q_cl g6 ⟨⟨by omega, by omega⟩, ⟨by omega, by omega⟩, t6, u6⟩ ⟨⟨by omega, by omega⟩, ⟨by omega, by omega⟩, t13, u13⟩
      exact z
  have ln : ((.sl none 0 [[.n x0, .n y0, .n e0], [.n x1, .n y1, .n e1], [.n x2, .n y2, .n e2], [.n x3, .n y3, .n e3], [.n x4, .n y4, .n e4], [.n x5, .n y5, .n e5], [.n x6, .n y6, .n e6]]) : DV).len = 7 := rfl
  have lw : ((.sl none 0 [[.n x7, .n y7, .n e7], [.n x8, .n y8, .n e8], [.n x9, .n y9, .n e9], [.n x10, .n y10, .n e10], [.n x11, .n y11, .n e11], [.n x12, .n y12, .n e12], [.n x13, .n y13, .n e13]]) : DV).len = 7 := rfl
  generalize hN : ((.sl none 0 [[.n x0, .n y0, .n e0], [.n x1, .n y1, .n e1], [.n x2, .n y2, .n e2], [.n x3, .n y3, .n e3], [.n x4, .n y4, .n e4], [.n x5, .n y5, .n e5], [.n x6, .n y6, .n e6]]) : DV) = nr at *
  generalize hW : ((.sl none 0 [[.n x7, .n y7, .n e7], [.n x8, .n y8, .n e8], [.n x9, .n y9, .n e9], [.n x10, .n y10, .n e10], [.n x11, .n y11, .n e11], [.n x12, .n y12, .n e12], [.n x13, .n y13, .n e13]]) : DV) = wd at *
  refine res_lop rfl (cvh (a := nr = nr ∧ wd = wd ∧ (0 : Int) ≤ 7) (by subst hN hW; kernel_rfl) ⟨rfl, rfl, by decide⟩) (fun nr' _ wd' _ i i0 i7 hi => ?_)
  replace hi := cvh (b := (.sl none 0 nr' : DV) = nr ∧ (.sl none 0 wd' : DV) = wd ∧ i ≤ 7) (by subst hN hW; kernel_rfl) hi
  obtain ⟨en, ew, hi⟩ := hi
  refine res_ite (fun z => ?_) fun z => cvh (a := [DV.n 1] = [DV.n 1]) (by subst hN hW; kernel_rfl) rfl
  replace z := cvh (b := i < 7) (by subst hN hW; kernel_rfl) z
  have qi := all i i0 z
  rw [← en, ← ew] at qi
  rw [← en] at ln
  rw [← ew] at lw
  have chk1 : (.sl none 0 nr' : DV) = nr ∧ (.sl none 0 wd' : DV) = wd ∧ i + 1 ≤ 7 := ⟨en, ew, by omega⟩
  refine res_ok (cvh (a := 0 ≤ i ∧ i < (.sl none 0 wd' : DV).len) (by subst hN hW; kernel_rfl) (by omega)) ?_
  refine res_ite (fun y => ?_) fun y => ?_
  · exact res_chk rfl (cvh (by subst hN hW; kernel_rfl) chk1) (cvh (a := (7 - (i + 1)).toNat < (7 - i).toNat) (by subst hN hW; kernel_rfl) (by omega))
  replace y := cvh (b := ¬ ¬ (.sl none 0 wd' : DV).at i 2 = 0) (by subst hN hW; kernel_rfl) y
  obtain ⟨u1, u2, u3, u4, u5⟩ := qi (Classical.not_not.1 y)
  refine res_ok (cvh (a := 0 ≤ i ∧ i < (.sl none 0 nr' : DV).len) (by subst hN hW; kernel_rfl) (by omega)) ?_
  refine res_con rfl trivial (fun k _ _ f _ _ hk => ?_)
  replace hk := cvh (b := InP ((.sl none 0 nr' : DV).at i 0) ((.sl none 0 nr' : DV).at i 1) ((.sl none 0 wd' : DV).at i 0) ((.sl none 0 wd' : DV).at i 1) k f) (by subst hN hW; kernel_rfl) hk
  obtain ⟨o1, o2⟩ := hk.1 ⟨u2, u3⟩
  have o3 := o1.2 ⟨u4, u5⟩
  refine res_ite (fun b => ?_) fun _ => ?_
  · have b := cvh (b := (¬ (.sl none 0 nr' : DV).at i 2 = 0 ∨ ¬ f = 0) ∨ k = 0) (by subst hN hW; kernel_rfl) b
    exfalso
    omega
  · exact res_chk rfl (cvh (by subst hN hW; kernel_rfl) chk1) (cvh (a := (7 - (i + 1)).toNat < (7 - i).toNat) (by subst hN hW; kernel_rfl) (by omega))
set_option maxRecDepth 100000 in
theorem IntervalInside_any (v0 v1 v2 v3 v4 : Value) (w : World) (hG : Glb tb w) (g0 : PairA w v0) (g1 : PairA w v1) (g2 : PairA w v2) (g3 : PairA w v3) (g4 : PairA w v4) :
    Calls Try.prog 9 #[v0, v1, v2, v3, v4] w fun e w' => e = .returned (.bool true) ∧ Below w.heap.size w w' := by
  obtain ⟨a0, a1, s0, rfl, h0⟩ := g0
  obtain ⟨b0, b1, s1, rfl, h1⟩ := g1
  obtain ⟨c0, c1, s2, rfl, h2⟩ := g2
  obtain ⟨d0, d1, s3, rfl, h3⟩ := g3
  obtain ⟨N, D, s4, rfl, h4⟩ := g4
  refine law_of_walk (tb := tb) (P := Try.prog) fine (C := [lawCon 12 [], cIn 31, cAdd 13, cSub 15, cMul 17, cSqr 21, cScl 25, cRoot 23, cHull 29, lIns]) (conCons cSane_ok (conCons cIn_ok (conCons cAdd_ok (conCons cSub_ok (conCons cMul_ok (conCons cSqr_ok (conCons cScl_ok (conCons cRoot_ok (conCons cHull_ok (lopCons rfl noCon)))))))))) 80 9 [two, two, two, two, two] rfl (w := w) hG (xs := [.n a0, .n a1, .n b0, .n b1, .n c0, .n c1, .n d0, .n d1, .n N, .n D]) ?_ (walk_ins a0 a1 b0 b1 c0 c1 d0 d1 N D)
  exact ⟨_, [.n b0, .n b1, .n c0, .n c1, .n d0, .n d1, .n N, .n D], s0, rfl, rfl, h0, _, [.n c0, .n c1, .n d0, .n d1, .n N, .n D], s1, rfl, rfl, h1, _, [.n d0, .n d1, .n N, .n D], s2, rfl, rfl, h2, _, [.n N, .n D], s3, rfl, rfl, h3, _, [], s4, rfl, rfl, h4, by simp [ArgsV]⟩
end Go.Proofs.Ytgaaommfemgnnaa
