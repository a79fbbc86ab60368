/- DERIVED. The law of the order of ratios. -/
import Derived.Test.YtkcomadagclikaaField
namespace Go.Proofs.Ytkcomadagclikaa
open Go.Sx Go.RowKit
set_option linter.unusedVariables false
set_option linter.unusedSimpArgs false
theorem sgn_diff {X Y U V P Q : Int} (hP : 0 < P) (hQ : 0 < Q) (h : (X - Y) * P = (U - V) * Q) : sgn X Y = sgn U V := by
  unfold sgn
  have s1 : ∀ Z R : Int, 0 < R → (0 < Z * R ↔ 0 < Z) ∧ (Z * R < 0 ↔ Z < 0) := fun Z R hR => by
    rcases Int.lt_trichotomy Z 0 with hz | hz | hz
    · have := Int.mul_neg_of_neg_of_pos hz hR; omega
    · subst hz; omega
    · have := Int.mul_pos hz hR; omega
  have p := s1 (X - Y) P hP
  have q := s1 (U - V) Q hQ
  rw [h] at p
  generalize (U - V) * Q = K at *
  split <;> split <;> (try split) <;> (try split) <;> omega
theorem val_eq {a b c d : Int} (h : Val a b) (k : Val c d) (e : a * d = c * b) : a = c ∧ b = d := by
  have x := can_mk (N := a) (D := b) (n := c) (d := d) ⟨h, k.ne, e⟩
  have y := can_mk (N := c) (D := d) (n := c) (d := d) ⟨k, k.ne, rfl⟩
  omega
theorem sgn_zero {X Y : Int} : sgn X Y = 0 ↔ X = Y := by unfold sgn; split <;> (try split) <;> omega
theorem sgn_neg (X Y : Int) : sgn X Y = 0 - sgn Y X := by unfold sgn; split <;> split <;> (try split) <;> omega
theorem sgn_le {X Y : Int} : sgn X Y ≤ 0 ↔ X ≤ Y := by unfold sgn; split <;> (try split) <;> omega
theorem sgn_m1 {X Y : Int} : sgn X Y = -1 ↔ X < Y := by unfold sgn; split <;> (try split) <;> omega
theorem sgn_p1 {X Y : Int} : sgn X Y = 1 ↔ Y < X := by unfold sgn; split <;> (try split) <;> omega
theorem trans_le {a1 a2 b1 b2 c1 c2 : Int} (ha : 0 < a2) (hb : 0 < b2) (hc : 0 < c2) (h : a1 * b2 ≤ b1 * a2) (k : b1 * c2 ≤ c1 * b2) : a1 * c2 ≤ c1 * a2 := by
  have h1 := Int.mul_le_mul_of_nonneg_right h (Int.le_of_lt hc)
  have h2 := Int.mul_le_mul_of_nonneg_right k (Int.le_of_lt ha)
  refine Int.le_of_mul_le_mul_right (a := b2) ?_ hb
  have e1 : a1 * c2 * b2 = a1 * b2 * c2 := by grind
  have e2 : b1 * a2 * c2 = b1 * c2 * a2 := by grind
  have e3 : c1 * a2 * b2 = c1 * b2 * a2 := by grind
  rw [e1, e3]
  rw [e2] at h1
  exact Int.le_trans h1 h2
theorem Val.pos {N D : Int} (h : Val N D) : 0 < D := by have := h.1; omega
theorem ord4 {a1 a2 b1 b2 n d m f : Int} (ha : 0 < a2) (hb : 0 < b2) (hd : 0 < d) (hf : 0 < f) (h : a1 * d = n * a2) (k : b1 * f = m * b2) : sgn (n * f) (m * d) = sgn (a1 * b2) (b1 * a2) := by
  refine sgn_diff (Int.mul_pos ha hb) (Int.mul_pos hd hf) ?_
  have e1 : (n * f - m * d) * (a2 * b2) = (n * a2) * (f * b2) - (m * b2) * (d * a2) := by grind
  rw [e1, ← h, ← k]
  grind
theorem ord5 {a1 a2 b1 b2 c1 c2 x1 x2 y1 y2 : Int} (ha : 0 < a2) (hb : 0 < b2) (hc : 0 < c2) (hx : 0 < x2) (hy : 0 < y2) (h : x1 * (a2 * c2) = (a1 * c2 + c1 * a2) * x2) (k : y1 * (b2 * c2) = (b1 * c2 + c1 * b2) * y2) : sgn (x1 * y2) (y1 * x2) = sgn (a1 * b2) (b1 * a2) := by
  refine sgn_diff (P := a2 * b2 * (c2 * c2)) (Q := x2 * y2 * (c2 * c2)) (Int.mul_pos (Int.mul_pos ha hb) (Int.mul_pos hc hc)) (Int.mul_pos (Int.mul_pos hx hy) (Int.mul_pos hc hc)) ?_
  have e1 : (x1 * y2 - y1 * x2) * (a2 * b2 * (c2 * c2)) = (x1 * (a2 * c2)) * (y2 * b2 * c2) - (y1 * (b2 * c2)) * (x2 * a2 * c2) := by grind
  rw [e1, h, k]
  grind
theorem ord6 {a1 a2 b1 b2 c1 c2 x1 x2 y1 y2 : Int} (ha : 0 < a2) (hb : 0 < b2) (hc : 0 < c2) (hc1 : 0 < c1) (hx : 0 < x2) (hy : 0 < y2) (h : x1 * (a2 * c2) = (a1 * c1) * x2) (k : y1 * (b2 * c2) = (b1 * c1) * y2) : sgn (x1 * y2) (y1 * x2) = sgn (a1 * b2) (b1 * a2) := by
  refine sgn_diff (P := a2 * b2 * (c2 * c2)) (Q := x2 * y2 * (c1 * c2)) (Int.mul_pos (Int.mul_pos ha hb) (Int.mul_pos hc hc)) (Int.mul_pos (Int.mul_pos hx hy) (Int.mul_pos hc1 hc)) ?_
  have e1 : (x1 * y2 - y1 * x2) * (a2 * b2 * (c2 * c2)) = (x1 * (a2 * c2)) * (y2 * b2 * c2) - (y1 * (b2 * c2)) * (x2 * a2 * c2) := by grind
  rw [e1, h, k]
  grind
set_option maxRecDepth 100000 in
set_option maxHeartbeats 4000000 in
theorem RatioOrder_walk (n m k d f g : Int) (w : World) (hn : -32768 ≤ n ∧ n ≤ 32767) (hm : -32768 ≤ m ∧ m ≤ 32767) (hk : -32768 ≤ k ∧ k ≤ 32767) (hd : 0 ≤ d ∧ d ≤ 65535) (hf : 0 ≤ f ∧ f ≤ 65535) (hg : 0 ≤ g ∧ g ≤ 65535) :
    Calls Try.prog 7 #[.int .i16 n, .int .i16 m, .int .i16 k, .int .u16 d, .int .u16 f, .int .u16 g] w fun e w' => e = .returned (.bool true) ∧ Below w.heap.size w w' := by
  refine sx_law (tb := tb) (w := w) (σ := []) (τ := []) fine (C := [trueCon 10, cFew, cAdd 15, cMul 19, cCmp 23])
    (conCons okSane (conCons okFew (conCons okAdd (conCons okMul (conCons okCmp noCon)))) _ _) 1000 7 (argsOf [.int .i16, .int .i16, .int .i16, .int .u16, .int .u16, .int .u16] 0) ⟨[(-32768, 32767), (-32768, 32767), (-32768, 32767), (0, 65535), (0, 65535), (0, 65535)], [], []⟩ [n, m, k, d, f, g]
    (in_bnd ⟨hn.1, hn.2, hm.1, hm.2, hk.1, hk.2, hd.1, hd.2, hf.1, hf.2, hg.1, hg.2, trivial⟩) ?_
  rw [tree_l7]
  simp only [T.law, Bool.false_eq_true, E.den, B.prop, allB, inB, List.map_cons, List.map_nil, List.getD_cons_zero, List.getD_cons_succ, List.cons_append, List.nil_append, List.append_nil, List.getElem?_cons_zero, List.getElem?_cons_succ, true_and, and_true, trueCon, cFew, cAdd, cSub, cMul, cQuo, cOp, cCmp]
  intro s _ _ _
  refine ⟨⟨hn.1, hn.2, hd.1, hd.2⟩, fun a1 la1 ua1 a2 la2 ua2 ka lka uka ha => ?_⟩
  refine ⟨⟨hm.1, hm.2, hf.1, hf.2⟩, fun b1 lb1 ub1 b2 lb2 ub2 kb lkb ukb hb => ?_⟩
  refine ⟨⟨hk.1, hk.2, hg.1, hg.2⟩, fun c1 lc1 uc1 c2 lc2 uc2 kc lkc ukc hc => ?_⟩
  refine ⟨fun h => by omega, fun _ => ?_⟩
  obtain ⟨_, va, an, ae⟩ := ha
  have pa := va.b
  obtain ⟨_, vb, bn, be⟩ := hb
  have pb := vb.b
  obtain ⟨_, vc, cn, ce⟩ := hc
  have pc := vc.b
  have na1 : a1.natAbs ≤ 511 := by omega
  have nb1 : b1.natAbs ≤ 511 := by omega
  have nc1 : c1.natAbs ≤ 511 := by omega
  have na2 : a2.natAbs ≤ 1024 := by omega
  have nb2 : b2.natAbs ≤ 1024 := by omega
  have nc2 : c2.natAbs ≤ 1024 := by omega
  have P2 := va.pos
  have Q2 := vb.pos
  have R2 := vc.pos
  have m1 := nb na1 nc2
  have m2 := nb nc1 na2
  have m4 := nb nb1 nc2
  have m5 := nb nc1 nb2
  have m9 : (a1 * c2 + c1 * a2).natAbs ≤ 1046528 := by omega
  have m10 : (b1 * c2 + c1 * b2).natAbs ≤ 1046528 := by omega
  have ia1 : I64 a1 := ⟨by omega, by omega⟩
  have ib1 : I64 b1 := ⟨by omega, by omega⟩
  have ic1 : I64 c1 := ⟨by omega, by omega⟩
  have ia2 : I64 a2 := ⟨by omega, by omega⟩
  have ib2 : I64 b2 := ⟨by omega, by omega⟩
  have ic2 : I64 c2 := ⟨by omega, by omega⟩
  have pd : 0 < 1 + d.tmod 1024 := by rw [Int.tmod_eq_emod_of_nonneg hd.1]; omega
  have pf : 0 < 1 + f.tmod 1024 := by rw [Int.tmod_eq_emod_of_nonneg hf.1]; omega
  have o4 := ord4 P2 Q2 pd pf ae be
  clear pa pb pc an bn cn
  refine ⟨⟨ia1, ia2, ib1, ib2⟩, fun ab lab uab eab leab ueab hab => ?_⟩
  refine ⟨⟨ib1, ib2, ia1, ia2⟩, fun ba lba uba eba leba ueba hba => ?_⟩
  refine ⟨⟨ib1, ib2, ic1, ic2⟩, fun bc lbc ubc ebc lebc uebc hbc => ?_⟩
  refine ⟨⟨ia1, ia2, ic1, ic2⟩, fun ac lac uac eac leac ueac hac => ?_⟩
  obtain ⟨tab, eab0⟩ := hab.1 ⟨va, vb⟩
  obtain ⟨tba, eba0⟩ := hba.1 ⟨vb, va⟩
  obtain ⟨tbc, ebc0⟩ := hbc.1 ⟨vb, vc⟩
  obtain ⟨tac, eac0⟩ := hac.1 ⟨va, vc⟩
  subst tab tba tbc tac
  refine ⟨fun h => h eab0, fun _ => ⟨fun h => h eba0, fun _ => ⟨fun h => h ebc0, fun _ => ⟨fun h => h eac0, fun _ => ⟨?_, fun _ => ⟨?_, fun _ => ?_⟩⟩⟩⟩⟩⟩
  · rintro ((h | h) | h)
    · exact h (sgn_neg _ _)
    · refine h ?_
      by_cases e : a1 * b2 = b1 * a2
      · exact Or.inl ⟨sgn_zero.2 e, val_eq va vb e⟩
      · refine Or.inr ⟨fun q => e (sgn_zero.1 q), fun q => e ?_⟩
        rw [q.1, q.2]
    · have := trans_le P2 Q2 R2 (sgn_le.1 h.1.1) (sgn_le.1 h.1.2)
      have h3 := sgn_le.2 this
      exact absurd h.2 (by omega)
  · have g1 := sgn_m1 (X := n.tmod 512 * (1 + f.tmod 1024)) (Y := m.tmod 512 * (1 + d.tmod 1024))
    have g2 := sgn_p1 (X := n.tmod 512 * (1 + f.tmod 1024)) (Y := m.tmod 512 * (1 + d.tmod 1024))
    rw [o4] at g1 g2
    generalize n.tmod 512 * (1 + f.tmod 1024) = X at *
    generalize m.tmod 512 * (1 + d.tmod 1024) = Y at *
    generalize sgn (a1 * b2) (b1 * a2) = S at *
    clear o4 hab hba hbc hac
    omega
  refine ⟨⟨ia1, ia2, ic1, ic2⟩, fun x1 lx1 ux1 x2 lx2 ux2 ex lex uex hx => ?_⟩
  have ix1 := i64r lx1 ux1
  have ix2 := i64p lx2 ux2
  clear lx1 ux1 lx2 ux2 lex uex
  refine ⟨⟨ib1, ib2, ic1, ic2⟩, fun y1 ly1 uy1 y2 ly2 uy2 ey ley uey hy => ?_⟩
  have iy1 := i64r ly1 uy1
  have iy2 := i64p ly2 uy2
  clear ly1 uy1 ly2 uy2 ley uey
  refine ⟨⟨ix1, ix2, iy1, iy2⟩, fun xy lxy uxy exy lexy uexy hxy => ?_⟩
  obtain ⟨ex0, cx, _, _⟩ := sm hx ⟨va, vc⟩ (Int.mul_ne_zero va.ne vc.ne) (Nat.le_trans m9 (by decide)) (Nat.le_trans (nb na2 nc2) (by decide))
  obtain ⟨ey0, cy, _, _⟩ := sm hy ⟨vb, vc⟩ (Int.mul_ne_zero vb.ne vc.ne) (Nat.le_trans m10 (by decide)) (Nat.le_trans (nb nb2 nc2) (by decide))
  obtain ⟨txy, exy0⟩ := hxy.1 ⟨cx.1, cy.1⟩
  have o5 := ord5 P2 Q2 R2 cx.1.pos cy.1.pos cx.2.2 cy.2.2
  refine ⟨fun h => h ex0, fun _ => ⟨fun h => h ey0, fun _ => ⟨fun h => h exy0, fun _ => ⟨fun h => h (txy.trans o5), fun _ => ⟨fun _ => by trivial, fun hc => ?_⟩⟩⟩⟩⟩
  refine ⟨⟨ia1, ia2, ic1, ic2⟩, fun u1 lu1 uu1 u2 lu2 uu2 eu leu ueu hu => ?_⟩
  have iu1 := i64r lu1 uu1
  have iu2 := i64p lu2 uu2
  clear lu1 uu1 lu2 uu2 leu ueu
  refine ⟨⟨ib1, ib2, ic1, ic2⟩, fun v1 lv1 uv1 v2 lv2 uv2 ev lev uev hv => ?_⟩
  have iv1 := i64r lv1 uv1
  have iv2 := i64p lv2 uv2
  clear lv1 uv1 lv2 uv2 lev uev
  refine ⟨⟨iu1, iu2, iv1, iv2⟩, fun uv luv uuv euv leuv ueuv huv => ?_⟩
  obtain ⟨eu0, cu, _, _⟩ := sm hu ⟨va, vc⟩ (Int.mul_ne_zero va.ne vc.ne) (Nat.le_trans (nb na1 nc1) (by decide)) (Nat.le_trans (nb na2 nc2) (by decide))
  obtain ⟨ev0, cv, _, _⟩ := sm hv ⟨vb, vc⟩ (Int.mul_ne_zero vb.ne vc.ne) (Nat.le_trans (nb nb1 nc1) (by decide)) (Nat.le_trans (nb nb2 nc2) (by decide))
  obtain ⟨tuv, euv0⟩ := huv.1 ⟨cu.1, cv.1⟩
  have o6 := ord6 P2 Q2 R2 (by omega) cu.1.pos cv.1.pos cu.2.2 cv.2.2
  exact ⟨fun h => h eu0, fun _ => ⟨fun h => h ev0, fun _ => ⟨fun h => h euv0, fun _ => tuv.trans o6⟩⟩⟩
end Go.Proofs.Ytkcomadagclikaa
