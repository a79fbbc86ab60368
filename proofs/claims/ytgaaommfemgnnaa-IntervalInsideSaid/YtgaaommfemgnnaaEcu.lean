/- DERIVED. Products of words, scaling, ratios: contracts. -/
import Derived.Test.YtgaaommfemgnnaaEct
namespace Go.Proofs.Ytgaaommfemgnnaa
open Go.Dx
set_option linter.unusedVariables false
set_option linter.unusedSimpArgs false
theorem gcd_step (x y : Int) : gcdI y (x.tmod y) = gcdI x y := by
  unfold gcdI
  rw [Int.natAbs_tmod, Nat.gcd_comm y.natAbs, ← Nat.gcd_rec, Nat.gcd_comm]
theorem gcd_zero (x : Int) : gcdI x 0 = x.natAbs := by simp [gcdI]
theorem gcd_pos {a b : Int} (h : b ≠ 0) : 1 ≤ gcdI a b := by
  unfold gcdI
  have := Nat.gcd_pos_of_pos_right a.natAbs (n := b.natAbs) (by omega)
  omega
theorem tmod_lt (x y : Int) (hx : 0 ≤ x) (hy : 0 < y) : 0 ≤ x.tmod y ∧ x.tmod y < y := by
  rw [Int.tmod_eq_emod_of_nonneg hx]
  exact ⟨Int.emod_nonneg _ (by omega), Int.emod_lt_of_pos _ hy⟩
theorem cDiv_ok (N : Nat) (w0 : World) : ConOk Try.prog tb N w0 (cDiv 54) := by
  refine con_of_walk (tb := tb) fine (C := [lDivG]) (lopCons rfl noCon) 80 rfl ?_ N w0
  refine fun a a0 a1 b b0 b1 hp => ?_
  have hp : 1 ≤ b := hp
  rw [tree_div]
  simp only [T.res, B.prop, E.den, E.dat, E.top, E.val, E.isD, DV.canon, DV.int, List.getElem?_cons_zero, List.getElem?_cons_succ, List.getD_cons_zero, List.getD_cons_succ, List.getD_nil, List.map_cons, List.map_nil, List.cons_append, List.nil_append, allB, List.take_succ_cons, List.take_zero, List.length_cons, List.length_nil, Nat.zero_add, Nat.reduceAdd, lDivG, cDiv]
  refine ⟨⟨trivial, fun h => by omega⟩, fun x x0 x1 y y0 y1 g g0 g1 ⟨h1, h2⟩ => ⟨fun hy => ?_, fun hy => ?_⟩⟩
  · have h5 := tmod_lt x y x0 (by omega)
    exact ⟨⟨(gcd_step x y).trans h1, fun _ => trivial⟩, by omega⟩
  · have hy : y = 0 := Classical.not_not.1 hy
    subst hy
    have h6 := gcd_zero x
    have h7 := gcd_pos (a := a) (b := b) (by omega)
    have := h2 rfl
    refine ⟨fun _ => by omega, fun hn => hn (by omega)⟩
theorem rt_yes {n d : Int} (h : VRat n d) : ChkP n d [.n 0] := ⟨fun _ => rfl, fun k => absurd h k⟩
theorem rt_no {n d : Int} (h : ¬ VRat n d) : ChkP n d [.n 120] := ⟨fun k => absurd k h, fun _ => rfl⟩
theorem rt_in {n d x : Int} (h : ChkP n d [.n x]) : (VRat n d ∧ x = 0) ∨ (¬ VRat n d ∧ x = 120) := by
  by_cases k : VRat n d
  · have := h.1 k; simp only [List.cons.injEq, DV.n.injEq, and_true] at this; exact .inl ⟨k, this⟩
  · have := h.2 k; simp only [List.cons.injEq, DV.n.injEq, and_true] at this; exact .inr ⟨k, this⟩
theorem cRat_ok (N : Nat) (w0 : World) : ConOk Try.prog tb N w0 (cRat 46) := by
  refine con_of_walk (tb := tb) fine (C := [cDiv 54]) (conCons cDiv_ok noCon) 80 rfl ?_ N w0
  refine fun n n0 n1 d d0 d1 _ => ?_
  rw [tree_rat]
  simp only [T.res, B.prop, E.den, E.dat, E.top, E.val, E.isD, DV.canon, DV.int, List.getElem?_cons_zero, List.getElem?_cons_succ, List.getD_cons_zero, List.getD_cons_succ, List.getD_nil, List.map_cons, List.map_nil, List.cons_append, List.nil_append, allB, List.take_succ_cons, List.take_zero, List.length_cons, List.length_nil, Nat.zero_add, Nat.reduceAdd, resB, resL', RSh.l, RC.vd, List.flatMap_cons, List.flatMap_nil, List.append_nil, List.replicate, cDiv, cRat, wU]
  have key : ∀ A g : Int, A = n.natAbs → g = gcdI A d → g = gcdI n d := fun A g hA hg => by rw [hg, hA]; simp [gcdI]
  refine ⟨fun h => ⟨fun hn => ⟨by omega, fun x x0 x1 hx => ?_⟩, fun hn => ⟨by omega, fun x x0 x1 hx => ?_⟩⟩, fun h => rt_no fun q => h ?_⟩
  · have hx := key _ x (by omega) hx
    exact ⟨fun h1 => rt_no fun q => h1 (by rw [hx]; exact q.2.2.2.2), fun h1 => rt_yes ⟨by omega, by omega, by omega, by omega, by omega⟩⟩
  · have hx := key _ x (by omega) hx
    exact ⟨fun h1 => rt_no fun q => h1 (by rw [hx]; exact q.2.2.2.2), fun h1 => rt_yes ⟨by omega, by omega, by omega, by omega, by omega⟩⟩
  · obtain ⟨q1, q2, q3, q4, _⟩ := q
    omega
theorem mul_hi {x y : Int} (hx : 0 ≤ x) (hx2 : x ≤ 18446744073709551615) (hy : 0 ≤ y) (hy2 : y ≤ 18446744073709551615) (X1 X0 Y1 Y0 : Int) (e1 : X1 = x / 4294967296) (e0 : X0 = x % 4294967296) (f1 : Y1 = y / 4294967296) (f0 : Y0 = y % 4294967296) :
    (X1 * Y1 + (X1 * Y0 + X0 * Y0 / 4294967296) / 4294967296 + ((X1 * Y0 + X0 * Y0 / 4294967296) % 4294967296 + X0 * Y1) / 4294967296) = x * y / 18446744073709551616 ∧ 0 ≤ x * y / 18446744073709551616 ∧ x * y / 18446744073709551616 ≤ 18446744073709551615 ∧ 0 ≤ X0 * Y0 ∧ 0 ≤ X1 * Y0 ∧ 0 ≤ X0 * Y1 := by
  have ex : x = X1 * 4294967296 + X0 := by omega
  have ey : y = Y1 * 4294967296 + Y0 := by omega
  have a1 : 0 ≤ X1 ∧ X1 ≤ 4294967295 := by omega
  have a0 : 0 ≤ X0 ∧ X0 ≤ 4294967295 := by omega
  have b1 : 0 ≤ Y1 ∧ Y1 ≤ 4294967295 := by omega
  have b0 : 0 ≤ Y0 ∧ Y0 ≤ 4294967295 := by omega
  have e : x * y = X1 * Y1 * 18446744073709551616 + (X1 * Y0 + X0 * Y1) * 4294967296 + X0 * Y0 := by rw [ex, ey]; grind
  have g : ∀ {p q : Int}, 0 ≤ p → p ≤ 4294967295 → 0 ≤ q → q ≤ 4294967295 → 0 ≤ p * q ∧ p * q ≤ 18446744065119617025 := fun h1 h2 h3 h4 => by
    have h5 := Int.mul_nonneg h1 h3
    have h6 := Int.mul_le_mul h2 h4 h3 (show (0 : Int) ≤ 4294967295 by omega)
    omega
  have p11 := g a1.1 a1.2 b1.1 b1.2
  have p10 := g a1.1 a1.2 b0.1 b0.2
  have p01 := g a0.1 a0.2 b1.1 b1.2
  have p00 := g a0.1 a0.2 b0.1 b0.2
  rw [e]
  clear e ex ey e1 e0 f1 f0 a1 a0 b1 b0 g hx hx2 hy hy2
  generalize X1 * Y1 = A at *
  generalize X1 * Y0 = B at *
  generalize X0 * Y1 = C at *
  generalize X0 * Y0 = D at *
  refine ⟨?_, ?_, ?_, p00.1, p10.1, p01.1⟩ <;> omega
theorem sgn_mul {x y X Y : Int} (hx : X = max x (0 - x)) (hy : Y = max y (0 - y)) : 0 ≤ X * Y ∧ ((x < 0 ∧ y < 0 ∨ 0 ≤ x ∧ 0 ≤ y) → x * y = X * Y) ∧ (¬ (x < 0 ∧ y < 0 ∨ 0 ≤ x ∧ 0 ≤ y) → x * y = -(X * Y)) := by
  refine ⟨Int.mul_nonneg (by omega) (by omega), ?_, ?_⟩
  · rintro (h | h)
    · rw [show X = -x by omega, show Y = -y by omega, Int.neg_mul_neg]
    · rw [show X = x by omega, show Y = y by omega]
  · intro h
    rcases Int.lt_or_le x 0 with h1 | h1
    · rw [show X = -x by omega, show Y = y by omega, Int.neg_mul, Int.neg_neg]
    · rw [show X = x by omega, show Y = -y by omega, Int.mul_neg, Int.neg_neg]
set_option maxRecDepth 100000 in
theorem cMul64_ok (N : Nat) (w0 : World) : ConOk Try.prog tb N w0 (cMul64 56) := by
  refine con_of_walk (tb := tb) fine (C := []) noCon 80 rfl ?_ N w0
  refine fun x h1 h2 y h3 h4 _ => ?_
  rw [tree_mul64]
  show (x.tdiv 4294967296 * y.tdiv 4294967296 + (x.tdiv 4294967296 * y.tmod 4294967296 + (x.tmod 4294967296 * y.tmod 4294967296).tdiv 4294967296).tdiv 4294967296 + ((x.tdiv 4294967296 * y.tmod 4294967296 + (x.tmod 4294967296 * y.tmod 4294967296).tdiv 4294967296).tmod 4294967296 + x.tmod 4294967296 * y.tdiv 4294967296).tdiv 4294967296) * 18446744073709551616 + IntKind.u64.wrap (x * y) = x * y
  obtain ⟨m1, m2, m3, m4, m5, m6⟩ := mul_hi h1 h2 h3 h4 _ _ _ _ rfl rfl rfl rfl
  have tq : ∀ {a : Int}, 0 ≤ a → a.tdiv 4294967296 = a / 4294967296 := fun h => Int.tdiv_eq_ediv_of_nonneg h
  have tr : ∀ {a : Int}, 0 ≤ a → a.tmod 4294967296 = a % 4294967296 := fun h => Int.tmod_eq_emod_of_nonneg h
  have n1 : 0 ≤ x % 4294967296 * (y % 4294967296) / 4294967296 := by omega
  have n2 : 0 ≤ (x / 4294967296 * (y % 4294967296) + x % 4294967296 * (y % 4294967296) / 4294967296) % 4294967296 := by omega
  rw [tq h1, tq h3, tr h1, tr h3, tq m4, tq (by omega), tr (by omega), tq (by omega), m1, wU]
  generalize x * y = z at *
  omega
theorem scQ_of {m d w q r : Int} (hd : 1 ≤ d) (h : q * d + r = m) (h0 : 0 ≤ r) (h1 : r < d) : scQ m d w = if 2199023255552 < q then 2199023255552 else if w = 1 ∧ 0 < r then q + 1 else q := by
  have e := (Int.ediv_emod_unique (a := m) (b := d) (r := r) (q := q) (by omega)).2 ⟨by rw [Int.mul_comm]; omega, h0, h1⟩
  unfold scQ
  rw [e.1, e.2]
theorem scF_pos {m d w : Int} (h : 0 ≤ m) : scF m d w = scQ m d w := by unfold scF; rw [if_neg (by omega)]
theorem scF_neg {m d w : Int} (h : 0 ≤ m) : scF (-m) d w = -scQ m d w := by
  unfold scF
  by_cases c : m = 0
  · subst c
    rw [if_neg (by omega)]
    have : scQ 0 d w = 0 := by unfold scQ; rw [Int.zero_ediv, Int.zero_emod, if_neg (by decide), if_neg (fun k => by have := k.2; omega)]
    rw [show (-(0 : Int)) = 0 by rfl, this]; rfl
  · rw [if_pos (by omega), Int.neg_neg]
set_option maxRecDepth 100000 in
theorem cScd_ok (N : Nat) (w0 : World) : ConOk Try.prog tb N w0 (cScd 48) := by
  refine con_of_walk (tb := tb) fine (C := [cMul64 56, cDiv64 58]) (conCons cMul64_ok (conCons cDiv64_ok noCon)) 80 rfl ?_ N w0
  refine fun n n0 n1 x x0 x1 d d0 d1 w w0 w1 _ => ?_
  rw [tree_scd]
  show T.res _ (fun y => gi y 0 = scF (n * x) d w) _ _
  obtain ⟨s1, s2, s3⟩ := sgn_mul (x := n) (y := x) rfl rfl
  refine res_con rfl trivial (fun hi h0 h1 lo l0 l1 hm => ?_)
  have hm : hi * 18446744073709551616 + lo = IntKind.u64.wrap (max n (0 - n)) * IntKind.u64.wrap (max x (0 - x)) := hm
  rw [wU, wU, show max n (0 - n) % 18446744073709551616 = max n (0 - n) by omega, show max x (0 - x) % 18446744073709551616 = max x (0 - x) by omega] at hm
  generalize max n (0 - n) * max x (0 - x) = m at *
  generalize n * x = z at *
  have big : 2199023255552 < m / d → scQ m d w = 2199023255552 := fun k => by unfold scQ; rw [if_pos k]
  refine res_ite (fun h => ?_) fun h => ?_
  · have h : d ≤ hi := h
    have hq : 2199023255552 < m / d := by
      by_cases k : 2199023255552 < m / d
      · exact k
      · exfalso
        have := Int.mul_ediv_add_emod m d
        have r1 := Int.emod_lt_of_pos m (show 0 < d by omega)
        have : d * (m / d) ≤ d * 2199023255552 := Int.mul_le_mul_of_nonneg_left (Int.not_lt.1 k) (by omega)
        omega
    have eq := big hq
    refine res_ite (fun k => ?_) fun k => ?_
    · have k : ¬ (n < 0 ∧ x < 0 ∨ 0 ≤ n ∧ 0 ≤ x) := k
      show -2199023255552 = scF z d w
      rw [s3 k, scF_neg s1, eq]
    · have k : n < 0 ∧ x < 0 ∨ 0 ≤ n ∧ 0 ≤ x := Classical.not_not.1 (show ¬ ¬ _ from k)
      show 2199023255552 = scF z d w
      rw [s2 k, scF_pos s1, eq]
  have h : ¬ d ≤ hi := h
  refine res_con rfl (show hi < d by omega) (fun q q0 _ r _ _ hq => ?_)
  have hq : q * d + r = hi * 18446744073709551616 + lo ∧ 0 ≤ r ∧ r < d := hq
  rw [hm] at hq
  have eq := scQ_of (w := w) d0 hq.1 hq.2.1 hq.2.2
  refine res_ite (fun k1 => ?_) fun k1 => ?_
  · have k1 : 2199023255552 < q := k1
    rw [if_pos k1] at eq
    refine res_ite (fun k => ?_) fun k => ?_
    · have k : ¬ (n < 0 ∧ x < 0 ∨ 0 ≤ n ∧ 0 ≤ x) := k
      show -2199023255552 = scF z d w
      rw [s3 k, scF_neg s1, eq]
    · have k : n < 0 ∧ x < 0 ∨ 0 ≤ n ∧ 0 ≤ x := Classical.not_not.1 (show ¬ ¬ _ from k)
      show 2199023255552 = scF z d w
      rw [s2 k, scF_pos s1, eq]
  have k1 : ¬ 2199023255552 < q := k1
  rw [if_neg k1] at eq
  refine res_ite (fun k2 => ?_) fun k2 => ?_
  · have k2 : ¬ w = 0 ∧ 0 < r := k2
    rw [if_pos ⟨by omega, k2.2⟩] at eq
    refine res_ite (fun k => ?_) fun k => ?_
    · have k : ¬ (n < 0 ∧ x < 0 ∨ 0 ≤ n ∧ 0 ≤ x) := k
      show 0 - (q + 1) = scF z d w
      rw [s3 k, scF_neg s1, eq]; omega
    · have k : n < 0 ∧ x < 0 ∨ 0 ≤ n ∧ 0 ≤ x := Classical.not_not.1 (show ¬ ¬ _ from k)
      show q + 1 = scF z d w
      rw [s2 k, scF_pos s1, eq]
  · have k2 : ¬ (¬ w = 0 ∧ 0 < r) := k2
    rw [if_neg (fun k => k2 ⟨by omega, k.2⟩)] at eq
    refine res_ite (fun k => ?_) fun k => ?_
    · have k : ¬ (n < 0 ∧ x < 0 ∨ 0 ≤ n ∧ 0 ≤ x) := k
      show 0 - q = scF z d w
      rw [s3 k, scF_neg s1, eq]; omega
    · have k : n < 0 ∧ x < 0 ∨ 0 ≤ n ∧ 0 ≤ x := Classical.not_not.1 (show ¬ ¬ _ from k)
      show q = scF z d w
      rw [s2 k, scF_pos s1, eq]
theorem cIn_ok (N : Nat) (w0 : World) : ConOk Try.prog tb N w0 (cIn 31) := by
  refine con_of_walk (tb := tb) fine (C := []) noCon 80 rfl ?_ N w0
  refine fun a _ _ b _ _ c _ _ d _ _ _ => ?_
  rw [tree_in]
  show T.res _ (fun y => InP a b c d (gi y 0) (gi y 1)) _ _
  refine res_ite (fun h => ?_) fun h => ?_
  · have h : (a < -1099511627776 ∨ b < a) ∨ 1099511627776 < b := h
    exact ⟨fun k => by omega, fun _ => ⟨rfl, rfl⟩⟩
  have h : ¬ ((a < -1099511627776 ∨ b < a) ∨ 1099511627776 < b) := h
  refine res_ite (fun k => ?_) fun k => ?_
  · have k : (c < -1099511627776 ∨ d < c) ∨ 1099511627776 < d := k
    exact ⟨fun q => by omega, fun _ => ⟨rfl, rfl⟩⟩
  have k : ¬ ((c < -1099511627776 ∨ d < c) ∨ 1099511627776 < d) := k
  refine res_ite (fun l => ?_) fun l => ?_
  · have l : c ≤ a ∧ b ≤ d := l
    exact ⟨fun _ => ⟨⟨fun _ => l, fun _ => rfl⟩, rfl⟩, fun q => absurd (by omega) q⟩
  · have l : ¬ (c ≤ a ∧ b ≤ d) := l
    exact ⟨fun _ => ⟨⟨fun z => absurd (show (0 : Int) = 1 from z) (by decide), fun z => absurd z l⟩, rfl⟩, fun q => absurd (by omega) q⟩
end Go.Proofs.Ytgaaommfemgnnaa
