/- DERIVED. Ratios' checks keep their contracts. -/
import Derived.Test.YtcidomlhmdefaaaDtrf
import Derived.Test.YtcidomlhmdefaaaDmath
import Derived.KernelRfl
namespace Go.Proofs.Ytcidomlhmdefaaa
open Go.Dx
set_option linter.unusedVariables false
set_option linter.unusedSimpArgs false
theorem cvh {a b : Prop} (e : a = b) (h : a) : b := by rw [← e]; exact h
theorem wU (x : Int) : IntKind.u64.wrap x = x % 18446744073709551616 := by simp [IntKind.wrap, IntKind.signed, IntKind.bits]
theorem gcd_step (x y : Int) : gcdI y (x.tmod y) = gcdI x y := by
  unfold gcdI
  rw [Int.natAbs_tmod, Nat.gcd_comm y.natAbs, ← Nat.gcd_rec, Nat.gcd_comm]
theorem gcd_zero (x : Int) : gcdI x 0 = x.natAbs := by simp [gcdI]
theorem gcd_pos {a b : Int} (h : b ≠ 0) : 1 ≤ gcdI a b := by
  unfold gcdI
  have := Nat.gcd_pos_of_pos_right a.natAbs (n := b.natAbs) (by omega)
  omega
theorem tmod_lt (x y : Int) (hx : 0 ≤ x) (hy : 0 < y) : 0 ≤ x.tmod y ∧ x.tmod y < y := by
  rw [Int.tmod_eq_emod_of_nonneg hx]
  exact ⟨Int.emod_nonneg _ (by omega), Int.emod_lt_of_pos _ hy⟩
theorem cDiv_ok (N : Nat) (w0 : World) : ConOk Try.prog tb N w0 cDiv := by
  refine con_of_walk (tb := tb) fine (C := [lDivG]) (lopCons rfl noCon) 80 rfl ?_ N w0
  refine fun a a0 a1 b b0 b1 hp => ?_
  have hp : 1 ≤ b := hp
  rw [tree_div]
  simp only [T.res, B.prop, E.den, E.dat, E.top, E.val, E.isD, DV.canon, DV.int, List.getElem?_cons_zero, List.getElem?_cons_succ, List.getD_cons_zero, List.getD_cons_succ, List.getD_nil, List.map_cons, List.map_nil, List.cons_append, List.nil_append, allB, List.take_succ_cons, List.take_zero, List.length_cons, List.length_nil, Nat.zero_add, Nat.reduceAdd, lDivG, cDiv]
  refine ⟨⟨trivial, fun h => by omega⟩, fun x x0 x1 y y0 y1 g g0 g1 ⟨h1, h2⟩ => ⟨fun hy => ?_, fun hy => ?_⟩⟩
  · have h5 := tmod_lt x y x0 (by omega)
    exact ⟨⟨(gcd_step x y).trans h1, fun _ => trivial⟩, by omega⟩
  · have hy : y = 0 := Classical.not_not.1 hy
    subst hy
    have h6 := gcd_zero x
    have h7 := gcd_pos (a := a) (b := b) (by omega)
    have := h2 rfl
    refine ⟨fun _ => by omega, fun hn => hn (by omega)⟩
theorem cDivR_ok (N : Nat) (w0 : World) : ConOk Try.prog tb N w0 cDivR := by
  refine con_of_walk (tb := tb) fine (C := [lDivR]) (lopCons rfl noCon) 80 rfl ?_ N w0
  refine fun a a0 a1 b b0 b1 hp => ?_
  rw [tree_divR]
  simp only [T.res, B.prop, E.den, E.dat, E.top, E.val, E.isD, DV.canon, DV.int, List.getElem?_cons_zero, List.getElem?_cons_succ, List.getD_cons_zero, List.getD_cons_succ, List.getD_nil, List.map_cons, List.map_nil, List.cons_append, List.nil_append, allB, List.take_succ_cons, List.take_zero, List.length_cons, List.length_nil, Nat.zero_add, Nat.reduceAdd, lDivR, cDivR]
  refine ⟨trivial, fun x x0 x1 y y0 y1 h1 => ⟨fun hy => ?_, fun hy => ?_⟩⟩
  · have h5 := tmod_lt x y x0 (by omega)
    exact ⟨(gcd_step x y).trans h1, by omega⟩
  · have hy : y = 0 := by omega
    subst hy
    have h6 := gcd_zero x
    omega
theorem rt_yes {n d : Int} (h : VRat n d) : ChkP n d [.n 0] := ⟨fun _ => rfl, fun k => absurd h k⟩
theorem rt_no {n d : Int} (h : ¬ VRat n d) : ChkP n d [.n 120] := ⟨fun k => absurd k h, fun _ => rfl⟩
theorem vl_yes {p : Prop} (h : p) : ValP p [.n 1] := ⟨fun _ => rfl, fun k => absurd h k⟩
theorem vl_no {p : Prop} (h : ¬ p) : ValP p [.n 0] := ⟨fun k => absurd k h, fun _ => rfl⟩
theorem rt_in {n d x : Int} (h : ChkP n d [.n x]) : (VRat n d ∧ x = 0) ∨ (¬ VRat n d ∧ x = 120) := by
  by_cases k : VRat n d
  · have := h.1 k; simp only [List.cons.injEq, DV.n.injEq, and_true] at this; exact .inl ⟨k, this⟩
  · have := h.2 k; simp only [List.cons.injEq, DV.n.injEq, and_true] at this; exact .inr ⟨k, this⟩
theorem vl_in {p : Prop} {x : Int} (h : ValP p [.n x]) : (p ∧ x = 1) ∨ (¬ p ∧ x = 0) := by
  by_cases k : p
  · have := h.1 k; simp only [List.cons.injEq, DV.n.injEq, and_true] at this; exact .inl ⟨k, this⟩
  · have := h.2 k; simp only [List.cons.injEq, DV.n.injEq, and_true] at this; exact .inr ⟨k, this⟩
theorem cRat_ok (N : Nat) (w0 : World) : ConOk Try.prog tb N w0 cRat := by
  refine con_of_walk (tb := tb) fine (C := [cDiv]) (conCons cDiv_ok noCon) 80 rfl ?_ N w0
  refine fun n n0 n1 d d0 d1 _ => ?_
  rw [tree_rat]
  simp only [T.res, B.prop, E.den, E.dat, E.top, E.val, E.isD, DV.canon, DV.int, List.getElem?_cons_zero, List.getElem?_cons_succ, List.getD_cons_zero, List.getD_cons_succ, List.getD_nil, List.map_cons, List.map_nil, List.cons_append, List.nil_append, allB, List.take_succ_cons, List.take_zero, List.length_cons, List.length_nil, Nat.zero_add, Nat.reduceAdd, resB, resL', RSh.l, RC.vd, List.flatMap_cons, List.flatMap_nil, List.append_nil, List.replicate, cDiv, cRat, wU]
  have key : ∀ A g : Int, A = n.natAbs → g = gcdI A d → g = gcdI n d := fun A g hA hg => by rw [hg, hA]; simp [gcdI]
  refine ⟨fun h => ⟨fun hn => ⟨by omega, fun x x0 x1 hx => ?_⟩, fun hn => ⟨by omega, fun x x0 x1 hx => ?_⟩⟩, fun h => rt_no fun q => h ?_⟩
  · have hx := key _ x (by omega) hx
    exact ⟨fun h1 => rt_no fun q => h1 (by rw [hx]; exact q.2.2.2.2), fun h1 => rt_yes ⟨by omega, by omega, by omega, by omega, by omega⟩⟩
  · have hx := key _ x (by omega) hx
    exact ⟨fun h1 => rt_no fun q => h1 (by rw [hx]; exact q.2.2.2.2), fun h1 => rt_yes ⟨by omega, by omega, by omega, by omega, by omega⟩⟩
  · obtain ⟨q1, q2, q3, q4, _⟩ := q
    omega
theorem cVal_ok (N : Nat) (w0 : World) : ConOk Try.prog tb N w0 cVal := by
  refine con_of_walk (tb := tb) fine (C := [cDivR]) (conCons cDivR_ok noCon) 80 rfl ?_ N w0
  refine fun n n0 n1 d d0 d1 _ => ?_
  rw [tree_val]
  simp only [T.res, B.prop, E.den, E.dat, E.top, E.val, E.isD, DV.canon, DV.int, List.getElem?_cons_zero, List.getElem?_cons_succ, List.getD_cons_zero, List.getD_cons_succ, List.getD_nil, List.map_cons, List.map_nil, List.cons_append, List.nil_append, allB, List.take_succ_cons, List.take_zero, List.length_cons, List.length_nil, Nat.zero_add, Nat.reduceAdd, resB, resL', RSh.l, RC.vd, List.flatMap_cons, List.flatMap_nil, List.append_nil, List.replicate, cDivR, cVal]
  have key : ∀ A g : Int, A = n.natAbs → g = gcdI A d → g = gcdI n d := fun A g hA hg => by rw [hg, hA]; simp [gcdI]
  refine ⟨fun h => ⟨fun hn => ⟨trivial, fun x x0 x1 hx => ?_⟩, fun hn => ⟨trivial, fun x x0 x1 hx => ?_⟩⟩, fun h => vl_no fun q => h ?_⟩
  · have hx := key _ x (by omega) hx
    exact ⟨fun h1 => vl_yes ⟨by omega, by omega, by omega, by omega, by omega⟩, fun h1 => vl_no fun q => h1 (by rw [hx]; exact q.2.2.2.2)⟩
  · have hx := key _ x (by omega) hx
    exact ⟨fun h1 => vl_yes ⟨by omega, by omega, by omega, by omega, by omega⟩, fun h1 => vl_no fun q => h1 (by rw [hx]; exact q.2.2.2.2)⟩
  · obtain ⟨q1, q2, q3, q4, _⟩ := q
    omega
theorem cross_bd {n d : Int} (h1 : -1073741824 ≤ n) (h2 : n ≤ 1073741824) (h3 : 1 ≤ d) (h4 : d ≤ 1073741824) : -1152921504606846976 ≤ n * d ∧ n * d ≤ 1152921504606846976 := by
  have a1 : n * d ≤ 1073741824 * d := Int.mul_le_mul_of_nonneg_right h2 (by omega)
  have a2 : (-1073741824) * d ≤ n * d := Int.mul_le_mul_of_nonneg_right h1 (by omega)
  omega
theorem w_cross {a b c d : Int} (h : VRat a b) (k : VRat c d) : IntKind.i64.wrap (a * d) = a * d ∧ IntKind.i64.wrap (c * b) = c * b := by
  obtain ⟨h1, h2, h3, h4, _⟩ := h
  obtain ⟨k1, k2, k3, k4, _⟩ := k
  have x := cross_bd h3 h4 k1 k2
  have y := cross_bd k3 k4 h1 h2
  exact ⟨wI (by omega) (by omega), wI (by omega) (by omega)⟩
end Go.Proofs.Ytcidomlhmdefaaa
