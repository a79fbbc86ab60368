/- DERIVED. Sums, differences, products, hulls of the program: contracts. -/
import Derived.Test.YtgaaommfemgnnaaEcwi
import Derived.Test.YtgaaommfemgnnaaEtri
namespace Go.Proofs.Ytgaaommfemgnnaa
open Go.Dx
set_option linter.unusedVariables false
theorem cAdd_ok (M : Nat) (w0 : World) : ConOk Try.prog tb M w0 (cAdd 13) := by
  refine con_of_walk (tb := tb) fine (C := []) noCon 80 rfl ?_ M w0
  refine fun a _ _ b _ _ c _ _ d _ _ _ => ?_
  rw [tree_add]
  show T.res _ (fun y => OpP (V a b ∧ V c d) (a + c) (b + d) (gi y 0) (gi y 1) (gi y 2)) _ _
  refine res_ite (fun h => ?_) fun h => ?_
  · have h : (a < -1099511627776 ∨ b < a) ∨ 1099511627776 < b := h
    exact op_no (by omega)
  have h : ¬ ((a < -1099511627776 ∨ b < a) ∨ 1099511627776 < b) := h
  refine res_ite (fun k => ?_) fun k => ?_
  · have k : (c < -1099511627776 ∨ d < c) ∨ 1099511627776 < d := k
    exact op_no (by omega)
  have k : ¬ ((c < -1099511627776 ∨ d < c) ∨ 1099511627776 < d) := k
  have hA : V a b ∧ V c d := by omega
  have w1 : IntKind.i64.wrap (a + c) = a + c := wI (by omega) (by omega)
  refine res_ite (fun l => ?_) fun l => ?_
  · have l : (min (IntKind.i64.wrap (a + c)) (b + d) < -1099511627776 ∨ max (IntKind.i64.wrap (a + c)) (b + d) < min (IntKind.i64.wrap (a + c)) (b + d)) ∨ 1099511627776 < max (IntKind.i64.wrap (a + c)) (b + d) := l
    rw [w1] at l
    exact op_big hA (by omega)
  have l : ¬ ((min (IntKind.i64.wrap (a + c)) (b + d) < -1099511627776 ∨ max (IntKind.i64.wrap (a + c)) (b + d) < min (IntKind.i64.wrap (a + c)) (b + d)) ∨ 1099511627776 < max (IntKind.i64.wrap (a + c)) (b + d)) := l
  rw [w1] at l
  refine res_ok (show -1099511627776 ≤ min (IntKind.i64.wrap (a + c)) (b + d) ∧ min (IntKind.i64.wrap (a + c)) (b + d) ≤ 1099511627776 by rw [w1]; omega) ?_
  refine res_ok (show -1099511627776 ≤ max (IntKind.i64.wrap (a + c)) (b + d) ∧ max (IntKind.i64.wrap (a + c)) (b + d) ≤ 1099511627776 by rw [w1]; omega) ?_
  show OpP (V a b ∧ V c d) (a + c) (b + d) (min (IntKind.i64.wrap (a + c)) (b + d)) (max (IntKind.i64.wrap (a + c)) (b + d)) 0
  rw [w1]
  exact op_ok hA (by omega) (by omega) (by omega)
theorem cSub_ok (M : Nat) (w0 : World) : ConOk Try.prog tb M w0 (cSub 15) := by
  refine con_of_walk (tb := tb) fine (C := []) noCon 80 rfl ?_ M w0
  refine fun a _ _ b _ _ c _ _ d _ _ _ => ?_
  rw [tree_sub]
  show T.res _ (fun y => OpP (V a b ∧ V c d) (a - d) (b - c) (gi y 0) (gi y 1) (gi y 2)) _ _
  refine res_ite (fun h => ?_) fun h => ?_
  · have h : (a < -1099511627776 ∨ b < a) ∨ 1099511627776 < b := h
    exact op_no (by omega)
  have h : ¬ ((a < -1099511627776 ∨ b < a) ∨ 1099511627776 < b) := h
  refine res_ite (fun k => ?_) fun k => ?_
  · have k : (c < -1099511627776 ∨ d < c) ∨ 1099511627776 < d := k
    exact op_no (by omega)
  have k : ¬ ((c < -1099511627776 ∨ d < c) ∨ 1099511627776 < d) := k
  have hA : V a b ∧ V c d := by omega
  have w1 : IntKind.i64.wrap (a - d) = a - d := wI (by omega) (by omega)
  have w2 : IntKind.i64.wrap (b - c) = b - c := wI (by omega) (by omega)
  refine res_ite (fun l => ?_) fun l => ?_
  · have l : (min (IntKind.i64.wrap (a - d)) (IntKind.i64.wrap (b - c)) < -1099511627776 ∨ max (IntKind.i64.wrap (a - d)) (IntKind.i64.wrap (b - c)) < min (IntKind.i64.wrap (a - d)) (IntKind.i64.wrap (b - c))) ∨ 1099511627776 < max (IntKind.i64.wrap (a - d)) (IntKind.i64.wrap (b - c)) := l
    rw [w1, w2] at l
    exact op_big hA (by omega)
  have l : ¬ ((min (IntKind.i64.wrap (a - d)) (IntKind.i64.wrap (b - c)) < -1099511627776 ∨ max (IntKind.i64.wrap (a - d)) (IntKind.i64.wrap (b - c)) < min (IntKind.i64.wrap (a - d)) (IntKind.i64.wrap (b - c))) ∨ 1099511627776 < max (IntKind.i64.wrap (a - d)) (IntKind.i64.wrap (b - c))) := l
  rw [w1, w2] at l
  refine res_ok (show -1099511627776 ≤ min (IntKind.i64.wrap (a - d)) (IntKind.i64.wrap (b - c)) ∧ min (IntKind.i64.wrap (a - d)) (IntKind.i64.wrap (b - c)) ≤ 1099511627776 by rw [w1, w2]; omega) ?_
  refine res_ok (show -1099511627776 ≤ max (IntKind.i64.wrap (a - d)) (IntKind.i64.wrap (b - c)) ∧ max (IntKind.i64.wrap (a - d)) (IntKind.i64.wrap (b - c)) ≤ 1099511627776 by rw [w1, w2]; omega) ?_
  show OpP (V a b ∧ V c d) (a - d) (b - c) (min (IntKind.i64.wrap (a - d)) (IntKind.i64.wrap (b - c))) (max (IntKind.i64.wrap (a - d)) (IntKind.i64.wrap (b - c))) 0
  rw [w1, w2]
  exact op_ok hA (by omega) (by omega) (by omega)
theorem cHull_ok (M : Nat) (w0 : World) : ConOk Try.prog tb M w0 (cHull 29) := by
  refine con_of_walk (tb := tb) fine (C := []) noCon 80 rfl ?_ M w0
  refine fun a _ _ b _ _ c _ _ d _ _ _ => ?_
  rw [tree_hull]
  show T.res _ (fun y => OpP (V a b ∧ V c d) (min a c) (max b d) (gi y 0) (gi y 1) (gi y 2)) _ _
  refine res_ite (fun h => ?_) fun h => ?_
  · have h : (a < -1099511627776 ∨ b < a) ∨ 1099511627776 < b := h
    exact op_no (by omega)
  have h : ¬ ((a < -1099511627776 ∨ b < a) ∨ 1099511627776 < b) := h
  refine res_ite (fun k => ?_) fun k => ?_
  · have k : (c < -1099511627776 ∨ d < c) ∨ 1099511627776 < d := k
    exact op_no (by omega)
  have k : ¬ ((c < -1099511627776 ∨ d < c) ∨ 1099511627776 < d) := k
  have hA : V a b ∧ V c d := by omega
  refine res_ok (show -1099511627776 ≤ max (max (max a b) c) d ∧ max (max (max a b) c) d ≤ 1099511627776 by omega) ?_
  exact show OpP (V a b ∧ V c d) (min a c) (max b d) (min (min (min a b) c) d) (max (max (max a b) c) d) 0 from op_ok hA (by omega) (by omega) (by omega)
theorem nst {lo hi q : Int} (h : lo ≤ hi) : min (min q lo) hi = min lo q ∧ max (max q lo) hi = max hi q ∧ min lo q ≤ max hi q := by omega
theorem mul_nest {q0 q1 q2 q3 q4 L1 H1 L2 H2 L3 H3 L4 H4 : Int} (h : q1 = q0) (l1 : min (min q1 q0) q0 = L1) (g1 : max (max q1 q0) q0 = H1) (l2 : min (min q2 L1) H1 = L2) (g2 : max (max q2 L1) H1 = H2) (l3 : min (min q3 L2) H2 = L3) (g3 : max (max q3 L2) H2 = H3) (l4 : min (min q4 L3) H3 = L4) (g4 : max (max q4 L3) H3 = H4) :
    L4 = min (min (min q1 q2) q3) q4 ∧ H4 = max (max (max q1 q2) q3) q4 := by
  have a1 : L1 = q1 := by omega
  have b1 : H1 = q1 := by omega
  obtain ⟨a2, b2, c2⟩ := nst (q := q2) (lo := L1) (hi := H1) (by omega)
  rw [l2] at a2
  rw [g2] at b2
  obtain ⟨a3, b3, c3⟩ := nst (q := q3) (lo := L2) (hi := H2) (by rw [a2, b2]; exact c2)
  rw [l3] at a3
  rw [g3] at b3
  obtain ⟨a4, b4, c4⟩ := nst (q := q4) (lo := L3) (hi := H3) (by rw [a3, b3]; exact c3)
  rw [l4] at a4
  rw [g4] at b4
  rw [a4, a3, a2, a1, b4, b3, b2, b1]
  exact ⟨rfl, rfl⟩
theorem mul_end {A : Prop} (hA : A) {p q r s L H : Int} (hL : L = min (min (min (clip p) (clip q)) (clip r)) (clip s)) (hH : H = max (max (max (clip p) (clip q)) (clip r)) (clip s)) :
    ((L < -1099511627776 ∨ H < L) ∨ 1099511627776 < H → OpP A (min (min (min p q) r) s) (max (max (max p q) r) s) 0 0 2) ∧
    (¬ ((L < -1099511627776 ∨ H < L) ∨ 1099511627776 < H) → OpP A (min (min (min p q) r) s) (max (max (max p q) r) s) L H 0) := by
  rw [← clip_min, ← clip_min, ← clip_min] at hL
  rw [← clip_max, ← clip_max, ← clip_max] at hH
  have hl : min (min (min p q) r) s ≤ max (max (max p q) r) s := by omega
  generalize min (min (min p q) r) s = l at *
  generalize max (max (max p q) r) s = h at *
  have l1 := clip_in (z := l)
  have l2 := clip_big (z := l)
  have l3 := clip_low (z := l)
  have h1 := clip_in (z := h)
  have h2 := clip_big (z := h)
  have h3 := clip_low (z := h)
  refine ⟨fun k => op_big hA ?_, fun k => op_ok hA ?_ ?_ ?_⟩ <;> omega
set_option maxRecDepth 100000 in
set_option maxHeartbeats 1000000 in
theorem cMul_ok (M : Nat) (w0 : World) : ConOk Try.prog tb M w0 (cMul 17) := by
  refine con_of_walk (tb := tb) fine (C := [cProd 42]) (conCons cProd_ok noCon) 80 rfl ?_ M w0
  refine fun a _ _ b _ _ c _ _ d _ _ _ => ?_
  rw [tree_mul]
  show T.res _ (fun y => OpP (V a b ∧ V c d) (min4 (a * c) (a * d) (b * c) (b * d)) (max4 (a * c) (a * d) (b * c) (b * d)) (gi y 0) (gi y 1) (gi y 2)) _ _
  refine res_ite (fun h => ?_) fun h => ?_
  · have h : (a < -1099511627776 ∨ b < a) ∨ 1099511627776 < b := h
    exact op_no (by omega)
  have h : ¬ ((a < -1099511627776 ∨ b < a) ∨ 1099511627776 < b) := h
  refine res_ite (fun k => ?_) fun k => ?_
  · have k : (c < -1099511627776 ∨ d < c) ∨ 1099511627776 < d := k
    exact op_no (by omega)
  have k : ¬ ((c < -1099511627776 ∨ d < c) ∨ 1099511627776 < d) := k
  have hA : V a b ∧ V c d := by omega
  have ia : -1099511627776 ≤ a ∧ a ≤ 1099511627776 := by omega
  have ic : -1099511627776 ≤ c ∧ c ≤ 1099511627776 := by omega
  refine res_ok (cvh (a := (((-1099511627776 : Int) ≤ a) ∧ (a ≤ 1099511627776))) (by kernel_rfl) (by omega)) ?_
  refine res_ok (cvh (a := (((-1099511627776 : Int) ≤ c) ∧ (c ≤ 1099511627776))) (by kernel_rfl) (by omega)) ?_
  refine res_con rfl trivial (fun q0 _ _ e0 => ?_)
  replace e0 := cvh (b := q0 = clip (a * c)) (by kernel_rfl) e0
  refine res_ok (cvh (a := (((-1099511627776 : Int) ≤ a) ∧ (a ≤ 1099511627776))) (by kernel_rfl) (by omega)) ?_
  refine res_ok (cvh (a := (((-1099511627776 : Int) ≤ c) ∧ (c ≤ 1099511627776))) (by kernel_rfl) (by omega)) ?_
  refine res_con rfl trivial (fun q1 _ _ e1 => ?_)
  replace e1 := cvh (b := q1 = clip (a * c)) (by kernel_rfl) e1
  refine res_ok (cvh (a := (((-1099511627776 : Int) ≤ a) ∧ (a ≤ 1099511627776))) (by kernel_rfl) (by omega)) ?_
  refine res_con rfl trivial (fun q2 _ _ e2 => ?_)
  replace e2 := cvh (b := q2 = clip (a * d)) (by kernel_rfl) e2
  refine res_ok (cvh (a := (((-1099511627776 : Int) ≤ c) ∧ (c ≤ 1099511627776))) (by kernel_rfl) (by omega)) ?_
  refine res_con rfl trivial (fun q3 _ _ e3 => ?_)
  replace e3 := cvh (b := q3 = clip (b * c)) (by kernel_rfl) e3
  refine res_con rfl trivial (fun q4 _ _ e4 => ?_)
  replace e4 := cvh (b := q4 = clip (b * d)) (by kernel_rfl) e4
  obtain ⟨hL, hH⟩ := mul_nest (q0 := q0) (q1 := q1) (q2 := q2) (q3 := q3) (q4 := q4) (e1.trans e0.symm) rfl rfl rfl rfl rfl rfl rfl rfl
  have fin := mul_end hA (p := a * c) (q := a * d) (r := b * c) (s := b * d) (L := min (min (q4) (min (min (q3) (min (min (q2) (min (min (q1) (q0)) (q0))) (max (max (q1) (q0)) (q0)))) (max (max (q2) (min (min (q1) (q0)) (q0))) (max (max (q1) (q0)) (q0))))) (max (max (q3) (min (min (q2) (min (min (q1) (q0)) (q0))) (max (max (q1) (q0)) (q0)))) (max (max (q2) (min (min (q1) (q0)) (q0))) (max (max (q1) (q0)) (q0))))) (H := max (max (q4) (min (min (q3) (min (min (q2) (min (min (q1) (q0)) (q0))) (max (max (q1) (q0)) (q0)))) (max (max (q2) (min (min (q1) (q0)) (q0))) (max (max (q1) (q0)) (q0))))) (max (max (q3) (min (min (q2) (min (min (q1) (q0)) (q0))) (max (max (q1) (q0)) (q0)))) (max (max (q2) (min (min (q1) (q0)) (q0))) (max (max (q1) (q0)) (q0))))) (by rw [← e1, ← e2, ← e3, ← e4]; exact hL) (by rw [← e1, ← e2, ← e3, ← e4]; exact hH)
  clear hL hH
  generalize hl : min (min (q4) (min (min (q3) (min (min (q2) (min (min (q1) (q0)) (q0))) (max (max (q1) (q0)) (q0)))) (max (max (q2) (min (min (q1) (q0)) (q0))) (max (max (q1) (q0)) (q0))))) (max (max (q3) (min (min (q2) (min (min (q1) (q0)) (q0))) (max (max (q1) (q0)) (q0)))) (max (max (q2) (min (min (q1) (q0)) (q0))) (max (max (q1) (q0)) (q0)))) = L at *
  generalize hh : max (max (q4) (min (min (q3) (min (min (q2) (min (min (q1) (q0)) (q0))) (max (max (q1) (q0)) (q0)))) (max (max (q2) (min (min (q1) (q0)) (q0))) (max (max (q1) (q0)) (q0))))) (max (max (q3) (min (min (q2) (min (min (q1) (q0)) (q0))) (max (max (q1) (q0)) (q0)))) (max (max (q2) (min (min (q1) (q0)) (q0))) (max (max (q1) (q0)) (q0)))) = H at *
  refine res_ite (fun l => ?_) fun l => ?_
  · have l : (L < -1099511627776 ∨ H < L) ∨ 1099511627776 < H := cvh (by subst hl hh; kernel_rfl) l
    exact cvh (a := OpP (V a b ∧ V c d) (min4 (a * c) (a * d) (b * c) (b * d)) (max4 (a * c) (a * d) (b * c) (b * d)) 0 0 2) (by kernel_rfl) (fin.1 l)
  have l : ¬ ((L < -1099511627776 ∨ H < L) ∨ 1099511627776 < H) := cvh (by subst hl hh; kernel_rfl) l
  refine res_ok (cvh (a := -1099511627776 ≤ L ∧ L ≤ 1099511627776) (by subst hl hh; kernel_rfl) (by omega)) ?_
  refine res_ok (cvh (a := -1099511627776 ≤ H ∧ H ≤ 1099511627776) (by subst hl hh; kernel_rfl) (by omega)) ?_
  exact cvh (a := OpP (V a b ∧ V c d) (min4 (a * c) (a * d) (b * c) (b * d)) (max4 (a * c) (a * d) (b * c) (b * d)) L H 0) (by subst hl hh; kernel_rfl) (fin.2 l)
end Go.Proofs.Ytgaaommfemgnnaa
