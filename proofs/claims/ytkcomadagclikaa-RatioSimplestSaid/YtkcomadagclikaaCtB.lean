/- DERIVED. The operations of ratios keep their contracts. -/
import Derived.Test.YtkcomadagclikaaTreeB
namespace Go.Proofs.Ytkcomadagclikaa
open Go.Sx
set_option linter.unusedVariables false
set_option linter.unusedSimpArgs false
theorem mb {x y : Int} (h1 : -1073741824 ≤ x) (h2 : x ≤ 1073741824) (h3 : -1073741824 ≤ y) (h4 : y ≤ 1073741824) : -1152921504606846976 ≤ x * y ∧ x * y ≤ 1152921504606846976 := by
  have := mul_rng h1 h2 h3 h4
  simp [imax, iabs] at this
  omega
theorem w_id {z : Int} (h1 : -9223372036854775808 ≤ z) (h2 : z ≤ 9223372036854775807) : IntKind.i64.wrap z = z := wrap_in .i64 z h1 h2
theorem Val.b {N D : Int} (h : Val N D) : 1 ≤ D ∧ D ≤ 1073741824 ∧ -1073741824 ≤ N ∧ N ≤ 1073741824 := ⟨h.1, h.2.1, h.2.2.1, h.2.2.2.1⟩
open Classical in
theorem okAdd {σ τ} : ∀ N w0, ConOk Try.prog N w0 σ τ (cAdd 15) := by
  refine con_of_walk (tb := tb) (C := [cChk, cLow]) fine (conCons okChk (conCons okLow noCon)) 1000 ⟨[i64b, i64b, i64b, i64b], [], []⟩ rfl fun xs hp hl => ?_
  match xs, hp with
  | [a, b, c, d], hp =>
  obtain ⟨⟨h1, h2⟩, ⟨h3, h4⟩, ⟨h5, h6⟩, ⟨h7, h8⟩⟩ := hp
  refine ⟨in_bnd ⟨h1, h2, h3, h4, h5, h6, h7, h8, trivial⟩, ?_⟩
  clear hl
  rw [show runP tb [cChk, cLow] 1000 (cAdd 15).f (argsOf (cAdd 15).args 0) ⟨[i64b, i64b, i64b, i64b], [], []⟩ = _ from tree_add]
  simp only [T.res, resOk, svV, pvV, pvsV, cellV, cellsV, E.den, B.den, B.prop, allB, inB, kb, if_true, and_true, List.map_cons, List.map_nil, List.getD_cons_zero, List.getD_cons_succ, List.cons_append, List.nil_append, List.append_nil, List.getElem?_cons_zero, List.getElem?_cons_succ, cChk, cLow, cVal, cMake, cMakeR, cOp, cAdd]
  refine ⟨⟨⟨h1, h2⟩, h3, h4⟩, fun e e0 e1 he => ⟨fun h => ?_, fun h => ?_⟩⟩
  · have hv : ¬ V2 a b c d := fun hv => h (by have hv1 := hv.1; rw [he, if_pos hv1])
    refine ⟨by omega, fun hv' => absurd hv' hv, fun _ => ⟨rfl, rfl, ?_⟩⟩
    rw [he, if_neg]
    exact fun hv1 => h (by rw [he, if_pos hv1])
  · have hv1 : Val a b := Classical.byContradiction fun hn => h (by rw [he, if_neg hn]; omega)
    obtain ⟨b1, b2, b3, b4⟩ := hv1.b
    refine ⟨⟨⟨h5, h6⟩, h7, h8⟩, fun e' e0' e1' he' => ⟨fun h' => ?_, fun h' => ?_⟩⟩
    · have hv2 : ¬ Val c d := fun hv2 => h' (by rw [he', if_pos hv2])
      refine ⟨by omega, fun hv' => absurd hv'.2 hv2, fun _ => ⟨rfl, rfl, ?_⟩⟩
      rw [he', if_neg hv2]
    · have hv2 : Val c d := Classical.byContradiction fun hn => h' (by rw [he', if_neg hn]; omega)
      obtain ⟨b5, b6, b7, b8⟩ := hv2.b
      have q1 := mb b3 b4 (show -1073741824 ≤ d by omega) b6
      have q2 := mb b7 b8 (show -1073741824 ≤ b by omega) b2
      have q3 := mb (show -1073741824 ≤ b by omega) b2 (show -1073741824 ≤ d by omega) b6
      have q4 := mb b3 b4 b7 b8
      have q5 := mb (show -1073741824 ≤ b by omega) b2 b7 b8
      rw [w_id (z := a * d) (by omega) (by omega), w_id (z := c * b) (by omega) (by omega), w_id (z := b * d) (by omega) (by omega), w_id (z := a * d + c * b) (by omega) (by omega)]
      have hd0 : b * d ≠ 0 := Int.mul_ne_zero (by omega) (by omega)
      refine ⟨⟨⟨by omega, by omega⟩, ⟨by omega, by omega⟩, hd0⟩, fun x x0 x1 y y0 y1 z z0 z1 hq => ⟨by omega, fun _ => hq, fun hv' => absurd ⟨hv1, hv2⟩ hv'⟩⟩
open Classical in
theorem okAddR {σ τ} : ∀ N w0, ConOk Try.prog N w0 σ τ (cAdd 16) := by
  refine con_of_walk (tb := tb) (C := [cVal, cMakeR]) fine (conCons okVal (conCons okMakeR noCon)) 1000 ⟨[i64b, i64b, i64b, i64b], [], []⟩ rfl fun xs hp hl => ?_
  match xs, hp with
  | [a, b, c, d], hp =>
  obtain ⟨⟨h1, h2⟩, ⟨h3, h4⟩, ⟨h5, h6⟩, ⟨h7, h8⟩⟩ := hp
  refine ⟨in_bnd ⟨h1, h2, h3, h4, h5, h6, h7, h8, trivial⟩, ?_⟩
  clear hl
  rw [show runP tb [cVal, cMakeR] 1000 (cAdd 16).f (argsOf (cAdd 16).args 0) ⟨[i64b, i64b, i64b, i64b], [], []⟩ = _ from tree_addR]
  simp only [T.res, resOk, svV, pvV, pvsV, cellV, cellsV, E.den, B.den, B.prop, allB, inB, kb, if_true, and_true, List.map_cons, List.map_nil, List.getD_cons_zero, List.getD_cons_succ, List.cons_append, List.nil_append, List.append_nil, List.getElem?_cons_zero, List.getElem?_cons_succ, cChk, cLow, cVal, cMake, cMakeR, cOp, cAdd]
  refine ⟨⟨⟨h1, h2⟩, h3, h4⟩, fun e e0 e1 he => ⟨fun h => ?_, fun h => ?_⟩⟩
  · have hv1 : Val a b := Classical.byContradiction fun hn => h (by rw [he, if_neg hn])
    obtain ⟨b1, b2, b3, b4⟩ := hv1.b
    refine ⟨⟨⟨h5, h6⟩, h7, h8⟩, fun e' e0' e1' he' => ⟨fun h' => ?_, fun h' => ?_⟩⟩
    · have hv2 : ¬ Val c d := fun hv2 => absurd h' (by rw [he', if_pos hv2]; omega)
      exact ⟨by omega, fun hv' => absurd hv'.2 hv2, fun _ => ⟨rfl, rfl, rfl⟩⟩
    · have hv2 : Val c d := Classical.byContradiction fun hn => h' (by rw [he', if_neg hn])
      obtain ⟨b5, b6, b7, b8⟩ := hv2.b
      have q1 := mb b3 b4 (show -1073741824 ≤ d by omega) b6
      have q2 := mb b7 b8 (show -1073741824 ≤ b by omega) b2
      have q3 := mb (show -1073741824 ≤ b by omega) b2 (show -1073741824 ≤ d by omega) b6
      have q4 := mb b3 b4 b7 b8
      have q5 := mb (show -1073741824 ≤ b by omega) b2 b7 b8
      rw [w_id (z := a * d) (by omega) (by omega), w_id (z := c * b) (by omega) (by omega), w_id (z := b * d) (by omega) (by omega), w_id (z := a * d + c * b) (by omega) (by omega)]
      have hd0 : b * d ≠ 0 := Int.mul_ne_zero (by omega) (by omega)
      refine ⟨⟨⟨by omega, by omega⟩, ⟨by omega, by omega⟩⟩, fun x x0 x1 y y0 y1 z z0 z1 hq => ⟨by omega, fun _ => hq, fun hv' => absurd ⟨hv1, hv2⟩ hv'⟩⟩
  · have hv1 : ¬ Val a b := fun hv1 => h (by rw [he, if_pos hv1]; omega)
    exact ⟨by omega, fun hv' => absurd hv'.1 hv1, fun _ => ⟨rfl, rfl, rfl⟩⟩
open Classical in
theorem okMul {σ τ} : ∀ N w0, ConOk Try.prog N w0 σ τ (cMul 19) := by
  refine con_of_walk (tb := tb) (C := [cChk, cLow]) fine (conCons okChk (conCons okLow noCon)) 1000 ⟨[i64b, i64b, i64b, i64b], [], []⟩ rfl fun xs hp hl => ?_
  match xs, hp with
  | [a, b, c, d], hp =>
  obtain ⟨⟨h1, h2⟩, ⟨h3, h4⟩, ⟨h5, h6⟩, ⟨h7, h8⟩⟩ := hp
  refine ⟨in_bnd ⟨h1, h2, h3, h4, h5, h6, h7, h8, trivial⟩, ?_⟩
  clear hl
  rw [show runP tb [cChk, cLow] 1000 (cMul 19).f (argsOf (cMul 19).args 0) ⟨[i64b, i64b, i64b, i64b], [], []⟩ = _ from tree_mul]
  simp only [T.res, resOk, svV, pvV, pvsV, cellV, cellsV, E.den, B.den, B.prop, allB, inB, kb, if_true, and_true, List.map_cons, List.map_nil, List.getD_cons_zero, List.getD_cons_succ, List.cons_append, List.nil_append, List.append_nil, List.getElem?_cons_zero, List.getElem?_cons_succ, cChk, cLow, cVal, cMake, cMakeR, cOp, cMul]
  refine ⟨⟨⟨h1, h2⟩, h3, h4⟩, fun e e0 e1 he => ⟨fun h => ?_, fun h => ?_⟩⟩
  · have hv : ¬ V2 a b c d := fun hv => h (by have hv1 := hv.1; rw [he, if_pos hv1])
    refine ⟨by omega, fun hv' => absurd hv' hv, fun _ => ⟨rfl, rfl, ?_⟩⟩
    rw [he, if_neg]
    exact fun hv1 => h (by rw [he, if_pos hv1])
  · have hv1 : Val a b := Classical.byContradiction fun hn => h (by rw [he, if_neg hn]; omega)
    obtain ⟨b1, b2, b3, b4⟩ := hv1.b
    refine ⟨⟨⟨h5, h6⟩, h7, h8⟩, fun e' e0' e1' he' => ⟨fun h' => ?_, fun h' => ?_⟩⟩
    · have hv2 : ¬ Val c d := fun hv2 => h' (by rw [he', if_pos hv2])
      refine ⟨by omega, fun hv' => absurd hv'.2 hv2, fun _ => ⟨rfl, rfl, ?_⟩⟩
      rw [he', if_neg hv2]
    · have hv2 : Val c d := Classical.byContradiction fun hn => h' (by rw [he', if_neg hn]; omega)
      obtain ⟨b5, b6, b7, b8⟩ := hv2.b
      have q1 := mb b3 b4 (show -1073741824 ≤ d by omega) b6
      have q2 := mb b7 b8 (show -1073741824 ≤ b by omega) b2
      have q3 := mb (show -1073741824 ≤ b by omega) b2 (show -1073741824 ≤ d by omega) b6
      have q4 := mb b3 b4 b7 b8
      have q5 := mb (show -1073741824 ≤ b by omega) b2 b7 b8
      rw [w_id (z := a * c) (by omega) (by omega), w_id (z := b * d) (by omega) (by omega)]
      have hd0 : b * d ≠ 0 := Int.mul_ne_zero (by omega) (by omega)
      refine ⟨⟨⟨by omega, by omega⟩, ⟨by omega, by omega⟩, hd0⟩, fun x x0 x1 y y0 y1 z z0 z1 hq => ⟨by omega, fun _ => hq, fun hv' => absurd ⟨hv1, hv2⟩ hv'⟩⟩
open Classical in
theorem okMulR {σ τ} : ∀ N w0, ConOk Try.prog N w0 σ τ (cMul 20) := by
  refine con_of_walk (tb := tb) (C := [cVal, cMakeR]) fine (conCons okVal (conCons okMakeR noCon)) 1000 ⟨[i64b, i64b, i64b, i64b], [], []⟩ rfl fun xs hp hl => ?_
  match xs, hp with
  | [a, b, c, d], hp =>
  obtain ⟨⟨h1, h2⟩, ⟨h3, h4⟩, ⟨h5, h6⟩, ⟨h7, h8⟩⟩ := hp
  refine ⟨in_bnd ⟨h1, h2, h3, h4, h5, h6, h7, h8, trivial⟩, ?_⟩
  clear hl
  rw [show runP tb [cVal, cMakeR] 1000 (cMul 20).f (argsOf (cMul 20).args 0) ⟨[i64b, i64b, i64b, i64b], [], []⟩ = _ from tree_mulR]
  simp only [T.res, resOk, svV, pvV, pvsV, cellV, cellsV, E.den, B.den, B.prop, allB, inB, kb, if_true, and_true, List.map_cons, List.map_nil, List.getD_cons_zero, List.getD_cons_succ, List.cons_append, List.nil_append, List.append_nil, List.getElem?_cons_zero, List.getElem?_cons_succ, cChk, cLow, cVal, cMake, cMakeR, cOp, cMul]
  refine ⟨⟨⟨h1, h2⟩, h3, h4⟩, fun e e0 e1 he => ⟨fun h => ?_, fun h => ?_⟩⟩
  · have hv1 : Val a b := Classical.byContradiction fun hn => h (by rw [he, if_neg hn])
    obtain ⟨b1, b2, b3, b4⟩ := hv1.b
    refine ⟨⟨⟨h5, h6⟩, h7, h8⟩, fun e' e0' e1' he' => ⟨fun h' => ?_, fun h' => ?_⟩⟩
    · have hv2 : ¬ Val c d := fun hv2 => absurd h' (by rw [he', if_pos hv2]; omega)
      exact ⟨by omega, fun hv' => absurd hv'.2 hv2, fun _ => ⟨rfl, rfl, rfl⟩⟩
    · have hv2 : Val c d := Classical.byContradiction fun hn => h' (by rw [he', if_neg hn])
      obtain ⟨b5, b6, b7, b8⟩ := hv2.b
      have q1 := mb b3 b4 (show -1073741824 ≤ d by omega) b6
      have q2 := mb b7 b8 (show -1073741824 ≤ b by omega) b2
      have q3 := mb (show -1073741824 ≤ b by omega) b2 (show -1073741824 ≤ d by omega) b6
      have q4 := mb b3 b4 b7 b8
      have q5 := mb (show -1073741824 ≤ b by omega) b2 b7 b8
      rw [w_id (z := a * c) (by omega) (by omega), w_id (z := b * d) (by omega) (by omega)]
      have hd0 : b * d ≠ 0 := Int.mul_ne_zero (by omega) (by omega)
      refine ⟨⟨⟨by omega, by omega⟩, ⟨by omega, by omega⟩⟩, fun x x0 x1 y y0 y1 z z0 z1 hq => ⟨by omega, fun _ => hq, fun hv' => absurd ⟨hv1, hv2⟩ hv'⟩⟩
  · have hv1 : ¬ Val a b := fun hv1 => h (by rw [he, if_pos hv1]; omega)
    exact ⟨by omega, fun hv' => absurd hv'.1 hv1, fun _ => ⟨rfl, rfl, rfl⟩⟩
open Classical in
theorem okQuo {σ τ} : ∀ N w0, ConOk Try.prog N w0 σ τ (cQuo 21) := by
  refine con_of_walk (tb := tb) (C := [cChk, cLow]) fine (conCons okChk (conCons okLow noCon)) 1000 ⟨[i64b, i64b, i64b, i64b], [], []⟩ rfl fun xs hp hl => ?_
  match xs, hp with
  | [a, b, c, d], hp =>
  obtain ⟨⟨h1, h2⟩, ⟨h3, h4⟩, ⟨h5, h6⟩, ⟨h7, h8⟩⟩ := hp
  refine ⟨in_bnd ⟨h1, h2, h3, h4, h5, h6, h7, h8, trivial⟩, ?_⟩
  clear hl
  rw [show runP tb [cChk, cLow] 1000 (cQuo 21).f (argsOf (cQuo 21).args 0) ⟨[i64b, i64b, i64b, i64b], [], []⟩ = _ from tree_quo]
  simp only [T.res, resOk, svV, pvV, pvsV, cellV, cellsV, E.den, B.den, B.prop, allB, inB, kb, if_true, and_true, List.map_cons, List.map_nil, List.getD_cons_zero, List.getD_cons_succ, List.cons_append, List.nil_append, List.append_nil, List.getElem?_cons_zero, List.getElem?_cons_succ, cChk, cLow, cVal, cMake, cMakeR, cOp, cQuo]
  refine ⟨⟨⟨h1, h2⟩, h3, h4⟩, fun e e0 e1 he => ⟨fun h => ?_, fun h => ?_⟩⟩
  · have hv : ¬ V3 a b c d := fun hv => h (by have hv1 := hv.1; rw [he, if_pos hv1])
    refine ⟨by omega, fun hv' => absurd hv' hv, fun _ => ⟨rfl, rfl, ?_⟩⟩
    rw [he, if_neg]
    exact fun hv1 => h (by rw [he, if_pos hv1])
  · have hv1 : Val a b := Classical.byContradiction fun hn => h (by rw [he, if_neg hn]; omega)
    obtain ⟨b1, b2, b3, b4⟩ := hv1.b
    refine ⟨⟨⟨h5, h6⟩, h7, h8⟩, fun e' e0' e1' he' => ⟨fun h' => ?_, fun h' => ?_⟩⟩
    · have hv2 : ¬ Val c d := fun hv2 => h' (by rw [he', if_pos hv2])
      refine ⟨by omega, fun hv' => absurd hv'.2.1 hv2, fun _ => ⟨rfl, rfl, ?_⟩⟩
      rw [he', if_neg hv2]
    · have hv2 : Val c d := Classical.byContradiction fun hn => h' (by rw [he', if_neg hn]; omega)
      obtain ⟨b5, b6, b7, b8⟩ := hv2.b
      refine ⟨fun hc => ?_, fun hc0 => ?_⟩
      · exact ⟨by omega, fun hv' => absurd hc hv'.2.2, fun _ => ⟨rfl, rfl, rfl⟩⟩
      have q1 := mb b3 b4 (show -1073741824 ≤ d by omega) b6
      have q2 := mb b7 b8 (show -1073741824 ≤ b by omega) b2
      have q3 := mb (show -1073741824 ≤ b by omega) b2 (show -1073741824 ≤ d by omega) b6
      have q4 := mb b3 b4 b7 b8
      have q5 := mb (show -1073741824 ≤ b by omega) b2 b7 b8
      rw [w_id (z := a * d) (by omega) (by omega), w_id (z := b * c) (by omega) (by omega)]
      have hd0 : b * c ≠ 0 := Int.mul_ne_zero (by omega) (by omega)
      refine ⟨⟨⟨by omega, by omega⟩, ⟨by omega, by omega⟩, hd0⟩, fun x x0 x1 y y0 y1 z z0 z1 hq => ⟨by omega, fun _ => hq, fun hv' => absurd ⟨hv1, hv2, hc0⟩ hv'⟩⟩
open Classical in
theorem okQuoR {σ τ} : ∀ N w0, ConOk Try.prog N w0 σ τ (cQuo 22) := by
  refine con_of_walk (tb := tb) (C := [cVal, cMakeR]) fine (conCons okVal (conCons okMakeR noCon)) 1000 ⟨[i64b, i64b, i64b, i64b], [], []⟩ rfl fun xs hp hl => ?_
  match xs, hp with
  | [a, b, c, d], hp =>
  obtain ⟨⟨h1, h2⟩, ⟨h3, h4⟩, ⟨h5, h6⟩, ⟨h7, h8⟩⟩ := hp
  refine ⟨in_bnd ⟨h1, h2, h3, h4, h5, h6, h7, h8, trivial⟩, ?_⟩
  clear hl
  rw [show runP tb [cVal, cMakeR] 1000 (cQuo 22).f (argsOf (cQuo 22).args 0) ⟨[i64b, i64b, i64b, i64b], [], []⟩ = _ from tree_quoR]
  simp only [T.res, resOk, svV, pvV, pvsV, cellV, cellsV, E.den, B.den, B.prop, allB, inB, kb, if_true, and_true, List.map_cons, List.map_nil, List.getD_cons_zero, List.getD_cons_succ, List.cons_append, List.nil_append, List.append_nil, List.getElem?_cons_zero, List.getElem?_cons_succ, cChk, cLow, cVal, cMake, cMakeR, cOp, cQuo]
  refine ⟨⟨⟨h1, h2⟩, h3, h4⟩, fun e e0 e1 he => ⟨fun h => ?_, fun h => ?_⟩⟩
  · have hv1 : Val a b := Classical.byContradiction fun hn => h (by rw [he, if_neg hn])
    obtain ⟨b1, b2, b3, b4⟩ := hv1.b
    refine ⟨⟨⟨h5, h6⟩, h7, h8⟩, fun e' e0' e1' he' => ⟨fun h' => ?_, fun h' => ?_⟩⟩
    · refine ⟨by omega, fun hv' => ?_, fun _ => ⟨rfl, rfl, rfl⟩⟩
      rcases h' with h' | h'
      · exact absurd h' (by rw [he', if_pos hv'.2.1]; omega)
      · exact absurd h' hv'.2.2
    · have hc0 : ¬ c = 0 := fun hc => h' (Or.inr hc)
      have hv2 : Val c d := Classical.byContradiction fun hn => h' (Or.inl (by rw [he', if_neg hn]))
      obtain ⟨b5, b6, b7, b8⟩ := hv2.b
      have q1 := mb b3 b4 (show -1073741824 ≤ d by omega) b6
      have q2 := mb b7 b8 (show -1073741824 ≤ b by omega) b2
      have q3 := mb (show -1073741824 ≤ b by omega) b2 (show -1073741824 ≤ d by omega) b6
      have q4 := mb b3 b4 b7 b8
      have q5 := mb (show -1073741824 ≤ b by omega) b2 b7 b8
      rw [w_id (z := a * d) (by omega) (by omega), w_id (z := b * c) (by omega) (by omega)]
      have hd0 : b * c ≠ 0 := Int.mul_ne_zero (by omega) (by omega)
      refine ⟨⟨⟨by omega, by omega⟩, ⟨by omega, by omega⟩⟩, fun x x0 x1 y y0 y1 z z0 z1 hq => ⟨by omega, fun _ => hq, fun hv' => absurd ⟨hv1, hv2, hc0⟩ hv'⟩⟩
  · have hv1 : ¬ Val a b := fun hv1 => h (by rw [he, if_pos hv1]; omega)
    exact ⟨by omega, fun hv' => absurd hv'.1 hv1, fun _ => ⟨rfl, rfl, rfl⟩⟩
open Classical in
theorem okSubR {σ τ} : ∀ N w0, ConOk Try.prog N w0 σ τ (cSub 18) := by
  refine con_of_walk (tb := tb) (C := [cVal, cMakeR]) fine (conCons okVal (conCons okMakeR noCon)) 1000 ⟨[i64b, i64b, i64b, i64b], [], []⟩ rfl fun xs hp hl => ?_
  match xs, hp with
  | [a, b, c, d], hp =>
  obtain ⟨⟨h1, h2⟩, ⟨h3, h4⟩, ⟨h5, h6⟩, ⟨h7, h8⟩⟩ := hp
  refine ⟨in_bnd ⟨h1, h2, h3, h4, h5, h6, h7, h8, trivial⟩, ?_⟩
  clear hl
  rw [show runP tb [cVal, cMakeR] 1000 (cSub 18).f (argsOf (cSub 18).args 0) ⟨[i64b, i64b, i64b, i64b], [], []⟩ = _ from tree_subR]
  simp only [T.res, resOk, svV, pvV, pvsV, cellV, cellsV, E.den, B.den, B.prop, allB, inB, kb, if_true, and_true, List.map_cons, List.map_nil, List.getD_cons_zero, List.getD_cons_succ, List.cons_append, List.nil_append, List.append_nil, List.getElem?_cons_zero, List.getElem?_cons_succ, cChk, cLow, cVal, cMake, cMakeR, cOp, cSub]
  refine ⟨⟨⟨h1, h2⟩, h3, h4⟩, fun e e0 e1 he => ⟨fun h => ?_, fun h => ?_⟩⟩
  · have hv1 : Val a b := Classical.byContradiction fun hn => h (by rw [he, if_neg hn])
    obtain ⟨b1, b2, b3, b4⟩ := hv1.b
    refine ⟨⟨⟨h5, h6⟩, h7, h8⟩, fun e' e0' e1' he' => ⟨fun h' => ?_, fun h' => ?_⟩⟩
    · have hv2 : ¬ Val c d := fun hv2 => absurd h' (by rw [he', if_pos hv2]; omega)
      exact ⟨by omega, fun hv' => absurd hv'.2 hv2, fun _ => ⟨rfl, rfl, rfl⟩⟩
    · have hv2 : Val c d := Classical.byContradiction fun hn => h' (by rw [he', if_neg hn])
      obtain ⟨b5, b6, b7, b8⟩ := hv2.b
      have q1 := mb b3 b4 (show -1073741824 ≤ d by omega) b6
      have q2 := mb b7 b8 (show -1073741824 ≤ b by omega) b2
      have q3 := mb (show -1073741824 ≤ b by omega) b2 (show -1073741824 ≤ d by omega) b6
      have q4 := mb b3 b4 b7 b8
      have q5 := mb (show -1073741824 ≤ b by omega) b2 b7 b8
      rw [w_id (z := a * d) (by omega) (by omega), w_id (z := c * b) (by omega) (by omega), w_id (z := b * d) (by omega) (by omega), w_id (z := a * d - c * b) (by omega) (by omega)]
      have hd0 : b * d ≠ 0 := Int.mul_ne_zero (by omega) (by omega)
      refine ⟨⟨⟨by omega, by omega⟩, ⟨by omega, by omega⟩⟩, fun x x0 x1 y y0 y1 z z0 z1 hq => ⟨by omega, fun _ => hq, fun hv' => absurd ⟨hv1, hv2⟩ hv'⟩⟩
  · have hv1 : ¬ Val a b := fun hv1 => h (by rw [he, if_pos hv1]; omega)
    exact ⟨by omega, fun hv' => absurd hv'.1 hv1, fun _ => ⟨rfl, rfl, rfl⟩⟩
end Go.Proofs.Ytkcomadagclikaa
