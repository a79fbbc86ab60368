/- DERIVED. Difference, order, and products with integers keep their contracts. -/
import Derived.Test.YtkcomadagclikaaTreeC
namespace Go.Proofs.Ytkcomadagclikaa
open Go.Sx
set_option linter.unusedVariables false
set_option linter.unusedSimpArgs false
theorem val_neg (c d : Int) (h : I64 c) : Val (IntKind.i64.wrap (0 - c)) d ↔ Val c d := by
  unfold I64 at h
  by_cases hc : c = -9223372036854775808
  · have e : IntKind.i64.wrap (0 - c) = c := by rw [w_i64]; omega
    rw [e]
  · have e : IntKind.i64.wrap (0 - c) = -c := by rw [w_i64]; omega
    rw [e]
    have e2 : gcdI (-c) d = gcdI c d := gcd_neg _ _ _ _ (by omega) rfl
    unfold Val
    rw [e2]
    omega
theorem okSub {σ τ} : ∀ N w0, ConOk Try.prog N w0 σ τ (cSub 17) := by
  refine con_of_walk (tb := tb) (C := [cAdd 15]) fine (conCons okAdd noCon) 1000 ⟨[i64b, i64b, i64b, i64b], [], []⟩ rfl fun xs hp hl => ?_
  match xs, hp with
  | [a, b, c, d], hp =>
  obtain ⟨⟨h1, h2⟩, ⟨h3, h4⟩, ⟨h5, h6⟩, ⟨h7, h8⟩⟩ := hp
  refine ⟨in_bnd ⟨h1, h2, h3, h4, h5, h6, h7, h8, trivial⟩, ?_⟩
  clear hl
  rw [show runP tb [cAdd 15] 1000 (cSub 17).f (argsOf (cSub 17).args 0) ⟨[i64b, i64b, i64b, i64b], [], []⟩ = _ from tree_sub]
  simp only [T.res, resOk, svV, pvV, pvsV, cellV, cellsV, E.den, B.den, B.prop, allB, inB, kb, if_true, and_true, List.map_cons, List.map_nil, List.getD_cons_zero, List.getD_cons_succ, List.cons_append, List.nil_append, List.append_nil, List.getElem?_cons_zero, List.getElem?_cons_succ, cChk, cLow, cVal, cMake, cMakeR, cOp, cSub, cAdd]
  have hw : I64 (IntKind.i64.wrap (0 - c)) := by rw [w_i64]; unfold I64; omega
  refine ⟨⟨⟨h1, h2⟩, ⟨h3, h4⟩, hw, h7, h8⟩, fun x x0 x1 y y0 y1 z z0 z1 hq => ⟨by omega, ?_⟩⟩
  have hv := val_neg c d ⟨h5, h6⟩
  obtain ⟨q1, q2⟩ := hq
  refine ⟨fun hv' => ?_, fun hv' => q2 fun hv2 => hv' ⟨hv2.1, hv.1 hv2.2⟩⟩
  have h9 := hv'.2.b
  have e : IntKind.i64.wrap (0 - c) = -c := by rw [w_i64]; omega
  have := q1 ⟨hv'.1, hv.2 hv'.2⟩
  rw [e, Int.neg_mul, ← Int.sub_eq_add_neg] at this
  exact this
theorem fl_b {n d : Int} (hn1 : -9223372036854775807 ≤ n) (hn2 : n ≤ 9223372036854775807) (hd : 1 ≤ d) : fl n d = n / d := by
  unfold fl
  rcases Int.lt_or_le n 0 with h | h
  · obtain ⟨m, rfl⟩ : ∃ m, n = -m := ⟨-n, by omega⟩
    rw [Int.neg_tmod, Int.neg_tdiv, Int.tmod_eq_emod_of_nonneg (by omega), Int.tdiv_eq_ediv_of_nonneg (by omega)]
    have h1 := Int.emod_nonneg m (b := d) (by omega)
    have h2 := Int.emod_lt_of_pos m (b := d) (by omega)
    have h3 := Int.emod_add_mul_ediv m d
    split
    · rename_i h4
      symm
      refine (Int.ediv_eq_iff_of_pos (by omega)).2 ?_
      generalize m / d = q at *
      generalize m % d = r at *
      rw [← h3, Int.sub_mul, Int.neg_mul, Int.mul_comm q d]
      omega
    · rename_i h4
      symm
      refine (Int.ediv_eq_iff_of_pos (by omega)).2 ?_
      generalize m / d = q at *
      generalize m % d = r at *
      rw [← h3, Int.neg_mul, Int.mul_comm q d]
      omega
  · rw [Int.tmod_eq_emod_of_nonneg (by omega), Int.tdiv_eq_ediv_of_nonneg (by omega), if_neg]
    have h1 := Int.emod_nonneg n (b := d) (by omega)
    omega
theorem okFl {σ τ} : ∀ N w0, ConOk Try.prog N w0 σ τ (cFl 39) := by
  refine con_of_walk (tb := tb) (C := []) fine noCon 1000 ⟨[fb, (1, 1073741824)], [], []⟩ rfl fun xs hp hl => ?_
  match xs, hp with
  | [n, d], hp =>
  obtain ⟨⟨h1, h2⟩, ⟨h3, h4⟩⟩ := hp
  refine ⟨in_bnd ⟨h1, h2, h3, h4, trivial⟩, ?_⟩
  clear hl
  rw [show runP tb [] 1000 (cFl 39).f (argsOf (cFl 39).args 0) ⟨[fb, (1, 1073741824)], [], []⟩ = _ from tree_fl]
  simp only [T.res, resOk, svV, pvV, pvsV, cellV, cellsV, E.den, B.den, B.prop, allB, inB, kb, if_true, and_true, List.map_cons, List.map_nil, List.getD_cons_zero, List.getD_cons_succ, List.cons_append, List.nil_append, List.append_nil, List.getElem?_cons_zero, List.getElem?_cons_succ, cChk, cLow, cVal, cMake, cMakeR, cOp, cFl]
  have e := fl_b (n := n) (d := d) (by omega) (by omega) h3
  have b1 : -1152921504606846976 ≤ n / d := (Int.le_ediv_iff_mul_le (by omega)).2 (by have := Int.mul_le_mul_of_nonneg_left h3 (show (0:Int) ≤ 1152921504606846976 by omega); omega)
  have b2 : n / d ≤ 1152921504606846976 := Int.ediv_le_of_le_mul (by omega) (by have := Int.mul_le_mul_of_nonneg_left h3 (show (0:Int) ≤ 1152921504606846976 by omega); omega)
  refine ⟨fun h => ?_, fun h => ?_⟩
  · have e2 : fl n d = n.tdiv d - 1 := by unfold fl; rw [if_pos h]
    refine ⟨by omega, by omega⟩
  · have e2 : fl n d = n.tdiv d := by unfold fl; rw [if_neg h]
    refine ⟨by omega, by omega⟩
theorem okFlR {σ τ} : ∀ N w0, ConOk Try.prog N w0 σ τ (cFl 40) := by
  refine con_of_walk (tb := tb) (C := []) fine noCon 1000 ⟨[fb, (1, 1073741824)], [], []⟩ rfl fun xs hp hl => ?_
  match xs, hp with
  | [n, d], hp =>
  obtain ⟨⟨h1, h2⟩, ⟨h3, h4⟩⟩ := hp
  refine ⟨in_bnd ⟨h1, h2, h3, h4, trivial⟩, ?_⟩
  clear hl
  rw [show runP tb [] 1000 (cFl 40).f (argsOf (cFl 40).args 0) ⟨[fb, (1, 1073741824)], [], []⟩ = _ from tree_flR]
  simp only [T.res, resOk, svV, pvV, pvsV, cellV, cellsV, E.den, B.den, B.prop, allB, inB, kb, if_true, and_true, List.map_cons, List.map_nil, List.getD_cons_zero, List.getD_cons_succ, List.cons_append, List.nil_append, List.append_nil, List.getElem?_cons_zero, List.getElem?_cons_succ, cChk, cLow, cVal, cMake, cMakeR, cOp, cFl]
  have e := fl_b (n := n) (d := d) (by omega) (by omega) h3
  have b1 : -1152921504606846976 ≤ n / d := (Int.le_ediv_iff_mul_le (by omega)).2 (by have := Int.mul_le_mul_of_nonneg_left h3 (show (0:Int) ≤ 1152921504606846976 by omega); omega)
  have b2 : n / d ≤ 1152921504606846976 := Int.ediv_le_of_le_mul (by omega) (by have := Int.mul_le_mul_of_nonneg_left h3 (show (0:Int) ≤ 1152921504606846976 by omega); omega)
  refine ⟨fun h => ?_, fun h => ?_⟩
  · have e2 : fl n d = n.tdiv d - 1 := by unfold fl; rw [if_pos h]
    refine ⟨by omega, by omega⟩
  · have e2 : fl n d = n.tdiv d := by unfold fl; rw [if_neg h]
    refine ⟨by omega, by omega⟩
open Classical in
theorem okCmp {σ τ} : ∀ N w0, ConOk Try.prog N w0 σ τ (cCmp 23) := by
  refine con_of_walk (tb := tb) (C := [cChk]) fine (conCons okChk noCon) 1000 ⟨[i64b, i64b, i64b, i64b], [], []⟩ rfl fun xs hp hl => ?_
  match xs, hp with
  | [a, b, c, d], hp =>
  obtain ⟨⟨h1, h2⟩, ⟨h3, h4⟩, ⟨h5, h6⟩, ⟨h7, h8⟩⟩ := hp
  refine ⟨in_bnd ⟨h1, h2, h3, h4, h5, h6, h7, h8, trivial⟩, ?_⟩
  clear hl
  rw [show runP tb [cChk] 1000 (cCmp 23).f (argsOf (cCmp 23).args 0) ⟨[i64b, i64b, i64b, i64b], [], []⟩ = _ from tree_cmp]
  simp only [T.res, resOk, svV, pvV, pvsV, cellV, cellsV, E.den, B.den, B.prop, allB, inB, kb, if_true, and_true, List.map_cons, List.map_nil, List.getD_cons_zero, List.getD_cons_succ, List.cons_append, List.nil_append, List.append_nil, List.getElem?_cons_zero, List.getElem?_cons_succ, cChk, cLow, cVal, cMake, cMakeR, cOp, cCmp]
  have fin : Val a b → Val c d → (IntKind.i64.wrap (a * d) = a * d ∧ IntKind.i64.wrap (c * b) = c * b) := fun hv1 hv2 => by
    obtain ⟨b1, b2, b3, b4⟩ := hv1.b
    obtain ⟨b5, b6, b7, b8⟩ := hv2.b
    have q1 := mb b3 b4 (show -1073741824 ≤ d by omega) b6
    have q2 := mb b7 b8 (show -1073741824 ≤ b by omega) b2
    exact ⟨w_id (by omega) (by omega), w_id (by omega) (by omega)⟩
  have s1 : a * d < c * b → sgn (a * d) (c * b) = -1 := fun h => by unfold sgn; rw [if_pos h]
  have s2 : ¬ a * d < c * b → c * b < a * d → sgn (a * d) (c * b) = 1 := fun h h' => by unfold sgn; rw [if_neg h, if_pos h']
  have s3 : ¬ a * d < c * b → ¬ c * b < a * d → sgn (a * d) (c * b) = 0 := fun h h' => by unfold sgn; rw [if_neg h, if_neg h']
  refine ⟨⟨⟨h1, h2⟩, h3, h4⟩, fun e e0 e1 he => ?_⟩
  by_cases hv1 : Val a b
  · rw [if_pos hv1] at he
    subst he
    refine ⟨fun h => absurd rfl h, fun _ => ⟨⟨⟨h5, h6⟩, h7, h8⟩, fun e' e0' e1' he' => ?_⟩⟩
    by_cases hv2 : Val c d
    · rw [if_pos hv2] at he'
      subst he'
      refine ⟨fun h => absurd rfl h, fun _ => ?_⟩
      have hv : V2 a b c d := ⟨hv1, hv2⟩
      obtain ⟨w1, w2⟩ := fin hv1 hv2
      rw [w1, w2]
      refine ⟨fun h => ⟨by omega, fun _ => by have := s1 h; omega, fun hn => absurd hv hn⟩, fun h => ⟨fun h' => ⟨by omega, fun _ => by have := s2 h h'; omega, fun hn => absurd hv hn⟩, fun h' => ⟨by omega, fun _ => by have := s3 h h'; omega, fun hn => absurd hv hn⟩⟩⟩
    · rw [if_neg hv2] at he'
      subst he'
      exact ⟨fun _ => ⟨by omega, fun hv => absurd hv.2 hv2, fun _ => by first | trivial | omega⟩, fun h => absurd (by omega) h⟩
  · rw [if_neg hv1] at he
    subst he
    exact ⟨fun _ => ⟨by omega, fun hv => absurd hv.1 hv1, fun _ => by first | trivial | omega⟩, fun h => absurd (by omega) h⟩
open Classical in
theorem okCmpR {σ τ} : ∀ N w0, ConOk Try.prog N w0 σ τ (cCmp 24) := by
  refine con_of_walk (tb := tb) (C := [cVal]) fine (conCons okVal noCon) 1000 ⟨[i64b, i64b, i64b, i64b], [], []⟩ rfl fun xs hp hl => ?_
  match xs, hp with
  | [a, b, c, d], hp =>
  obtain ⟨⟨h1, h2⟩, ⟨h3, h4⟩, ⟨h5, h6⟩, ⟨h7, h8⟩⟩ := hp
  refine ⟨in_bnd ⟨h1, h2, h3, h4, h5, h6, h7, h8, trivial⟩, ?_⟩
  clear hl
  rw [show runP tb [cVal] 1000 (cCmp 24).f (argsOf (cCmp 24).args 0) ⟨[i64b, i64b, i64b, i64b], [], []⟩ = _ from tree_cmpR]
  simp only [T.res, resOk, svV, pvV, pvsV, cellV, cellsV, E.den, B.den, B.prop, allB, inB, kb, if_true, and_true, List.map_cons, List.map_nil, List.getD_cons_zero, List.getD_cons_succ, List.cons_append, List.nil_append, List.append_nil, List.getElem?_cons_zero, List.getElem?_cons_succ, cChk, cLow, cVal, cMake, cMakeR, cOp, cCmp]
  have fin : Val a b → Val c d → (IntKind.i64.wrap (a * d) = a * d ∧ IntKind.i64.wrap (c * b) = c * b) := fun hv1 hv2 => by
    obtain ⟨b1, b2, b3, b4⟩ := hv1.b
    obtain ⟨b5, b6, b7, b8⟩ := hv2.b
    have q1 := mb b3 b4 (show -1073741824 ≤ d by omega) b6
    have q2 := mb b7 b8 (show -1073741824 ≤ b by omega) b2
    exact ⟨w_id (by omega) (by omega), w_id (by omega) (by omega)⟩
  have s1 : a * d < c * b → sgn (a * d) (c * b) = -1 := fun h => by unfold sgn; rw [if_pos h]
  have s2 : ¬ a * d < c * b → c * b < a * d → sgn (a * d) (c * b) = 1 := fun h h' => by unfold sgn; rw [if_neg h, if_pos h']
  have s3 : ¬ a * d < c * b → ¬ c * b < a * d → sgn (a * d) (c * b) = 0 := fun h h' => by unfold sgn; rw [if_neg h, if_neg h']
  refine ⟨⟨⟨h1, h2⟩, h3, h4⟩, fun e e0 e1 he => ?_⟩
  by_cases hv1 : Val a b
  · rw [if_pos hv1] at he
    subst he
    refine ⟨fun h => ⟨⟨⟨h5, h6⟩, h7, h8⟩, fun e' e0' e1' he' => ?_⟩, fun h => absurd (by omega) h⟩
    by_cases hv2 : Val c d
    · rw [if_pos hv2] at he'
      subst he'
      refine ⟨fun h => absurd h (by omega), fun _ => ?_⟩
      have hv : V2 a b c d := ⟨hv1, hv2⟩
      obtain ⟨w1, w2⟩ := fin hv1 hv2
      rw [w1, w2]
      refine ⟨fun h => ⟨by omega, fun _ => by have := s1 h; omega, fun hn => absurd hv hn⟩, fun h => ⟨fun h' => ⟨by omega, fun _ => by have := s2 h h'; omega, fun hn => absurd hv hn⟩, fun h' => ⟨by omega, fun _ => by have := s3 h h'; omega, fun hn => absurd hv hn⟩⟩⟩
    · rw [if_neg hv2] at he'
      subst he'
      exact ⟨fun _ => ⟨by omega, fun hv => absurd hv.2 hv2, fun _ => by first | trivial | omega⟩, fun h => absurd rfl h⟩
  · rw [if_neg hv1] at he
    subst he
    exact ⟨fun h => absurd rfl h, fun _ => ⟨by omega, fun hv => absurd hv.1 hv1, fun _ => by first | trivial | omega⟩⟩
open Classical in
theorem okTim {σ τ} : ∀ N w0, ConOk Try.prog N w0 σ τ (cTim 25) := by
  refine con_of_walk (tb := tb) (C := [cChk, cFl 39]) fine (conCons okChk (conCons okFl noCon)) 1000 ⟨[i64b, i64b, i64b], [], []⟩ rfl fun xs hp hl => ?_
  match xs, hp with
  | [a, b, n], hp =>
  obtain ⟨⟨h1, h2⟩, ⟨h3, h4⟩, ⟨h5, h6⟩⟩ := hp
  refine ⟨in_bnd ⟨h1, h2, h3, h4, h5, h6, trivial⟩, ?_⟩
  clear hl
  rw [show runP tb [cChk, cFl 39] 1000 (cTim 25).f (argsOf (cTim 25).args 0) ⟨[i64b, i64b, i64b], [], []⟩ = _ from tree_tim]
  simp only [T.res, resOk, svV, pvV, pvsV, cellV, cellsV, E.den, B.den, B.prop, allB, inB, kb, if_true, and_true, List.map_cons, List.map_nil, List.getD_cons_zero, List.getD_cons_succ, List.cons_append, List.nil_append, List.append_nil, List.getElem?_cons_zero, List.getElem?_cons_succ, cChk, cLow, cVal, cMake, cMakeR, cOp, cTim, cFl]
  refine ⟨⟨⟨h1, h2⟩, h3, h4⟩, fun e e0 e1 he => ?_⟩
  by_cases hv1 : Val a b
  · rw [if_pos hv1] at he
    subst he
    obtain ⟨b1, b2, b3, b4⟩ := hv1.b
    refine ⟨fun h => absurd rfl h, fun _ => ⟨fun h => ⟨by omega, fun hv => absurd hv1 hv, fun _ h => by first | trivial | omega, fun _ h1 => by omega⟩, fun h => ?_⟩⟩
    have q1 := mb b3 b4 (show -1073741824 ≤ n by omega) (by omega)
    have w1 : IntKind.i64.wrap (a * n) = a * n := w_id (by omega) (by omega)
    have w2 : IntKind.i64.wrap (0 - a) = -a := by rw [w_id (by omega) (by omega)]; omega
    have w3 : IntKind.i64.wrap (-a * n) = -(a * n) := by rw [Int.neg_mul]; exact w_id (by omega) (by omega)
    rw [w1, w2, w3]
    refine ⟨⟨⟨by omega, by omega⟩, by omega, by omega⟩, fun x x0 x1 hx => ⟨⟨⟨by omega, by omega⟩, by omega, by omega⟩, fun y y0 y1 hy => ?_⟩⟩
    have w4 : IntKind.i64.wrap (0 - y) = -y := by rw [w_id (by omega) (by omega)]; omega
    refine ⟨by omega, fun hv => absurd hv1 hv, fun _ h => absurd (by omega) h, fun _ _ => by omega⟩
  · rw [if_neg hv1] at he
    subst he
    exact ⟨fun h => ⟨by omega, fun _ => by first | trivial | omega, fun hv => absurd hv hv1, fun hv => absurd hv hv1⟩, fun h => absurd (by omega) h⟩
open Classical in
theorem okTimR {σ τ} : ∀ N w0, ConOk Try.prog N w0 σ τ (cTim 26) := by
  refine con_of_walk (tb := tb) (C := [cVal, cFl 40]) fine (conCons okVal (conCons okFlR noCon)) 1000 ⟨[i64b, i64b, i64b], [], []⟩ rfl fun xs hp hl => ?_
  match xs, hp with
  | [a, b, n], hp =>
  obtain ⟨⟨h1, h2⟩, ⟨h3, h4⟩, ⟨h5, h6⟩⟩ := hp
  refine ⟨in_bnd ⟨h1, h2, h3, h4, h5, h6, trivial⟩, ?_⟩
  clear hl
  rw [show runP tb [cVal, cFl 40] 1000 (cTim 26).f (argsOf (cTim 26).args 0) ⟨[i64b, i64b, i64b], [], []⟩ = _ from tree_timR]
  simp only [T.res, resOk, svV, pvV, pvsV, cellV, cellsV, E.den, B.den, B.prop, allB, inB, kb, if_true, and_true, List.map_cons, List.map_nil, List.getD_cons_zero, List.getD_cons_succ, List.cons_append, List.nil_append, List.append_nil, List.getElem?_cons_zero, List.getElem?_cons_succ, cChk, cLow, cVal, cMake, cMakeR, cOp, cTim, cFl]
  refine ⟨⟨⟨h1, h2⟩, h3, h4⟩, fun e e0 e1 he => ?_⟩
  by_cases hv1 : Val a b
  · rw [if_pos hv1] at he
    subst he
    obtain ⟨b1, b2, b3, b4⟩ := hv1.b
    refine ⟨fun h => absurd h (by omega), fun _ => ⟨fun h => ⟨by omega, fun hv => absurd hv1 hv, fun _ h => by first | trivial | omega, fun _ h1 => by omega⟩, fun h => ?_⟩⟩
    have q1 := mb b3 b4 (show -1073741824 ≤ n by omega) (by omega)
    have w1 : IntKind.i64.wrap (a * n) = a * n := w_id (by omega) (by omega)
    have w2 : IntKind.i64.wrap (0 - a) = -a := by rw [w_id (by omega) (by omega)]; omega
    have w3 : IntKind.i64.wrap (-a * n) = -(a * n) := by rw [Int.neg_mul]; exact w_id (by omega) (by omega)
    rw [w1, w2, w3]
    refine ⟨⟨⟨by omega, by omega⟩, by omega, by omega⟩, fun x x0 x1 hx => ⟨⟨⟨by omega, by omega⟩, by omega, by omega⟩, fun y y0 y1 hy => ?_⟩⟩
    have w4 : IntKind.i64.wrap (0 - y) = -y := by rw [w_id (by omega) (by omega)]; omega
    refine ⟨by omega, fun hv => absurd hv1 hv, fun _ h => absurd (by omega) h, fun _ _ => by omega⟩
  · rw [if_neg hv1] at he
    subst he
    exact ⟨fun h => ⟨by omega, fun _ => by first | trivial | omega, fun hv => absurd hv hv1, fun hv => absurd hv hv1⟩, fun h => absurd (by omega) h⟩
end Go.Proofs.Ytkcomadagclikaa
