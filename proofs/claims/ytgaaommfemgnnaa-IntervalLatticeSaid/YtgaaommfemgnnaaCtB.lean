/- DERIVED. The operations of intervals keep their contracts. -/
import Derived.Test.YtgaaommfemgnnaaCt
namespace Go.Proofs.Ytgaaommfemgnnaa
open Go.Sx
set_option linter.unusedVariables false
set_option linter.unusedSimpArgs false
theorem op_no {A : Prop} {lo hi : Int} (h : ¬ A) : OpP A lo hi 0 0 130 := ⟨fun a => absurd a h, fun a => absurd a h, fun _ => ⟨rfl, rfl, rfl⟩⟩
theorem op_big {A : Prop} {lo hi : Int} (a : A) (h : ¬ V lo hi) : OpP A lo hi 0 0 2 := ⟨fun _ v => absurd v h, fun _ _ => ⟨rfl, rfl, rfl⟩, fun n => absurd a n⟩
theorem op_ok {A : Prop} {lo hi x y : Int} (a : A) (h : V lo hi) (hx : x = lo) (hy : y = hi) : OpP A lo hi x y 0 := ⟨fun _ v => ⟨hx, hy, rfl⟩, fun _ n => absurd h n, fun n => absurd a n⟩
theorem okAdd {σ τ} : ∀ N w0, ConOk Try.prog N w0 σ τ (cAdd 13) := by
  refine con_of_walk (tb := tb) (C := []) fine noCon 1000 ⟨[i64b, i64b, i64b, i64b], [], []⟩ rfl fun xs hp hl => ?_
  match xs, hp with
  | [a, b, c, d], hp =>
  obtain ⟨⟨h1, h2⟩, ⟨h3, h4⟩, ⟨h5, h6⟩, ⟨h7, h8⟩⟩ := hp
  refine ⟨in_bnd ⟨h1, h2, h3, h4, h5, h6, h7, h8, trivial⟩, ?_⟩
  clear hl
  rw [show runP tb [] 1000 (cAdd 13).f (argsOf (cAdd 13).args 0) ⟨[i64b, i64b, i64b, i64b], [], []⟩ = _ from tree_add]
  simp only [T.res, resOk, svV, pvV, pvsV, cellV, cellsV, E.den, B.den, B.prop, allB, inB, kb, if_true, and_true, true_and, List.map_cons, List.map_nil, List.getD_cons_zero, List.getD_cons_succ, List.cons_append, List.nil_append, List.append_nil, List.getElem?_cons_zero, List.getElem?_cons_succ, List.take_succ_cons, List.take_zero, List.length_cons, List.length_nil, cAdd, cSub, cOp]
  refine ⟨fun h => ⟨⟨by decide, by decide, by decide, by decide, by decide, by decide⟩, op_no (by omega)⟩, fun h1 => ⟨fun h => ⟨⟨by decide, by decide, by decide, by decide, by decide, by decide⟩, op_no (by omega)⟩, fun h2 => ?_⟩⟩
  · have hA : V a b ∧ V c d := ⟨by omega, by omega⟩
    have w0 : IntKind.i64.wrap (a + c) = a + c := w_id (by omega) (by omega)
    rw [w0]
    exact ⟨fun h => ⟨⟨by decide, by decide, by decide, by decide, by decide, by decide⟩, op_big hA (by omega)⟩, fun h => ⟨⟨by omega, by omega, by omega, by omega, by decide, by decide⟩, op_ok hA (by omega) (by omega) (by omega)⟩⟩
theorem okSub {σ τ} : ∀ N w0, ConOk Try.prog N w0 σ τ (cSub 15) := by
  refine con_of_walk (tb := tb) (C := []) fine noCon 1000 ⟨[i64b, i64b, i64b, i64b], [], []⟩ rfl fun xs hp hl => ?_
  match xs, hp with
  | [a, b, c, d], hp =>
  obtain ⟨⟨h1, h2⟩, ⟨h3, h4⟩, ⟨h5, h6⟩, ⟨h7, h8⟩⟩ := hp
  refine ⟨in_bnd ⟨h1, h2, h3, h4, h5, h6, h7, h8, trivial⟩, ?_⟩
  clear hl
  rw [show runP tb [] 1000 (cSub 15).f (argsOf (cSub 15).args 0) ⟨[i64b, i64b, i64b, i64b], [], []⟩ = _ from tree_sub]
  simp only [T.res, resOk, svV, pvV, pvsV, cellV, cellsV, E.den, B.den, B.prop, allB, inB, kb, if_true, and_true, true_and, List.map_cons, List.map_nil, List.getD_cons_zero, List.getD_cons_succ, List.cons_append, List.nil_append, List.append_nil, List.getElem?_cons_zero, List.getElem?_cons_succ, List.take_succ_cons, List.take_zero, List.length_cons, List.length_nil, cAdd, cSub, cOp]
  refine ⟨fun h => ⟨⟨by decide, by decide, by decide, by decide, by decide, by decide⟩, op_no (by omega)⟩, fun h1 => ⟨fun h => ⟨⟨by decide, by decide, by decide, by decide, by decide, by decide⟩, op_no (by omega)⟩, fun h2 => ?_⟩⟩
  · have hA : V a b ∧ V c d := ⟨by omega, by omega⟩
    have w0 : IntKind.i64.wrap (a - d) = a - d := w_id (by omega) (by omega)
    have w1 : IntKind.i64.wrap (b - c) = b - c := w_id (by omega) (by omega)
    rw [w0, w1]
    exact ⟨fun h => ⟨⟨by decide, by decide, by decide, by decide, by decide, by decide⟩, op_big hA (by omega)⟩, fun h => ⟨⟨by omega, by omega, by omega, by omega, by decide, by decide⟩, op_ok hA (by omega) (by omega) (by omega)⟩⟩
theorem okAddr {σ τ} : ∀ N w0, ConOk Try.prog N w0 σ τ (cAdd 14) := by
  refine con_of_walk (tb := tb) (C := []) fine noCon 1000 ⟨[i64b, i64b, i64b, i64b], [], []⟩ rfl fun xs hp hl => ?_
  match xs, hp with
  | [a, b, c, d], hp =>
  obtain ⟨⟨h1, h2⟩, ⟨h3, h4⟩, ⟨h5, h6⟩, ⟨h7, h8⟩⟩ := hp
  refine ⟨in_bnd ⟨h1, h2, h3, h4, h5, h6, h7, h8, trivial⟩, ?_⟩
  clear hl
  rw [show runP tb [] 1000 (cAdd 14).f (argsOf (cAdd 14).args 0) ⟨[i64b, i64b, i64b, i64b], [], []⟩ = _ from tree_addR]
  simp only [T.res, resOk, svV, pvV, pvsV, cellV, cellsV, E.den, B.den, B.prop, allB, inB, kb, if_true, and_true, true_and, List.map_cons, List.map_nil, List.getD_cons_zero, List.getD_cons_succ, List.cons_append, List.nil_append, List.append_nil, List.getElem?_cons_zero, List.getElem?_cons_succ, List.take_succ_cons, List.take_zero, List.length_cons, List.length_nil, cAdd, cSub, cOp]
  refine ⟨fun h => ⟨⟨by decide, by decide, by decide, by decide, by decide, by decide⟩, op_no (by omega)⟩, fun h1 => ?_⟩
  · have hA : V a b ∧ V c d := ⟨by omega, by omega⟩
    have w0 : IntKind.i64.wrap (a + c) = a + c := w_id (by omega) (by omega)
    rw [w0]
    exact ⟨fun h => ⟨⟨by decide, by decide, by decide, by decide, by decide, by decide⟩, op_big hA (by omega)⟩, fun h => ⟨⟨by omega, by omega, by omega, by omega, by decide, by decide⟩, op_ok hA (by omega) (by omega) (by omega)⟩⟩
theorem okSubr {σ τ} : ∀ N w0, ConOk Try.prog N w0 σ τ (cSub 16) := by
  refine con_of_walk (tb := tb) (C := []) fine noCon 1000 ⟨[i64b, i64b, i64b, i64b], [], []⟩ rfl fun xs hp hl => ?_
  match xs, hp with
  | [a, b, c, d], hp =>
  obtain ⟨⟨h1, h2⟩, ⟨h3, h4⟩, ⟨h5, h6⟩, ⟨h7, h8⟩⟩ := hp
  refine ⟨in_bnd ⟨h1, h2, h3, h4, h5, h6, h7, h8, trivial⟩, ?_⟩
  clear hl
  rw [show runP tb [] 1000 (cSub 16).f (argsOf (cSub 16).args 0) ⟨[i64b, i64b, i64b, i64b], [], []⟩ = _ from tree_subR]
  simp only [T.res, resOk, svV, pvV, pvsV, cellV, cellsV, E.den, B.den, B.prop, allB, inB, kb, if_true, and_true, true_and, List.map_cons, List.map_nil, List.getD_cons_zero, List.getD_cons_succ, List.cons_append, List.nil_append, List.append_nil, List.getElem?_cons_zero, List.getElem?_cons_succ, List.take_succ_cons, List.take_zero, List.length_cons, List.length_nil, cAdd, cSub, cOp]
  refine ⟨fun h => ⟨⟨by decide, by decide, by decide, by decide, by decide, by decide⟩, op_no (by omega)⟩, fun h1 => ?_⟩
  · have hA : V a b ∧ V c d := ⟨by omega, by omega⟩
    have w0 : IntKind.i64.wrap (a - d) = a - d := w_id (by omega) (by omega)
    have w1 : IntKind.i64.wrap (b - c) = b - c := w_id (by omega) (by omega)
    rw [w0, w1]
    exact ⟨fun h => ⟨⟨by decide, by decide, by decide, by decide, by decide, by decide⟩, op_big hA (by omega)⟩, fun h => ⟨⟨by omega, by omega, by omega, by omega, by decide, by decide⟩, op_ok hA (by omega) (by omega) (by omega)⟩⟩
theorem okHull {σ τ} : ∀ N w0, ConOk Try.prog N w0 σ τ (cHull 29) := by
  refine con_of_walk (tb := tb) (C := []) fine noCon 1000 ⟨[i64b, i64b, i64b, i64b], [], []⟩ rfl fun xs hp hl => ?_
  match xs, hp with
  | [a, b, c, d], hp =>
  obtain ⟨⟨h1, h2⟩, ⟨h3, h4⟩, ⟨h5, h6⟩, ⟨h7, h8⟩⟩ := hp
  refine ⟨in_bnd ⟨h1, h2, h3, h4, h5, h6, h7, h8, trivial⟩, ?_⟩
  clear hl
  rw [show runP tb [] 1000 (cHull 29).f (argsOf (cHull 29).args 0) ⟨[i64b, i64b, i64b, i64b], [], []⟩ = _ from tree_hull]
  simp only [T.res, resOk, svV, pvV, pvsV, cellV, cellsV, E.den, B.den, B.prop, allB, inB, kb, if_true, and_true, true_and, List.map_cons, List.map_nil, List.getD_cons_zero, List.getD_cons_succ, List.cons_append, List.nil_append, List.append_nil, List.getElem?_cons_zero, List.getElem?_cons_succ, List.take_succ_cons, List.take_zero, List.length_cons, List.length_nil, cHull, cOp, min2, max2]
  refine ⟨fun h => ⟨⟨by decide, by decide, by decide, by decide, by decide, by decide⟩, op_no (by omega)⟩, fun h1 => ⟨fun h => ⟨⟨by decide, by decide, by decide, by decide, by decide, by decide⟩, op_no (by omega)⟩, fun h2 => ?_⟩⟩
  exact ⟨⟨by omega, by omega, by omega, by omega, by decide, by decide⟩, op_ok ⟨by omega, by omega⟩ (by omega) (by omega) (by omega)⟩
theorem okHullR {σ τ} : ∀ N w0, ConOk Try.prog N w0 σ τ (cHull 30) := by
  refine con_of_walk (tb := tb) (C := []) fine noCon 1000 ⟨[i64b, i64b, i64b, i64b], [], []⟩ rfl fun xs hp hl => ?_
  match xs, hp with
  | [a, b, c, d], hp =>
  obtain ⟨⟨h1, h2⟩, ⟨h3, h4⟩, ⟨h5, h6⟩, ⟨h7, h8⟩⟩ := hp
  refine ⟨in_bnd ⟨h1, h2, h3, h4, h5, h6, h7, h8, trivial⟩, ?_⟩
  clear hl
  rw [show runP tb [] 1000 (cHull 30).f (argsOf (cHull 30).args 0) ⟨[i64b, i64b, i64b, i64b], [], []⟩ = _ from tree_hullR]
  simp only [T.res, resOk, svV, pvV, pvsV, cellV, cellsV, E.den, B.den, B.prop, allB, inB, kb, if_true, and_true, true_and, List.map_cons, List.map_nil, List.getD_cons_zero, List.getD_cons_succ, List.cons_append, List.nil_append, List.append_nil, List.getElem?_cons_zero, List.getElem?_cons_succ, List.take_succ_cons, List.take_zero, List.length_cons, List.length_nil, cHull, cOp, min2, max2]
  refine ⟨fun h => ⟨⟨by decide, by decide, by decide, by decide, by decide, by decide⟩, op_no (by omega)⟩, fun h1 => ?_⟩
  exact ⟨⟨by omega, by omega, by omega, by omega, by decide, by decide⟩, op_ok ⟨by omega, by omega⟩ (by omega) (by omega) (by omega)⟩
theorem meet_no {a b c d : Int} (h : ¬ (V a b ∧ V c d)) : MeetP a b c d 0 0 (bI false) 130 := ⟨fun a => absurd a h, fun a => absurd a h, fun _ => ⟨rfl, rfl, rfl, rfl⟩⟩
theorem meet_off {a b c d : Int} (h : V a b ∧ V c d) (k : min b d < max a c) : MeetP a b c d 0 0 (bI false) 0 := ⟨fun _ h2 => by omega, fun _ _ => ⟨rfl, rfl, rfl, rfl⟩, fun n => absurd h n⟩
theorem meet_on {a b c d : Int} (h : V a b ∧ V c d) (k : ¬ min b d < max a c) : MeetP a b c d (max a c) (min b d) (bI true) 0 := ⟨fun _ _ => ⟨rfl, rfl, rfl, rfl⟩, fun _ n => absurd n k, fun n => absurd h n⟩
theorem okMeet {σ τ} : ∀ N w0, ConOk Try.prog N w0 σ τ (cMeet 27) := by
  refine con_of_walk (tb := tb) (C := []) fine noCon 1000 ⟨[i64b, i64b, i64b, i64b], [], []⟩ rfl fun xs hp hl => ?_
  match xs, hp with
  | [a, b, c, d], hp =>
  obtain ⟨⟨h1, h2⟩, ⟨h3, h4⟩, ⟨h5, h6⟩, ⟨h7, h8⟩⟩ := hp
  refine ⟨in_bnd ⟨h1, h2, h3, h4, h5, h6, h7, h8, trivial⟩, ?_⟩
  clear hl
  rw [show runP tb [] 1000 (cMeet 27).f (argsOf (cMeet 27).args 0) ⟨[i64b, i64b, i64b, i64b], [], []⟩ = _ from tree_meet]
  simp only [T.res, resOk, svV, pvV, pvsV, cellV, cellsV, E.den, B.den, B.prop, allB, inB, kb, if_true, and_true, true_and, List.map_cons, List.map_nil, List.getD_cons_zero, List.getD_cons_succ, List.cons_append, List.nil_append, List.append_nil, List.getElem?_cons_zero, List.getElem?_cons_succ, List.take_succ_cons, List.take_zero, List.length_cons, List.length_nil, cMeet]
  refine ⟨fun h => ⟨⟨by decide, by decide, by decide, by decide, by decide, by decide, by decide, by decide⟩, meet_no (by omega)⟩, fun h1 => ⟨fun h => ⟨⟨by decide, by decide, by decide, by decide, by decide, by decide, by decide, by decide⟩, meet_no (by omega)⟩, fun h2 => ?_⟩⟩
  have hA : V a b ∧ V c d := ⟨by omega, by omega⟩
  exact ⟨fun h => ⟨⟨by decide, by decide, by decide, by decide, by decide, by decide, by decide, by decide⟩, meet_off hA h⟩, fun h => ⟨⟨by omega, by omega, by omega, by omega, by decide, by decide, by decide, by decide⟩, meet_on hA h⟩⟩
theorem okMeetR {σ τ} : ∀ N w0, ConOk Try.prog N w0 σ τ (cMeet 28) := by
  refine con_of_walk (tb := tb) (C := []) fine noCon 1000 ⟨[i64b, i64b, i64b, i64b], [], []⟩ rfl fun xs hp hl => ?_
  match xs, hp with
  | [a, b, c, d], hp =>
  obtain ⟨⟨h1, h2⟩, ⟨h3, h4⟩, ⟨h5, h6⟩, ⟨h7, h8⟩⟩ := hp
  refine ⟨in_bnd ⟨h1, h2, h3, h4, h5, h6, h7, h8, trivial⟩, ?_⟩
  clear hl
  rw [show runP tb [] 1000 (cMeet 28).f (argsOf (cMeet 28).args 0) ⟨[i64b, i64b, i64b, i64b], [], []⟩ = _ from tree_meetR]
  simp only [T.res, resOk, svV, pvV, pvsV, cellV, cellsV, E.den, B.den, B.prop, allB, inB, kb, if_true, and_true, true_and, List.map_cons, List.map_nil, List.getD_cons_zero, List.getD_cons_succ, List.cons_append, List.nil_append, List.append_nil, List.getElem?_cons_zero, List.getElem?_cons_succ, List.take_succ_cons, List.take_zero, List.length_cons, List.length_nil, cMeet]
  refine ⟨fun h => ⟨⟨by decide, by decide, by decide, by decide, by decide, by decide, by decide, by decide⟩, meet_no (by omega)⟩, fun h1 => ?_⟩
  have hA : V a b ∧ V c d := ⟨by omega, by omega⟩
  exact ⟨fun h => ⟨⟨by decide, by decide, by decide, by decide, by decide, by decide, by decide, by decide⟩, meet_off hA h⟩, fun h => ⟨⟨by omega, by omega, by omega, by omega, by decide, by decide, by decide, by decide⟩, meet_on hA h⟩⟩
theorem bI_rng (b : Bool) : 0 ≤ bI b ∧ bI b ≤ 1 := by cases b <;> decide
theorem bI_one {b : Bool} : bI b = 1 ↔ b = true := by cases b <;> decide
theorem in_no {a b c d : Int} (h : ¬ (V a b ∧ V c d)) : InP a b c d (bI false) 130 := ⟨fun a => absurd a h, fun _ => ⟨rfl, rfl⟩⟩
theorem in_ok {a b c d : Int} (h : V a b ∧ V c d) : InP a b c d (bI (decide (c ≤ a) && decide (b ≤ d))) 0 := ⟨fun _ => ⟨by rw [bI_one, Bool.and_eq_true, decide_eq_true_eq, decide_eq_true_eq], rfl⟩, fun n => absurd h n⟩
theorem okIn {σ τ} : ∀ N w0, ConOk Try.prog N w0 σ τ (cIn 31) := by
  refine con_of_walk (tb := tb) (C := []) fine noCon 1000 ⟨[i64b, i64b, i64b, i64b], [], []⟩ rfl fun xs hp hl => ?_
  match xs, hp with
  | [a, b, c, d], hp =>
  obtain ⟨⟨h1, h2⟩, ⟨h3, h4⟩, ⟨h5, h6⟩, ⟨h7, h8⟩⟩ := hp
  refine ⟨in_bnd ⟨h1, h2, h3, h4, h5, h6, h7, h8, trivial⟩, ?_⟩
  clear hl
  rw [show runP tb [] 1000 (cIn 31).f (argsOf (cIn 31).args 0) ⟨[i64b, i64b, i64b, i64b], [], []⟩ = _ from tree_in]
  simp only [T.res, resOk, svV, pvV, pvsV, cellV, cellsV, E.den, B.den, B.prop, allB, inB, kb, if_true, and_true, true_and, List.map_cons, List.map_nil, List.getD_cons_zero, List.getD_cons_succ, List.cons_append, List.nil_append, List.append_nil, List.getElem?_cons_zero, List.getElem?_cons_succ, List.take_succ_cons, List.take_zero, List.length_cons, List.length_nil, cIn]
  refine ⟨fun h => ⟨⟨by decide, by decide, by decide, by decide⟩, in_no (by omega)⟩, fun h1 => ⟨fun h => ⟨⟨by decide, by decide, by decide, by decide⟩, in_no (by omega)⟩, fun h2 => ?_⟩⟩
  have := bI_rng (decide (c ≤ a) && decide (b ≤ d))
  exact ⟨⟨this.1, this.2, by decide, by decide⟩, in_ok ⟨by omega, by omega⟩⟩
theorem okInR {σ τ} : ∀ N w0, ConOk Try.prog N w0 σ τ (cIn 32) := by
  refine con_of_walk (tb := tb) (C := []) fine noCon 1000 ⟨[i64b, i64b, i64b, i64b], [], []⟩ rfl fun xs hp hl => ?_
  match xs, hp with
  | [a, b, c, d], hp =>
  obtain ⟨⟨h1, h2⟩, ⟨h3, h4⟩, ⟨h5, h6⟩, ⟨h7, h8⟩⟩ := hp
  refine ⟨in_bnd ⟨h1, h2, h3, h4, h5, h6, h7, h8, trivial⟩, ?_⟩
  clear hl
  rw [show runP tb [] 1000 (cIn 32).f (argsOf (cIn 32).args 0) ⟨[i64b, i64b, i64b, i64b], [], []⟩ = _ from tree_inR]
  simp only [T.res, resOk, svV, pvV, pvsV, cellV, cellsV, E.den, B.den, B.prop, allB, inB, kb, if_true, and_true, true_and, List.map_cons, List.map_nil, List.getD_cons_zero, List.getD_cons_succ, List.cons_append, List.nil_append, List.append_nil, List.getElem?_cons_zero, List.getElem?_cons_succ, List.take_succ_cons, List.take_zero, List.length_cons, List.length_nil, cIn]
  refine ⟨fun h => ⟨⟨by decide, by decide, by decide, by decide⟩, in_no (by omega)⟩, fun h1 => ?_⟩
  have := bI_rng (decide (c ≤ a) && decide (b ≤ d))
  exact ⟨⟨this.1, this.2, by decide, by decide⟩, in_ok ⟨by omega, by omega⟩⟩
end Go.Proofs.Ytgaaommfemgnnaa
