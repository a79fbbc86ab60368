/- DERIVED. The functions on days keep their contracts. -/
import Derived.Test.YtdffnmhpkapbkaaDoorEtree
import Derived.Test.YtdffnmhpkapbkaaDoorEmath
namespace Go.Proofs.YtdffnmhpkapbkaaDoor
open Go.Dx
set_option linter.unusedVariables false
set_option linter.unusedSimpArgs false
theorem getR {α : Type} (n k : Nat) (z d : α) (l : List α) : (List.replicate n z ++ l).getD (n + k) d = l.getD k d := by
  rw [List.getD_eq_getElem?_getD, List.getD_eq_getElem?_getD, List.getElem?_append_right (by simp)]
  simp
theorem getZ {α : Type} (n : Nat) (z d x : α) (l : List α) : (List.replicate n z ++ x :: l).getD n d = x := getR n 0 z d (x :: l)
theorem takeR {α : Type} (n k : Nat) (z : α) (l : List α) : (List.replicate n z ++ l).take (n + k) = List.replicate n z ++ l.take k := by
  rw [List.take_append]
  simp [List.take_of_length_le]
theorem g37_1 {α : Type} (z d : α) (l : List α) : (List.replicate 37 z ++ l).getD 38 d = l.getD 1 d := getR 37 1 z d l
theorem g37_2 {α : Type} (z d : α) (l : List α) : (List.replicate 37 z ++ l).getD 39 d = l.getD 2 d := getR 37 2 z d l
theorem g37_40 {α : Type} (z d : α) (l : List α) : (List.replicate 37 z ++ l).getD 77 d = l.getD 40 d := getR 37 40 z d l
theorem g37_41 {α : Type} (z d : α) (l : List α) : (List.replicate 37 z ++ l).getD 78 d = l.getD 41 d := getR 37 41 z d l
theorem t37_0 {α : Type} (z : α) (l : List α) : (List.replicate 37 z ++ l).take 37 = List.replicate 37 z ++ l.take 0 := takeR 37 0 z l
theorem t37_1 {α : Type} (z : α) (l : List α) : (List.replicate 37 z ++ l).take 38 = List.replicate 37 z ++ l.take 1 := takeR 37 1 z l
theorem t37_3 {α : Type} (z : α) (l : List α) : (List.replicate 37 z ++ l).take 40 = List.replicate 37 z ++ l.take 3 := takeR 37 3 z l
theorem g65_1 {α : Type} (z d : α) (l : List α) : (List.replicate 65 z ++ l).getD 66 d = l.getD 1 d := getR 65 1 z d l
theorem g65_67 {α : Type} (z d : α) (l : List α) : (List.replicate 65 z ++ l).getD 132 d = l.getD 67 d := getR 65 67 z d l
theorem t65_0 {α : Type} (z : α) (l : List α) : (List.replicate 65 z ++ l).take 65 = List.replicate 65 z ++ l.take 0 := takeR 65 0 z l
theorem t65_2 {α : Type} (z : α) (l : List α) : (List.replicate 65 z ++ l).take 67 = List.replicate 65 z ++ l.take 2 := takeR 65 2 z l
theorem g41_1 {α : Type} (z d : α) (l : List α) : (List.replicate 41 z ++ l).getD 42 d = l.getD 1 d := getR 41 1 z d l
theorem g41_43 {α : Type} (z d : α) (l : List α) : (List.replicate 41 z ++ l).getD 84 d = l.getD 43 d := getR 41 43 z d l
theorem t41_0 {α : Type} (z : α) (l : List α) : (List.replicate 41 z ++ l).take 41 = List.replicate 41 z ++ l.take 0 := takeR 41 0 z l
theorem t41_2 {α : Type} (z : α) (l : List α) : (List.replicate 41 z ++ l).take 43 = List.replicate 41 z ++ l.take 2 := takeR 41 2 z l
theorem g40_1 {α : Type} (z d : α) (l : List α) : (List.replicate 40 z ++ l).getD 41 d = l.getD 1 d := getR 40 1 z d l
theorem yb_bd {y : Int} (h : 2000 ≤ y) (k : y ≤ 2200) : 0 ≤ yb y ∧ yb y ≤ 73049 := by
  unfold yb; split <;> omega
theorem mb_bd2 {y m : Int} (h : 1 ≤ m) (k : m ≤ 13) : 0 ≤ mb y m ∧ mb y m ≤ 366 := by
  have := lp_cases y
  unfold mb; split <;> omega
theorem leap {y : Int} : (y.tmod 4 = 0 ∧ ¬ y = 2100 → lp y = 1) ∧ (¬ (y.tmod 4 = 0 ∧ ¬ y = 2100) → lp y = 0) := by
  have e : y.tmod 4 = 0 ↔ y % 4 = 0 := by
    rw [Int.tmod_eq_emod]; split <;> omega
  unfold lp
  rw [e]
  exact ⟨fun h => if_pos h, fun h => if_neg h⟩
theorem n_inj {x y : Int} (h : [DV.n x] = [DV.n y]) : x = y := by simpa using h
theorem cYl_ok (N : Nat) (w0 : World) : ConOk Tryd.prog tb N w0 cYl := by
  refine con_of_walk (tb := tb) fine (C := []) noCon 80 rfl ?_ N w0
  refine fun y y0 y1 _ => ?_
  rw [tree_yl]
  simp only [T.res, B.prop, E.den, E.dat, E.top, E.val, E.isD, DV.canon, DV.int, List.getElem?_cons_zero, List.getElem?_cons_succ, List.getD_cons_zero, List.getD_cons_succ, List.getD_nil, List.map_cons, List.map_nil, List.cons_append, List.nil_append, allB, List.take_succ_cons, List.take_zero, List.length_cons, List.length_nil, Nat.zero_add, Nat.reduceAdd, resB, resL', RSh.l, RC.vd, List.flatMap_cons, List.flatMap_nil, List.append_nil, ev, dv, getZ, List.append_assoc, cYl]
  refine ⟨fun h => ?_, fun h => ?_⟩
  · unfold yl; rw [leap.1 h]; rfl
  · unfold yl; rw [leap.2 h]; rfl
theorem cMlR_ok (N : Nat) (w0 : World) : ConOk Tryd.prog tb N w0 cMlR := by
  refine con_of_walk (tb := tb) fine (C := []) noCon 80 rfl ?_ N w0
  refine fun y y0 y1 m m0 m1 _ => ?_
  rw [tree_mlR]
  simp only [T.res, B.prop, E.den, E.dat, E.top, E.val, E.isD, DV.canon, DV.int, List.getElem?_cons_zero, List.getElem?_cons_succ, List.getD_cons_zero, List.getD_cons_succ, List.getD_nil, List.map_cons, List.map_nil, List.cons_append, List.nil_append, allB, List.take_succ_cons, List.take_zero, List.length_cons, List.length_nil, Nat.zero_add, Nat.reduceAdd, resB, resL', RSh.l, RC.vd, List.flatMap_cons, List.flatMap_nil, List.append_nil, ev, dv, getZ, List.append_assoc, cMlR]
  refine ⟨fun h => ⟨fun k => ?_, fun k => ?_⟩, fun h => ⟨fun k => ?_, fun k => ?_⟩⟩
  · unfold ml; rw [if_pos h, leap.1 k]; rfl
  · unfold ml; rw [if_pos h, leap.2 k]; rfl
  · unfold ml; rw [if_neg h, if_pos (by omega)]
  · unfold ml; rw [if_neg h, if_neg (by omega)]
theorem cMl_ok (N : Nat) (w0 : World) : ConOk Tryd.prog tb N w0 cMl := by
  refine con_of_walk (tb := tb) fine (C := []) noCon 80 rfl ?_ N w0
  refine fun y y0 y1 m m0 m1 _ => ?_
  rw [tree_ml]
  simp only [T.res, B.prop, E.den, E.dat, E.top, E.val, E.isD, DV.canon, DV.int, List.getElem?_cons_zero, List.getElem?_cons_succ, List.getD_cons_zero, List.getD_cons_succ, List.getD_nil, List.map_cons, List.map_nil, List.cons_append, List.nil_append, allB, List.take_succ_cons, List.take_zero, List.length_cons, List.length_nil, Nat.zero_add, Nat.reduceAdd, resB, resL', RSh.l, RC.vd, List.flatMap_cons, List.flatMap_nil, List.append_nil, ev, dv, getZ, List.append_assoc, cMl]
  have l1 := (leap (y := y)).1
  have l0 := (leap (y := y)).2
  refine ⟨fun h => ?_, fun h => ?_⟩
  · unfold ml; rw [if_pos h.1, l1 h.2]; rfl
  · rcases months m0 m1 with rfl | rfl | rfl | rfl | rfl | rfl | rfl | rfl | rfl | rfl | rfl | rfl
    case inr.inl =>
      have e : ml y 2 = 28 := by unfold ml; rw [if_pos rfl, l0 fun k => h ⟨rfl, k⟩]; rfl
      rw [e]
      refine ⟨fun k => absurd k (by decide), fun _ => ⟨fun _ => rfl, fun k => absurd rfl k⟩⟩
    all_goals simp [ml]
theorem cWk_ok (N : Nat) (w0 : World) : ConOk Tryd.prog tb N w0 (cWk 14) := by
  refine con_of_walk (tb := tb) fine (C := []) noCon 80 rfl ?_ N w0
  refine fun n n0 n1 _ => ?_
  rw [tree_wk]
  simp only [T.res, B.prop, E.den, E.dat, E.top, E.val, E.isD, DV.canon, DV.int, List.getElem?_cons_zero, List.getElem?_cons_succ, List.getD_cons_zero, List.getD_cons_succ, List.getD_nil, List.map_cons, List.map_nil, List.cons_append, List.nil_append, allB, List.take_succ_cons, List.take_zero, List.length_cons, List.length_nil, Nat.zero_add, Nat.reduceAdd, resB, resL', RSh.l, RC.vd, List.flatMap_cons, List.flatMap_nil, List.append_nil, ev, dv, getZ, List.append_assoc, cWk, WkP]
  refine ⟨fun h => ⟨fun _ => trivial, fun k => absurd k h⟩, fun h => ⟨fun k => absurd (Classical.not_not.1 h) k, fun k => ?_⟩⟩
  rw [Int.tmod_eq_emod_of_nonneg (by unfold Day at k; omega)]
theorem cWkR_ok (N : Nat) (w0 : World) : ConOk Tryd.prog tb N w0 (cWk 15) := by
  refine con_of_walk (tb := tb) fine (C := []) noCon 80 rfl ?_ N w0
  refine fun n n0 n1 _ => ?_
  rw [tree_wkR]
  simp only [T.res, B.prop, E.den, E.dat, E.top, E.val, E.isD, DV.canon, DV.int, List.getElem?_cons_zero, List.getElem?_cons_succ, List.getD_cons_zero, List.getD_cons_succ, List.getD_nil, List.map_cons, List.map_nil, List.cons_append, List.nil_append, allB, List.take_succ_cons, List.take_zero, List.length_cons, List.length_nil, Nat.zero_add, Nat.reduceAdd, resB, resL', RSh.l, RC.vd, List.flatMap_cons, List.flatMap_nil, List.append_nil, ev, dv, getZ, List.append_assoc, cWk, WkP]
  refine ⟨fun h => ⟨fun _ => trivial, fun k => absurd k h⟩, fun h => ⟨fun k => absurd (Classical.not_not.1 h) k, fun k => ?_⟩⟩
  rw [Int.tmod_eq_emod_of_nonneg (by unfold Day at k; omega)]
theorem of_bad {n : Int} (h : ¬ Day n) : OfP n [.n 0, .n 0, .n 0, .n 1] := ⟨fun _ => rfl, fun k => absurd k h⟩
theorem of_ok {n Y M D : Int} (h : Date Y M D) (e : n = nb Y M D) : OfP n [.n Y, .n M, .n D, .n 0] := ⟨fun k => absurd (by rw [e]; exact nb_bd h) k, fun _ => ⟨Y, M, D, h, e, rfl⟩⟩
theorem num_bad {Y M D : Int} (h : ¬ Date Y M D) : NumP Y M D [.n 0, .n 140] := ⟨fun _ => rfl, fun k => absurd k h⟩
theorem num_ok {Y M D n : Int} (h : Date Y M D) (e : n = nb Y M D) : NumP Y M D [.n n, .n 0] := ⟨fun k => absurd h k, fun _ => by rw [e]⟩
theorem cOf_ok (N : Nat) (w0 : World) : ConOk Tryd.prog tb N w0 (cOf 10) := by
  refine con_of_walk (tb := tb) fine (C := [cYl, cMl, lOf1, lOf2]) (conCons cYl_ok (conCons cMl_ok (lopCons rfl (lopCons rfl noCon)))) 80 rfl ?_ N w0
  refine fun n n0 n1 _ => ?_
  rw [tree_of]
  simp only [T.res, B.prop, E.den, E.dat, E.top, E.val, E.isD, DV.canon, DV.int, List.getElem?_cons_zero, List.getElem?_cons_succ, List.getD_cons_zero, List.getD_cons_succ, List.getD_nil, List.map_cons, List.map_nil, List.cons_append, List.nil_append, allB, List.take_succ_cons, List.take_zero, List.length_cons, List.length_nil, Nat.zero_add, Nat.reduceAdd, resB, resL', RSh.l, RC.vd, List.flatMap_cons, List.flatMap_nil, List.append_nil, ev, dv, getZ, List.append_assoc, cOf, cYl, cMl, lOf1, lOf2, g37_1, g37_2, g37_40, g37_41, t37_0, t37_1, t37_3]
  refine ⟨fun h => of_bad h, fun h => ?_⟩
  have hd : Day n := Classical.not_not.1 h
  refine ⟨by rw [yb_zero]; omega, fun a a0 a1 y y0 y1 ha => ⟨trivial, fun l l0 l1 hl => ?_⟩⟩
  obtain rfl := n_inj hl
  refine ⟨fun hle => ⟨trivial, fun l' _ _ hl' => ?_⟩, fun hgt => ?_⟩
  · obtain rfl := n_inj hl'
    have st := yb_step y0
    have hy := hd.2
    have hend : y + 1 ≤ 2199 := yb_end (by omega) (by omega)
    exact ⟨fun _ => ⟨fun _ => ⟨by omega, by omega⟩, fun k => k ⟨by omega, by omega⟩⟩, fun k => k ⟨by omega, by omega⟩⟩
  · refine ⟨⟨by rw [mb_one]; omega, by omega⟩, fun b b0 b1 m m0 m1 hb => ⟨trivial, fun q q0 q1 hq => ?_⟩⟩
    obtain rfl := n_inj hq
    refine ⟨fun hle => ⟨trivial, fun q' _ _ hq' => ?_⟩, fun hgt2 => ?_⟩
    · obtain rfl := n_inj hq'
      have st := mb_step (y := y) m0 m1
      have hm : m + 1 ≤ 12 := by
        by_cases c : m = 12
        · exfalso
          subst c
          rw [show (12 : Int) + 1 = 13 from rfl, mb_end] at st
          omega
        · omega
      have := ml_bd (y := y) (m := m)
      exact ⟨fun _ => ⟨fun _ => ⟨⟨by omega, by omega⟩, by omega⟩, fun k => k ⟨by omega, by omega⟩⟩, fun k => k ⟨by omega, by omega⟩⟩
    · exact of_ok ⟨⟨y0, y1⟩, ⟨m0, m1⟩, by omega, by omega⟩ (by unfold nb; omega)
theorem cOfR_ok (N : Nat) (w0 : World) : ConOk Tryd.prog tb N w0 (cOf 11) := by
  refine con_of_walk (tb := tb) fine (C := [cMlR, lOfR]) (conCons cMlR_ok (lopCons rfl noCon)) 80 rfl ?_ N w0
  refine fun n n0 n1 _ => ?_
  rw [tree_ofR]
  simp only [T.res, B.prop, E.den, E.dat, E.top, E.val, E.isD, DV.canon, DV.int, List.getElem?_cons_zero, List.getElem?_cons_succ, List.getD_cons_zero, List.getD_cons_succ, List.getD_nil, List.map_cons, List.map_nil, List.cons_append, List.nil_append, allB, List.take_succ_cons, List.take_zero, List.length_cons, List.length_nil, Nat.zero_add, Nat.reduceAdd, resB, resL', RSh.l, RC.vd, List.flatMap_cons, List.flatMap_nil, List.append_nil, ev, dv, getZ, List.append_assoc, cOf, cMlR, lOfR, g40_1]
  refine ⟨fun h => of_bad h, fun h => ?_⟩
  have hd : Day n := Classical.not_not.1 h
  refine ⟨by rw [yb_zero, mb_one]; omega, fun a a0 a1 y y0 y1 m m0 m1 ha => ⟨trivial, fun l l0 l1 hl => ?_⟩⟩
  obtain rfl := n_inj hl
  refine ⟨fun hle => ⟨trivial, fun l' _ _ hl' => ?_⟩, fun hgt => of_ok ⟨⟨y0, y1⟩, ⟨m0, m1⟩, by omega, by omega⟩ (by unfold nb; omega)⟩
  obtain rfl := n_inj hl'
  have st := mb_step (y := y) m0 m1
  have sy := yb_step y0
  have hb := ml_bd (y := y) (m := m)
  refine ⟨fun h12 => ⟨fun _ => ⟨fun _ => ⟨?_, by omega⟩, fun k => k ?_⟩, fun k => k ⟨by omega, by omega⟩⟩, fun h12 => ⟨fun _ => ⟨by omega, by omega⟩, fun k => k ⟨by omega, by omega⟩⟩⟩
  · obtain rfl : m = 12 := by omega
    rw [show (12 : Int) + 1 = 13 from rfl, mb_end] at st
    rw [mb_one]
    omega
  · obtain rfl : m = 12 := by omega
    rw [show (12 : Int) + 1 = 13 from rfl, mb_end] at st
    have := hd.2
    have := yb_end (y := y + 1) (by omega) (by omega)
    omega
theorem cNum_ok (N : Nat) (w0 : World) : ConOk Tryd.prog tb N w0 (cNum 12) := by
  refine con_of_walk (tb := tb) fine (C := [cYl, cMl, lNum1, lNum2]) (conCons cYl_ok (conCons cMl_ok (lopCons rfl (lopCons rfl noCon)))) 80 rfl ?_ N w0
  refine fun Y Y0 Y1 M M0 M1 D D0 D1 _ => ?_
  rw [tree_num]
  simp only [T.res, B.prop, E.den, E.dat, E.top, E.val, E.isD, DV.canon, DV.int, List.getElem?_cons_zero, List.getElem?_cons_succ, List.getD_cons_zero, List.getD_cons_succ, List.getD_nil, List.map_cons, List.map_nil, List.cons_append, List.nil_append, allB, List.take_succ_cons, List.take_zero, List.length_cons, List.length_nil, Nat.zero_add, Nat.reduceAdd, resB, resL', RSh.l, RC.vd, List.flatMap_cons, List.flatMap_nil, List.append_nil, ev, dv, getZ, List.append_assoc, cNum, cYl, cMl, lNum1, lNum2, g65_1, g65_67, t65_0, t65_2]
  refine ⟨fun h => ⟨trivial, fun l l0 l1 hl => ?_⟩, fun h => num_bad fun q => h ?_⟩
  · obtain rfl := n_inj hl
    refine ⟨fun k => num_bad fun q => by have := q.2.2.2; omega, fun k => ?_⟩
    have dt : Date Y M D := ⟨⟨by omega, by omega⟩, ⟨by omega, by omega⟩, by omega, by omega⟩
    refine ⟨⟨by omega, by rw [yb_zero]; omega⟩, fun n n0 n1 y y0 y1 ⟨hy, hn⟩ => ⟨fun hlt => ⟨trivial, fun q q0 q1 hq => ?_⟩, fun hge => ⟨⟨by omega, ?_⟩, fun a a0 a1 m m0 m1 ⟨hm, ha⟩ => ⟨fun hlt => ⟨trivial, fun q q0 q1 hq => ?_⟩, fun hge2 => num_ok dt ?_⟩⟩⟩⟩
    · obtain rfl := n_inj hq
      have st := yb_step y0
      have b := yb_bd (y := y + 1) (by omega) (by omega)
      have := dt.2.2.1
      exact ⟨fun _ => ⟨⟨by omega, by omega⟩, by omega⟩, fun k => k ⟨by omega, by omega⟩⟩
    · obtain rfl : y = Y := by omega
      rw [mb_one]; omega
    · obtain rfl := n_inj hq
      have st := mb_step (y := Y) m0 m1
      have b := yb_bd (y := Y) dt.1.1 (by omega)
      have b2 := mb_bd2 (y := Y) (m := m + 1) (by omega) (by omega)
      have := dt.2.2.1
      exact ⟨fun _ => ⟨⟨by omega, by omega⟩, by omega⟩, fun k => k ⟨by omega, by omega⟩⟩
    · obtain rfl : m = M := by omega
      unfold nb; omega
  · obtain ⟨⟨q1, q2⟩, ⟨q3, q4⟩, q5, q6⟩ := q
    omega
theorem cNumR_ok (N : Nat) (w0 : World) : ConOk Tryd.prog tb N w0 (cNum 13) := by
  refine con_of_walk (tb := tb) fine (C := [cMlR, lNumR1, lNumR2]) (conCons cMlR_ok (lopCons rfl (lopCons rfl noCon))) 80 rfl ?_ N w0
  refine fun Y Y0 Y1 M M0 M1 D D0 D1 _ => ?_
  rw [tree_numR]
  simp only [T.res, B.prop, E.den, E.dat, E.top, E.val, E.isD, DV.canon, DV.int, List.getElem?_cons_zero, List.getElem?_cons_succ, List.getD_cons_zero, List.getD_cons_succ, List.getD_nil, List.map_cons, List.map_nil, List.cons_append, List.nil_append, allB, List.take_succ_cons, List.take_zero, List.length_cons, List.length_nil, Nat.zero_add, Nat.reduceAdd, resB, resL', RSh.l, RC.vd, List.flatMap_cons, List.flatMap_nil, List.append_nil, ev, dv, getZ, List.append_assoc, cNum, cMlR, lNumR1, lNumR2, g41_1, g41_43, t41_0, t41_2]
  refine ⟨fun h => ⟨trivial, fun l l0 l1 hl => ?_⟩, fun h => num_bad fun q => h ?_⟩
  · obtain rfl := n_inj hl
    refine ⟨fun k => num_bad fun q => by have := q.2.2.2; omega, fun k => ?_⟩
    have dt : Date Y M D := ⟨⟨by omega, by omega⟩, ⟨by omega, by omega⟩, by omega, by omega⟩
    refine ⟨⟨by omega, fun _ => by rw [yb_zero]; omega, fun q => by omega⟩, fun n n0 n1 y y0 y1 ⟨hy, hn, hn2⟩ => ⟨fun hle => ⟨⟨hle, fun _ => by omega, by rw [mb_one]; have := hn hle; omega⟩, fun a a0 a1 m m0 m1 ⟨_, hm, ha⟩ => ⟨fun hlt => ⟨trivial, fun q q0 q1 hq => ?_⟩, fun hge => ⟨⟨by omega, fun q => ?_, fun q => ?_⟩, by omega⟩⟩⟩, fun hgt => num_ok dt (hn2 (by omega))⟩⟩
    · obtain rfl := n_inj hq
      have st := mb_step (y := y) m0 hlt.1
      have b := yb_bd (y := y) y0 (by omega)
      have b2 := mb_bd2 (y := y) (m := m + 1) (by omega) (by omega)
      have := dt.2.2.1
      exact ⟨fun _ => ⟨⟨by omega, fun e => by have := hm e; omega, by omega⟩, by omega⟩, fun k => k ⟨by omega, by omega⟩⟩
    · obtain rfl : m = 13 := by omega
      have sy := yb_step y0
      rw [mb_end] at ha
      omega
    · obtain rfl : y = Y := by omega
      have := hm rfl
      obtain rfl : m = M := by omega
      unfold nb; omega
  · obtain ⟨⟨q1, q2⟩, ⟨q3, q4⟩, q5, q6⟩ := q
    omega
end Go.Proofs.YtdffnmhpkapbkaaDoor
