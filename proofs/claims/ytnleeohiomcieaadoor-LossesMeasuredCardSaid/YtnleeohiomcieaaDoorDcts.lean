/- DERIVED. The functions on surveys keep their contracts. -/
import Derived.Test.YtnleeohiomcieaaDoorDtreeb
import Derived.Test.YtnleeohiomcieaaDoorDmathb
namespace Go.Proofs.YtnleeohiomcieaaDoor
open Go.Dx
set_option linter.unusedVariables false
set_option linter.unusedSimpArgs false
theorem getR {α : Type} (n k : Nat) (z d : α) (l : List α) : (List.replicate n z ++ l).getD (n + k) d = l.getD k d := by
  rw [List.getD_eq_getElem?_getD, List.getD_eq_getElem?_getD, List.getElem?_append_right (by simp)]
  simp
theorem getZ {α : Type} (n : Nat) (z d x : α) (l : List α) : (List.replicate n z ++ x :: l).getD n d = x := getR n 0 z d (x :: l)
theorem take91 {α : Type} (z : α) (l : List α) : (List.replicate 91 z ++ l).take 91 = List.replicate 91 z := List.take_left' (by simp)
theorem take92 {α : Type} (z x : α) (l : List α) : (List.replicate 91 z ++ x :: l).take 92 = List.replicate 91 z ++ [x] := by
  rw [show List.replicate 91 z ++ x :: l = (List.replicate 91 z ++ [x]) ++ l by simp]; exact List.take_left' (by simp)
theorem take97 {α : Type} (z : α) (l : List α) : (List.replicate 97 z ++ l).take 97 = List.replicate 97 z := List.take_left' (by simp)
theorem take98 {α : Type} (z x : α) (l : List α) : (List.replicate 97 z ++ x :: l).take 98 = List.replicate 97 z ++ [x] := by
  rw [show List.replicate 97 z ++ x :: l = (List.replicate 97 z ++ [x]) ++ l by simp]; exact List.take_left' (by simp)
theorem cIsS_ok (N : Nat) (w0 : World) : ConOk Tryd.prog tb N w0 cIsS := by
  refine con_of_walk (tb := tb) fine (C := [cShr, lAll PanOk 4 91 48 6 9, lAll PondOk 10 91 60 7 101]) (conCons cShr_ok (lopCons rfl (lopCons rfl noCon))) 80 rfl ?_ N w0
  refine fun su _ _ so _ _ n0 _ _ d0 _ _ n1 _ _ d1 _ _ pa _ po _ _ => ?_
  rw [tree_isS]
  simp only [T.res, B.prop, E.den, E.dat, E.top, E.val, E.isD, DV.canon, DV.int, List.getElem?_cons_zero, List.getElem?_cons_succ, List.getD_cons_zero, List.getD_cons_succ, List.getD_nil, List.map_cons, List.map_nil, List.cons_append, List.nil_append, allB, List.take_succ_cons, List.take_zero, List.length_cons, List.length_nil, Nat.zero_add, Nat.reduceAdd, resB, resL', RSh.l, RC.vd, List.flatMap_cons, List.flatMap_nil, List.append_nil, ev, dv, svy, getZ, cIsS, cShr, lAll, take91, take92]
  have hA := len_nn (.sl none 0 pa)
  have hB := len_nn (.sl none 0 po)
  generalize hpa : DV.sl none 0 pa = A at *
  generalize hpo : DV.sl none 0 po = B at *
  refine ⟨fun h => ⟨trivial, fun x _ _ hx => ⟨fun k => val_no fun q => ?_, fun k => ⟨⟨hA, fun y h0 h1 => by omega⟩, fun i i0 i1 ⟨hi, ai⟩ => ⟨fun hlt => ⟨fun l => val_no fun q => l (q.2.1 i i0 hlt), fun l => ⟨⟨by omega, allP_succ ai (Classical.not_not.1 l)⟩, by omega⟩⟩, fun hge => ⟨⟨hB, fun y h0 h1 => by omega⟩, fun j j0 j1 ⟨hj, aj⟩ => ⟨fun hlt => ⟨fun l => val_no fun q => ?_, fun l => ⟨⟨by omega, allP_succ aj ?_⟩, by omega⟩⟩, fun hge2 => val_yes ?_⟩⟩⟩⟩⟩⟩, fun h => val_no fun q => h ?_⟩
  · obtain ⟨⟨_, a, b, c⟩, _⟩ := q
    simp only at a b c
    rcases val_in hx with ⟨e, rfl⟩ | ⟨e, rfl⟩
    · omega
    · exact e a
  · obtain ⟨⟨⟨a, b⟩, c, d⟩, e, f⟩ := q.2.2 j j0 hlt
    simp only at a b c d e f
    omega
  · unfold PondOk
    omega
  · have e1 : Shr n0 d0 n1 d1 := by
      rcases val_in hx with ⟨e, rfl⟩ | ⟨e, rfl⟩
      · exact e
      · omega
    obtain rfl : i = A.len := by omega
    obtain rfl : j = B.len := by omega
    refine ⟨⟨?_, e1, ?_, ?_⟩, ai, aj⟩ <;> simp only <;> omega
  · obtain ⟨⟨⟨a, b⟩, _⟩, _⟩ := q
    simp only at a b
    omega
theorem cIsSR_ok (N : Nat) (w0 : World) : ConOk Tryd.prog tb N w0 cIsSR := by
  refine con_of_walk (tb := tb) fine (C := [cShrR, lAll PanOk 4 97 3 6 9, lAll PondOk 9 97 4 7 107]) (conCons cShrR_ok (lopCons rfl (lopCons rfl noCon))) 80 rfl ?_ N w0
  refine fun su _ _ so _ _ n0 _ _ d0 _ _ n1 _ _ d1 _ _ pa _ po _ _ => ?_
  rw [tree_isSR]
  simp only [T.res, B.prop, E.den, E.dat, E.top, E.val, E.isD, DV.canon, DV.int, List.getElem?_cons_zero, List.getElem?_cons_succ, List.getD_cons_zero, List.getD_cons_succ, List.getD_nil, List.map_cons, List.map_nil, List.cons_append, List.nil_append, allB, List.take_succ_cons, List.take_zero, List.length_cons, List.length_nil, Nat.zero_add, Nat.reduceAdd, resB, resL', RSh.l, RC.vd, List.flatMap_cons, List.flatMap_nil, List.append_nil, ev, dv, svy, getZ, cIsSR, cShrR, lAll, take97, take98]
  have hA := len_nn (.sl none 0 pa)
  have hB := len_nn (.sl none 0 po)
  generalize hpa : DV.sl none 0 pa = A at *
  generalize hpo : DV.sl none 0 po = B at *
  refine ⟨fun h => ⟨trivial, fun x _ _ hx => ⟨fun k => val_no fun q => ?_, fun k => ⟨⟨hA, fun y h0 h1 => by omega⟩, fun i i0 i1 ⟨hi, ai⟩ => ⟨fun hlt => ⟨fun l => val_no fun q => l (q.2.1 i i0 hlt), fun l => ⟨⟨by omega, allP_succ ai (Classical.not_not.1 l)⟩, by omega⟩⟩, fun hge => ⟨⟨hB, fun y h0 h1 => by omega⟩, fun j j0 j1 ⟨hj, aj⟩ => ⟨fun hlt => ⟨fun l => val_no fun q => ?_, fun l => ⟨⟨by omega, allP_succ aj ?_⟩, by omega⟩⟩, fun hge2 => val_yes ?_⟩⟩⟩⟩⟩⟩, fun h => val_no fun q => h ?_⟩
  · obtain ⟨⟨_, a, b, c⟩, _⟩ := q
    simp only at a b c
    rcases val_in hx with ⟨e, rfl⟩ | ⟨e, rfl⟩
    · omega
    · exact e a
  · obtain ⟨⟨⟨a, b⟩, c, d⟩, e, f⟩ := q.2.2 j j0 hlt
    simp only at a b c d e f
    omega
  · unfold PondOk
    omega
  · have e1 : Shr n0 d0 n1 d1 := by
      rcases val_in hx with ⟨e, rfl⟩ | ⟨e, rfl⟩
      · exact e
      · omega
    obtain rfl : i = A.len := by omega
    obtain rfl : j = B.len := by omega
    refine ⟨⟨?_, e1, ?_, ?_⟩, ai, aj⟩ <;> simp only <;> omega
  · obtain ⟨⟨⟨a, b⟩, _⟩, _⟩ := q
    simp only at a b
    omega
theorem cMk_ok (N : Nat) (w0 : World) : ConOk Tryd.prog tb N w0 (cMk 43) := by
  refine con_of_walk (tb := tb) fine (C := [cDiv]) (conCons cDiv_ok noCon) 80 rfl ?_ N w0
  refine fun n n0 n1 d d0 d1 _ => ?_
  rw [tree_mk]
  simp only [T.res, B.prop, E.den, E.dat, E.top, E.val, E.isD, DV.canon, DV.int, List.getElem?_cons_zero, List.getElem?_cons_succ, List.getD_cons_zero, List.getD_cons_succ, List.getD_nil, List.map_cons, List.map_nil, List.cons_append, List.nil_append, allB, List.take_succ_cons, List.take_zero, List.length_cons, List.length_nil, Nat.zero_add, Nat.reduceAdd, resB, resL', RSh.l, RC.vd, List.flatMap_cons, List.flatMap_nil, List.append_nil, ev, dv, svy, getZ, cMk, cDiv]
  obtain rfl : d = 1048576 := by omega
  refine ⟨by omega, fun g g0 g1 hg => ?_⟩
  unfold mN mD
  rw [td n0, td (by omega), hg]
theorem cMkR_ok (N : Nat) (w0 : World) : ConOk Tryd.prog tb N w0 (cMk 46) := by
  refine con_of_walk (tb := tb) fine (C := [lMkR]) (lopCons rfl noCon) 80 rfl ?_ N w0
  refine fun n n0 n1 d d0 d1 _ => ?_
  rw [tree_mkR]
  simp only [T.res, B.prop, E.den, E.dat, E.top, E.val, E.isD, DV.canon, DV.int, List.getElem?_cons_zero, List.getElem?_cons_succ, List.getD_cons_zero, List.getD_cons_succ, List.getD_nil, List.map_cons, List.map_nil, List.cons_append, List.nil_append, allB, List.take_succ_cons, List.take_zero, List.length_cons, List.length_nil, Nat.zero_add, Nat.reduceAdd, resB, resL', RSh.l, RC.vd, List.flatMap_cons, List.flatMap_nil, List.append_nil, ev, dv, svy, getZ, cMk, lMkR]
  obtain rfl : d = 1048576 := by omega
  have hp := gcd_pos (a := n) (b := 1048576) (by omega)
  have core : ∀ x : Int, x = 0 - n → (gcdI x (0 - 1048576) = gcdI n 1048576 ∧ (x = 0 → ¬ (0 - 1048576 : Int) = 0)) := fun x hx => ⟨gcd_neg _ _ _ _ (by omega) (by omega), fun _ => by omega⟩
  refine ⟨fun hn => ⟨core _ rfl, fun a a0 a1 b b0 b1 ⟨hi, hne⟩ => ⟨fun hb => ?_, fun hb => ⟨fun hb1 => ?_, fun hb1 => ?_⟩⟩⟩, fun hn => ⟨core _ (by omega), fun a a0 a1 b b0 b1 ⟨hi, hne⟩ => ⟨fun hb => ?_, fun hb => ⟨fun hb1 => ?_, fun hb1 => ?_⟩⟩⟩⟩
  · have q := tmod_neg a b a1 (by omega)
    exact ⟨fun _ => ⟨⟨(gcd_step a b).trans hi, fun h => by omega⟩, by omega⟩, fun k => k ⟨by omega, by omega⟩⟩
  · subst hb1
    have g1 : gcdI a (-1) = 1 := by simp [gcdI]
    obtain ⟨e1, e2⟩ := mk_fin (n := n) (a := -1) n0 (by omega) (by rw [← hi, g1]; rfl) hp
    rw [e1, e2]
  · obtain rfl : b = 0 := by omega
    have ga := gcd_zero a
    obtain ⟨e1, e2⟩ := mk_fin (n := n) (a := a) n0 a1 (by omega) hp
    rw [e1, e2]
    exact ⟨fun k => hne k rfl, fun _ => rfl⟩
  · have q := tmod_neg a b a1 (by omega)
    exact ⟨fun _ => ⟨⟨(gcd_step a b).trans hi, fun h => by omega⟩, by omega⟩, fun k => k ⟨by omega, by omega⟩⟩
  · subst hb1
    have g1 : gcdI a (-1) = 1 := by simp [gcdI]
    obtain ⟨e1, e2⟩ := mk_fin (n := n) (a := -1) n0 (by omega) (by rw [← hi, g1]; rfl) hp
    obtain rfl : n = 0 := by omega
    rw [← e1, e2, Int.sub_zero]
  · obtain rfl : b = 0 := by omega
    have ga := gcd_zero a
    obtain ⟨e1, e2⟩ := mk_fin (n := n) (a := a) n0 a1 (by omega) hp
    obtain rfl : n = 0 := by omega
    rw [← e1, e2, Int.sub_zero]
    exact ⟨fun k => hne k rfl, fun _ => rfl⟩
end Go.Proofs.YtnleeohiomcieaaDoor
