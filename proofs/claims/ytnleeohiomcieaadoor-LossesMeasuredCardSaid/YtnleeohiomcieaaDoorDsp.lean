/- DERIVED. What seeps: both keep the contract. -/
import Derived.Test.YtnleeohiomcieaaDoorDcev
import Derived.Test.YtnleeohiomcieaaDoorDtreec
import Derived.Test.YtnleeohiomcieaaDoorDtreed
namespace Go.Proofs.YtnleeohiomcieaaDoor
open Go.Dx
set_option linter.unusedVariables false
set_option linter.unusedSimpArgs false
theorem sp_long {s : Svy} {dl : Int} (h : Long s) : SeepP s dl [.n 0, .n 0, .n 0, .n 0, .n 2] := err_long (z := [.n 0, .n 0, .n 0, .n 0]) h
theorem sp_bad {s : Svy} {dl : Int} (h : ¬ Long s) (k : ¬ RightS s) : SeepP s dl [.n 0, .n 0, .n 0, .n 0, .n 210] := err_bad (z := [.n 0, .n 0, .n 0, .n 0]) h k
theorem sp_arg {s : Svy} {dl : Int} (h : ¬ Long s) (k : RightS s) (l : ¬ Dly dl) : SeepP s dl [.n 0, .n 0, .n 0, .n 0, .n 1] := err_arg (z := [.n 0, .n 0, .n 0, .n 0]) h k l
theorem sp_no {s : Svy} {dl : Int} (h : ¬ Long s) (k : RightS s) (l : Dly dl) (m : sHs s dl < sLs s dl) : SeepP s dl [.n 0, .n 0, .n 0, .n 0, .n 210] := err_fine h k l ⟨fun _ => rfl, fun q => absurd m q⟩
theorem sp_ok {s : Svy} {dl a b c d : Int} (h : ¬ Long s) (k : RightS s) (l : Dly dl) (m : ¬ sHs s dl < sLs s dl) (ha : a = mN (sLs s dl)) (hb : b = mD (sLs s dl)) (hc : c = mN (sHs s dl)) (hd : d = mD (sHs s dl)) : SeepP s dl [.n a, .n b, .n c, .n d, .n 0] := by
  subst ha hb hc hd
  exact err_fine h k l ⟨fun q => absurd q m, fun _ => rfl⟩
theorem get16a {α : Type} (z d : α) (l : List α) : (List.replicate 16 z ++ l).getD 16 d = l.getD 0 d := getR 16 0 z d l
theorem get16b {α : Type} (z d : α) (l : List α) : (List.replicate 16 z ++ l).getD 17 d = l.getD 1 d := getR 16 1 z d l
theorem get16d {α : Type} (z d : α) (l : List α) : (List.replicate 16 z ++ l).getD 19 d = l.getD 3 d := getR 16 3 z d l
theorem get16e {α : Type} (z d : α) (l : List α) : (List.replicate 16 z ++ l).getD 20 d = l.getD 4 d := getR 16 4 z d l
theorem get108a {α : Type} (z d : α) (l : List α) : (List.replicate 108 z ++ l).getD 108 d = l.getD 0 d := getR 108 0 z d l
theorem get108b {α : Type} (z d : α) (l : List α) : (List.replicate 108 z ++ l).getD 109 d = l.getD 1 d := getR 108 1 z d l
theorem get108d {α : Type} (z d : α) (l : List α) : (List.replicate 108 z ++ l).getD 111 d = l.getD 3 d := getR 108 3 z d l
theorem get108e {α : Type} (z d : α) (l : List α) : (List.replicate 108 z ++ l).getD 112 d = l.getD 4 d := getR 108 4 z d l
theorem seep0_ok (N : Nat) (w0 : World) : ConOk Tryd.prog tb N w0 (cSeepN 15 0 0) := by
  refine con_of_walk (tb := tb) fine (C := [cIsS, (cMk 43), lSp]) (conCons cIsS_ok (conCons cMk_ok (lopCons rfl noCon))) 80 rfl ?_ N w0
  refine fun su _ _ so q0 q1 n0 _ _ d0 _ _ n1 _ _ d1 _ _ pa _ po _ dl _ _ _ => ?_
  rw [tree_seep0]
  simp only [T.res, B.prop, E.den, E.dat, E.top, E.val, E.isD, DV.canon, DV.int, List.getElem?_cons_zero, List.getElem?_cons_succ, List.getD_cons_zero, List.getD_cons_succ, List.getD_nil, List.map_cons, List.map_nil, List.cons_append, List.nil_append, allB, List.take_succ_cons, List.take_zero, List.length_cons, List.length_nil, Nat.zero_add, Nat.reduceAdd, resB, resL', RSh.l, RC.vd, List.flatMap_cons, List.flatMap_nil, List.append_nil, ev, dv, svy, cIsS, cMk, cSeepN, cSeep, lSp, get16a, get16b, get16d, get16e, List.append_assoc]
  have hB := len_nn (.sl none 0 po)
  generalize hpa : DV.sl none 0 pa = A at *
  generalize hpo : DV.sl none 0 po = B at *
  generalize hs : (⟨su, so, n0, d0, n1, d1, A, B⟩ : Svy) = s
  refine ⟨fun h => sp_long (by rw [← hs]; exact h), fun h => ?_⟩
  have h : ¬ Long s := by rw [← hs]; exact h
  refine ⟨trivial, fun x _ _ hx => ?_⟩
  rcases val_in hx with ⟨ok, rfl⟩ | ⟨bad, rfl⟩
  case inr => exact ⟨fun _ => sp_bad h bad, fun k => absurd rfl k⟩
  refine ⟨fun k => absurd k (by decide), fun _ => ⟨fun k => sp_arg h ok fun q => by unfold Dly at q; omega, fun k => ?_⟩⟩
  have dl1 : Dly dl := ⟨by omega, by omega⟩
  obtain rfl : so = 0 := by omega
  have hso : s.so = 0 := by rw [← hs]
  have hpo2 : s.po = B := by rw [← hs]
  have okP := ok.2.2
  have lL : soLo s.so = 0 := by rw [hso]; rfl
  have lH : soHi s.so = 64 := by rw [hso]; rfl
  clear hs hpa hpo
  have zz : ∀ k, 0 ≤ k → k < B.len → ¬ IntKind.i64.wrap (B.at k 0 * B.at k 1) = 0 := fun k k0 k1 => by
    obtain ⟨⟨⟨p1, p2⟩, p3, p4⟩, ⟨p5, p6⟩, p7⟩ := okP k k0 (by rw [hpo2]; exact k1)
    rw [hpo2] at p1 p2 p3 p4 p5 p6 p7
    have u := sp_w p1 p2 p3 p4 p5 (by omega) dl1.1 dl1.2
    rw [u.1]; exact u.2.2.2.2.2.2.2.2.2
  have nL := spL_nn s dl1.1
  have step : ∀ i a b : Int, 0 ≤ i → i < B.len → a = spL s dl i.toNat → b = spH s dl i.toNat →
      max a (IntKind.i64.wrap ((IntKind.i64.wrap (IntKind.i64.wrap (1048576 * B.at i 2) * dl)).tdiv (IntKind.i64.wrap (B.at i 0 * B.at i 1)))) = spL s dl (i + 1).toNat ∧
      min b (IntKind.i64.wrap ((IntKind.i64.wrap (IntKind.i64.wrap (IntKind.i64.wrap (IntKind.i64.wrap (1048576 * B.at i 3) * dl) + IntKind.i64.wrap (B.at i 0 * B.at i 1)) - 1)).tdiv (IntKind.i64.wrap (B.at i 0 * B.at i 1)))) = spH s dl (i + 1).toNat := fun i a b hi0 hi ea eb => by
    obtain ⟨⟨⟨p1, p2⟩, p3, p4⟩, ⟨p5, p6⟩, p7⟩ := okP i hi0 (by rw [hpo2]; exact hi)
    rw [hpo2] at p1 p2 p3 p4 p5 p6 p7
    have u := sp_w p1 p2 p3 p4 p5 (by omega) dl1.1 dl1.2
    have v := sp_w p1 p2 p3 p4 (show 0 ≤ B.at i 3 by omega) p7 dl1.1 dl1.2
    rw [u.1, u.2.1, u.2.2.1, u.2.2.2.1, v.2.1, v.2.2.1, v.2.2.2.2.1, v.2.2.2.2.2.1, v.2.2.2.2.2.2.1, toN_succ hi0]
    simp only [spL, spH, pLo, pHi, ea, eb, Int.toNat_of_nonneg hi0, hpo2, and_self]
  refine ⟨⟨hB, by simp only [Int.toNat_zero, spL, lL], by simp only [Int.toNat_zero, spH, lH]⟩, fun i i0 i1 a a0 a1 b b0 b1 ⟨hi, ea, eb⟩ => ⟨fun hlt => ?_, fun hge => ?_⟩⟩
  · obtain ⟨s1, s2⟩ := step i a b i0 hlt ea eb
    exact ⟨fun q => zz i i0 hlt q, fun _ => ⟨fun q => zz i i0 hlt q, fun _ => ⟨⟨by omega, s1, s2⟩, by omega⟩⟩⟩
  · obtain rfl : i = B.len := by omega
    have e1 : min a 1048576 = sLs s dl := by unfold sLs; rw [hpo2, ea]
    have e2 : min b 1048576 = sHs s dl := by unfold sHs; rw [hpo2, eb]
    have n1 : 0 ≤ sLs s dl := by have := nL B.len.toNat; omega
    have n2 : sLs s dl ≤ 1048576 := by omega
    have n3 : sHs s dl ≤ 1048576 := by omega
    rw [e1, e2]
    refine ⟨fun q => sp_no h ok dl1 q, fun q => ⟨fun _ => ⟨trivial, fun x1 _ _ x2 _ _ x3 _ _ hx1 => ⟨fun _ => ⟨trivial, fun y1 _ _ y2 _ _ y3 _ _ hy1 => ?_⟩, fun k => k ⟨by omega, by omega⟩⟩⟩, fun k => k ⟨by omega, by omega⟩⟩⟩
    simp only [List.cons.injEq, DV.n.injEq, and_true] at hx1 hy1
    exact sp_ok h ok dl1 q hx1.1 hx1.2.1 hy1.1 hy1.2.1
theorem seep1_ok (N : Nat) (w0 : World) : ConOk Tryd.prog tb N w0 (cSeepN 15 1 1) := by
  refine con_of_walk (tb := tb) fine (C := [cIsS, (cMk 43), lSp]) (conCons cIsS_ok (conCons cMk_ok (lopCons rfl noCon))) 80 rfl ?_ N w0
  refine fun su _ _ so q0 q1 n0 _ _ d0 _ _ n1 _ _ d1 _ _ pa _ po _ dl _ _ _ => ?_
  rw [tree_seep1]
  simp only [T.res, B.prop, E.den, E.dat, E.top, E.val, E.isD, DV.canon, DV.int, List.getElem?_cons_zero, List.getElem?_cons_succ, List.getD_cons_zero, List.getD_cons_succ, List.getD_nil, List.map_cons, List.map_nil, List.cons_append, List.nil_append, allB, List.take_succ_cons, List.take_zero, List.length_cons, List.length_nil, Nat.zero_add, Nat.reduceAdd, resB, resL', RSh.l, RC.vd, List.flatMap_cons, List.flatMap_nil, List.append_nil, ev, dv, svy, cIsS, cMk, cSeepN, cSeep, lSp, get16a, get16b, get16d, get16e, List.append_assoc]
  have hB := len_nn (.sl none 0 po)
  generalize hpa : DV.sl none 0 pa = A at *
  generalize hpo : DV.sl none 0 po = B at *
  generalize hs : (⟨su, so, n0, d0, n1, d1, A, B⟩ : Svy) = s
  refine ⟨fun h => sp_long (by rw [← hs]; exact h), fun h => ?_⟩
  have h : ¬ Long s := by rw [← hs]; exact h
  refine ⟨trivial, fun x _ _ hx => ?_⟩
  rcases val_in hx with ⟨ok, rfl⟩ | ⟨bad, rfl⟩
  case inr => exact ⟨fun _ => sp_bad h bad, fun k => absurd rfl k⟩
  refine ⟨fun k => absurd k (by decide), fun _ => ⟨fun k => sp_arg h ok fun q => by unfold Dly at q; omega, fun k => ?_⟩⟩
  have dl1 : Dly dl := ⟨by omega, by omega⟩
  obtain rfl : so = 1 := by omega
  have hso : s.so = 1 := by rw [← hs]
  have hpo2 : s.po = B := by rw [← hs]
  have okP := ok.2.2
  have lL : soLo s.so = 64 := by rw [hso]; rfl
  have lH : soHi s.so = 512 := by rw [hso]; rfl
  clear hs hpa hpo
  have zz : ∀ k, 0 ≤ k → k < B.len → ¬ IntKind.i64.wrap (B.at k 0 * B.at k 1) = 0 := fun k k0 k1 => by
    obtain ⟨⟨⟨p1, p2⟩, p3, p4⟩, ⟨p5, p6⟩, p7⟩ := okP k k0 (by rw [hpo2]; exact k1)
    rw [hpo2] at p1 p2 p3 p4 p5 p6 p7
    have u := sp_w p1 p2 p3 p4 p5 (by omega) dl1.1 dl1.2
    rw [u.1]; exact u.2.2.2.2.2.2.2.2.2
  have nL := spL_nn s dl1.1
  have step : ∀ i a b : Int, 0 ≤ i → i < B.len → a = spL s dl i.toNat → b = spH s dl i.toNat →
      max a (IntKind.i64.wrap ((IntKind.i64.wrap (IntKind.i64.wrap (1048576 * B.at i 2) * dl)).tdiv (IntKind.i64.wrap (B.at i 0 * B.at i 1)))) = spL s dl (i + 1).toNat ∧
      min b (IntKind.i64.wrap ((IntKind.i64.wrap (IntKind.i64.wrap (IntKind.i64.wrap (IntKind.i64.wrap (1048576 * B.at i 3) * dl) + IntKind.i64.wrap (B.at i 0 * B.at i 1)) - 1)).tdiv (IntKind.i64.wrap (B.at i 0 * B.at i 1)))) = spH s dl (i + 1).toNat := fun i a b hi0 hi ea eb => by
    obtain ⟨⟨⟨p1, p2⟩, p3, p4⟩, ⟨p5, p6⟩, p7⟩ := okP i hi0 (by rw [hpo2]; exact hi)
    rw [hpo2] at p1 p2 p3 p4 p5 p6 p7
    have u := sp_w p1 p2 p3 p4 p5 (by omega) dl1.1 dl1.2
    have v := sp_w p1 p2 p3 p4 (show 0 ≤ B.at i 3 by omega) p7 dl1.1 dl1.2
    rw [u.1, u.2.1, u.2.2.1, u.2.2.2.1, v.2.1, v.2.2.1, v.2.2.2.2.1, v.2.2.2.2.2.1, v.2.2.2.2.2.2.1, toN_succ hi0]
    simp only [spL, spH, pLo, pHi, ea, eb, Int.toNat_of_nonneg hi0, hpo2, and_self]
  refine ⟨⟨hB, by simp only [Int.toNat_zero, spL, lL], by simp only [Int.toNat_zero, spH, lH]⟩, fun i i0 i1 a a0 a1 b b0 b1 ⟨hi, ea, eb⟩ => ⟨fun hlt => ?_, fun hge => ?_⟩⟩
  · obtain ⟨s1, s2⟩ := step i a b i0 hlt ea eb
    exact ⟨fun q => zz i i0 hlt q, fun _ => ⟨fun q => zz i i0 hlt q, fun _ => ⟨⟨by omega, s1, s2⟩, by omega⟩⟩⟩
  · obtain rfl : i = B.len := by omega
    have e1 : min a 1048576 = sLs s dl := by unfold sLs; rw [hpo2, ea]
    have e2 : min b 1048576 = sHs s dl := by unfold sHs; rw [hpo2, eb]
    have n1 : 0 ≤ sLs s dl := by have := nL B.len.toNat; omega
    have n2 : sLs s dl ≤ 1048576 := by omega
    have n3 : sHs s dl ≤ 1048576 := by omega
    rw [e1, e2]
    refine ⟨fun q => sp_no h ok dl1 q, fun q => ⟨fun _ => ⟨trivial, fun x1 _ _ x2 _ _ x3 _ _ hx1 => ⟨fun _ => ⟨trivial, fun y1 _ _ y2 _ _ y3 _ _ hy1 => ?_⟩, fun k => k ⟨by omega, by omega⟩⟩⟩, fun k => k ⟨by omega, by omega⟩⟩⟩
    simp only [List.cons.injEq, DV.n.injEq, and_true] at hx1 hy1
    exact sp_ok h ok dl1 q hx1.1 hx1.2.1 hy1.1 hy1.2.1
theorem seep2_ok (N : Nat) (w0 : World) : ConOk Tryd.prog tb N w0 (cSeepN 15 2 2) := by
  refine con_of_walk (tb := tb) fine (C := [cIsS, (cMk 43), lSp]) (conCons cIsS_ok (conCons cMk_ok (lopCons rfl noCon))) 80 rfl ?_ N w0
  refine fun su _ _ so q0 q1 n0 _ _ d0 _ _ n1 _ _ d1 _ _ pa _ po _ dl _ _ _ => ?_
  rw [tree_seep2]
  simp only [T.res, B.prop, E.den, E.dat, E.top, E.val, E.isD, DV.canon, DV.int, List.getElem?_cons_zero, List.getElem?_cons_succ, List.getD_cons_zero, List.getD_cons_succ, List.getD_nil, List.map_cons, List.map_nil, List.cons_append, List.nil_append, allB, List.take_succ_cons, List.take_zero, List.length_cons, List.length_nil, Nat.zero_add, Nat.reduceAdd, resB, resL', RSh.l, RC.vd, List.flatMap_cons, List.flatMap_nil, List.append_nil, ev, dv, svy, cIsS, cMk, cSeepN, cSeep, lSp, get16a, get16b, get16d, get16e, List.append_assoc]
  have hB := len_nn (.sl none 0 po)
  generalize hpa : DV.sl none 0 pa = A at *
  generalize hpo : DV.sl none 0 po = B at *
  generalize hs : (⟨su, so, n0, d0, n1, d1, A, B⟩ : Svy) = s
  refine ⟨fun h => sp_long (by rw [← hs]; exact h), fun h => ?_⟩
  have h : ¬ Long s := by rw [← hs]; exact h
  refine ⟨trivial, fun x _ _ hx => ?_⟩
  rcases val_in hx with ⟨ok, rfl⟩ | ⟨bad, rfl⟩
  case inr => exact ⟨fun _ => sp_bad h bad, fun k => absurd rfl k⟩
  refine ⟨fun k => absurd k (by decide), fun _ => ⟨fun k => sp_arg h ok fun q => by unfold Dly at q; omega, fun k => ?_⟩⟩
  have dl1 : Dly dl := ⟨by omega, by omega⟩
  obtain rfl : so = 2 := by omega
  have hso : s.so = 2 := by rw [← hs]
  have hpo2 : s.po = B := by rw [← hs]
  have okP := ok.2.2
  have lL : soLo s.so = 256 := by rw [hso]; rfl
  have lH : soHi s.so = 1024 := by rw [hso]; rfl
  clear hs hpa hpo
  have zz : ∀ k, 0 ≤ k → k < B.len → ¬ IntKind.i64.wrap (B.at k 0 * B.at k 1) = 0 := fun k k0 k1 => by
    obtain ⟨⟨⟨p1, p2⟩, p3, p4⟩, ⟨p5, p6⟩, p7⟩ := okP k k0 (by rw [hpo2]; exact k1)
    rw [hpo2] at p1 p2 p3 p4 p5 p6 p7
    have u := sp_w p1 p2 p3 p4 p5 (by omega) dl1.1 dl1.2
    rw [u.1]; exact u.2.2.2.2.2.2.2.2.2
  have nL := spL_nn s dl1.1
  have step : ∀ i a b : Int, 0 ≤ i → i < B.len → a = spL s dl i.toNat → b = spH s dl i.toNat →
      max a (IntKind.i64.wrap ((IntKind.i64.wrap (IntKind.i64.wrap (1048576 * B.at i 2) * dl)).tdiv (IntKind.i64.wrap (B.at i 0 * B.at i 1)))) = spL s dl (i + 1).toNat ∧
      min b (IntKind.i64.wrap ((IntKind.i64.wrap (IntKind.i64.wrap (IntKind.i64.wrap (IntKind.i64.wrap (1048576 * B.at i 3) * dl) + IntKind.i64.wrap (B.at i 0 * B.at i 1)) - 1)).tdiv (IntKind.i64.wrap (B.at i 0 * B.at i 1)))) = spH s dl (i + 1).toNat := fun i a b hi0 hi ea eb => by
    obtain ⟨⟨⟨p1, p2⟩, p3, p4⟩, ⟨p5, p6⟩, p7⟩ := okP i hi0 (by rw [hpo2]; exact hi)
    rw [hpo2] at p1 p2 p3 p4 p5 p6 p7
    have u := sp_w p1 p2 p3 p4 p5 (by omega) dl1.1 dl1.2
    have v := sp_w p1 p2 p3 p4 (show 0 ≤ B.at i 3 by omega) p7 dl1.1 dl1.2
    rw [u.1, u.2.1, u.2.2.1, u.2.2.2.1, v.2.1, v.2.2.1, v.2.2.2.2.1, v.2.2.2.2.2.1, v.2.2.2.2.2.2.1, toN_succ hi0]
    simp only [spL, spH, pLo, pHi, ea, eb, Int.toNat_of_nonneg hi0, hpo2, and_self]
  refine ⟨⟨hB, by simp only [Int.toNat_zero, spL, lL], by simp only [Int.toNat_zero, spH, lH]⟩, fun i i0 i1 a a0 a1 b b0 b1 ⟨hi, ea, eb⟩ => ⟨fun hlt => ?_, fun hge => ?_⟩⟩
  · obtain ⟨s1, s2⟩ := step i a b i0 hlt ea eb
    exact ⟨fun q => zz i i0 hlt q, fun _ => ⟨fun q => zz i i0 hlt q, fun _ => ⟨⟨by omega, s1, s2⟩, by omega⟩⟩⟩
  · obtain rfl : i = B.len := by omega
    have e1 : min a 1048576 = sLs s dl := by unfold sLs; rw [hpo2, ea]
    have e2 : min b 1048576 = sHs s dl := by unfold sHs; rw [hpo2, eb]
    have n1 : 0 ≤ sLs s dl := by have := nL B.len.toNat; omega
    have n2 : sLs s dl ≤ 1048576 := by omega
    have n3 : sHs s dl ≤ 1048576 := by omega
    rw [e1, e2]
    refine ⟨fun q => sp_no h ok dl1 q, fun q => ⟨fun _ => ⟨trivial, fun x1 _ _ x2 _ _ x3 _ _ hx1 => ⟨fun _ => ⟨trivial, fun y1 _ _ y2 _ _ y3 _ _ hy1 => ?_⟩, fun k => k ⟨by omega, by omega⟩⟩⟩, fun k => k ⟨by omega, by omega⟩⟩⟩
    simp only [List.cons.injEq, DV.n.injEq, and_true] at hx1 hy1
    exact sp_ok h ok dl1 q hx1.1 hx1.2.1 hy1.1 hy1.2.1
theorem seep3_ok (N : Nat) (w0 : World) : ConOk Tryd.prog tb N w0 (cSeepN 15 3 3) := by
  refine con_of_walk (tb := tb) fine (C := [cIsS, (cMk 43), lSp]) (conCons cIsS_ok (conCons cMk_ok (lopCons rfl noCon))) 80 rfl ?_ N w0
  refine fun su _ _ so q0 q1 n0 _ _ d0 _ _ n1 _ _ d1 _ _ pa _ po _ dl _ _ _ => ?_
  rw [tree_seep3]
  simp only [T.res, B.prop, E.den, E.dat, E.top, E.val, E.isD, DV.canon, DV.int, List.getElem?_cons_zero, List.getElem?_cons_succ, List.getD_cons_zero, List.getD_cons_succ, List.getD_nil, List.map_cons, List.map_nil, List.cons_append, List.nil_append, allB, List.take_succ_cons, List.take_zero, List.length_cons, List.length_nil, Nat.zero_add, Nat.reduceAdd, resB, resL', RSh.l, RC.vd, List.flatMap_cons, List.flatMap_nil, List.append_nil, ev, dv, svy, cIsS, cMk, cSeepN, cSeep, lSp, get16a, get16b, get16d, get16e, List.append_assoc]
  have hB := len_nn (.sl none 0 po)
  generalize hpa : DV.sl none 0 pa = A at *
  generalize hpo : DV.sl none 0 po = B at *
  generalize hs : (⟨su, so, n0, d0, n1, d1, A, B⟩ : Svy) = s
  refine ⟨fun h => sp_long (by rw [← hs]; exact h), fun h => ?_⟩
  have h : ¬ Long s := by rw [← hs]; exact h
  refine ⟨trivial, fun x _ _ hx => ?_⟩
  rcases val_in hx with ⟨ok, rfl⟩ | ⟨bad, rfl⟩
  case inr => exact ⟨fun _ => sp_bad h bad, fun k => absurd rfl k⟩
  refine ⟨fun k => absurd k (by decide), fun _ => ⟨fun k => sp_arg h ok fun q => by unfold Dly at q; omega, fun k => ?_⟩⟩
  have dl1 : Dly dl := ⟨by omega, by omega⟩
  obtain rfl : so = 3 := by omega
  have hso : s.so = 3 := by rw [← hs]
  have hpo2 : s.po = B := by rw [← hs]
  have okP := ok.2.2
  have lL : soLo s.so = 512 := by rw [hso]; rfl
  have lH : soHi s.so = 2048 := by rw [hso]; rfl
  clear hs hpa hpo
  have zz : ∀ k, 0 ≤ k → k < B.len → ¬ IntKind.i64.wrap (B.at k 0 * B.at k 1) = 0 := fun k k0 k1 => by
    obtain ⟨⟨⟨p1, p2⟩, p3, p4⟩, ⟨p5, p6⟩, p7⟩ := okP k k0 (by rw [hpo2]; exact k1)
    rw [hpo2] at p1 p2 p3 p4 p5 p6 p7
    have u := sp_w p1 p2 p3 p4 p5 (by omega) dl1.1 dl1.2
    rw [u.1]; exact u.2.2.2.2.2.2.2.2.2
  have nL := spL_nn s dl1.1
  have step : ∀ i a b : Int, 0 ≤ i → i < B.len → a = spL s dl i.toNat → b = spH s dl i.toNat →
      max a (IntKind.i64.wrap ((IntKind.i64.wrap (IntKind.i64.wrap (1048576 * B.at i 2) * dl)).tdiv (IntKind.i64.wrap (B.at i 0 * B.at i 1)))) = spL s dl (i + 1).toNat ∧
      min b (IntKind.i64.wrap ((IntKind.i64.wrap (IntKind.i64.wrap (IntKind.i64.wrap (IntKind.i64.wrap (1048576 * B.at i 3) * dl) + IntKind.i64.wrap (B.at i 0 * B.at i 1)) - 1)).tdiv (IntKind.i64.wrap (B.at i 0 * B.at i 1)))) = spH s dl (i + 1).toNat := fun i a b hi0 hi ea eb => by
    obtain ⟨⟨⟨p1, p2⟩, p3, p4⟩, ⟨p5, p6⟩, p7⟩ := okP i hi0 (by rw [hpo2]; exact hi)
    rw [hpo2] at p1 p2 p3 p4 p5 p6 p7
    have u := sp_w p1 p2 p3 p4 p5 (by omega) dl1.1 dl1.2
    have v := sp_w p1 p2 p3 p4 (show 0 ≤ B.at i 3 by omega) p7 dl1.1 dl1.2
    rw [u.1, u.2.1, u.2.2.1, u.2.2.2.1, v.2.1, v.2.2.1, v.2.2.2.2.1, v.2.2.2.2.2.1, v.2.2.2.2.2.2.1, toN_succ hi0]
    simp only [spL, spH, pLo, pHi, ea, eb, Int.toNat_of_nonneg hi0, hpo2, and_self]
  refine ⟨⟨hB, by simp only [Int.toNat_zero, spL, lL], by simp only [Int.toNat_zero, spH, lH]⟩, fun i i0 i1 a a0 a1 b b0 b1 ⟨hi, ea, eb⟩ => ⟨fun hlt => ?_, fun hge => ?_⟩⟩
  · obtain ⟨s1, s2⟩ := step i a b i0 hlt ea eb
    exact ⟨fun q => zz i i0 hlt q, fun _ => ⟨fun q => zz i i0 hlt q, fun _ => ⟨⟨by omega, s1, s2⟩, by omega⟩⟩⟩
  · obtain rfl : i = B.len := by omega
    have e1 : min a 1048576 = sLs s dl := by unfold sLs; rw [hpo2, ea]
    have e2 : min b 1048576 = sHs s dl := by unfold sHs; rw [hpo2, eb]
    have n1 : 0 ≤ sLs s dl := by have := nL B.len.toNat; omega
    have n2 : sLs s dl ≤ 1048576 := by omega
    have n3 : sHs s dl ≤ 1048576 := by omega
    rw [e1, e2]
    refine ⟨fun q => sp_no h ok dl1 q, fun q => ⟨fun _ => ⟨trivial, fun x1 _ _ x2 _ _ x3 _ _ hx1 => ⟨fun _ => ⟨trivial, fun y1 _ _ y2 _ _ y3 _ _ hy1 => ?_⟩, fun k => k ⟨by omega, by omega⟩⟩⟩, fun k => k ⟨by omega, by omega⟩⟩⟩
    simp only [List.cons.injEq, DV.n.injEq, and_true] at hx1 hy1
    exact sp_ok h ok dl1 q hx1.1 hx1.2.1 hy1.1 hy1.2.1
theorem seep4_ok (N : Nat) (w0 : World) : ConOk Tryd.prog tb N w0 (cSeepN 15 4 4) := by
  refine con_of_walk (tb := tb) fine (C := [cIsS, (cMk 43), lSp]) (conCons cIsS_ok (conCons cMk_ok (lopCons rfl noCon))) 80 rfl ?_ N w0
  refine fun su _ _ so q0 q1 n0 _ _ d0 _ _ n1 _ _ d1 _ _ pa _ po _ dl _ _ _ => ?_
  rw [tree_seep4]
  simp only [T.res, B.prop, E.den, E.dat, E.top, E.val, E.isD, DV.canon, DV.int, List.getElem?_cons_zero, List.getElem?_cons_succ, List.getD_cons_zero, List.getD_cons_succ, List.getD_nil, List.map_cons, List.map_nil, List.cons_append, List.nil_append, allB, List.take_succ_cons, List.take_zero, List.length_cons, List.length_nil, Nat.zero_add, Nat.reduceAdd, resB, resL', RSh.l, RC.vd, List.flatMap_cons, List.flatMap_nil, List.append_nil, ev, dv, svy, cIsS, cMk, cSeepN, cSeep, lSp, get16a, get16b, get16d, get16e, List.append_assoc]
  have hB := len_nn (.sl none 0 po)
  generalize hpa : DV.sl none 0 pa = A at *
  generalize hpo : DV.sl none 0 po = B at *
  generalize hs : (⟨su, so, n0, d0, n1, d1, A, B⟩ : Svy) = s
  refine ⟨fun h => sp_long (by rw [← hs]; exact h), fun h => ?_⟩
  have h : ¬ Long s := by rw [← hs]; exact h
  refine ⟨trivial, fun x _ _ hx => ?_⟩
  rcases val_in hx with ⟨ok, rfl⟩ | ⟨bad, rfl⟩
  case inr => exact ⟨fun _ => sp_bad h bad, fun k => absurd rfl k⟩
  refine ⟨fun k => absurd k (by decide), fun _ => ⟨fun k => sp_arg h ok fun q => by unfold Dly at q; omega, fun k => ?_⟩⟩
  have dl1 : Dly dl := ⟨by omega, by omega⟩
  obtain rfl : so = 4 := by omega
  have hso : s.so = 4 := by rw [← hs]
  have hpo2 : s.po = B := by rw [← hs]
  have okP := ok.2.2
  have lL : soLo s.so = 1024 := by rw [hso]; rfl
  have lH : soHi s.so = 4096 := by rw [hso]; rfl
  clear hs hpa hpo
  have zz : ∀ k, 0 ≤ k → k < B.len → ¬ IntKind.i64.wrap (B.at k 0 * B.at k 1) = 0 := fun k k0 k1 => by
    obtain ⟨⟨⟨p1, p2⟩, p3, p4⟩, ⟨p5, p6⟩, p7⟩ := okP k k0 (by rw [hpo2]; exact k1)
    rw [hpo2] at p1 p2 p3 p4 p5 p6 p7
    have u := sp_w p1 p2 p3 p4 p5 (by omega) dl1.1 dl1.2
    rw [u.1]; exact u.2.2.2.2.2.2.2.2.2
  have nL := spL_nn s dl1.1
  have step : ∀ i a b : Int, 0 ≤ i → i < B.len → a = spL s dl i.toNat → b = spH s dl i.toNat →
      max a (IntKind.i64.wrap ((IntKind.i64.wrap (IntKind.i64.wrap (1048576 * B.at i 2) * dl)).tdiv (IntKind.i64.wrap (B.at i 0 * B.at i 1)))) = spL s dl (i + 1).toNat ∧
      min b (IntKind.i64.wrap ((IntKind.i64.wrap (IntKind.i64.wrap (IntKind.i64.wrap (IntKind.i64.wrap (1048576 * B.at i 3) * dl) + IntKind.i64.wrap (B.at i 0 * B.at i 1)) - 1)).tdiv (IntKind.i64.wrap (B.at i 0 * B.at i 1)))) = spH s dl (i + 1).toNat := fun i a b hi0 hi ea eb => by
    obtain ⟨⟨⟨p1, p2⟩, p3, p4⟩, ⟨p5, p6⟩, p7⟩ := okP i hi0 (by rw [hpo2]; exact hi)
    rw [hpo2] at p1 p2 p3 p4 p5 p6 p7
    have u := sp_w p1 p2 p3 p4 p5 (by omega) dl1.1 dl1.2
    have v := sp_w p1 p2 p3 p4 (show 0 ≤ B.at i 3 by omega) p7 dl1.1 dl1.2
    rw [u.1, u.2.1, u.2.2.1, u.2.2.2.1, v.2.1, v.2.2.1, v.2.2.2.2.1, v.2.2.2.2.2.1, v.2.2.2.2.2.2.1, toN_succ hi0]
    simp only [spL, spH, pLo, pHi, ea, eb, Int.toNat_of_nonneg hi0, hpo2, and_self]
  refine ⟨⟨hB, by simp only [Int.toNat_zero, spL, lL], by simp only [Int.toNat_zero, spH, lH]⟩, fun i i0 i1 a a0 a1 b b0 b1 ⟨hi, ea, eb⟩ => ⟨fun hlt => ?_, fun hge => ?_⟩⟩
  · obtain ⟨s1, s2⟩ := step i a b i0 hlt ea eb
    exact ⟨fun q => zz i i0 hlt q, fun _ => ⟨fun q => zz i i0 hlt q, fun _ => ⟨⟨by omega, s1, s2⟩, by omega⟩⟩⟩
  · obtain rfl : i = B.len := by omega
    have e1 : min a 1048576 = sLs s dl := by unfold sLs; rw [hpo2, ea]
    have e2 : min b 1048576 = sHs s dl := by unfold sHs; rw [hpo2, eb]
    have n1 : 0 ≤ sLs s dl := by have := nL B.len.toNat; omega
    have n2 : sLs s dl ≤ 1048576 := by omega
    have n3 : sHs s dl ≤ 1048576 := by omega
    rw [e1, e2]
    refine ⟨fun q => sp_no h ok dl1 q, fun q => ⟨fun _ => ⟨trivial, fun x1 _ _ x2 _ _ x3 _ _ hx1 => ⟨fun _ => ⟨trivial, fun y1 _ _ y2 _ _ y3 _ _ hy1 => ?_⟩, fun k => k ⟨by omega, by omega⟩⟩⟩, fun k => k ⟨by omega, by omega⟩⟩⟩
    simp only [List.cons.injEq, DV.n.injEq, and_true] at hx1 hy1
    exact sp_ok h ok dl1 q hx1.1 hx1.2.1 hy1.1 hy1.2.1
theorem seep5_ok (N : Nat) (w0 : World) : ConOk Tryd.prog tb N w0 (cSeepN 15 5 5) := by
  refine con_of_walk (tb := tb) fine (C := [cIsS, (cMk 43), lSp]) (conCons cIsS_ok (conCons cMk_ok (lopCons rfl noCon))) 80 rfl ?_ N w0
  refine fun su _ _ so q0 q1 n0 _ _ d0 _ _ n1 _ _ d1 _ _ pa _ po _ dl _ _ _ => ?_
  rw [tree_seep5]
  simp only [T.res, B.prop, E.den, E.dat, E.top, E.val, E.isD, DV.canon, DV.int, List.getElem?_cons_zero, List.getElem?_cons_succ, List.getD_cons_zero, List.getD_cons_succ, List.getD_nil, List.map_cons, List.map_nil, List.cons_append, List.nil_append, allB, List.take_succ_cons, List.take_zero, List.length_cons, List.length_nil, Nat.zero_add, Nat.reduceAdd, resB, resL', RSh.l, RC.vd, List.flatMap_cons, List.flatMap_nil, List.append_nil, ev, dv, svy, cIsS, cMk, cSeepN, cSeep, lSp, get16a, get16b, get16d, get16e, List.append_assoc]
  have hB := len_nn (.sl none 0 po)
  generalize hpa : DV.sl none 0 pa = A at *
  generalize hpo : DV.sl none 0 po = B at *
  generalize hs : (⟨su, so, n0, d0, n1, d1, A, B⟩ : Svy) = s
  refine ⟨fun h => sp_long (by rw [← hs]; exact h), fun h => ?_⟩
  have h : ¬ Long s := by rw [← hs]; exact h
  refine ⟨trivial, fun x _ _ hx => ?_⟩
  rcases val_in hx with ⟨ok, rfl⟩ | ⟨bad, rfl⟩
  case inr => exact ⟨fun _ => sp_bad h bad, fun k => absurd rfl k⟩
  refine ⟨fun k => absurd k (by decide), fun _ => ⟨fun k => sp_arg h ok fun q => by unfold Dly at q; omega, fun k => ?_⟩⟩
  have dl1 : Dly dl := ⟨by omega, by omega⟩
  obtain rfl : so = 5 := by omega
  have hso : s.so = 5 := by rw [← hs]
  have hpo2 : s.po = B := by rw [← hs]
  have okP := ok.2.2
  have lL : soLo s.so = 2048 := by rw [hso]; rfl
  have lH : soHi s.so = 16384 := by rw [hso]; rfl
  clear hs hpa hpo
  have zz : ∀ k, 0 ≤ k → k < B.len → ¬ IntKind.i64.wrap (B.at k 0 * B.at k 1) = 0 := fun k k0 k1 => by
    obtain ⟨⟨⟨p1, p2⟩, p3, p4⟩, ⟨p5, p6⟩, p7⟩ := okP k k0 (by rw [hpo2]; exact k1)
    rw [hpo2] at p1 p2 p3 p4 p5 p6 p7
    have u := sp_w p1 p2 p3 p4 p5 (by omega) dl1.1 dl1.2
    rw [u.1]; exact u.2.2.2.2.2.2.2.2.2
  have nL := spL_nn s dl1.1
  have step : ∀ i a b : Int, 0 ≤ i → i < B.len → a = spL s dl i.toNat → b = spH s dl i.toNat →
      max a (IntKind.i64.wrap ((IntKind.i64.wrap (IntKind.i64.wrap (1048576 * B.at i 2) * dl)).tdiv (IntKind.i64.wrap (B.at i 0 * B.at i 1)))) = spL s dl (i + 1).toNat ∧
      min b (IntKind.i64.wrap ((IntKind.i64.wrap (IntKind.i64.wrap (IntKind.i64.wrap (IntKind.i64.wrap (1048576 * B.at i 3) * dl) + IntKind.i64.wrap (B.at i 0 * B.at i 1)) - 1)).tdiv (IntKind.i64.wrap (B.at i 0 * B.at i 1)))) = spH s dl (i + 1).toNat := fun i a b hi0 hi ea eb => by
    obtain ⟨⟨⟨p1, p2⟩, p3, p4⟩, ⟨p5, p6⟩, p7⟩ := okP i hi0 (by rw [hpo2]; exact hi)
    rw [hpo2] at p1 p2 p3 p4 p5 p6 p7
    have u := sp_w p1 p2 p3 p4 p5 (by omega) dl1.1 dl1.2
    have v := sp_w p1 p2 p3 p4 (show 0 ≤ B.at i 3 by omega) p7 dl1.1 dl1.2
    rw [u.1, u.2.1, u.2.2.1, u.2.2.2.1, v.2.1, v.2.2.1, v.2.2.2.2.1, v.2.2.2.2.2.1, v.2.2.2.2.2.2.1, toN_succ hi0]
    simp only [spL, spH, pLo, pHi, ea, eb, Int.toNat_of_nonneg hi0, hpo2, and_self]
  refine ⟨⟨hB, by simp only [Int.toNat_zero, spL, lL], by simp only [Int.toNat_zero, spH, lH]⟩, fun i i0 i1 a a0 a1 b b0 b1 ⟨hi, ea, eb⟩ => ⟨fun hlt => ?_, fun hge => ?_⟩⟩
  · obtain ⟨s1, s2⟩ := step i a b i0 hlt ea eb
    exact ⟨fun q => zz i i0 hlt q, fun _ => ⟨fun q => zz i i0 hlt q, fun _ => ⟨⟨by omega, s1, s2⟩, by omega⟩⟩⟩
  · obtain rfl : i = B.len := by omega
    have e1 : min a 1048576 = sLs s dl := by unfold sLs; rw [hpo2, ea]
    have e2 : min b 1048576 = sHs s dl := by unfold sHs; rw [hpo2, eb]
    have n1 : 0 ≤ sLs s dl := by have := nL B.len.toNat; omega
    have n2 : sLs s dl ≤ 1048576 := by omega
    have n3 : sHs s dl ≤ 1048576 := by omega
    rw [e1, e2]
    refine ⟨fun q => sp_no h ok dl1 q, fun q => ⟨fun _ => ⟨trivial, fun x1 _ _ x2 _ _ x3 _ _ hx1 => ⟨fun _ => ⟨trivial, fun y1 _ _ y2 _ _ y3 _ _ hy1 => ?_⟩, fun k => k ⟨by omega, by omega⟩⟩⟩, fun k => k ⟨by omega, by omega⟩⟩⟩
    simp only [List.cons.injEq, DV.n.injEq, and_true] at hx1 hy1
    exact sp_ok h ok dl1 q hx1.1 hx1.2.1 hy1.1 hy1.2.1
theorem seep6_ok (N : Nat) (w0 : World) : ConOk Tryd.prog tb N w0 (cSeepN 15 6 9223372036854775807) := by
  refine con_of_walk (tb := tb) fine (C := [cIsS, (cMk 43), lSp]) (conCons cIsS_ok (conCons cMk_ok (lopCons rfl noCon))) 80 rfl ?_ N w0
  refine fun su _ _ so q0 q1 n0 _ _ d0 _ _ n1 _ _ d1 _ _ pa _ po _ dl _ _ _ => ?_
  rw [tree_seep6]
  simp only [T.res, B.prop, E.den, E.dat, E.top, E.val, E.isD, DV.canon, DV.int, List.getElem?_cons_zero, List.getElem?_cons_succ, List.getD_cons_zero, List.getD_cons_succ, List.getD_nil, List.map_cons, List.map_nil, List.cons_append, List.nil_append, allB, List.take_succ_cons, List.take_zero, List.length_cons, List.length_nil, Nat.zero_add, Nat.reduceAdd, resB, resL', RSh.l, RC.vd, List.flatMap_cons, List.flatMap_nil, List.append_nil, ev, dv, svy, cIsS, cMk, cSeepN, cSeep, lSp, get16a, get16b, get16d, get16e, List.append_assoc]
  have hB := len_nn (.sl none 0 po)
  generalize hpa : DV.sl none 0 pa = A at *
  generalize hpo : DV.sl none 0 po = B at *
  generalize hs : (⟨su, so, n0, d0, n1, d1, A, B⟩ : Svy) = s
  refine ⟨fun h => sp_long (by rw [← hs]; exact h), fun h => ?_⟩
  have h : ¬ Long s := by rw [← hs]; exact h
  refine ⟨trivial, fun x _ _ hx => ?_⟩
  rcases val_in hx with ⟨ok, rfl⟩ | ⟨bad, rfl⟩
  case inr => exact ⟨fun _ => sp_bad h bad, fun k => absurd rfl k⟩
  refine ⟨fun k => absurd k (by decide), fun _ => ⟨fun k => sp_arg h ok fun q => by unfold Dly at q; omega, fun k => ?_⟩⟩
  have dl1 : Dly dl := ⟨by omega, by omega⟩
  exfalso
  have q := ok.1.1.2
  rw [← hs] at q
  simp only at q
  omega
theorem seep7_ok (N : Nat) (w0 : World) : ConOk Tryd.prog tb N w0 (cSeepN 15 (-9223372036854775808) (-1)) := by
  refine con_of_walk (tb := tb) fine (C := [cIsS, (cMk 43), lSp]) (conCons cIsS_ok (conCons cMk_ok (lopCons rfl noCon))) 80 rfl ?_ N w0
  refine fun su _ _ so q0 q1 n0 _ _ d0 _ _ n1 _ _ d1 _ _ pa _ po _ dl _ _ _ => ?_
  rw [tree_seep7]
  simp only [T.res, B.prop, E.den, E.dat, E.top, E.val, E.isD, DV.canon, DV.int, List.getElem?_cons_zero, List.getElem?_cons_succ, List.getD_cons_zero, List.getD_cons_succ, List.getD_nil, List.map_cons, List.map_nil, List.cons_append, List.nil_append, allB, List.take_succ_cons, List.take_zero, List.length_cons, List.length_nil, Nat.zero_add, Nat.reduceAdd, resB, resL', RSh.l, RC.vd, List.flatMap_cons, List.flatMap_nil, List.append_nil, ev, dv, svy, cIsS, cMk, cSeepN, cSeep, lSp, get16a, get16b, get16d, get16e, List.append_assoc]
  have hB := len_nn (.sl none 0 po)
  generalize hpa : DV.sl none 0 pa = A at *
  generalize hpo : DV.sl none 0 po = B at *
  generalize hs : (⟨su, so, n0, d0, n1, d1, A, B⟩ : Svy) = s
  refine ⟨fun h => sp_long (by rw [← hs]; exact h), fun h => ?_⟩
  have h : ¬ Long s := by rw [← hs]; exact h
  refine ⟨trivial, fun x _ _ hx => ?_⟩
  rcases val_in hx with ⟨ok, rfl⟩ | ⟨bad, rfl⟩
  case inr => exact ⟨fun _ => sp_bad h bad, fun k => absurd rfl k⟩
  refine ⟨fun k => absurd k (by decide), fun _ => ⟨fun k => sp_arg h ok fun q => by unfold Dly at q; omega, fun k => ?_⟩⟩
  have dl1 : Dly dl := ⟨by omega, by omega⟩
  exfalso
  have q := ok.1.1.2
  rw [← hs] at q
  simp only at q
  omega
theorem seepR0_ok (N : Nat) (w0 : World) : ConOk Tryd.prog tb N w0 (cSeepN 16 0 0) := by
  refine con_of_walk (tb := tb) fine (C := [cIsSR, (cMk 46), lSpR]) (conCons cIsSR_ok (conCons cMkR_ok (lopCons rfl noCon))) 80 rfl ?_ N w0
  refine fun su _ _ so q0 q1 n0 _ _ d0 _ _ n1 _ _ d1 _ _ pa _ po _ dl _ _ _ => ?_
  rw [tree_seepR0]
  simp only [T.res, B.prop, E.den, E.dat, E.top, E.val, E.isD, DV.canon, DV.int, List.getElem?_cons_zero, List.getElem?_cons_succ, List.getD_cons_zero, List.getD_cons_succ, List.getD_nil, List.map_cons, List.map_nil, List.cons_append, List.nil_append, allB, List.take_succ_cons, List.take_zero, List.length_cons, List.length_nil, Nat.zero_add, Nat.reduceAdd, resB, resL', RSh.l, RC.vd, List.flatMap_cons, List.flatMap_nil, List.append_nil, ev, dv, svy, cIsSR, cMk, cSeepN, cSeep, lSpR, get108a, get108b, get108d, get108e, List.append_assoc]
  have hB := len_nn (.sl none 0 po)
  generalize hpa : DV.sl none 0 pa = A at *
  generalize hpo : DV.sl none 0 po = B at *
  generalize hs : (⟨su, so, n0, d0, n1, d1, A, B⟩ : Svy) = s
  refine ⟨fun h => sp_long (by rw [← hs]; exact h), fun h => ?_⟩
  have h : ¬ Long s := by rw [← hs]; exact h
  refine ⟨trivial, fun x _ _ hx => ?_⟩
  rcases val_in hx with ⟨ok, rfl⟩ | ⟨bad, rfl⟩
  case inr => exact ⟨fun _ => sp_bad h bad, fun k => absurd rfl k⟩
  refine ⟨fun k => absurd k (by decide), fun _ => ⟨fun k => sp_arg h ok fun q => by unfold Dly at q; omega, fun k => ?_⟩⟩
  have dl1 : Dly dl := ⟨by omega, by omega⟩
  obtain rfl : so = 0 := by omega
  have hso : s.so = 0 := by rw [← hs]
  have hpo2 : s.po = B := by rw [← hs]
  have okP := ok.2.2
  have lL : soLo s.so = 0 := by rw [hso]; rfl
  have lH : soHi s.so = 64 := by rw [hso]; rfl
  clear hs hpa hpo
  have zz : ∀ k, 0 ≤ k → k < B.len → ¬ IntKind.i64.wrap (B.at k 0 * B.at k 1) = 0 := fun k k0 k1 => by
    obtain ⟨⟨⟨p1, p2⟩, p3, p4⟩, ⟨p5, p6⟩, p7⟩ := okP k k0 (by rw [hpo2]; exact k1)
    rw [hpo2] at p1 p2 p3 p4 p5 p6 p7
    have u := sp_w p1 p2 p3 p4 p5 (by omega) dl1.1 dl1.2
    rw [u.1]; exact u.2.2.2.2.2.2.2.2.2
  have nL := spL_nn s dl1.1
  have step : ∀ i a b : Int, 0 ≤ i → i < B.len → a = min (spL s dl i.toNat) 1048576 → b = min (spH s dl i.toNat) 1048576 →
      max a (min 1048576 (IntKind.i64.wrap ((IntKind.i64.wrap (IntKind.i64.wrap (1048576 * B.at i 2) * dl)).tdiv (IntKind.i64.wrap (B.at i 0 * B.at i 1))))) = min (spL s dl (i + 1).toNat) 1048576 ∧
      min b (IntKind.i64.wrap ((IntKind.i64.wrap (IntKind.i64.wrap (IntKind.i64.wrap (IntKind.i64.wrap (1048576 * B.at i 3) * dl) + IntKind.i64.wrap (B.at i 0 * B.at i 1)) - 1)).tdiv (IntKind.i64.wrap (B.at i 0 * B.at i 1)))) = min (spH s dl (i + 1).toNat) 1048576 := fun i a b hi0 hi ea eb => by
    obtain ⟨⟨⟨p1, p2⟩, p3, p4⟩, ⟨p5, p6⟩, p7⟩ := okP i hi0 (by rw [hpo2]; exact hi)
    rw [hpo2] at p1 p2 p3 p4 p5 p6 p7
    have u := sp_w p1 p2 p3 p4 p5 (by omega) dl1.1 dl1.2
    have v := sp_w p1 p2 p3 p4 (show 0 ≤ B.at i 3 by omega) p7 dl1.1 dl1.2
    rw [u.1, u.2.1, u.2.2.1, u.2.2.2.1, v.2.1, v.2.2.1, v.2.2.2.2.1, v.2.2.2.2.2.1, v.2.2.2.2.2.2.1, toN_succ hi0]
    simp only [spL, spH, pLo, pHi, ea, eb, Int.toNat_of_nonneg hi0, hpo2]
    omega
  refine ⟨⟨hB, ?_, ?_⟩, fun i i0 i1 a a0 a1 b b0 b1 ⟨hi, ea, eb⟩ => ⟨fun hlt => ?_, fun hge => ?_⟩⟩
  · simp only [Int.toNat_zero, spL, lL]
    have := dl1.1; have := dl1.2
    omega
  · simp only [Int.toNat_zero, spH, lH]
    have := dl1.1; have := dl1.2
    omega
  · obtain ⟨s1, s2⟩ := step i a b i0 hlt ea eb
    exact ⟨fun q => zz i i0 hlt q, fun _ => ⟨fun q => zz i i0 hlt q, fun _ => ⟨⟨by omega, s1, s2⟩, by omega⟩⟩⟩
  · obtain rfl : i = B.len := by omega
    have e1 : a = sLs s dl := by unfold sLs; rw [hpo2, ea]
    have e2 : b = sHs s dl := by unfold sHs; rw [hpo2, eb]
    have n1 : 0 ≤ sLs s dl := by have := nL B.len.toNat; omega
    have n2 : sLs s dl ≤ 1048576 := by omega
    have n3 : sHs s dl ≤ 1048576 := by omega
    rw [e1, e2]
    refine ⟨fun q => sp_no h ok dl1 q, fun q => ⟨fun _ => ⟨trivial, fun x1 _ _ x2 _ _ x3 _ _ hx1 => ⟨fun _ => ⟨trivial, fun y1 _ _ y2 _ _ y3 _ _ hy1 => ?_⟩, fun k => k ⟨by omega, by omega⟩⟩⟩, fun k => k ⟨by omega, by omega⟩⟩⟩
    simp only [List.cons.injEq, DV.n.injEq, and_true] at hx1 hy1
    exact sp_ok h ok dl1 q hx1.1 hx1.2.1 hy1.1 hy1.2.1
theorem seepR1_ok (N : Nat) (w0 : World) : ConOk Tryd.prog tb N w0 (cSeepN 16 1 1) := by
  refine con_of_walk (tb := tb) fine (C := [cIsSR, (cMk 46), lSpR]) (conCons cIsSR_ok (conCons cMkR_ok (lopCons rfl noCon))) 80 rfl ?_ N w0
  refine fun su _ _ so q0 q1 n0 _ _ d0 _ _ n1 _ _ d1 _ _ pa _ po _ dl _ _ _ => ?_
  rw [tree_seepR1]
  simp only [T.res, B.prop, E.den, E.dat, E.top, E.val, E.isD, DV.canon, DV.int, List.getElem?_cons_zero, List.getElem?_cons_succ, List.getD_cons_zero, List.getD_cons_succ, List.getD_nil, List.map_cons, List.map_nil, List.cons_append, List.nil_append, allB, List.take_succ_cons, List.take_zero, List.length_cons, List.length_nil, Nat.zero_add, Nat.reduceAdd, resB, resL', RSh.l, RC.vd, List.flatMap_cons, List.flatMap_nil, List.append_nil, ev, dv, svy, cIsSR, cMk, cSeepN, cSeep, lSpR, get108a, get108b, get108d, get108e, List.append_assoc]
  have hB := len_nn (.sl none 0 po)
  generalize hpa : DV.sl none 0 pa = A at *
  generalize hpo : DV.sl none 0 po = B at *
  generalize hs : (⟨su, so, n0, d0, n1, d1, A, B⟩ : Svy) = s
  refine ⟨fun h => sp_long (by rw [← hs]; exact h), fun h => ?_⟩
  have h : ¬ Long s := by rw [← hs]; exact h
  refine ⟨trivial, fun x _ _ hx => ?_⟩
  rcases val_in hx with ⟨ok, rfl⟩ | ⟨bad, rfl⟩
  case inr => exact ⟨fun _ => sp_bad h bad, fun k => absurd rfl k⟩
  refine ⟨fun k => absurd k (by decide), fun _ => ⟨fun k => sp_arg h ok fun q => by unfold Dly at q; omega, fun k => ?_⟩⟩
  have dl1 : Dly dl := ⟨by omega, by omega⟩
  obtain rfl : so = 1 := by omega
  have hso : s.so = 1 := by rw [← hs]
  have hpo2 : s.po = B := by rw [← hs]
  have okP := ok.2.2
  have lL : soLo s.so = 64 := by rw [hso]; rfl
  have lH : soHi s.so = 512 := by rw [hso]; rfl
  clear hs hpa hpo
  have zz : ∀ k, 0 ≤ k → k < B.len → ¬ IntKind.i64.wrap (B.at k 0 * B.at k 1) = 0 := fun k k0 k1 => by
    obtain ⟨⟨⟨p1, p2⟩, p3, p4⟩, ⟨p5, p6⟩, p7⟩ := okP k k0 (by rw [hpo2]; exact k1)
    rw [hpo2] at p1 p2 p3 p4 p5 p6 p7
    have u := sp_w p1 p2 p3 p4 p5 (by omega) dl1.1 dl1.2
    rw [u.1]; exact u.2.2.2.2.2.2.2.2.2
  have nL := spL_nn s dl1.1
  have step : ∀ i a b : Int, 0 ≤ i → i < B.len → a = min (spL s dl i.toNat) 1048576 → b = min (spH s dl i.toNat) 1048576 →
      max a (min 1048576 (IntKind.i64.wrap ((IntKind.i64.wrap (IntKind.i64.wrap (1048576 * B.at i 2) * dl)).tdiv (IntKind.i64.wrap (B.at i 0 * B.at i 1))))) = min (spL s dl (i + 1).toNat) 1048576 ∧
      min b (IntKind.i64.wrap ((IntKind.i64.wrap (IntKind.i64.wrap (IntKind.i64.wrap (IntKind.i64.wrap (1048576 * B.at i 3) * dl) + IntKind.i64.wrap (B.at i 0 * B.at i 1)) - 1)).tdiv (IntKind.i64.wrap (B.at i 0 * B.at i 1)))) = min (spH s dl (i + 1).toNat) 1048576 := fun i a b hi0 hi ea eb => by
    obtain ⟨⟨⟨p1, p2⟩, p3, p4⟩, ⟨p5, p6⟩, p7⟩ := okP i hi0 (by rw [hpo2]; exact hi)
    rw [hpo2] at p1 p2 p3 p4 p5 p6 p7
    have u := sp_w p1 p2 p3 p4 p5 (by omega) dl1.1 dl1.2
    have v := sp_w p1 p2 p3 p4 (show 0 ≤ B.at i 3 by omega) p7 dl1.1 dl1.2
    rw [u.1, u.2.1, u.2.2.1, u.2.2.2.1, v.2.1, v.2.2.1, v.2.2.2.2.1, v.2.2.2.2.2.1, v.2.2.2.2.2.2.1, toN_succ hi0]
    simp only [spL, spH, pLo, pHi, ea, eb, Int.toNat_of_nonneg hi0, hpo2]
    omega
  refine ⟨⟨hB, ?_, ?_⟩, fun i i0 i1 a a0 a1 b b0 b1 ⟨hi, ea, eb⟩ => ⟨fun hlt => ?_, fun hge => ?_⟩⟩
  · simp only [Int.toNat_zero, spL, lL]
    have := dl1.1; have := dl1.2
    omega
  · simp only [Int.toNat_zero, spH, lH]
    have := dl1.1; have := dl1.2
    omega
  · obtain ⟨s1, s2⟩ := step i a b i0 hlt ea eb
    exact ⟨fun q => zz i i0 hlt q, fun _ => ⟨fun q => zz i i0 hlt q, fun _ => ⟨⟨by omega, s1, s2⟩, by omega⟩⟩⟩
  · obtain rfl : i = B.len := by omega
    have e1 : a = sLs s dl := by unfold sLs; rw [hpo2, ea]
    have e2 : b = sHs s dl := by unfold sHs; rw [hpo2, eb]
    have n1 : 0 ≤ sLs s dl := by have := nL B.len.toNat; omega
    have n2 : sLs s dl ≤ 1048576 := by omega
    have n3 : sHs s dl ≤ 1048576 := by omega
    rw [e1, e2]
    refine ⟨fun q => sp_no h ok dl1 q, fun q => ⟨fun _ => ⟨trivial, fun x1 _ _ x2 _ _ x3 _ _ hx1 => ⟨fun _ => ⟨trivial, fun y1 _ _ y2 _ _ y3 _ _ hy1 => ?_⟩, fun k => k ⟨by omega, by omega⟩⟩⟩, fun k => k ⟨by omega, by omega⟩⟩⟩
    simp only [List.cons.injEq, DV.n.injEq, and_true] at hx1 hy1
    exact sp_ok h ok dl1 q hx1.1 hx1.2.1 hy1.1 hy1.2.1
theorem seepR2_ok (N : Nat) (w0 : World) : ConOk Tryd.prog tb N w0 (cSeepN 16 2 2) := by
  refine con_of_walk (tb := tb) fine (C := [cIsSR, (cMk 46), lSpR]) (conCons cIsSR_ok (conCons cMkR_ok (lopCons rfl noCon))) 80 rfl ?_ N w0
  refine fun su _ _ so q0 q1 n0 _ _ d0 _ _ n1 _ _ d1 _ _ pa _ po _ dl _ _ _ => ?_
  rw [tree_seepR2]
  simp only [T.res, B.prop, E.den, E.dat, E.top, E.val, E.isD, DV.canon, DV.int, List.getElem?_cons_zero, List.getElem?_cons_succ, List.getD_cons_zero, List.getD_cons_succ, List.getD_nil, List.map_cons, List.map_nil, List.cons_append, List.nil_append, allB, List.take_succ_cons, List.take_zero, List.length_cons, List.length_nil, Nat.zero_add, Nat.reduceAdd, resB, resL', RSh.l, RC.vd, List.flatMap_cons, List.flatMap_nil, List.append_nil, ev, dv, svy, cIsSR, cMk, cSeepN, cSeep, lSpR, get108a, get108b, get108d, get108e, List.append_assoc]
  have hB := len_nn (.sl none 0 po)
  generalize hpa : DV.sl none 0 pa = A at *
  generalize hpo : DV.sl none 0 po = B at *
  generalize hs : (⟨su, so, n0, d0, n1, d1, A, B⟩ : Svy) = s
  refine ⟨fun h => sp_long (by rw [← hs]; exact h), fun h => ?_⟩
  have h : ¬ Long s := by rw [← hs]; exact h
  refine ⟨trivial, fun x _ _ hx => ?_⟩
  rcases val_in hx with ⟨ok, rfl⟩ | ⟨bad, rfl⟩
  case inr => exact ⟨fun _ => sp_bad h bad, fun k => absurd rfl k⟩
  refine ⟨fun k => absurd k (by decide), fun _ => ⟨fun k => sp_arg h ok fun q => by unfold Dly at q; omega, fun k => ?_⟩⟩
  have dl1 : Dly dl := ⟨by omega, by omega⟩
  obtain rfl : so = 2 := by omega
  have hso : s.so = 2 := by rw [← hs]
  have hpo2 : s.po = B := by rw [← hs]
  have okP := ok.2.2
  have lL : soLo s.so = 256 := by rw [hso]; rfl
  have lH : soHi s.so = 1024 := by rw [hso]; rfl
  clear hs hpa hpo
  have zz : ∀ k, 0 ≤ k → k < B.len → ¬ IntKind.i64.wrap (B.at k 0 * B.at k 1) = 0 := fun k k0 k1 => by
    obtain ⟨⟨⟨p1, p2⟩, p3, p4⟩, ⟨p5, p6⟩, p7⟩ := okP k k0 (by rw [hpo2]; exact k1)
    rw [hpo2] at p1 p2 p3 p4 p5 p6 p7
    have u := sp_w p1 p2 p3 p4 p5 (by omega) dl1.1 dl1.2
    rw [u.1]; exact u.2.2.2.2.2.2.2.2.2
  have nL := spL_nn s dl1.1
  have step : ∀ i a b : Int, 0 ≤ i → i < B.len → a = min (spL s dl i.toNat) 1048576 → b = min (spH s dl i.toNat) 1048576 →
      max a (min 1048576 (IntKind.i64.wrap ((IntKind.i64.wrap (IntKind.i64.wrap (1048576 * B.at i 2) * dl)).tdiv (IntKind.i64.wrap (B.at i 0 * B.at i 1))))) = min (spL s dl (i + 1).toNat) 1048576 ∧
      min b (IntKind.i64.wrap ((IntKind.i64.wrap (IntKind.i64.wrap (IntKind.i64.wrap (IntKind.i64.wrap (1048576 * B.at i 3) * dl) + IntKind.i64.wrap (B.at i 0 * B.at i 1)) - 1)).tdiv (IntKind.i64.wrap (B.at i 0 * B.at i 1)))) = min (spH s dl (i + 1).toNat) 1048576 := fun i a b hi0 hi ea eb => by
    obtain ⟨⟨⟨p1, p2⟩, p3, p4⟩, ⟨p5, p6⟩, p7⟩ := okP i hi0 (by rw [hpo2]; exact hi)
    rw [hpo2] at p1 p2 p3 p4 p5 p6 p7
    have u := sp_w p1 p2 p3 p4 p5 (by omega) dl1.1 dl1.2
    have v := sp_w p1 p2 p3 p4 (show 0 ≤ B.at i 3 by omega) p7 dl1.1 dl1.2
    rw [u.1, u.2.1, u.2.2.1, u.2.2.2.1, v.2.1, v.2.2.1, v.2.2.2.2.1, v.2.2.2.2.2.1, v.2.2.2.2.2.2.1, toN_succ hi0]
    simp only [spL, spH, pLo, pHi, ea, eb, Int.toNat_of_nonneg hi0, hpo2]
    omega
  refine ⟨⟨hB, ?_, ?_⟩, fun i i0 i1 a a0 a1 b b0 b1 ⟨hi, ea, eb⟩ => ⟨fun hlt => ?_, fun hge => ?_⟩⟩
  · simp only [Int.toNat_zero, spL, lL]
    have := dl1.1; have := dl1.2
    omega
  · simp only [Int.toNat_zero, spH, lH]
    have := dl1.1; have := dl1.2
    omega
  · obtain ⟨s1, s2⟩ := step i a b i0 hlt ea eb
    exact ⟨fun q => zz i i0 hlt q, fun _ => ⟨fun q => zz i i0 hlt q, fun _ => ⟨⟨by omega, s1, s2⟩, by omega⟩⟩⟩
  · obtain rfl : i = B.len := by omega
    have e1 : a = sLs s dl := by unfold sLs; rw [hpo2, ea]
    have e2 : b = sHs s dl := by unfold sHs; rw [hpo2, eb]
    have n1 : 0 ≤ sLs s dl := by have := nL B.len.toNat; omega
    have n2 : sLs s dl ≤ 1048576 := by omega
    have n3 : sHs s dl ≤ 1048576 := by omega
    rw [e1, e2]
    refine ⟨fun q => sp_no h ok dl1 q, fun q => ⟨fun _ => ⟨trivial, fun x1 _ _ x2 _ _ x3 _ _ hx1 => ⟨fun _ => ⟨trivial, fun y1 _ _ y2 _ _ y3 _ _ hy1 => ?_⟩, fun k => k ⟨by omega, by omega⟩⟩⟩, fun k => k ⟨by omega, by omega⟩⟩⟩
    simp only [List.cons.injEq, DV.n.injEq, and_true] at hx1 hy1
    exact sp_ok h ok dl1 q hx1.1 hx1.2.1 hy1.1 hy1.2.1
theorem seepR3_ok (N : Nat) (w0 : World) : ConOk Tryd.prog tb N w0 (cSeepN 16 3 3) := by
  refine con_of_walk (tb := tb) fine (C := [cIsSR, (cMk 46), lSpR]) (conCons cIsSR_ok (conCons cMkR_ok (lopCons rfl noCon))) 80 rfl ?_ N w0
  refine fun su _ _ so q0 q1 n0 _ _ d0 _ _ n1 _ _ d1 _ _ pa _ po _ dl _ _ _ => ?_
  rw [tree_seepR3]
  simp only [T.res, B.prop, E.den, E.dat, E.top, E.val, E.isD, DV.canon, DV.int, List.getElem?_cons_zero, List.getElem?_cons_succ, List.getD_cons_zero, List.getD_cons_succ, List.getD_nil, List.map_cons, List.map_nil, List.cons_append, List.nil_append, allB, List.take_succ_cons, List.take_zero, List.length_cons, List.length_nil, Nat.zero_add, Nat.reduceAdd, resB, resL', RSh.l, RC.vd, List.flatMap_cons, List.flatMap_nil, List.append_nil, ev, dv, svy, cIsSR, cMk, cSeepN, cSeep, lSpR, get108a, get108b, get108d, get108e, List.append_assoc]
  have hB := len_nn (.sl none 0 po)
  generalize hpa : DV.sl none 0 pa = A at *
  generalize hpo : DV.sl none 0 po = B at *
  generalize hs : (⟨su, so, n0, d0, n1, d1, A, B⟩ : Svy) = s
  refine ⟨fun h => sp_long (by rw [← hs]; exact h), fun h => ?_⟩
  have h : ¬ Long s := by rw [← hs]; exact h
  refine ⟨trivial, fun x _ _ hx => ?_⟩
  rcases val_in hx with ⟨ok, rfl⟩ | ⟨bad, rfl⟩
  case inr => exact ⟨fun _ => sp_bad h bad, fun k => absurd rfl k⟩
  refine ⟨fun k => absurd k (by decide), fun _ => ⟨fun k => sp_arg h ok fun q => by unfold Dly at q; omega, fun k => ?_⟩⟩
  have dl1 : Dly dl := ⟨by omega, by omega⟩
  obtain rfl : so = 3 := by omega
  have hso : s.so = 3 := by rw [← hs]
  have hpo2 : s.po = B := by rw [← hs]
  have okP := ok.2.2
  have lL : soLo s.so = 512 := by rw [hso]; rfl
  have lH : soHi s.so = 2048 := by rw [hso]; rfl
  clear hs hpa hpo
  have zz : ∀ k, 0 ≤ k → k < B.len → ¬ IntKind.i64.wrap (B.at k 0 * B.at k 1) = 0 := fun k k0 k1 => by
    obtain ⟨⟨⟨p1, p2⟩, p3, p4⟩, ⟨p5, p6⟩, p7⟩ := okP k k0 (by rw [hpo2]; exact k1)
    rw [hpo2] at p1 p2 p3 p4 p5 p6 p7
    have u := sp_w p1 p2 p3 p4 p5 (by omega) dl1.1 dl1.2
    rw [u.1]; exact u.2.2.2.2.2.2.2.2.2
  have nL := spL_nn s dl1.1
  have step : ∀ i a b : Int, 0 ≤ i → i < B.len → a = min (spL s dl i.toNat) 1048576 → b = min (spH s dl i.toNat) 1048576 →
      max a (min 1048576 (IntKind.i64.wrap ((IntKind.i64.wrap (IntKind.i64.wrap (1048576 * B.at i 2) * dl)).tdiv (IntKind.i64.wrap (B.at i 0 * B.at i 1))))) = min (spL s dl (i + 1).toNat) 1048576 ∧
      min b (IntKind.i64.wrap ((IntKind.i64.wrap (IntKind.i64.wrap (IntKind.i64.wrap (IntKind.i64.wrap (1048576 * B.at i 3) * dl) + IntKind.i64.wrap (B.at i 0 * B.at i 1)) - 1)).tdiv (IntKind.i64.wrap (B.at i 0 * B.at i 1)))) = min (spH s dl (i + 1).toNat) 1048576 := fun i a b hi0 hi ea eb => by
    obtain ⟨⟨⟨p1, p2⟩, p3, p4⟩, ⟨p5, p6⟩, p7⟩ := okP i hi0 (by rw [hpo2]; exact hi)
    rw [hpo2] at p1 p2 p3 p4 p5 p6 p7
    have u := sp_w p1 p2 p3 p4 p5 (by omega) dl1.1 dl1.2
    have v := sp_w p1 p2 p3 p4 (show 0 ≤ B.at i 3 by omega) p7 dl1.1 dl1.2
    rw [u.1, u.2.1, u.2.2.1, u.2.2.2.1, v.2.1, v.2.2.1, v.2.2.2.2.1, v.2.2.2.2.2.1, v.2.2.2.2.2.2.1, toN_succ hi0]
    simp only [spL, spH, pLo, pHi, ea, eb, Int.toNat_of_nonneg hi0, hpo2]
    omega
  refine ⟨⟨hB, ?_, ?_⟩, fun i i0 i1 a a0 a1 b b0 b1 ⟨hi, ea, eb⟩ => ⟨fun hlt => ?_, fun hge => ?_⟩⟩
  · simp only [Int.toNat_zero, spL, lL]
    have := dl1.1; have := dl1.2
    omega
  · simp only [Int.toNat_zero, spH, lH]
    have := dl1.1; have := dl1.2
    omega
  · obtain ⟨s1, s2⟩ := step i a b i0 hlt ea eb
    exact ⟨fun q => zz i i0 hlt q, fun _ => ⟨fun q => zz i i0 hlt q, fun _ => ⟨⟨by omega, s1, s2⟩, by omega⟩⟩⟩
  · obtain rfl : i = B.len := by omega
    have e1 : a = sLs s dl := by unfold sLs; rw [hpo2, ea]
    have e2 : b = sHs s dl := by unfold sHs; rw [hpo2, eb]
    have n1 : 0 ≤ sLs s dl := by have := nL B.len.toNat; omega
    have n2 : sLs s dl ≤ 1048576 := by omega
    have n3 : sHs s dl ≤ 1048576 := by omega
    rw [e1, e2]
    refine ⟨fun q => sp_no h ok dl1 q, fun q => ⟨fun _ => ⟨trivial, fun x1 _ _ x2 _ _ x3 _ _ hx1 => ⟨fun _ => ⟨trivial, fun y1 _ _ y2 _ _ y3 _ _ hy1 => ?_⟩, fun k => k ⟨by omega, by omega⟩⟩⟩, fun k => k ⟨by omega, by omega⟩⟩⟩
    simp only [List.cons.injEq, DV.n.injEq, and_true] at hx1 hy1
    exact sp_ok h ok dl1 q hx1.1 hx1.2.1 hy1.1 hy1.2.1
theorem seepR4_ok (N : Nat) (w0 : World) : ConOk Tryd.prog tb N w0 (cSeepN 16 4 4) := by
  refine con_of_walk (tb := tb) fine (C := [cIsSR, (cMk 46), lSpR]) (conCons cIsSR_ok (conCons cMkR_ok (lopCons rfl noCon))) 80 rfl ?_ N w0
  refine fun su _ _ so q0 q1 n0 _ _ d0 _ _ n1 _ _ d1 _ _ pa _ po _ dl _ _ _ => ?_
  rw [tree_seepR4]
  simp only [T.res, B.prop, E.den, E.dat, E.top, E.val, E.isD, DV.canon, DV.int, List.getElem?_cons_zero, List.getElem?_cons_succ, List.getD_cons_zero, List.getD_cons_succ, List.getD_nil, List.map_cons, List.map_nil, List.cons_append, List.nil_append, allB, List.take_succ_cons, List.take_zero, List.length_cons, List.length_nil, Nat.zero_add, Nat.reduceAdd, resB, resL', RSh.l, RC.vd, List.flatMap_cons, List.flatMap_nil, List.append_nil, ev, dv, svy, cIsSR, cMk, cSeepN, cSeep, lSpR, get108a, get108b, get108d, get108e, List.append_assoc]
  have hB := len_nn (.sl none 0 po)
  generalize hpa : DV.sl none 0 pa = A at *
  generalize hpo : DV.sl none 0 po = B at *
  generalize hs : (⟨su, so, n0, d0, n1, d1, A, B⟩ : Svy) = s
  refine ⟨fun h => sp_long (by rw [← hs]; exact h), fun h => ?_⟩
  have h : ¬ Long s := by rw [← hs]; exact h
  refine ⟨trivial, fun x _ _ hx => ?_⟩
  rcases val_in hx with ⟨ok, rfl⟩ | ⟨bad, rfl⟩
  case inr => exact ⟨fun _ => sp_bad h bad, fun k => absurd rfl k⟩
  refine ⟨fun k => absurd k (by decide), fun _ => ⟨fun k => sp_arg h ok fun q => by unfold Dly at q; omega, fun k => ?_⟩⟩
  have dl1 : Dly dl := ⟨by omega, by omega⟩
  obtain rfl : so = 4 := by omega
  have hso : s.so = 4 := by rw [← hs]
  have hpo2 : s.po = B := by rw [← hs]
  have okP := ok.2.2
  have lL : soLo s.so = 1024 := by rw [hso]; rfl
  have lH : soHi s.so = 4096 := by rw [hso]; rfl
  clear hs hpa hpo
  have zz : ∀ k, 0 ≤ k → k < B.len → ¬ IntKind.i64.wrap (B.at k 0 * B.at k 1) = 0 := fun k k0 k1 => by
    obtain ⟨⟨⟨p1, p2⟩, p3, p4⟩, ⟨p5, p6⟩, p7⟩ := okP k k0 (by rw [hpo2]; exact k1)
    rw [hpo2] at p1 p2 p3 p4 p5 p6 p7
    have u := sp_w p1 p2 p3 p4 p5 (by omega) dl1.1 dl1.2
    rw [u.1]; exact u.2.2.2.2.2.2.2.2.2
  have nL := spL_nn s dl1.1
  have step : ∀ i a b : Int, 0 ≤ i → i < B.len → a = min (spL s dl i.toNat) 1048576 → b = min (spH s dl i.toNat) 1048576 →
      max a (min 1048576 (IntKind.i64.wrap ((IntKind.i64.wrap (IntKind.i64.wrap (1048576 * B.at i 2) * dl)).tdiv (IntKind.i64.wrap (B.at i 0 * B.at i 1))))) = min (spL s dl (i + 1).toNat) 1048576 ∧
      min b (IntKind.i64.wrap ((IntKind.i64.wrap (IntKind.i64.wrap (IntKind.i64.wrap (IntKind.i64.wrap (1048576 * B.at i 3) * dl) + IntKind.i64.wrap (B.at i 0 * B.at i 1)) - 1)).tdiv (IntKind.i64.wrap (B.at i 0 * B.at i 1)))) = min (spH s dl (i + 1).toNat) 1048576 := fun i a b hi0 hi ea eb => by
    obtain ⟨⟨⟨p1, p2⟩, p3, p4⟩, ⟨p5, p6⟩, p7⟩ := okP i hi0 (by rw [hpo2]; exact hi)
    rw [hpo2] at p1 p2 p3 p4 p5 p6 p7
    have u := sp_w p1 p2 p3 p4 p5 (by omega) dl1.1 dl1.2
    have v := sp_w p1 p2 p3 p4 (show 0 ≤ B.at i 3 by omega) p7 dl1.1 dl1.2
    rw [u.1, u.2.1, u.2.2.1, u.2.2.2.1, v.2.1, v.2.2.1, v.2.2.2.2.1, v.2.2.2.2.2.1, v.2.2.2.2.2.2.1, toN_succ hi0]
    simp only [spL, spH, pLo, pHi, ea, eb, Int.toNat_of_nonneg hi0, hpo2]
    omega
  refine ⟨⟨hB, ?_, ?_⟩, fun i i0 i1 a a0 a1 b b0 b1 ⟨hi, ea, eb⟩ => ⟨fun hlt => ?_, fun hge => ?_⟩⟩
  · simp only [Int.toNat_zero, spL, lL]
    have := dl1.1; have := dl1.2
    omega
  · simp only [Int.toNat_zero, spH, lH]
    have := dl1.1; have := dl1.2
    omega
  · obtain ⟨s1, s2⟩ := step i a b i0 hlt ea eb
    exact ⟨fun q => zz i i0 hlt q, fun _ => ⟨fun q => zz i i0 hlt q, fun _ => ⟨⟨by omega, s1, s2⟩, by omega⟩⟩⟩
  · obtain rfl : i = B.len := by omega
    have e1 : a = sLs s dl := by unfold sLs; rw [hpo2, ea]
    have e2 : b = sHs s dl := by unfold sHs; rw [hpo2, eb]
    have n1 : 0 ≤ sLs s dl := by have := nL B.len.toNat; omega
    have n2 : sLs s dl ≤ 1048576 := by omega
    have n3 : sHs s dl ≤ 1048576 := by omega
    rw [e1, e2]
    refine ⟨fun q => sp_no h ok dl1 q, fun q => ⟨fun _ => ⟨trivial, fun x1 _ _ x2 _ _ x3 _ _ hx1 => ⟨fun _ => ⟨trivial, fun y1 _ _ y2 _ _ y3 _ _ hy1 => ?_⟩, fun k => k ⟨by omega, by omega⟩⟩⟩, fun k => k ⟨by omega, by omega⟩⟩⟩
    simp only [List.cons.injEq, DV.n.injEq, and_true] at hx1 hy1
    exact sp_ok h ok dl1 q hx1.1 hx1.2.1 hy1.1 hy1.2.1
theorem seepR5_ok (N : Nat) (w0 : World) : ConOk Tryd.prog tb N w0 (cSeepN 16 5 5) := by
  refine con_of_walk (tb := tb) fine (C := [cIsSR, (cMk 46), lSpR]) (conCons cIsSR_ok (conCons cMkR_ok (lopCons rfl noCon))) 80 rfl ?_ N w0
  refine fun su _ _ so q0 q1 n0 _ _ d0 _ _ n1 _ _ d1 _ _ pa _ po _ dl _ _ _ => ?_
  rw [tree_seepR5]
  simp only [T.res, B.prop, E.den, E.dat, E.top, E.val, E.isD, DV.canon, DV.int, List.getElem?_cons_zero, List.getElem?_cons_succ, List.getD_cons_zero, List.getD_cons_succ, List.getD_nil, List.map_cons, List.map_nil, List.cons_append, List.nil_append, allB, List.take_succ_cons, List.take_zero, List.length_cons, List.length_nil, Nat.zero_add, Nat.reduceAdd, resB, resL', RSh.l, RC.vd, List.flatMap_cons, List.flatMap_nil, List.append_nil, ev, dv, svy, cIsSR, cMk, cSeepN, cSeep, lSpR, get108a, get108b, get108d, get108e, List.append_assoc]
  have hB := len_nn (.sl none 0 po)
  generalize hpa : DV.sl none 0 pa = A at *
  generalize hpo : DV.sl none 0 po = B at *
  generalize hs : (⟨su, so, n0, d0, n1, d1, A, B⟩ : Svy) = s
  refine ⟨fun h => sp_long (by rw [← hs]; exact h), fun h => ?_⟩
  have h : ¬ Long s := by rw [← hs]; exact h
  refine ⟨trivial, fun x _ _ hx => ?_⟩
  rcases val_in hx with ⟨ok, rfl⟩ | ⟨bad, rfl⟩
  case inr => exact ⟨fun _ => sp_bad h bad, fun k => absurd rfl k⟩
  refine ⟨fun k => absurd k (by decide), fun _ => ⟨fun k => sp_arg h ok fun q => by unfold Dly at q; omega, fun k => ?_⟩⟩
  have dl1 : Dly dl := ⟨by omega, by omega⟩
  obtain rfl : so = 5 := by omega
  have hso : s.so = 5 := by rw [← hs]
  have hpo2 : s.po = B := by rw [← hs]
  have okP := ok.2.2
  have lL : soLo s.so = 2048 := by rw [hso]; rfl
  have lH : soHi s.so = 16384 := by rw [hso]; rfl
  clear hs hpa hpo
  have zz : ∀ k, 0 ≤ k → k < B.len → ¬ IntKind.i64.wrap (B.at k 0 * B.at k 1) = 0 := fun k k0 k1 => by
    obtain ⟨⟨⟨p1, p2⟩, p3, p4⟩, ⟨p5, p6⟩, p7⟩ := okP k k0 (by rw [hpo2]; exact k1)
    rw [hpo2] at p1 p2 p3 p4 p5 p6 p7
    have u := sp_w p1 p2 p3 p4 p5 (by omega) dl1.1 dl1.2
    rw [u.1]; exact u.2.2.2.2.2.2.2.2.2
  have nL := spL_nn s dl1.1
  have step : ∀ i a b : Int, 0 ≤ i → i < B.len → a = min (spL s dl i.toNat) 1048576 → b = min (spH s dl i.toNat) 1048576 →
      max a (min 1048576 (IntKind.i64.wrap ((IntKind.i64.wrap (IntKind.i64.wrap (1048576 * B.at i 2) * dl)).tdiv (IntKind.i64.wrap (B.at i 0 * B.at i 1))))) = min (spL s dl (i + 1).toNat) 1048576 ∧
      min b (IntKind.i64.wrap ((IntKind.i64.wrap (IntKind.i64.wrap (IntKind.i64.wrap (IntKind.i64.wrap (1048576 * B.at i 3) * dl) + IntKind.i64.wrap (B.at i 0 * B.at i 1)) - 1)).tdiv (IntKind.i64.wrap (B.at i 0 * B.at i 1)))) = min (spH s dl (i + 1).toNat) 1048576 := fun i a b hi0 hi ea eb => by
    obtain ⟨⟨⟨p1, p2⟩, p3, p4⟩, ⟨p5, p6⟩, p7⟩ := okP i hi0 (by rw [hpo2]; exact hi)
    rw [hpo2] at p1 p2 p3 p4 p5 p6 p7
    have u := sp_w p1 p2 p3 p4 p5 (by omega) dl1.1 dl1.2
    have v := sp_w p1 p2 p3 p4 (show 0 ≤ B.at i 3 by omega) p7 dl1.1 dl1.2
    rw [u.1, u.2.1, u.2.2.1, u.2.2.2.1, v.2.1, v.2.2.1, v.2.2.2.2.1, v.2.2.2.2.2.1, v.2.2.2.2.2.2.1, toN_succ hi0]
    simp only [spL, spH, pLo, pHi, ea, eb, Int.toNat_of_nonneg hi0, hpo2]
    omega
  refine ⟨⟨hB, ?_, ?_⟩, fun i i0 i1 a a0 a1 b b0 b1 ⟨hi, ea, eb⟩ => ⟨fun hlt => ?_, fun hge => ?_⟩⟩
  · simp only [Int.toNat_zero, spL, lL]
    have := dl1.1; have := dl1.2
    omega
  · simp only [Int.toNat_zero, spH, lH]
    have := dl1.1; have := dl1.2
    omega
  · obtain ⟨s1, s2⟩ := step i a b i0 hlt ea eb
    exact ⟨fun q => zz i i0 hlt q, fun _ => ⟨fun q => zz i i0 hlt q, fun _ => ⟨⟨by omega, s1, s2⟩, by omega⟩⟩⟩
  · obtain rfl : i = B.len := by omega
    have e1 : a = sLs s dl := by unfold sLs; rw [hpo2, ea]
    have e2 : b = sHs s dl := by unfold sHs; rw [hpo2, eb]
    have n1 : 0 ≤ sLs s dl := by have := nL B.len.toNat; omega
    have n2 : sLs s dl ≤ 1048576 := by omega
    have n3 : sHs s dl ≤ 1048576 := by omega
    rw [e1, e2]
    refine ⟨fun q => sp_no h ok dl1 q, fun q => ⟨fun _ => ⟨trivial, fun x1 _ _ x2 _ _ x3 _ _ hx1 => ⟨fun _ => ⟨trivial, fun y1 _ _ y2 _ _ y3 _ _ hy1 => ?_⟩, fun k => k ⟨by omega, by omega⟩⟩⟩, fun k => k ⟨by omega, by omega⟩⟩⟩
    simp only [List.cons.injEq, DV.n.injEq, and_true] at hx1 hy1
    exact sp_ok h ok dl1 q hx1.1 hx1.2.1 hy1.1 hy1.2.1
theorem seepR6_ok (N : Nat) (w0 : World) : ConOk Tryd.prog tb N w0 (cSeepN 16 6 9223372036854775807) := by
  refine con_of_walk (tb := tb) fine (C := [cIsSR, (cMk 46), lSpR]) (conCons cIsSR_ok (conCons cMkR_ok (lopCons rfl noCon))) 80 rfl ?_ N w0
  refine fun su _ _ so q0 q1 n0 _ _ d0 _ _ n1 _ _ d1 _ _ pa _ po _ dl _ _ _ => ?_
  rw [tree_seepR6]
  simp only [T.res, B.prop, E.den, E.dat, E.top, E.val, E.isD, DV.canon, DV.int, List.getElem?_cons_zero, List.getElem?_cons_succ, List.getD_cons_zero, List.getD_cons_succ, List.getD_nil, List.map_cons, List.map_nil, List.cons_append, List.nil_append, allB, List.take_succ_cons, List.take_zero, List.length_cons, List.length_nil, Nat.zero_add, Nat.reduceAdd, resB, resL', RSh.l, RC.vd, List.flatMap_cons, List.flatMap_nil, List.append_nil, ev, dv, svy, cIsSR, cMk, cSeepN, cSeep, lSpR, get108a, get108b, get108d, get108e, List.append_assoc]
  have hB := len_nn (.sl none 0 po)
  generalize hpa : DV.sl none 0 pa = A at *
  generalize hpo : DV.sl none 0 po = B at *
  generalize hs : (⟨su, so, n0, d0, n1, d1, A, B⟩ : Svy) = s
  refine ⟨fun h => sp_long (by rw [← hs]; exact h), fun h => ?_⟩
  have h : ¬ Long s := by rw [← hs]; exact h
  refine ⟨trivial, fun x _ _ hx => ?_⟩
  rcases val_in hx with ⟨ok, rfl⟩ | ⟨bad, rfl⟩
  case inr => exact ⟨fun _ => sp_bad h bad, fun k => absurd rfl k⟩
  refine ⟨fun k => absurd k (by decide), fun _ => ⟨fun k => sp_arg h ok fun q => by unfold Dly at q; omega, fun k => ?_⟩⟩
  have dl1 : Dly dl := ⟨by omega, by omega⟩
  exfalso
  have q := ok.1.1.2
  rw [← hs] at q
  simp only at q
  omega
theorem seepR7_ok (N : Nat) (w0 : World) : ConOk Tryd.prog tb N w0 (cSeepN 16 (-9223372036854775808) (-1)) := by
  refine con_of_walk (tb := tb) fine (C := [cIsSR, (cMk 46), lSpR]) (conCons cIsSR_ok (conCons cMkR_ok (lopCons rfl noCon))) 80 rfl ?_ N w0
  refine fun su _ _ so q0 q1 n0 _ _ d0 _ _ n1 _ _ d1 _ _ pa _ po _ dl _ _ _ => ?_
  rw [tree_seepR7]
  simp only [T.res, B.prop, E.den, E.dat, E.top, E.val, E.isD, DV.canon, DV.int, List.getElem?_cons_zero, List.getElem?_cons_succ, List.getD_cons_zero, List.getD_cons_succ, List.getD_nil, List.map_cons, List.map_nil, List.cons_append, List.nil_append, allB, List.take_succ_cons, List.take_zero, List.length_cons, List.length_nil, Nat.zero_add, Nat.reduceAdd, resB, resL', RSh.l, RC.vd, List.flatMap_cons, List.flatMap_nil, List.append_nil, ev, dv, svy, cIsSR, cMk, cSeepN, cSeep, lSpR, get108a, get108b, get108d, get108e, List.append_assoc]
  have hB := len_nn (.sl none 0 po)
  generalize hpa : DV.sl none 0 pa = A at *
  generalize hpo : DV.sl none 0 po = B at *
  generalize hs : (⟨su, so, n0, d0, n1, d1, A, B⟩ : Svy) = s
  refine ⟨fun h => sp_long (by rw [← hs]; exact h), fun h => ?_⟩
  have h : ¬ Long s := by rw [← hs]; exact h
  refine ⟨trivial, fun x _ _ hx => ?_⟩
  rcases val_in hx with ⟨ok, rfl⟩ | ⟨bad, rfl⟩
  case inr => exact ⟨fun _ => sp_bad h bad, fun k => absurd rfl k⟩
  refine ⟨fun k => absurd k (by decide), fun _ => ⟨fun k => sp_arg h ok fun q => by unfold Dly at q; omega, fun k => ?_⟩⟩
  have dl1 : Dly dl := ⟨by omega, by omega⟩
  exfalso
  have q := ok.1.1.2
  rw [← hs] at q
  simp only at q
  omega
/-- From soil to soil. -/
theorem seep_all {f : FuncId} (h : ∀ so : Int, ∃ a b : Int, (-9223372036854775808 ≤ so → so ≤ 9223372036854775807 → a ≤ so ∧ so ≤ b) ∧ ∀ N w0, ConOk Tryd.prog tb N w0 (cSeepN f a b)) (N : Nat) (w0 : World) : ConOk Tryd.prog tb N w0 (cSeep f) := by
  intro hn xs vs w ha hp hB hG
  have ha' := ha
  cases vs with
  | nil => simp only [cSeep, ArgsV] at ha
  | cons v vs =>
    simp only [cSeep, ArgsV] at ha
    obtain ⟨ys, r, cs, rfl, rfl, hc, hr⟩ := ha
    cases ys with
    | nil => cases cs <;> simp only [cellsA] at hc
    | cons x0 ys => cases cs with
    | nil => simp only [cellsA] at hc
    | cons c0 cs => cases ys with
    | nil => cases cs <;> simp only [cellsA, and_false] at hc
    | cons x1 ys => cases cs with
    | nil => simp only [cellsA, and_false] at hc
    | cons c1 cs =>
      simp only [cellsA] at hc
      obtain ⟨k0, k1, k2⟩ := hc
      obtain ⟨h1, h2⟩ := k1
      simp only [HasSh] at h1
      obtain ⟨so, rfl, ⟨g1, g2⟩, g3⟩ := h1
      obtain ⟨a, b, hab, hcon⟩ := h so
      have hab := hab g1 g2
      refine hcon N w0 hn _ _ w ?_ hp hB hG
      simp only [cSeepN, ArgsV]
      refine ⟨_, r, _, rfl, rfl, ?_, hr⟩
      simp only [cellsA]
      refine ⟨k0, ⟨?_, h2⟩, k2⟩
      simp only [HasSh]
      exact ⟨so, rfl, hab, g3⟩
theorem cSeep_ok (N : Nat) (w0 : World) : ConOk Tryd.prog tb N w0 (cSeep 15) := by
  refine seep_all (fun so => ?_) N w0
  by_cases h : so < 0
  · exact ⟨_, _, fun _ _ => ⟨by assumption, by omega⟩, seep7_ok⟩
  by_cases h : 5 < so
  · exact ⟨_, _, fun _ _ => ⟨by omega, by assumption⟩, seep6_ok⟩
  have hc : so = 0 ∨ so = 1 ∨ so = 2 ∨ so = 3 ∨ so = 4 ∨ so = 5 := by omega
  rcases hc with rfl | rfl | rfl | rfl | rfl | rfl
  · exact ⟨_, _, fun _ _ => ⟨Int.le_refl _, Int.le_refl _⟩, seep0_ok⟩
  · exact ⟨_, _, fun _ _ => ⟨Int.le_refl _, Int.le_refl _⟩, seep1_ok⟩
  · exact ⟨_, _, fun _ _ => ⟨Int.le_refl _, Int.le_refl _⟩, seep2_ok⟩
  · exact ⟨_, _, fun _ _ => ⟨Int.le_refl _, Int.le_refl _⟩, seep3_ok⟩
  · exact ⟨_, _, fun _ _ => ⟨Int.le_refl _, Int.le_refl _⟩, seep4_ok⟩
  · exact ⟨_, _, fun _ _ => ⟨Int.le_refl _, Int.le_refl _⟩, seep5_ok⟩
theorem cSeepR_ok (N : Nat) (w0 : World) : ConOk Tryd.prog tb N w0 (cSeep 16) := by
  refine seep_all (fun so => ?_) N w0
  by_cases h : so < 0
  · exact ⟨_, _, fun _ _ => ⟨by assumption, by omega⟩, seepR7_ok⟩
  by_cases h : 5 < so
  · exact ⟨_, _, fun _ _ => ⟨by omega, by assumption⟩, seepR6_ok⟩
  have hc : so = 0 ∨ so = 1 ∨ so = 2 ∨ so = 3 ∨ so = 4 ∨ so = 5 := by omega
  rcases hc with rfl | rfl | rfl | rfl | rfl | rfl
  · exact ⟨_, _, fun _ _ => ⟨Int.le_refl _, Int.le_refl _⟩, seepR0_ok⟩
  · exact ⟨_, _, fun _ _ => ⟨Int.le_refl _, Int.le_refl _⟩, seepR1_ok⟩
  · exact ⟨_, _, fun _ _ => ⟨Int.le_refl _, Int.le_refl _⟩, seepR2_ok⟩
  · exact ⟨_, _, fun _ _ => ⟨Int.le_refl _, Int.le_refl _⟩, seepR3_ok⟩
  · exact ⟨_, _, fun _ _ => ⟨Int.le_refl _, Int.le_refl _⟩, seepR4_ok⟩
  · exact ⟨_, _, fun _ _ => ⟨Int.le_refl _, Int.le_refl _⟩, seepR5_ok⟩
end Go.Proofs.YtnleeohiomcieaaDoor
