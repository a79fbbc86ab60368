/- DERIVED. Numbers put into a list: contracts. -/
import Derived.Test.YtdffnmhpkapbkaaDoorEctd
namespace Go.Proofs.YtdffnmhpkapbkaaDoor
open Go.Dx
set_option linter.unusedVariables false
theorem ivl_cat (l r : List (List DV)) : ivl (.sl none 0 (l ++ r)) = ivl (.sl none 0 l) ++ ivl (.sl none 0 r) := by
  unfold ivl
  show (l ++ r).map _ = l.map _ ++ r.map _
  rw [List.map_append]
theorem ivl_one {x : Int} (hx : -9223372036854775808 ≤ x ∧ x ≤ 18446744073709551615) : ivl (.sl none 0 [[.n x]]) = [x] := by
  show [clampB x] = _
  unfold clampB
  rw [if_pos hx]
theorem ivl_drop (l : List (List DV)) (k : Nat) : ivl (.sl none 0 (l.drop k)) = (ivl (.sl none 0 l)).drop k := by
  unfold ivl
  show (l.drop k).map _ = (l.map _).drop k
  rw [List.map_drop]
theorem at_rng (d : DV) (i : Int) (j : Nat) : -9223372036854775808 ≤ d.at i j ∧ d.at i j ≤ 18446744073709551615 := clampB_rng _
set_option maxRecDepth 100000 in
theorem cPut_ok (N : Nat) (w0 : World) : ConOk Tryd.prog tb N w0 (cPut 51) := by
  refine con_of_walk (tb := tb) fine (C := [lPut]) (lopCons rfl noCon) 100 rfl ?_ N w0
  refine fun a ha n n0 n1 hpre => ?_
  have la := len_of ha (Nat.le_refl _)
  clear ha
  have h4 : (DV.sl none 0 a).len ≤ 4096 := hpre
  rw [tree_put]
  show T.res _ (fun y => ivl (dv y 0) = ins (ivl (.sl none 0 a)) n) _ _
  have ea : (ivl (.sl none 0 a)).length = a.length := ivl_len _
  refine res_dat (.sl none 0 []) rfl ?_
  refine res_lop rfl (show (0 : Int) ≤ (DV.sl none 0 a).len ∧ ivl (.sl none 0 []) = (ivl (.sl none 0 a)).take (0 : Int).toNat ∧ ∀ i : Nat, i < (0 : Int).toNat → (ivl (.sl none 0 a)).getD i 0 < n from ⟨by omega, by simp [ivl, DV.els], fun i h => absurd h (Nat.not_lt_zero i)⟩) (fun o ho i i0 i1 hI => ?_)
  obtain ⟨hi, ht, hlt⟩ : i ≤ (DV.sl none 0 a).len ∧ ivl (.sl none 0 o) = (ivl (.sl none 0 a)).take i.toNat ∧ ∀ j : Nat, j < i.toNat → (ivl (.sl none 0 a)).getD j 0 < n := hI
  have lo := len_of ho (Nat.le_refl _)
  clear ho
  have eo : o.length ≤ i.toNat := by
    have e1 : (ivl (.sl none 0 o)).length = o.length := ivl_len _
    rw [ht, List.length_take] at e1
    omega
  have ei : ((i.toNat : Nat) : Int) = i := by omega
  refine res_ite (fun z => ?_) fun z => ?_
  · have z : i < (DV.sl none 0 a).len ∧ (DV.sl none 0 a).at i 0 < n := z
    have g : (ivl (.sl none 0 a)).getD i.toNat 0 = (DV.sl none 0 a).at i 0 := by rw [ivl_get (show i.toNat < a.length by omega), ei]
    refine res_ok (show (DV.sl none 0 o).len + 1 ≤ 15637498706147 by omega) ?_
    refine res_dat (.sl none 0 [[.n ((DV.sl none 0 a).at i 0)]]) rfl ?_
    refine res_dat (.sl none 0 (o ++ [[.n ((DV.sl none 0 a).at i 0)]])) rfl ?_
    refine res_chk rfl (show i + 1 ≤ (DV.sl none 0 a).len ∧ ivl (.sl none 0 (o ++ [[.n ((DV.sl none 0 a).at i 0)]])) = (ivl (.sl none 0 a)).take (i + 1).toNat ∧ ∀ j : Nat, j < (i + 1).toNat → (ivl (.sl none 0 a)).getD j 0 < n from ⟨by omega, ?_, fun j hj => ?_⟩) (show ((DV.sl none 0 a).len - (i + 1)).toNat < ((DV.sl none 0 a).len - i).toNat by omega)
    · rw [ivl_cat, ivl_one (at_rng _ _ _), ht, show (i + 1).toNat = i.toNat + 1 by omega, take_one 0 (by omega), g]
    · by_cases c : j < i.toNat
      · exact hlt j c
      · rw [show j = i.toNat by omega, g]; exact z.2
  · have z : ¬ (i < (DV.sl none 0 a).len ∧ (DV.sl none 0 a).at i 0 < n) := z
    have q := ins_eq (n := n) (l := ivl (.sl none 0 a)) (k := i.toNat) (by omega) hlt (fun h => by
      rw [ivl_get (show i.toNat < a.length by omega), ei]
      omega)
    refine res_ok (show (DV.sl none 0 o).len + 1 ≤ 15637498706147 by omega) ?_
    refine res_dat (.sl none 0 [[.n n]]) rfl ?_
    refine res_dat (.sl none 0 (o ++ [[.n n]])) rfl ?_
    refine res_ite (fun y => ?_) fun y => ?_
    · have y : i < (DV.sl none 0 a).len ∧ (DV.sl none 0 a).at i 0 = n := y
      refine res_ok (show i + 1 ≤ (DV.sl none 0 a).len by omega) ?_
      refine res_dat (.sl none 0 ((a.take (DV.sl none 0 a).len.toNat).drop (i + 1).toNat)) rfl ?_
      refine res_ok (show (DV.sl none 0 o).len + 1 + ((DV.sl none 0 a).len - (i + 1)) ≤ 15637498706147 by omega) ?_
      refine res_dat (.sl none 0 ((o ++ [[.n n]]) ++ (a.take (DV.sl none 0 a).len.toNat).drop (i + 1).toNat)) rfl ?_
      show ivl (.sl none 0 ((o ++ [[.n n]]) ++ (a.take (DV.sl none 0 a).len.toNat).drop (i + 1).toNat)) = _
      rw [ivl_cat, ivl_cat, ivl_one (by omega), ht, ivl_drop, show (DV.sl none 0 a).len.toNat = a.length by omega, List.take_length, q, if_pos ⟨by omega, by rw [ivl_get (show i.toNat < a.length by omega), ei]; exact y.2⟩, show (i + 1).toNat = i.toNat + 1 by omega]
      simp
    · have y : ¬ (i < (DV.sl none 0 a).len ∧ (DV.sl none 0 a).at i 0 = n) := y
      refine res_ok (show i ≤ (DV.sl none 0 a).len by omega) ?_
      refine res_dat (.sl none 0 ((a.take (DV.sl none 0 a).len.toNat).drop i.toNat)) rfl ?_
      refine res_ok (show (DV.sl none 0 o).len + 1 + ((DV.sl none 0 a).len - i) ≤ 15637498706147 by omega) ?_
      refine res_dat (.sl none 0 ((o ++ [[.n n]]) ++ (a.take (DV.sl none 0 a).len.toNat).drop i.toNat)) rfl ?_
      show ivl (.sl none 0 ((o ++ [[.n n]]) ++ (a.take (DV.sl none 0 a).len.toNat).drop i.toNat)) = _
      rw [ivl_cat, ivl_cat, ivl_one (by omega), ht, ivl_drop, show (DV.sl none 0 a).len.toNat = a.length by omega, List.take_length, q, if_neg fun z => y ⟨by omega, by have := z.2; rw [ivl_get (show i.toNat < a.length by omega), ei] at this; exact this⟩]
      simp
set_option maxRecDepth 100000 in
theorem cEnds_ok (N : Nat) (w0 : World) : ConOk Tryd.prog tb N w0 (cEnds 46) := by
  refine con_of_walk (tb := tb) fine (C := [cPut 51, lEnds]) (conCons cPut_ok (lopCons rfl noCon)) 100 rfl ?_ N w0
  refine fun t ht0 a ha hpre => ?_
  have la := len_of ha (Nat.le_refl _)
  have lt := len_of ht0 (Nat.le_refl _)
  clear ha ht0
  obtain ⟨⟨h256, hall⟩, h600⟩ : Rgt (.sl none 0 a) ∧ (DV.sl none 0 t).len ≤ 600 := hpre
  rw [tree_ends]
  show T.res _ (fun y => ivl (dv y 0) = endsL (ivl (.sl none 0 t)) (spn (.sl none 0 a))) _ _
  refine res_lop rfl (show (0 : Int) ≤ (DV.sl none 0 a).len ∧ (DV.sl none 0 t).len ≤ 600 + 2 * (0 : Int) ∧ endsL (ivl (.sl none 0 t)) ((spn (.sl none 0 a)).drop (0 : Int).toNat) = endsL (ivl (.sl none 0 t)) (spn (.sl none 0 a)) from ⟨by omega, by omega, rfl⟩) (fun o ho i i0 i1 hI => ?_)
  obtain ⟨hi, h6, hE⟩ : i ≤ (DV.sl none 0 a).len ∧ (DV.sl none 0 o).len ≤ 600 + 2 * i ∧ endsL (ivl (.sl none 0 o)) ((spn (.sl none 0 a)).drop i.toNat) = endsL (ivl (.sl none 0 t)) (spn (.sl none 0 a)) := hI
  have lo := len_of ho (Nat.le_refl _)
  clear ho
  refine res_ite (fun hl => ?_) fun hl => ?_
  · have hl : i < (DV.sl none 0 a).len := hl
    have q := (hall i i0 hl).2
    refine res_con rfl (show (DV.sl none 0 o).len ≤ 4096 by omega) (fun p hp hp2 => ?_)
    have hp2 : ivl (.sl none 0 p) = ins (ivl (.sl none 0 o)) ((DV.sl none 0 a).at i 0) := hp2
    have lp := len_of hp (Nat.le_refl _)
    have ep : (ivl (.sl none 0 p)).length = p.length := ivl_len _
    have eo : (ivl (.sl none 0 o)).length = o.length := ivl_len _
    have g1 := ins_len (n := (DV.sl none 0 a).at i 0) (l := ivl (.sl none 0 o))
    rw [← hp2] at g1
    refine res_con rfl (show (DV.sl none 0 p).len ≤ 4096 by omega) (fun u hu hu2 => ?_)
    have w : IntKind.i64.wrap ((DV.sl none 0 a).at i 1 + 1) = (DV.sl none 0 a).at i 1 + 1 := wW (by omega) (by omega)
    have hu2 : ivl (.sl none 0 u) = ins (ivl (.sl none 0 p)) (IntKind.i64.wrap ((DV.sl none 0 a).at i 1 + 1)) := hu2
    rw [w] at hu2
    have lu := len_of hu (Nat.le_refl _)
    have eu : (ivl (.sl none 0 u)).length = u.length := ivl_len _
    have g2 := ins_len (n := (DV.sl none 0 a).at i 1 + 1) (l := ivl (.sl none 0 p))
    rw [← hu2] at g2
    refine res_chk rfl (show i + 1 ≤ (DV.sl none 0 a).len ∧ (DV.sl none 0 u).len ≤ 600 + 2 * (i + 1) ∧ endsL (ivl (.sl none 0 u)) ((spn (.sl none 0 a)).drop (i + 1).toNat) = endsL (ivl (.sl none 0 t)) (spn (.sl none 0 a)) from ⟨by omega, by omega, ?_⟩) (show ((DV.sl none 0 a).len - (i + 1)).toNat < ((DV.sl none 0 a).len - i).toNat by omega)
    have hk : i.toNat < (spn (.sl none 0 a)).length := by rw [spn_len]; show i.toNat < a.length; omega
    have e := List.drop_eq_getElem_cons hk
    have e2 : (spn (.sl none 0 a))[i.toNat] = ((DV.sl none 0 a).at i 0, (DV.sl none 0 a).at i 1) := by
      have := spn_get (d := .sl none 0 a) (k := i.toNat) (show i.toNat < a.length by omega)
      rw [List.getD_eq_getElem?_getD, List.getElem?_eq_getElem hk, show ((i.toNat : Nat) : Int) = i by omega] at this
      exact this
    rw [e, e2] at hE
    have hE : endsL (ins (ins (ivl (.sl none 0 o)) ((DV.sl none 0 a).at i 0)) ((DV.sl none 0 a).at i 1 + 1)) ((spn (.sl none 0 a)).drop (i.toNat + 1)) = _ := hE
    rw [hu2, hp2, show (i + 1).toNat = i.toNat + 1 by omega]
    exact hE
  · have hl : ¬ i < (DV.sl none 0 a).len := hl
    show ivl (.sl none 0 o) = _
    rw [← hE, List.drop_eq_nil_of_le (by rw [spn_len]; show a.length ≤ i.toNat; omega)]
    rfl
end Go.Proofs.YtdffnmhpkapbkaaDoor
