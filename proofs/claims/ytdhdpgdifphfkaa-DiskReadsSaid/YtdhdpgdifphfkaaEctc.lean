/- DERIVED. Equal disks, new disks: the contracts, proved. -/
import Derived.Test.YtdhdpgdifphfkaaEctb
namespace Go.Proofs.Ytdhdpgdifphfkaa
open Go.Dx
set_option linter.unusedVariables false
set_option linter.unusedSimpArgs false
set_option maxRecDepth 100000 in
theorem cSame_ok (N : Nat) (w0 : World) : ConOk Try.prog tb N w0 (cSame 14) := by
  refine con_of_walk (tb := tb) fine (C := [lSame, lSame2]) (lopCons rfl (lopCons rfl noCon)) 120 rfl ?_ N w0
  refine fun S hS P hP l _ _ t t0 t1 S' hS' P' hP' l' _ _ t' t0' t1' _ => ?_
  have t0 : 0 ≤ t := t0
  have t1 : t ≤ 1 := t1
  have t0' : 0 ≤ t' := t0'
  have t1' : t' ≤ 1 := t1'
  have lS := len_of hS (Nat.le_refl _)
  have lP := len_of hP (Nat.le_refl _)
  have lS' := len_of hS' (Nat.le_refl _)
  have lP' := len_of hP' (Nat.le_refl _)
  have pS := secs_len S
  have pP := pens_len P
  have pS' := secs_len S'
  have pP' := pens_len P'
  rw [tree_same]
  show T.res _ (fun y => y = yn ((secs (.sl none 0 S), pens (.sl none 0 P), l, t) = (secs (.sl none 0 S'), pens (.sl none 0 P'), l', t'))) _ _
  have parts : (secs (.sl none 0 S), pens (.sl none 0 P), l, t) = (secs (.sl none 0 S'), pens (.sl none 0 P'), l', t') → secs (.sl none 0 S) = secs (.sl none 0 S') ∧ pens (.sl none 0 P) = pens (.sl none 0 P') ∧ l = l' ∧ t = t' := fun h => ⟨(Prod.mk.inj h).1, (Prod.mk.inj (Prod.mk.inj h).2).1, (Prod.mk.inj (Prod.mk.inj (Prod.mk.inj h).2).2).1, (Prod.mk.inj (Prod.mk.inj (Prod.mk.inj h).2).2).2⟩
  refine res_ite (fun h => no fun m => ?_) fun h => ?_
  · have h : ((¬ (DV.sl none 0 S).len = (DV.sl none 0 S').len ∨ ¬ (DV.sl none 0 P).len = (DV.sl none 0 P').len) ∨ ¬ l = l') ∨ ¬ ((¬ t = 0 ∧ ¬ t' = 0) ∨ (t = 0 ∧ t' = 0)) := cv h (by kernel_rfl)
    obtain ⟨m1, m2, m3, m4⟩ := parts m
    have m1 := congrArg List.length m1
    have m2 := congrArg List.length m2
    omega
  have h : ¬ (((¬ (DV.sl none 0 S).len = (DV.sl none 0 S').len ∨ ¬ (DV.sl none 0 P).len = (DV.sl none 0 P').len) ∨ ¬ l = l') ∨ ¬ ((¬ t = 0 ∧ ¬ t' = 0) ∨ (t = 0 ∧ t' = 0))) := cv h (by kernel_rfl)
  have hSl : (DV.sl none 0 S).len = (DV.sl none 0 S').len := by omega
  have hPl : (DV.sl none 0 P).len = (DV.sl none 0 P').len := by omega
  have hl : l = l' := by omega
  have ht : t = t' := by omega
  clear h
  refine res_lop_of rfl (P := (0 : Int) ≤ (DV.sl none 0 S).len ∧ (secs (.sl none 0 S)).take (0 : Int).toNat = (secs (.sl none 0 S')).take (0 : Int).toNat) (by kernel_rfl) rfl ⟨len_nn _, by simp⟩ (fun i i0 i1 hI => ?_)
  obtain ⟨hi, hI⟩ := cv hI (by kernel_rfl : _ = (i ≤ (DV.sl none 0 S).len ∧ (secs (.sl none 0 S)).take i.toNat = (secs (.sl none 0 S')).take i.toNat))
  have i0 : 0 ≤ i := i0
  refine res_ite (fun hlt => ?_) fun hge => ?_
  · have hlt : i < (DV.sl none 0 S).len := cv hlt (by kernel_rfl)
    obtain ⟨e1, e2⟩ := sec_at hS i0 (by omega)
    obtain ⟨f1, f2⟩ := sec_at hS' i0 (by omega)
    have eq1 : (secs (.sl none 0 S), pens (.sl none 0 P), l, t) = (secs (.sl none 0 S'), pens (.sl none 0 P'), l', t') → bys ((DV.sl none 0 S).cell i 0) = bys ((DV.sl none 0 S').cell i 0) := fun m => by rw [← e1, ← f1, (parts m).1]
    have nx1 : strOfNums (bys ((DV.sl none 0 S).cell i 0)) = strOfNums (bys ((DV.sl none 0 S').cell i 0)) → (secs (.sl none 0 S)).take (i + 1).toNat = (secs (.sl none 0 S')).take (i + 1).toNat := fun q =>
      take_eq_next [] i0 (by omega) (by omega) hI (by rw [e1, f1]; exact strNums_inj (bytes_in e2) (bytes_in f2) q)
    refine res_both ?_ ?_
    · refine res_dat (.s (strOfNums (bys ((DV.sl none 0 S).cell i 0)))) (by kernel_rfl) ?_
      refine res_ok (cv (⟨i0, by omega⟩ : 0 ≤ i ∧ i < (DV.sl none 0 S').len) (by kernel_rfl)) ?_
      refine res_dat (.s (strOfNums (bys ((DV.sl none 0 S').cell i 0)))) (by kernel_rfl) ?_
      refine res_ite (fun q => no fun m => ?_) fun q => ?_
      · have q : ¬ strOfNums (bys ((DV.sl none 0 S).cell i 0)) = strOfNums (bys ((DV.sl none 0 S').cell i 0)) := cv q (by kernel_rfl)
        exact q (congrArg strOfNums (eq1 m))
      · have q : ¬ ¬ strOfNums (bys ((DV.sl none 0 S).cell i 0)) = strOfNums (bys ((DV.sl none 0 S').cell i 0)) := cv q (by kernel_rfl)
        exact res_chk_of rfl (P := i + 1 ≤ (DV.sl none 0 S).len ∧ (secs (.sl none 0 S)).take (i + 1).toNat = (secs (.sl none 0 S')).take (i + 1).toNat) (a := ((DV.sl none 0 S).len - (i + 1)).toNat) (b := ((DV.sl none 0 S).len - i).toNat) (by kernel_rfl) (by kernel_rfl) (by kernel_rfl) ⟨by omega, nx1 (Classical.not_not.1 q)⟩ (by omega)
    · refine res_ok (cv (⟨i0, by omega⟩ : 0 ≤ i ∧ i < (DV.sl none 0 S').len) (by kernel_rfl)) ?_
      refine res_both ?_ ?_
      · refine res_dat (.s (strOfNums (bys ((DV.sl none 0 S).cell i 0)))) (by kernel_rfl) ?_
        refine res_dat (.s (strOfNums (bys ((DV.sl none 0 S').cell i 0)))) (by kernel_rfl) ?_
        refine res_ite (fun q => no fun m => ?_) fun q => ?_
        · have q : ¬ strOfNums (bys ((DV.sl none 0 S).cell i 0)) = strOfNums (bys ((DV.sl none 0 S').cell i 0)) := cv q (by kernel_rfl)
          exact q (congrArg strOfNums (eq1 m))
        · have q : ¬ ¬ strOfNums (bys ((DV.sl none 0 S).cell i 0)) = strOfNums (bys ((DV.sl none 0 S').cell i 0)) := cv q (by kernel_rfl)
          exact res_chk_of rfl (P := i + 1 ≤ (DV.sl none 0 S).len ∧ (secs (.sl none 0 S)).take (i + 1).toNat = (secs (.sl none 0 S')).take (i + 1).toNat) (a := ((DV.sl none 0 S).len - (i + 1)).toNat) (b := ((DV.sl none 0 S).len - i).toNat) (by kernel_rfl) (by kernel_rfl) (by kernel_rfl) ⟨by omega, nx1 (Classical.not_not.1 q)⟩ (by omega)
      · refine res_dat (.s (strOfNums (bys ((DV.sl none 0 S').cell i 0)))) (by kernel_rfl) ?_
        refine res_dat (.s (strOfNums (bys ((DV.sl none 0 S).cell i 0)))) (by kernel_rfl) ?_
        refine res_ite (fun q => no fun m => ?_) fun q => ?_
        · have q : ¬ strOfNums (bys ((DV.sl none 0 S).cell i 0)) = strOfNums (bys ((DV.sl none 0 S').cell i 0)) := cv q (by kernel_rfl)
          exact q (congrArg strOfNums (eq1 m))
        · have q : ¬ ¬ strOfNums (bys ((DV.sl none 0 S).cell i 0)) = strOfNums (bys ((DV.sl none 0 S').cell i 0)) := cv q (by kernel_rfl)
          exact res_chk_of rfl (P := i + 1 ≤ (DV.sl none 0 S).len ∧ (secs (.sl none 0 S)).take (i + 1).toNat = (secs (.sl none 0 S')).take (i + 1).toNat) (a := ((DV.sl none 0 S).len - (i + 1)).toNat) (b := ((DV.sl none 0 S).len - i).toNat) (by kernel_rfl) (by kernel_rfl) (by kernel_rfl) ⟨by omega, nx1 (Classical.not_not.1 q)⟩ (by omega)
  have hge : ¬ i < (DV.sl none 0 S).len := cv hge (by kernel_rfl)
  have hsec : secs (.sl none 0 S) = secs (.sl none 0 S') := by
    rw [List.take_of_length_le (by omega), List.take_of_length_le (by omega)] at hI; exact hI
  refine res_lop_of rfl (P := (0 : Int) ≤ (DV.sl none 0 P).len ∧ (pens (.sl none 0 P)).take (0 : Int).toNat = (pens (.sl none 0 P')).take (0 : Int).toNat) (by kernel_rfl) rfl ⟨len_nn _, by simp⟩ (fun j j0 j1 hJ => ?_)
  obtain ⟨hj, hJ⟩ := cv hJ (by kernel_rfl : _ = (j ≤ (DV.sl none 0 P).len ∧ (pens (.sl none 0 P)).take j.toNat = (pens (.sl none 0 P')).take j.toNat))
  have j0 : 0 ≤ j := j0
  refine res_ite (fun hlt => ?_) fun hge2 => ?_
  · have hlt : j < (DV.sl none 0 P).len := cv hlt (by kernel_rfl)
    obtain ⟨e1, e2⟩ := pen_at hP j0 (by omega)
    obtain ⟨f1, f2⟩ := pen_at hP' j0 (by omega)
    have eq2 : (secs (.sl none 0 S), pens (.sl none 0 P), l, t) = (secs (.sl none 0 S'), pens (.sl none 0 P'), l', t') → (DV.sl none 0 P).at j 0 = (DV.sl none 0 P').at j 0 ∧ bys ((DV.sl none 0 P).cell j 1) = bys ((DV.sl none 0 P').cell j 1) := fun m => by
      have := (parts m).2.1
      rw [this, f1] at e1
      exact ⟨(Prod.mk.inj e1).1.symm, (Prod.mk.inj e1).2.symm⟩
    have nx2 : (DV.sl none 0 P).at j 0 = (DV.sl none 0 P').at j 0 → strOfNums (bys ((DV.sl none 0 P).cell j 1)) = strOfNums (bys ((DV.sl none 0 P').cell j 1)) → (pens (.sl none 0 P)).take (j + 1).toNat = (pens (.sl none 0 P')).take (j + 1).toNat := fun q1 q =>
      take_eq_next (0, []) j0 (by omega) (by omega) hJ (by have eb : bys ((DV.sl none 0 P).cell j 1) = bys ((DV.sl none 0 P').cell j 1) := strNums_inj (bytes_in e2) (bytes_in f2) q; rw [e1, f1, q1, eb])
    refine res_ok (cv (⟨j0, by omega⟩ : 0 ≤ j ∧ j < (DV.sl none 0 P').len) (by kernel_rfl)) ?_
    refine res_both ?_ ?_
    · refine res_ite (fun q => ?_) fun q => no fun m => ?_
      · have q : (DV.sl none 0 P).at j 0 = (DV.sl none 0 P').at j 0 := cv q (by kernel_rfl)
        refine res_dat (.s (strOfNums (bys ((DV.sl none 0 P).cell j 1)))) (by kernel_rfl) ?_
        refine res_dat (.s (strOfNums (bys ((DV.sl none 0 P').cell j 1)))) (by kernel_rfl) ?_
        refine res_ite (fun q2 => no fun m => ?_) fun q2 => ?_
        · have q2 : ¬ strOfNums (bys ((DV.sl none 0 P).cell j 1)) = strOfNums (bys ((DV.sl none 0 P').cell j 1)) := cv q2 (by kernel_rfl)
          exact q2 (congrArg strOfNums (eq2 m).2)
        · have q2 : ¬ ¬ strOfNums (bys ((DV.sl none 0 P).cell j 1)) = strOfNums (bys ((DV.sl none 0 P').cell j 1)) := cv q2 (by kernel_rfl)
          exact res_chk_of rfl (P := j + 1 ≤ (DV.sl none 0 P).len ∧ (pens (.sl none 0 P)).take (j + 1).toNat = (pens (.sl none 0 P')).take (j + 1).toNat) (a := ((DV.sl none 0 P).len - (j + 1)).toNat) (b := ((DV.sl none 0 P).len - j).toNat) (by kernel_rfl) (by kernel_rfl) (by kernel_rfl) ⟨by omega, nx2 q (Classical.not_not.1 q2)⟩ (by omega)
      · have q : ¬ (DV.sl none 0 P).at j 0 = (DV.sl none 0 P').at j 0 := cv q (by kernel_rfl)
        exact q (eq2 m).1
    · refine res_ite (fun q => ?_) fun q => no fun m => ?_
      · have q : (DV.sl none 0 P).at j 0 = (DV.sl none 0 P').at j 0 := cv q (by kernel_rfl)
        refine res_dat (.s (strOfNums (bys ((DV.sl none 0 P').cell j 1)))) (by kernel_rfl) ?_
        refine res_dat (.s (strOfNums (bys ((DV.sl none 0 P).cell j 1)))) (by kernel_rfl) ?_
        refine res_ite (fun q2 => no fun m => ?_) fun q2 => ?_
        · have q2 : ¬ strOfNums (bys ((DV.sl none 0 P).cell j 1)) = strOfNums (bys ((DV.sl none 0 P').cell j 1)) := cv q2 (by kernel_rfl)
          exact q2 (congrArg strOfNums (eq2 m).2)
        · have q2 : ¬ ¬ strOfNums (bys ((DV.sl none 0 P).cell j 1)) = strOfNums (bys ((DV.sl none 0 P').cell j 1)) := cv q2 (by kernel_rfl)
          exact res_chk_of rfl (P := j + 1 ≤ (DV.sl none 0 P).len ∧ (pens (.sl none 0 P)).take (j + 1).toNat = (pens (.sl none 0 P')).take (j + 1).toNat) (a := ((DV.sl none 0 P).len - (j + 1)).toNat) (b := ((DV.sl none 0 P).len - j).toNat) (by kernel_rfl) (by kernel_rfl) (by kernel_rfl) ⟨by omega, nx2 q (Classical.not_not.1 q2)⟩ (by omega)
      · have q : ¬ (DV.sl none 0 P).at j 0 = (DV.sl none 0 P').at j 0 := cv q (by kernel_rfl)
        exact q (eq2 m).1
  have hge2 : ¬ j < (DV.sl none 0 P).len := cv hge2 (by kernel_rfl)
  have hpen : pens (.sl none 0 P) = pens (.sl none 0 P') := by
    rw [List.take_of_length_le (by omega), List.take_of_length_le (by omega)] at hJ; exact hJ
  exact yes (by rw [hsec, hpen, hl, ht])
theorem set_as {T : List (List DV)} {mx : Nat} (hT : HasSh (.sl mx [bytes]) (.sl none 0 T)) (i : Nat) (z : DV) : secs (.sl none 0 (T.modify i fun e => layG e 0 [z])) = (secs (.sl none 0 T)).set i (bys z) := by
  simp only [HasSh, DV.els] at hT
  simp only [secs, DV.els]
  apply List.ext_getElem?
  intro p
  rw [List.getElem?_map, List.getElem?_set, List.getElem?_modify, List.length_map, List.getElem?_map]
  by_cases hp : i = p
  · subst hp
    by_cases hl : i < T.length
    · obtain ⟨y, he, _⟩ := sec_in (hT.2 _ (List.getElem_mem hl))
      rw [List.getElem?_eq_getElem hl, he, if_pos rfl, if_pos hl]
      simp only [Option.map_eq_map, Option.map_some, if_true]
      rfl
    · rw [List.getElem?_eq_none (by omega), if_pos rfl, if_neg hl]
      rfl
  · rw [if_neg hp]
    cases T[p]? with
    | none => rfl
    | some x => simp only [Option.map_eq_map, Option.map_some, hp, if_false]
theorem secs_app (S : List (List DV)) (z : DV) : secs (.sl none 0 (S ++ [[z]])) = secs (.sl none 0 S) ++ [bys z] := by simp only [secs, DV.els, List.map_append]; rfl
theorem zero_as : numsOf (List.replicate (128 : Int).toNat [DV.n 0]) = zero128 := by
  unfold numsOf zero128
  rw [List.map_replicate]; rfl
theorem take_set {α : Type} {l : List α} {i : Int} (x : α) (h0 : 0 ≤ i) (h1 : i < l.length) : (l.set i.toNat x).take (i + 1).toNat = l.take i.toNat ++ [x] := by
  rw [take_next x h0 (by rw [List.length_set]; exact h1), List.take_set_of_le (Nat.le_refl _), List.getD_eq_getElem?_getD, List.getElem?_set_self (by omega)]
  rfl
set_option maxRecDepth 100000 in
theorem cNew_ok (N : Nat) (w0 : World) : ConOk Try.prog tb N w0 (cNew 12) := by
  refine con_of_walk (tb := tb) fine (C := [lNew]) (lopCons rfl noCon) 120 rfl ?_ N w0
  refine fun n _ _ _ => ?_
  rw [tree_new]
  show T.res _ (fun y => (d4 y 0, gi y 4) = newQ n) _ _
  refine res_ite (fun h => ?_) fun h => ?_
  · have h : n < 1 ∨ 4096 < n := cv h (by kernel_rfl)
    refine res_dat (.sl none 0 []) rfl (res_dat (.sl none 0 []) rfl ?_)
    exact cv (new_no fun m => by omega) (by kernel_rfl : (((nil4, 1) : D4 × Int) = newQ n) = _)
  have h : ¬ (n < 1 ∨ 4096 < n) := cv h (by kernel_rfl)
  refine res_dat (.sl none 0 (List.replicate n.toNat [.sl none 0 []])) (by kernel_rfl) ?_
  have e0 : (secs (.sl none 0 (List.replicate n.toNat [.sl none 0 []]))).length = n.toNat := by rw [secs_len, List.length_replicate]
  refine res_lop_of rfl (P := (0 : Int) ≤ n ∧ (secs (.sl none 0 (List.replicate n.toNat [.sl none 0 []]))).length = n.toNat ∧ (secs (.sl none 0 (List.replicate n.toNat [.sl none 0 []]))).take (0 : Int).toNat = List.replicate (0 : Int).toNat zero128) (by kernel_rfl) rfl ⟨by omega, e0, by simp⟩ (fun T hT i i0 i1 hI => ?_)
  obtain ⟨hi, hl, hI⟩ := cv hI (by kernel_rfl : _ = (i ≤ n ∧ (secs (.sl none 0 T)).length = n.toNat ∧ (secs (.sl none 0 T)).take i.toNat = List.replicate i.toNat zero128))
  have i0 : 0 ≤ i := i0
  have lT := len_of hT (Nat.le_refl _)
  have pT := secs_len T
  refine res_ite (fun hlt => ?_) fun hge => ?_
  · have hlt : i < n := cv hlt (by kernel_rfl)
    refine res_dat (.sl none 0 (List.replicate (128 : Int).toNat [.n 0])) (by kernel_rfl) ?_
    refine res_ok (cv (⟨i0, by omega⟩ : 0 ≤ i ∧ i < (DV.sl none 0 T).len) (by kernel_rfl)) ?_
    refine fun ad cap => ?_
    refine res_dat (.sl none 0 (T.modify i.toNat fun e => layG e 0 [.sl ad cap (List.replicate (128 : Int).toNat [.n 0])])) (by kernel_rfl) ?_
    have e1 := set_as hT i.toNat (.sl ad cap (List.replicate (128 : Int).toNat [.n 0]))
    have e2 : bys (.sl ad cap (List.replicate (128 : Int).toNat [.n 0])) = zero128 := zero_as
    rw [e2] at e1
    refine res_chk_of rfl (P := i + 1 ≤ n ∧ (secs (.sl none 0 (T.modify i.toNat fun e => layG e 0 [.sl ad cap (List.replicate (128 : Int).toNat [.n 0])]))).length = n.toNat ∧ (secs (.sl none 0 (T.modify i.toNat fun e => layG e 0 [.sl ad cap (List.replicate (128 : Int).toNat [.n 0])]))).take (i + 1).toNat = List.replicate (i + 1).toNat zero128) (a := (n - (i + 1)).toNat) (b := (n - i).toNat) (by kernel_rfl) (by kernel_rfl) (by kernel_rfl) ⟨by omega, by rw [e1, List.length_set, hl], ?_⟩ (by omega)
    rw [e1, take_set _ i0 (by omega), hI, show (i + 1).toNat = i.toNat + 1 by omega, List.replicate_succ']
  have hge : ¬ i < n := cv hge (by kernel_rfl)
  refine res_dat (.sl none 0 []) rfl ?_
  refine cv (?_ : (((secs (.sl none 0 T), [], -1, 0), 0) : D4 × Int) = newQ n) (by kernel_rfl)
  rw [List.take_of_length_le (by omega), show i = n by omega] at hI
  rw [hI]
  exact new_yes (by omega)
set_option maxRecDepth 100000 in
theorem cNewR_ok (N : Nat) (w0 : World) : ConOk Try.prog tb N w0 (cNew 13) := by
  refine con_of_walk (tb := tb) fine (C := [lNewR]) (lopCons rfl noCon) 120 rfl ?_ N w0
  refine fun n _ _ _ => ?_
  rw [tree_newR]
  show T.res _ (fun y => (d4 y 0, gi y 4) = newQ n) _ _
  refine res_ite (fun h => ?_) fun h => ?_
  · have h : n < 1 ∨ 4096 < n := cv h (by kernel_rfl)
    refine res_dat (.sl none 0 []) rfl (res_dat (.sl none 0 []) rfl ?_)
    exact cv (new_no fun m => by omega) (by kernel_rfl : (((nil4, 1) : D4 × Int) = newQ n) = _)
  have h : ¬ (n < 1 ∨ 4096 < n) := cv h (by kernel_rfl)
  refine res_dat (.sl none 0 []) (by kernel_rfl) ?_
  refine res_lop_of rfl (P := (0 : Int) ≤ n ∧ secs (.sl none 0 []) = List.replicate (0 : Int).toNat zero128) (by kernel_rfl) rfl ⟨by omega, rfl⟩ (fun T hT i i0 i1 hI => ?_)
  obtain ⟨hi, hI⟩ := cv hI (by kernel_rfl : _ = (i ≤ n ∧ secs (.sl none 0 T) = List.replicate i.toNat zero128))
  have i0 : 0 ≤ i := i0
  have lT := len_of hT (Nat.le_refl _)
  have pT := secs_len T
  rw [hI, List.length_replicate] at pT
  refine res_ite (fun hlt => ?_) fun hge => ?_
  · have hlt : i < n := cv hlt (by kernel_rfl)
    refine res_dat (.sl none 0 (List.replicate (128 : Int).toNat [.n 0])) (by kernel_rfl) ?_
    refine fun ad cap => res_ok (cv (by omega : (DV.sl none 0 T).len + 1 ≤ 5629499534213) (by kernel_rfl)) ?_
    refine res_dat (.sl none 0 [[.sl ad cap (List.replicate (128 : Int).toNat [.n 0])]]) (by kernel_rfl) (res_dat (.sl none 0 (T ++ [[.sl ad cap (List.replicate (128 : Int).toNat [.n 0])]])) (by kernel_rfl) ?_)
    refine res_chk_of rfl (P := i + 1 ≤ n ∧ secs (.sl none 0 (T ++ [[.sl ad cap (List.replicate (128 : Int).toNat [.n 0])]])) = List.replicate (i + 1).toNat zero128) (a := (n - (i + 1)).toNat) (b := (n - i).toNat) (by kernel_rfl) (by kernel_rfl) (by kernel_rfl) ⟨by omega, ?_⟩ (by omega)
    have e2 : bys (.sl ad cap (List.replicate (128 : Int).toNat [.n 0])) = zero128 := zero_as
    rw [secs_app, e2, hI, show (i + 1).toNat = i.toNat + 1 by omega, List.replicate_succ']
  have hge : ¬ i < n := cv hge (by kernel_rfl)
  refine res_dat (.sl none 0 []) rfl ?_
  refine cv (?_ : (((secs (.sl none 0 T), [], -1, 0), 0) : D4 × Int) = newQ n) (by kernel_rfl)
  rw [hI, show i = n by omega]
  exact new_yes (by omega)
end Go.Proofs.Ytdhdpgdifphfkaa
