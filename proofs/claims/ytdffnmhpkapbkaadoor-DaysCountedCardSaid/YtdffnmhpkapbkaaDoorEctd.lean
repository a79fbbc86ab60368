/- DERIVED. Members, edges, numbers put in: contracts. -/
import Derived.Test.YtdffnmhpkapbkaaDoorEmathr
import Derived.Test.YtdffnmhpkapbkaaDoorEtreeg
namespace Go.Proofs.YtdffnmhpkapbkaaDoor
open Go.Dx
set_option linter.unusedVariables false
theorem wW {x : Int} (h : -9223372036854775808 ≤ x) (k : x ≤ 9223372036854775807) : IntKind.i64.wrap x = x :=
  wrap_in .i64 x (by simpa [kmin, IntKind.signed, IntKind.bits] using h) (by simpa [kmax, IntKind.signed, IntKind.bits] using k)
theorem len_of {d : List (List DV)} {mx : Nat} {row : List Sh} (h : HasSh (.sl mx row) (.sl none 0 d)) (k : mx ≤ 9223372036854775807) : (DV.sl none 0 d).len = d.length := clampL_eq (show d.length ≤ 9223372036854775807 from Nat.le_trans h.1 k)
set_option maxRecDepth 100000 in
theorem cHas_ok (N : Nat) (w0 : World) : ConOk Tryd.prog tb N w0 (cHas 52) := by
  refine con_of_walk (tb := tb) fine (C := [lHas 2 28 5]) (lopCons rfl noCon) 100 rfl ?_ N w0
  refine fun a ha n n0 n1 _ => ?_
  have la := len_of ha (Nat.le_refl _)
  clear ha
  rw [tree_has]
  show T.res _ (fun y => y = yn (Mem n (spn (.sl none 0 a)))) _ _
  refine res_lop rfl (show (0 : Int) ≤ (DV.sl none 0 a).len ∧ ¬ Mem n ((spn (.sl none 0 a)).take (0 : Int).toNat) from ⟨by omega, mem_nil⟩) (fun i i0 i1 hI => ?_)
  obtain ⟨hi, hm⟩ : i ≤ (DV.sl none 0 a).len ∧ ¬ Mem n ((spn (.sl none 0 a)).take i.toNat) := hI
  refine res_ite (fun hl => ?_) fun hl => ?_
  · have hl : i < (DV.sl none 0 a).len := hl
    refine res_ite (fun z => yn_yes ?_) fun z => ?_
    · have z : (DV.sl none 0 a).at i 0 ≤ n ∧ n ≤ (DV.sl none 0 a).at i 1 := z
      exact ⟨_, spn_mem (d := .sl none 0 a) i0 (show i < a.length by omega), z.1, z.2⟩
    · have z : ¬ ((DV.sl none 0 a).at i 0 ≤ n ∧ n ≤ (DV.sl none 0 a).at i 1) := z
      refine res_chk rfl (show i + 1 ≤ (DV.sl none 0 a).len ∧ ¬ Mem n ((spn (.sl none 0 a)).take (i + 1).toNat) from ⟨by omega, fun q => ?_⟩) (show ((DV.sl none 0 a).len - (i + 1)).toNat < ((DV.sl none 0 a).len - i).toNat by omega)
      rw [spn_take (d := .sl none 0 a) i0 (show i < a.length by omega), mem_app, mem_cons] at q
      exact q.elim hm fun q => q.elim z mem_nil
  · have hl : ¬ i < (DV.sl none 0 a).len := hl
    rw [spn_all (d := .sl none 0 a) (show i = (a.length : Int) by omega)] at hm
    exact yn_no hm
set_option maxRecDepth 100000 in
theorem cHasL_ok (N : Nat) (w0 : World) : ConOk Tryd.prog tb N w0 (cHas 31) := by
  refine con_of_walk (tb := tb) fine (C := [lHas 2 24 9]) (lopCons rfl noCon) 100 rfl ?_ N w0
  refine fun a ha n n0 n1 _ => ?_
  have la := len_of ha (Nat.le_refl _)
  clear ha
  rw [tree_lhas]
  show T.res _ (fun y => y = yn (Mem n (spn (.sl none 0 a)))) _ _
  refine res_lop rfl (show (0 : Int) ≤ (DV.sl none 0 a).len ∧ ¬ Mem n ((spn (.sl none 0 a)).take (0 : Int).toNat) from ⟨by omega, mem_nil⟩) (fun i i0 i1 hI => ?_)
  obtain ⟨hi, hm⟩ : i ≤ (DV.sl none 0 a).len ∧ ¬ Mem n ((spn (.sl none 0 a)).take i.toNat) := hI
  refine res_ite (fun hl => ?_) fun hl => ?_
  · have hl : i < (DV.sl none 0 a).len := hl
    refine res_ite (fun z => yn_yes ?_) fun z => ?_
    · have z : (DV.sl none 0 a).at i 0 ≤ n ∧ n ≤ (DV.sl none 0 a).at i 1 := z
      exact ⟨_, spn_mem (d := .sl none 0 a) i0 (show i < a.length by omega), z.1, z.2⟩
    · have z : ¬ ((DV.sl none 0 a).at i 0 ≤ n ∧ n ≤ (DV.sl none 0 a).at i 1) := z
      refine res_chk rfl (show i + 1 ≤ (DV.sl none 0 a).len ∧ ¬ Mem n ((spn (.sl none 0 a)).take (i + 1).toNat) from ⟨by omega, fun q => ?_⟩) (show ((DV.sl none 0 a).len - (i + 1)).toNat < ((DV.sl none 0 a).len - i).toNat by omega)
      rw [spn_take (d := .sl none 0 a) i0 (show i < a.length by omega), mem_app, mem_cons] at q
      exact q.elim hm fun q => q.elim z mem_nil
  · have hl : ¬ i < (DV.sl none 0 a).len := hl
    rw [spn_all (d := .sl none 0 a) (show i = (a.length : Int) by omega)] at hm
    exact yn_no hm

set_option maxRecDepth 100000 in
theorem cIn_ok (N : Nat) (w0 : World) : ConOk Tryd.prog tb N w0 (cIn 47) := by
  refine con_of_walk (tb := tb) fine (C := [cHas 52]) (conCons cHas_ok noCon) 100 rfl ?_ N w0
  refine fun a ha b hb o o0 o1 n n0 n1 _ => ?_
  clear ha hb
  rw [tree_in]
  show T.res _ (fun y => y = yn (if o = 1 then (Mem n (spn (.sl none 0 a)) ∨ Mem n (spn (.sl none 0 b))) else if o = 2 then (Mem n (spn (.sl none 0 a)) ∧ Mem n (spn (.sl none 0 b))) else (Mem n (spn (.sl none 0 a)) ∧ ¬ Mem n (spn (.sl none 0 b))))) _ _
  refine res_ite (fun h => ?_) fun h => ?_
  · have h : o = 1 := h
    rw [if_pos h]
    refine res_con rfl trivial (fun x _ _ hx => ?_)
    have hx := yn_in (show [DV.n x] = yn (Mem n (spn (.sl none 0 a))) from hx)
    refine res_ite (fun z => ?_) fun z => ?_
    · have z : x = 0 := z
      refine res_con rfl trivial (fun y _ _ hy => ?_)
      have hy : [DV.n y] = yn (Mem n (spn (.sl none 0 b))) := hy
      show [DV.n y] = _
      rw [hy]
      have : ¬ Mem n (spn (.sl none 0 a)) := hx.elim (fun q => by omega) fun q => q.2
      congr 1
      exact propext ⟨.inr, fun q => q.elim (fun q => absurd q this) id⟩
    · have z : ¬ x = 0 := z
      exact yn_yes (.inl (hx.elim (fun q => q.2) fun q => absurd q.1 z))
  · have h : ¬ o = 1 := h
    rw [if_neg h]
    refine res_ite (fun h => ?_) fun h => ?_
    · have h : o = 2 := h
      rw [if_pos h]
      refine res_con rfl trivial (fun x _ _ hx => ?_)
      have hx := yn_in (show [DV.n x] = yn (Mem n (spn (.sl none 0 a))) from hx)
      refine res_ite (fun z => ?_) fun z => ?_
      · have z : ¬ x = 0 := z
        refine res_con rfl trivial (fun y _ _ hy => ?_)
        have hy : [DV.n y] = yn (Mem n (spn (.sl none 0 b))) := hy
        show [DV.n y] = _
        rw [hy]
        have : Mem n (spn (.sl none 0 a)) := hx.elim (fun q => q.2) fun q => absurd q.1 z
        congr 1
        exact propext ⟨fun q => ⟨this, q⟩, fun q => q.2⟩
      · have z : ¬ ¬ x = 0 := z
        exact yn_no fun q => hx.elim (fun r => by omega) fun r => r.2 q.1
    · have h : ¬ o = 2 := h
      rw [if_neg h]
      refine res_con rfl trivial (fun x _ _ hx => ?_)
      have hx := yn_in (show [DV.n x] = yn (Mem n (spn (.sl none 0 a))) from hx)
      refine res_ite (fun z => ?_) fun z => ?_
      · have z : ¬ x = 0 := z
        have ma : Mem n (spn (.sl none 0 a)) := hx.elim (fun q => q.2) fun q => absurd q.1 z
        refine res_con rfl trivial (fun y _ _ hy => ?_)
        have hy := yn_in (show [DV.n y] = yn (Mem n (spn (.sl none 0 b))) from hy)
        refine res_ite (fun z2 => ?_) fun z2 => ?_
        · have z2 : y = 0 := z2
          exact yn_yes ⟨ma, hy.elim (fun q => by omega) fun q => q.2⟩
        · have z2 : ¬ y = 0 := z2
          exact yn_no fun q => hy.elim (fun r => q.2 r.2) fun r => z2 r.1
      · have z : ¬ ¬ x = 0 := z
        exact yn_no fun q => hx.elim (fun r => by omega) fun r => r.2 q.1
set_option maxRecDepth 100000 in
theorem cSam_ok (N : Nat) (w0 : World) : ConOk Tryd.prog tb N w0 (cSam 29) := by
  refine con_of_walk (tb := tb) fine (C := [lSam]) (lopCons rfl noCon) 100 rfl ?_ N w0
  refine fun a ha b hb _ => ?_
  have la := len_of ha (Nat.le_refl _)
  have lb := len_of hb (Nat.le_refl _)
  clear ha hb
  rw [tree_sam]
  show T.res _ (fun y => y = yn (spn (.sl none 0 a) = spn (.sl none 0 b))) _ _
  have ea : (spn (.sl none 0 a)).length = a.length := spn_len _
  have eb : (spn (.sl none 0 b)).length = b.length := spn_len _
  refine res_ite (fun h => yn_no fun q => ?_) fun h => ?_
  · have h : ¬ (DV.sl none 0 a).len = (DV.sl none 0 b).len := h
    rw [q] at ea
    omega
  have h := Classical.not_not.1 (show ¬ ¬ (DV.sl none 0 a).len = (DV.sl none 0 b).len from h)
  refine res_lop rfl (show (0 : Int) ≤ (DV.sl none 0 a).len ∧ (spn (.sl none 0 a)).take (0 : Int).toNat = (spn (.sl none 0 b)).take (0 : Int).toNat from ⟨by omega, by simp⟩) (fun i i0 i1 hI => ?_)
  obtain ⟨hi, ht⟩ : i ≤ (DV.sl none 0 a).len ∧ (spn (.sl none 0 a)).take i.toNat = (spn (.sl none 0 b)).take i.toNat := hI
  refine res_ite (fun hl => ?_) fun hl => ?_
  · have hl : i < (DV.sl none 0 a).len := hl
    refine res_ok (show 0 ≤ i ∧ i < (DV.sl none 0 b).len by omega) ?_
    have sa := spn_take (d := .sl none 0 a) i0 (show i < a.length by omega)
    have sb := spn_take (d := .sl none 0 b) i0 (show i < b.length by omega)
    refine res_ite (fun z => yn_no fun q => ?_) fun z => ?_
    · have z : ¬ ((DV.sl none 0 a).at i 0 = (DV.sl none 0 b).at i 0 ∧ (DV.sl none 0 a).at i 1 = (DV.sl none 0 b).at i 1) := z
      rw [q, sb] at sa
      have := List.append_inj_right sa rfl
      simp only [List.cons.injEq, Prod.mk.injEq, and_true] at this
      exact z ⟨this.1.symm, this.2.symm⟩
    · have z := Classical.not_not.1 (show ¬ ¬ ((DV.sl none 0 a).at i 0 = (DV.sl none 0 b).at i 0 ∧ (DV.sl none 0 a).at i 1 = (DV.sl none 0 b).at i 1) from z)
      exact res_chk rfl (show i + 1 ≤ (DV.sl none 0 a).len ∧ (spn (.sl none 0 a)).take (i + 1).toNat = (spn (.sl none 0 b)).take (i + 1).toNat from ⟨by omega, by rw [sa, sb, ht, z.1, z.2]⟩) (show ((DV.sl none 0 a).len - (i + 1)).toNat < ((DV.sl none 0 a).len - i).toNat by omega)
  · have hl : ¬ i < (DV.sl none 0 a).len := hl
    refine yn_yes ?_
    rw [spn_all (d := .sl none 0 a) (show i = (a.length : Int) by omega), spn_all (d := .sl none 0 b) (show i = (b.length : Int) by omega)] at ht
    exact ht
set_option maxRecDepth 100000 in
theorem cEdg_ok (N : Nat) (w0 : World) : ConOk Tryd.prog tb N w0 (cEdg 49) := by
  refine con_of_walk (tb := tb) fine (C := [lEdg]) (lopCons rfl noCon) 100 rfl ?_ N w0
  refine fun a ha hpre => ?_
  have la := len_of ha (Nat.le_refl _)
  clear ha
  obtain ⟨h256, hall⟩ : Rgt (.sl none 0 a) := hpre
  rw [tree_edg]
  show T.res _ (fun y => ivl (dv y 0) = edges (spn (.sl none 0 a))) _ _
  refine res_dat (.sl none 0 []) rfl ?_
  refine res_lop rfl (show (0 : Int) ≤ (DV.sl none 0 a).len ∧ ivl (.sl none 0 []) = edges ((spn (.sl none 0 a)).take (0 : Int).toNat) from ⟨by omega, by simp [ivl, edges, DV.els]⟩) (fun o ho i i0 i1 hI => ?_)
  obtain ⟨hi, ht⟩ : i ≤ (DV.sl none 0 a).len ∧ ivl (.sl none 0 o) = edges ((spn (.sl none 0 a)).take i.toNat) := hI
  have lo := len_of ho (Nat.le_refl _)
  have el : o.length = 2 * i.toNat := by
    have e1 : (ivl (.sl none 0 o)).length = o.length := ivl_len _
    have e2 : ∀ l : Sp, (edges l).length = 2 * l.length := fun l => by
      induction l with
      | nil => rfl
      | cons p r ih => obtain ⟨x, y⟩ := p; show (edges r).length + 1 + 1 = 2 * (r.length + 1); omega
    rw [ht, e2, List.length_take, spn_len] at e1
    have : (DV.sl none 0 a).els.length = a.length := rfl
    omega
  clear ho
  refine res_ite (fun hl => ?_) fun hl => ?_
  · have hl : i < (DV.sl none 0 a).len := hl
    have q := (hall i i0 hl).2
    have q1 := (hall i i0 hl).1.2
    have q0 : 0 ≤ (DV.sl none 0 a).at i 0 := by
      have hc := ((alls_iff la).1 hall).1
      exact Can.le hc ⟨_, spn_mem (d := .sl none 0 a) i0 (show i < a.length by omega), Int.le_refl _, q1⟩
    refine res_ok (show (DV.sl none 0 o).len + 2 ≤ 15637498706147 by omega) ?_
    have w : IntKind.i64.wrap ((DV.sl none 0 a).at i 1 + 1) = (DV.sl none 0 a).at i 1 + 1 := wW (by omega) (by omega)
    refine res_dat (.sl none 0 [[.n ((DV.sl none 0 a).at i 0)], [.n (IntKind.i64.wrap ((DV.sl none 0 a).at i 1 + 1))]]) rfl ?_
    refine res_dat (.sl none 0 (o ++ [[.n ((DV.sl none 0 a).at i 0)], [.n (IntKind.i64.wrap ((DV.sl none 0 a).at i 1 + 1))]])) rfl ?_
    rw [w]
    refine res_chk rfl (show i + 1 ≤ (DV.sl none 0 a).len ∧ ivl (.sl none 0 (o ++ [[.n ((DV.sl none 0 a).at i 0)], [.n ((DV.sl none 0 a).at i 1 + 1)]])) = edges ((spn (.sl none 0 a)).take (i + 1).toNat) from ⟨by omega, ?_⟩) (show ((DV.sl none 0 a).len - (i + 1)).toNat < ((DV.sl none 0 a).len - i).toNat by omega)
    have e3 : ∀ (l : Sp) (x y : Int), edges (l ++ [(x, y)]) = edges l ++ [x, y + 1] := fun l x y => by
      induction l with
      | nil => rfl
      | cons p r ih => obtain ⟨u, v⟩ := p; show u :: (v + 1) :: edges (r ++ [(x, y)]) = _; rw [ih]; rfl
    rw [spn_take (d := .sl none 0 a) i0 (show i < a.length by omega), e3, ← ht]
    rw [show o ++ [[DV.n ((DV.sl none 0 a).at i 0)], [.n ((DV.sl none 0 a).at i 1 + 1)]] = (o ++ [[DV.n ((DV.sl none 0 a).at i 0)]]) ++ [[.n ((DV.sl none 0 a).at i 1 + 1)]] by simp]
    rw [ivl_app _ _ (by omega), ivl_app _ _ (by omega)]
    simp
  · have hl : ¬ i < (DV.sl none 0 a).len := hl
    show ivl (.sl none 0 o) = _
    rw [ht, spn_all (d := .sl none 0 a) (show i = (a.length : Int) by omega)]
end Go.Proofs.YtdffnmhpkapbkaaDoor
