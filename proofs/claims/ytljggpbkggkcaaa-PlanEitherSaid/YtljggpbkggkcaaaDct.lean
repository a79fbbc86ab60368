/- DERIVED. Courses are checked: the contracts, proved. -/
import Derived.Test.YtljggpbkggkcaaaDmath
import Derived.Test.YtljggpbkggkcaaaDtree
namespace Go.Proofs.Ytljggpbkggkcaaa
open Go.Dx
set_option linter.unusedVariables false
set_option linter.unusedSimpArgs false
theorem cChk_ok (N : Nat) (w0 : World) : ConOk Try.prog tb N w0 (cChk 14) := by
  refine con_of_walk (tb := tb) fine (C := [lChk]) (lopCons rfl noCon) 80 rfl ?_ N w0
  refine fun cap _ _ st _ _ fl _ _ P hP _ => ?_
  clear hP
  rw [tree_chk]
  have l0 := len_nn (.sl none 0 P)
  show T.res [lChk] (fun y => y = [.n (chkF ⟨cap, st, fl, .sl none 0 P⟩)]) _ _
  refine res_ite (fun h => chk_long h) fun h => ?_
  have bad : ∀ q : ¬ rightC ⟨cap, st, fl, .sl none 0 P⟩, [DV.n 390] = [DV.n (chkF ⟨cap, st, fl, .sl none 0 P⟩)] := fun q => chk_bad h q
  refine res_ite (fun k => bad fun q => ?_) fun k1 => res_ite (fun k => bad fun q => ?_) fun k2 => res_ite (fun k => bad fun q => ?_) fun k3 => ?_
  · have k : cap < 0 ∨ 1099511627776 < cap := k
    have := q.1; dsimp only at this; omega
  · have k : st < 0 ∨ cap < st := k
    have := q.1; dsimp only at this; omega
  · have k : fl < 0 ∨ cap < fl := k
    have := q.1; dsimp only at this; omega
  have k1 : ¬ (cap < 0 ∨ 1099511627776 < cap) := k1
  have k2 : ¬ (st < 0 ∨ cap < st) := k2
  have k3 : ¬ (fl < 0 ∨ cap < fl) := k3
  refine res_lop rfl (show (0 : Int) ≤ (DV.sl none 0 P).len ∧ persOk (.sl none 0 P) (0 : Int).toNat from ⟨l0, fun k hk => absurd hk (by simp)⟩) ?_
  refine fun x x0 _ hI => ?_
  obtain ⟨hx, hp⟩ : x ≤ (DV.sl none 0 P).len ∧ persOk (.sl none 0 P) x.toNat := hI
  refine res_ite (fun hlt => ?_) fun hge => chk_fine h ?_
  case refine_2 =>
    have hge : ¬ x < (DV.sl none 0 P).len := hge
    refine ⟨⟨by dsimp only; omega, by dsimp only; omega, by dsimp only; omega⟩, ?_⟩
    dsimp only
    rw [show (DV.sl none 0 P).len.toNat = x.toNat by omega]; exact hp
  have hlt : x < (DV.sl none 0 P).len := hlt
  generalize hL : DV.sl none 0 P = L at *
  have bad2 : ¬ perOk L x → [DV.n 390] = [DV.n (chkF ⟨cap, st, fl, L⟩)] := fun q => bad (not_per (c := ⟨cap, st, fl, L⟩) x0 hlt q)
  subst hL
  refine res_ite (fun k => bad2 fun q => ?_) fun j1 => res_ite (fun k => bad2 fun q => ?_) fun j2 => res_ite (fun k => bad2 fun q => ?_) fun j3 => res_ite (fun k => bad2 fun q => ?_) fun j4 => res_ite (fun k => bad2 fun q => ?_) fun j5 => ?_
  · have k : (DV.sl none 0 P).at x 1 < 0 ∨ 1099511627776 < (DV.sl none 0 P).at x 1 := k
    unfold perOk okN at q; omega
  · have k : (DV.sl none 0 P).at x 3 < 0 ∨ 1099511627776 < (DV.sl none 0 P).at x 3 := k
    unfold perOk okN at q; omega
  · have k : (DV.sl none 0 P).at x 4 < 0 ∨ 1099511627776 < (DV.sl none 0 P).at x 4 := k
    unfold perOk okN at q; omega
  · have k : (DV.sl none 0 P).at x 0 < 0 ∨ (DV.sl none 0 P).at x 1 < (DV.sl none 0 P).at x 0 := k
    unfold perOk okN at q; omega
  · have k : (DV.sl none 0 P).at x 2 < 0 ∨ (DV.sl none 0 P).at x 3 < (DV.sl none 0 P).at x 2 := k
    unfold perOk okN at q; omega
  have j1 : ¬ ((DV.sl none 0 P).at x 1 < 0 ∨ 1099511627776 < (DV.sl none 0 P).at x 1) := j1
  have j2 : ¬ ((DV.sl none 0 P).at x 3 < 0 ∨ 1099511627776 < (DV.sl none 0 P).at x 3) := j2
  have j3 : ¬ ((DV.sl none 0 P).at x 4 < 0 ∨ 1099511627776 < (DV.sl none 0 P).at x 4) := j3
  have j4 : ¬ ((DV.sl none 0 P).at x 0 < 0 ∨ (DV.sl none 0 P).at x 1 < (DV.sl none 0 P).at x 0) := j4
  have j5 : ¬ ((DV.sl none 0 P).at x 2 < 0 ∨ (DV.sl none 0 P).at x 3 < (DV.sl none 0 P).at x 2) := j5
  refine res_chk rfl ?_ ?_
  · show x + 1 ≤ (DV.sl none 0 P).len ∧ persOk (.sl none 0 P) (x + 1).toNat
    exact ⟨by omega, persOk_succ x0 hp (by unfold perOk okN; omega)⟩
  · show ((DV.sl none 0 P).len - (x + 1)).toNat < ((DV.sl none 0 P).len - x).toNat
    omega
theorem cChkR_ok (N : Nat) (w0 : World) : ConOk Try.prog tb N w0 (cChk 15) := by
  refine con_of_walk (tb := tb) fine (C := [lChkR]) (lopCons rfl noCon) 80 rfl ?_ N w0
  refine fun cap _ _ st _ _ fl _ _ P hP _ => ?_
  clear hP
  rw [tree_chkR]
  have l0 := len_nn (.sl none 0 P)
  show T.res [lChkR] (fun y => y = [.n (chkF ⟨cap, st, fl, .sl none 0 P⟩)]) _ _
  refine res_ite (fun h => chk_long h) fun h => ?_
  have bad : ∀ q : ¬ rightC ⟨cap, st, fl, .sl none 0 P⟩, [DV.n 390] = [DV.n (chkF ⟨cap, st, fl, .sl none 0 P⟩)] := fun q => chk_bad h q
  refine res_ite (fun k => bad fun q => ?_) fun k1 => ?_
  · have k : (¬ (0 ≤ st ∧ st ≤ cap) ∨ 1099511627776 < cap) ∨ ¬ (0 ≤ fl ∧ fl ≤ cap) := k
    have := q.1; dsimp only at this; omega
  have k1 : ¬ ((¬ (0 ≤ st ∧ st ≤ cap) ∨ 1099511627776 < cap) ∨ ¬ (0 ≤ fl ∧ fl ≤ cap)) := k1
  refine res_lop rfl (show (0 : Int) ≤ (DV.sl none 0 P).len ∧ persOk (.sl none 0 P) (0 : Int).toNat from ⟨l0, fun k hk => absurd hk (by simp)⟩) ?_
  refine fun x x0 _ hI => ?_
  obtain ⟨hx, hp⟩ : x ≤ (DV.sl none 0 P).len ∧ persOk (.sl none 0 P) x.toNat := hI
  refine res_ite (fun hlt => ?_) fun hge => chk_fine h ?_
  case refine_2 =>
    have hge : ¬ x < (DV.sl none 0 P).len := hge
    refine ⟨⟨by dsimp only; omega, by dsimp only; omega, by dsimp only; omega⟩, ?_⟩
    dsimp only
    rw [show (DV.sl none 0 P).len.toNat = x.toNat by omega]; exact hp
  have hlt : x < (DV.sl none 0 P).len := hlt
  refine res_ite (fun k => bad (not_per (c := ⟨cap, st, fl, .sl none 0 P⟩) x0 hlt fun q => ?_)) fun j => ?_
  · have k : (((¬ (0 ≤ (DV.sl none 0 P).at x 0 ∧ (DV.sl none 0 P).at x 0 ≤ (DV.sl none 0 P).at x 1) ∨ 1099511627776 < (DV.sl none 0 P).at x 1) ∨ ¬ (0 ≤ (DV.sl none 0 P).at x 2 ∧ (DV.sl none 0 P).at x 2 ≤ (DV.sl none 0 P).at x 3)) ∨ 1099511627776 < (DV.sl none 0 P).at x 3) ∨ ¬ (0 ≤ (DV.sl none 0 P).at x 4 ∧ (DV.sl none 0 P).at x 4 ≤ 1099511627776) := k
    unfold perOk okN at q; dsimp only at q; omega
  have j : ¬ ((((¬ (0 ≤ (DV.sl none 0 P).at x 0 ∧ (DV.sl none 0 P).at x 0 ≤ (DV.sl none 0 P).at x 1) ∨ 1099511627776 < (DV.sl none 0 P).at x 1) ∨ ¬ (0 ≤ (DV.sl none 0 P).at x 2 ∧ (DV.sl none 0 P).at x 2 ≤ (DV.sl none 0 P).at x 3)) ∨ 1099511627776 < (DV.sl none 0 P).at x 3) ∨ ¬ (0 ≤ (DV.sl none 0 P).at x 4 ∧ (DV.sl none 0 P).at x 4 ≤ 1099511627776)) := j
  refine res_chk rfl ?_ ?_
  · show x + 1 ≤ (DV.sl none 0 P).len ∧ persOk (.sl none 0 P) (x + 1).toNat
    exact ⟨by omega, persOk_succ x0 hp (by unfold perOk okN; omega)⟩
  · show ((DV.sl none 0 P).len - (x + 1)).toNat < ((DV.sl none 0 P).len - x).toNat
    omega
end Go.Proofs.Ytljggpbkggkcaaa
