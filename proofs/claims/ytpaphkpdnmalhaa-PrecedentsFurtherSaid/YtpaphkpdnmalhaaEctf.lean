/- DERIVED. Few cases. -/
import Derived.Test.YtpaphkpdnmalhaaEtreei
import Derived.Test.YtpaphkpdnmalhaaEcte
namespace Go.Proofs.Ytpaphkpdnmalhaa
open Go.Dx Go.RowKit
set_option linter.unusedVariables false
set_option maxRecDepth 100000 in
theorem cFew_ok (N : Nat) (w0 : World) : ConOk Try.prog tb N w0 (cFew 10) := by
  refine con_of_walk (tb := tb) fine (C := [lFewP]) (lopCons rfl noCon) 200 rfl ?_ N w0
  refine fun S hS C hC _ => ?_
  clear hS hC
  rw [tree_few]
  show T.res _ (fun y => y = yn (FewP (.sl none 0 S) (.sl none 0 C))) _ _
  have l0 := len_nn (.sl none 0 C)
  refine res_ite (fun q => no fun y => y.1 q) fun q => ?_
  refine res_lop rfl (show (0 : Int) ≤ (DV.sl none 0 C).len ∧ ∀ i : Nat, i < (0 : Int).toNat → ¬ (60 < ((DV.sl none 0 C).cell i 3).len ∨ 60 < ((DV.sl none 0 C).cell i 4).len) from ⟨l0, fun i h => absurd h (Nat.not_lt_zero i)⟩) (fun i i0 i1 hI => ?_)
  obtain ⟨hi, hp⟩ : i ≤ (DV.sl none 0 C).len ∧ ∀ j : Nat, j < i.toNat → ¬ (60 < ((DV.sl none 0 C).cell j 3).len ∨ 60 < ((DV.sl none 0 C).cell j 4).len) := hI
  refine res_ite (fun hlt => ?_) fun hge => ?_
  · have hlt : i < (DV.sl none 0 C).len := hlt
    refine res_ite (fun z => no fun y => ?_) fun z => ?_
    · have z : 60 < ((DV.sl none 0 C).cell i 3).len ∨ 60 < ((DV.sl none 0 C).cell i 4).len := z
      refine y.2 i.toNat (by omega) ?_
      rw [show ((i.toNat : Nat) : Int) = i by omega]
      exact z
    · have z : ¬ (60 < ((DV.sl none 0 C).cell i 3).len ∨ 60 < ((DV.sl none 0 C).cell i 4).len) := z
      refine res_chk rfl (show i + 1 ≤ (DV.sl none 0 C).len ∧ ∀ j : Nat, j < (i + 1).toNat → ¬ (60 < ((DV.sl none 0 C).cell j 3).len ∨ 60 < ((DV.sl none 0 C).cell j 4).len) from ⟨by omega, fun j hj => ?_⟩) (show ((DV.sl none 0 C).len - (i + 1)).toNat < ((DV.sl none 0 C).len - i).toNat by omega)
      by_cases e : j < i.toNat
      · exact hp j e
      · rw [show (j : Int) = i by omega]; exact z
  · have hge : ¬ i < (DV.sl none 0 C).len := hge
    exact yes ⟨q, by rw [show (DV.sl none 0 C).len = i by omega]; exact hp⟩
theorem cBad_ok (f : FuncId) (N : Nat) (w0 : World) : ConOk Try.prog tb N w0 (cBad f) := fun _ _ _ _ _ _ _ hp _ _ => hp.elim

set_option maxRecDepth 100000 in
theorem chk_narrow (N : Nat) (w0 : World) {a b : Int} {p : List DV → Prop} (h : ∀ xs, p xs → a ≤ chkF (gd xs 0) (gd xs 1) ∧ chkF (gd xs 0) (gd xs 1) ≤ b) :
    ConOk Try.prog tb N w0 { f := 14, args := [.agg book], res := [.one ⟨.int .i64 a b, none⟩], pre := p, post := fun _ _ => True } := by
  intro hl F xs vs w hF ha hp hb hg
  refine Calls.mono (cChkR_ok N w0 rfl F xs vs w hF ha trivial hb hg) ?_
  rintro e w' ⟨ys, cs, h1, h2, h3, h4, h5, h6⟩
  have h2 : ys = [.n (chkF (gd xs 0) (gd xs 1))] := h2
  subst h2
  have hb := h xs hp
  have h3 : ResA w.heap.size w' (Rz F [⟨i64s, none⟩] cs) [⟨i64s, none⟩] [.n (chkF (gd xs 0) (gd xs 1))] cs := h3
  have h4 : Apart (ownV [⟨i64s, none⟩] cs) := h4
  have h5 : e = .returned (packR [.one ⟨i64s, none⟩] cs) := h5
  cases cs with
  | nil => exact h3.elim
  | cons v t => cases t with
    | cons _ _ => exact h3.2.elim
    | nil =>
      obtain ⟨q1, q2⟩ := h3.1
      refine ⟨[.n (chkF (gd xs 0) (gd xs 1))], [v], ?_, trivial, ?_, h4, h5, h6⟩
      · show (VD.i a b).ok (.n (chkF (gd xs 0) (gd xs 1))) ∧ True
        exact ⟨⟨_, rfl, hb.1, hb.2⟩, trivial⟩
      · exact ⟨⟨⟨_, rfl, hb.1, hb.2⟩, q2⟩, trivial⟩
theorem chk_small (S C : DV) : 0 ≤ chkF S C ∧ chkF S C ≤ 600 := by
  unfold chkF
  split
  · omega
  · split <;> omega
theorem cChk0_ok (N : Nat) (w0 : World) : ConOk Try.prog tb N w0 (cChk0 14) := chk_narrow N w0 fun xs hp => by
  have hp : chkF (gd xs 0) (gd xs 1) = 0 := hp
  omega
theorem cChkN_ok (N : Nat) (w0 : World) : ConOk Try.prog tb N w0 (cChkN 14) := chk_narrow N w0 fun xs hp => by
  have hp : chkF (gd xs 0) (gd xs 1) ≠ 0 := hp
  have := chk_small (gd xs 0) (gd xs 1)
  omega
end Go.Proofs.Ytpaphkpdnmalhaa
