/- DERIVED. Choices: the contracts, proved. -/
import Derived.Test.YtljggpbkggkcaaaDmathc
import Derived.Test.YtljggpbkggkcaaaDcong
import Derived.Test.YtljggpbkggkcaaaDtreet
namespace Go.Proofs.Ytljggpbkggkcaaa
open Go.Dx
set_option linter.unusedVariables false
set_option linter.unusedSimpArgs false
theorem cAt_ok (N : Nat) (w0 : World) : ConOk Try.prog tb N w0 (cAt 27) := by
  refine con_of_walk (tb := tb) fine (C := []) noCon 80 rfl ?_ N w0
  refine fun I hI i i0 i1 hpre => ?_
  have hpre : 0 ≤ i := hpre
  clear hI
  rw [tree_at]
  refine res_ite (fun q => ?_) fun q => ?_
  · have q : i < (DV.sl none 0 I).len := q
    refine res_ok ⟨hpre, q⟩ ?_
    show [DV.n ((DV.sl none 0 I).at i 0)] = [DV.n (if i < (DV.sl none 0 I).len then (DV.sl none 0 I).at i 0 else 0)]
    rw [if_pos q]
  · have q : ¬ i < (DV.sl none 0 I).len := q
    show [DV.n 0] = [DV.n (if i < (DV.sl none 0 I).len then (DV.sl none 0 I).at i 0 else 0)]
    rw [if_neg q]
theorem cPick_ok (N : Nat) (w0 : World) : ConOk Try.prog tb N w0 (cPick 26) := by
  refine con_of_walk (tb := tb) fine (C := []) noCon 80 rfl ?_ N w0
  refine fun lo _ _ hi _ _ n _ _ hpre => ?_
  obtain ⟨⟨h0, h1, h2⟩, n0, n1⟩ : (0 ≤ lo ∧ lo ≤ hi ∧ hi ≤ 1099511627776) ∧ 0 ≤ n ∧ n ≤ 4294967295 := hpre
  rw [tree_pick]
  have e : IntKind.i64.wrap (IntKind.i64.wrap (hi - lo) + 1) = hi - lo + 1 := by rw [wI (x := hi - lo) (by omega) (by omega), wI (by omega) (by omega)]
  have r0 := Int.tmod_nonneg (hi - lo + 1) n0
  have r1 := Int.tmod_lt_of_pos n (show 0 < hi - lo + 1 by omega)
  have ex : IntKind.i64.wrap (lo + Int.tmod n (IntKind.i64.wrap (IntKind.i64.wrap (hi - lo) + 1))) = lo + Int.tmod n (hi - lo + 1) := by rw [e, wI (by omega) (by omega)]
  refine res_ite (fun q => ?_) fun q => ?_
  · have q : IntKind.i64.wrap (IntKind.i64.wrap (hi - lo) + 1) = 0 := q
    omega
  · refine res_ok (show 0 ≤ IntKind.i64.wrap (lo + Int.tmod n (IntKind.i64.wrap (IntKind.i64.wrap (hi - lo) + 1))) ∧ IntKind.i64.wrap (lo + Int.tmod n (IntKind.i64.wrap (IntKind.i64.wrap (hi - lo) + 1))) ≤ 1099511627776 by rw [ex]; omega) ?_
    show [DV.n (IntKind.i64.wrap (lo + Int.tmod n (IntKind.i64.wrap (IntKind.i64.wrap (hi - lo) + 1))))] = [DV.n (lo + Int.tmod n (hi - lo + 1))]
    rw [ex]
end Go.Proofs.Ytljggpbkggkcaaa
