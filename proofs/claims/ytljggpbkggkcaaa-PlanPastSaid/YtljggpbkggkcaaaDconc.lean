/- DERIVED. What loops of plans' laws keep. -/
import Derived.Test.YtljggpbkggkcaaaDconb
namespace Go.Proofs.Ytljggpbkggkcaaa
open Go.Dx
set_option linter.unusedVariables false
/-- Two lists of ranges, side by side. -/
def lSame (k a : Nat) : Con :=
  { lp := some ⟨4, 26, [(.tmp 5, .int)]⟩, mea := fun r => ((gd r a).len - gi r k).toNat
    bnd := [big]
    pre := fun r => gi r k ≤ (gd r a).len }
end Go.Proofs.Ytljggpbkggkcaaa
