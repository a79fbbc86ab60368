/- DERIVED. What the law of wider courses keeps. -/
import Derived.Test.YtljggpbkggkcaaaDcond
namespace Go.Proofs.Ytljggpbkggkcaaa
open Go.Dx
set_option linter.unusedVariables false
/-- Along a list of ranges; the variable a is the list, k the index. -/
def lWid (k a : Nat) : Con :=
  { lp := some ⟨18, 178, [(.tmp 137, .int)]⟩, mea := fun r => ((gd r a).len - gi r k).toNat
    bnd := [big]
    pre := fun r => gi r k ≤ (gd r a).len }
end Go.Proofs.Ytljggpbkggkcaaa
