/- DERIVED. What the loops of a law keep, told apart by a later variable. -/
import Derived.Test.YtpaphkpdnmalhaaDconc
namespace Go.Proofs.Ytpaphkpdnmalhaa
open Go.Dx
set_option linter.unusedVariables false
def lSome2 : Con :=
  { lp := some ⟨15, 103, [(.tmp 17, .sl true 3), (.tmp 68, .int)]⟩, bnd := [.d ints, big]
    mea := fun r => match gd r 131 with
      | .sl _ _ _ => ((gd r 126).len - gi r 132).toNat
      | _ => ((gd r 10).len - gi r 16).toNat
    pre := fun r => match gd r 131 with
      | .sl _ _ _ => gi r 132 ≤ (gd r 126).len ∧ partP (gd r 126) (gd r 131) (gi r 132).toNat
      | _ => gi r 16 ≤ (gd r 10).len ∧ partP (gd r 10) (gd r 15) (gi r 16).toNat }
end Go.Proofs.Ytpaphkpdnmalhaa
