/- DERIVED. The loops of the laws on sets. -/
import Derived.Test.YtdffnmhpkapbkaaDoorEcond
namespace Go.Proofs.YtdffnmhpkapbkaaDoor
open Go.Dx
set_option linter.unusedVariables false
def lAll : Con :=
  { lp := some ⟨12, 166, [(.tmp 13, .sl true 3), (.tmp 93, .int)]⟩, mea := fun xs => ((dv xs 0).len + (dv xs 1).len - ev xs 18).toNat, bnd := [.d ints, big]
    pre := fun xs => (dv xs 17).len ≤ 1 + 4 * ev xs 18 ∧ ev xs 18 ≤ (dv xs 0).len + (dv xs 1).len }
def lAsk : Con :=
  { lp := some ⟨17, 166, [(.tmp 113, .int)]⟩, mea := fun xs => ((dv xs 17).len - ev xs 185).toNat, bnd := [big]
    pre := fun xs => ev xs 185 ≤ (dv xs 17).len }
end Go.Proofs.YtdffnmhpkapbkaaDoor
