/- DERIVED. The loop of IntervalInside. -/
import Derived.Test.YtgaaommfemgnnaaEcon
namespace Go.Proofs.Ytgaaommfemgnnaa
open Go.Dx
set_option linter.unusedVariables false
abbrev resS : Sh := .sl 9223372036854775807 [i64s, i64s, i64s]
def gd (l : List DV) (k : Nat) : DV := l.getD k (.n 0)
/-- What the operations returned stays what it is. -/
def lIns : Con :=
  { lp := some ⟨21, 191, [(.tmp 15, .sl true 47), (.tmp 16, .sl true 47), (.tmp 153, .int)]⟩, mea := fun xs => (7 - gi xs 61).toNat, bnd := [.d resS, .d resS, .i 0 9223372036854775807]
    pre := fun xs => gd xs 59 = gd xs 57 ∧ gd xs 60 = gd xs 58 ∧ gi xs 61 ≤ 7 }
end Go.Proofs.Ytgaaommfemgnnaa
