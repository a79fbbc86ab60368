/- DERIVED. What demanding keeps. -/
import Derived.Test.YtljggpbkggkcaaaDcone
namespace Go.Proofs.Ytljggpbkggkcaaa
open Go.Dx
set_option linter.unusedVariables false
/-- A course with other demands. -/
def cDem (f : FuncId) : Con := { f := f, args := [.agg course, .c ints, .c i64s], res := [.agg [iR, iR, iR, ⟨pers, some 50⟩]], pre := fun xs => ((gd xs 4).len = (gd xs 3).len ∧ (gd xs 3).len ≤ 64) ∧ (0 ≤ gi xs 5 ∧ gi xs 5 ≤ 1048577) ∧ shOk (gd xs 4) (gd xs 4).len.toNat, post := fun xs y => y = [gd xs 0, gd xs 1, gd xs 2, (dem (co xs) (gd xs 4) (gi xs 5)).P] }
def kD (d : DV) : Nat := match d with
  | .sl _ _ _ => 7
  | _ => 6
def lDem : Con :=
  { lp := some ⟨3, 32, [(.tmp 16, .int), (.rc 1003 3, .sl true 50)]⟩, mea := fun r => ((gd r 3).len - gi r (kD (gd r 6))).toNat
    bnd := [big, .d pers]
    pre := fun r => gi r (kD (gd r 6)) ≤ (gd r 3).len ∧ (gd r (kD (gd r 6) + 1)).els = setK (gd r 3).els (gd r 4) (gi r 5) (gi r (kD (gd r 6))).toNat }
end Go.Proofs.Ytljggpbkggkcaaa
