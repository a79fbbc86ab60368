/- DERIVED. What the reference's greatest firm demand keeps. -/
import Derived.Test.YtljggpbkggkcaaaDcond
namespace Go.Proofs.Ytljggpbkggkcaaa
open Go.Dx
set_option linter.unusedVariables false
/-- The first periods, with demands n times a shape. -/
def appK (P S : DV) (n : Int) (i : Nat) : List (List DV) := (List.range i).map fun (k : Nat) => [.n (P.at k 0), .n (P.at k 1), .n (n * S.at k 0), .n (P.at k 3), .n (P.at k 4)]
/-- Whether a demand can be met. -/
def cMet (f : FuncId) : Con := { f := f, args := [.agg course, .c ints, .c i64s], res := [.one bR], pre := fun xs => ((gd xs 4).len = (gd xs 3).len ∧ (gd xs 3).len ≤ 64) ∧ (0 ≤ gi xs 5 ∧ gi xs 5 ≤ 1048577) ∧ shOk (gd xs 4) (gd xs 4).len.toNat, post := fun xs y => y = [.n (if met (co xs) (gd xs 4) (gi xs 5) then 1 else 0)] }
def lApp (k : Nat) : Con :=
  { lp := some ⟨3, 52, [(.tmp 8, .int), (.tmp 7, .sl true 50)]⟩, mea := fun r => ((gd r 4).len - gi r k).toNat
    bnd := [big, .d pers]
    pre := fun r => gi r k ≤ (gd r 4).len ∧ (gd r (k + 1)).els = appK (gd r 3) (gd r 4) (gi r 5) (gi r k).toNat }
def lLook (k : Nat) : Con :=
  { lp := some ⟨7, 54, [(.tmp 8, .int)]⟩, mea := fun r => ((gd r 4).len - gi r k).toNat
    bnd := [big]
    pre := fun r => gi r k ≤ (gd r 4).len ∧ shOk (gd r 4) (gi r k).toNat }
def lHalf (k : Nat) : Con :=
  { lp := some ⟨15, 54, [(.tmp 9, .int), (.tmp 10, .int)]⟩, mea := fun r => (gi r (k + 1) - gi r k).toNat
    bnd := [.i 0 1048577, .i 0 1048577]
    pre := fun r => gi r k < gi r (k + 1) ∧ met (co r) (gd r 4) (gi r k) ∧ (gi r (k + 1) = 1048577 ∨ ¬ met (co r) (gd r 4) (gi r (k + 1))) }
end Go.Proofs.Ytljggpbkggkcaaa
