/- DERIVED. What releases one after the other keep. -/
import Derived.Test.YtljggpbkggkcaaaDcond
import Derived.Test.YtljggpbkggkcaaaDcong
namespace Go.Proofs.Ytljggpbkggkcaaa
open Go.Dx
set_option linter.unusedVariables false
def chA (I : DV) (t : Int) : Int := if t < I.len then I.at t 0 else 0
def qOf (c : CO) (I : DV) (t : Int) : Int := c.P.at t 0 + Int.tmod (chA I t) (c.P.at t 1 - c.P.at t 0 + 1)
/-- The least release that keeps a store robust. -/
def oOf (c : CO) (s t : Int) : Int := max (c.P.at t 2) (s - (topF c t - c.P.at t 1))
/-- The stores, one after the other. -/
def sAt (c : CO) (I : DV) : Nat → Int
  | 0 => c.st
  | t + 1 => afterF c (sAt c I t) (oOf c (sAt c I t) t) (qOf c I t)
def oAt (c : CO) (I : DV) (t : Nat) : Int := oOf c (sAt c I t) t
def outsF (c : CO) (I : DV) (n : Nat) : List (List DV) := (List.range n).map fun (t : Nat) => [.n (oAt c I t)]
def stoF (c : CO) (I : DV) (n : Nat) : List (List DV) := (List.range n).map fun (t : Nat) => [.n (sAt c I t)]
def cRls (f : FuncId) : Con := { f := f, args := [.agg course, .c rngs, .c u32L], res := [.one ⟨ints, some 3⟩, .one ⟨ints, some 3⟩], pre := fun xs => chkF (co xs) = 0 ∧ (gd xs 4).els = rowsF (co xs)
                                 post := fun xs y => (inR (rob (co xs) 0) (co xs).st → y = [.sl none 0 (outsF (co xs) (gd xs 5) (co xs).P.len.toNat), .sl none 0 (stoF (co xs) (gd xs 5) (co xs).P.len.toNat)]) ∧ (¬ inR (rob (co xs) 0) (co xs).st → gd y 0 = .sl none 0 []) }
def lRls : Con :=
  { lp := some ⟨3, 84, [(.tmp 6, .sl true 3), (.tmp 7, .sl true 3), (.tmp 8, .int), (.tmp 23, .int)]⟩, mea := fun r => ((gd r 3).len - gi r 11).toNat
    bnd := [.d ints, .d ints, num, big]
    pre := fun r => (gi r 11 ≤ (gd r 3).len ∧ gi r 10 ≤ gi r 0) ∧ (gi r 11 = 0 ∨ inR (rob (co r) 0) (co r).st) ∧ gi r 10 = sAt (co r) (gd r 5) (gi r 11).toNat ∧ (gd r 8).els = outsF (co r) (gd r 5) (gi r 11).toNat ∧ (gd r 9).els = stoF (co r) (gd r 5) (gi r 11).toNat ∧ (inR (rob (co r) 0) (co r).st → inR (rob (co r) (gi r 11)) (gi r 10)) }
abbrev u32M : Sh := .sl 35184372087808 [.int .u32 0 4294967295]
def pA : Con :=
  { lp := some ⟨11, 121, [(.tmp 78, .int)]⟩, mea := fun r => ((gd r 12).len - gi r 16).toNat
    bnd := [big]
    pre := fun r => True }
def pB : Con :=
  { lp := some ⟨17, 121, [(.tmp 93, .int)]⟩, mea := fun r => ((gd r 12).len - gi r 138).toNat
    bnd := [big]
    pre := fun r => gi r 138 ≤ (gd r 12).len }
end Go.Proofs.Ytljggpbkggkcaaa
