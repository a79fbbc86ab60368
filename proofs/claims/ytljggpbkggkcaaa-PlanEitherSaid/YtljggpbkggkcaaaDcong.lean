/- DERIVED. What the game forwards keeps. -/
import Derived.Test.YtljggpbkggkcaaaDcond
namespace Go.Proofs.Ytljggpbkggkcaaa
open Go.Dx
set_option linter.unusedVariables false
abbrev u32L : Sh := .sl 9223372036854775807 [.int .u32 0 4294967295]
/-- A choice. -/
def cAt (f : FuncId) : Con := { f := f, args := [.c u32L, .c i64s], res := [.one ⟨.int .u32 0 4294967295, none⟩], pre := fun xs => 0 ≤ gi xs 1, post := fun xs y => y = [.n (if gi xs 1 < (gd xs 0).len then (gd xs 0).at (gi xs 1) 0 else 0)] }
/-- A number in a range. -/
def cPick (f : FuncId) : Con := { f := f, args := [.agg [i64s, i64s], .c (.int .u32 0 4294967295)], res := [.one ⟨.int .i64 0 1099511627776, none⟩], pre := fun xs => (0 ≤ gi xs 0 ∧ gi xs 0 ≤ gi xs 1 ∧ gi xs 1 ≤ 1099511627776) ∧ 0 ≤ gi xs 2 ∧ gi xs 2 ≤ 4294967295, post := fun xs y => y = [.n (gi xs 0 + Int.tmod (gi xs 2) (gi xs 1 - gi xs 0 + 1))] }
/-- The game forwards: in the robust stores now if and only if at the start. (k: the store's variable; behind it whether it started there, and the index.) -/
def lEi (b k : Nat) : Con :=
  { lp := some ⟨11, 197, [(.tmp 7, .int), (.tmp 8, .int), (.tmp 61, .int)]⟩, mea := fun r => ((gd r 3).len - gi r (k + 2)).toNat
    bnd := [.i 0 1099511627776, .i 0 1, big]
    pre := fun r => gi r (k + 2) ≤ (gd r 3).len ∧ gi r k ≤ gi r 0 ∧ (inR (rob (co r) (gi r (k + 2))) (gi r k) ↔ gi r (k + 1) = 1) }
end Go.Proofs.Ytljggpbkggkcaaa
