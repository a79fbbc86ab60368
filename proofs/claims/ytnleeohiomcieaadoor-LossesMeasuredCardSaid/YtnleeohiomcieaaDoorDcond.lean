/- DERIVED. Comparing ratios, and their products with litres: what they keep. -/
import Derived.Test.YtnleeohiomcieaaDoorDconb
namespace Go.Proofs.YtnleeohiomcieaaDoor
open Go.Dx
set_option linter.unusedVariables false
def cmpI (a b : Int) : Int := if a < b then -1 else if b < a then 1 else 0
def cCmp : Con :=
  { f := 29, args := [.agg [i64s, i64s], .agg [i64s, i64s]], res := [.one ⟨.int .i64 (-1) 1, none⟩, eR], pre := fun xs => Val (ev xs 0) (ev xs 1) ∧ Val (ev xs 2) (ev xs 3)
    post := fun xs y => y = [.n (cmpI (ev xs 0 * ev xs 3) (ev xs 2 * ev xs 1)), .n 0] }
def cTimes : Con :=
  { f := 30, args := [.agg [.int .i64 0 1048576, .int .i64 1 1048576], .c (.int .i64 0 1073741824)], res := [.one iR, .one iR, eR], pre := fun xs => Val (ev xs 0) (ev xs 1)
    post := fun xs y => y = [.n ((ev xs 2 * ev xs 0).tdiv (ev xs 1)), .n ((ev xs 2 * ev xs 0 + ev xs 1 - 1).tdiv (ev xs 1)), .n 0] }
abbrev one2 : List Sh := [i64s, i64s]
abbrev one4 : List Sh := [i64s, i64s, i64s, i64s]
end Go.Proofs.YtnleeohiomcieaaDoor
