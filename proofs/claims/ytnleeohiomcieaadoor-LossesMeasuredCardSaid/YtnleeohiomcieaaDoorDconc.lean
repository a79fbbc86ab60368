/- DERIVED. What seeps, soil by soil. -/
import Derived.Test.YtnleeohiomcieaaDoorDconb
namespace Go.Proofs.YtnleeohiomcieaaDoor
open Go.Dx
set_option linter.unusedVariables false
abbrev surveyN (a b : Int) : List Sh := [i64s, .int .i64 a b, i64s, i64s, i64s, i64s, pans, ponds]
def cSeepN (f : FuncId) (a b : Int) : Con := { cSeep f with args := [.agg (surveyN a b), .c i64s] }
end Go.Proofs.YtnleeohiomcieaaDoor
