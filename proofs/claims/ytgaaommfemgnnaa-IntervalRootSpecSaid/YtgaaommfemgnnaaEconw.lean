/- DERIVED. What further functions of intervals keep. -/
import Derived.Test.YtgaaommfemgnnaaEcon
namespace Go.Proofs.Ytgaaommfemgnnaa
open Go.Dx
set_option linter.unusedVariables false
abbrev bS : Sh := .int .i64 (-2305843009213693952) 2305843009213693952
def cFlr (f : FuncId) : Con := { f := f, args := [.c bS, .c dS], res := [.one ⟨bS, none⟩], pre := fun _ => True, post := fun xs y => gi y 0 = flo (gi xs 0) (gi xs 1) }
end Go.Proofs.Ytgaaommfemgnnaa
