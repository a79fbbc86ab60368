/- DERIVED. The loops of a district's check. -/
import Derived.Test.YtcidomlhmdefaaaDdis
namespace Go.Proofs.Ytcidomlhmdefaaa
open Go.Dx
set_option linter.unusedVariables false
def lupC (id nt s p q : Nat) (P : List DV → Int → Prop) : Con :=
  { lp := some ⟨id, nt, [(.tmp s, .int)]⟩, mea := fun xs => ((gd xs p).len - gi xs q).toNat, bnd := [big], pre := fun xs => gi xs q ≤ (gd xs p).len ∧ P xs (gi xs q) }
def lRp : Con := lupC 4 136 46 4 10 fun xs n => ReaP (gd xs 4) n
def lCp : Con := lupC 10 136 69 6 147 fun xs n => CrpP (gd xs 6) n
def lFp : Con := lupC 16 136 82 5 284 fun xs n => FrsP xs n
def lGp : Con := lupC 22 136 94 7 421 fun xs n => RgsP xs n
def lUp : Con := lupC 28 136 106 8 558 fun xs n => DtsP xs n
def lReR : Con := lupC 2 44 3 0 1 fun xs n => ReaP (gd xs 0) n
def cReaR (f : FuncId) : Con := { f := f, args := [.c (slS reachS)], res := [bRR], pre := fun _ => True, post := fun xs y => ValP (1 ≤ (gd xs 0).len ∧ ReaP (gd xs 0) (gd xs 0).len) y }
def lCr : Con := lupC 2 70 3 6 10 fun xs n => CrpP (gd xs 6) n
def lFr : Con := lupC 7 70 4 5 81 fun xs n => FrsP xs n
def cFrsR (f : FuncId) : Con := { f := f, args := [.agg distS], res := [bRR], pre := fun _ => True, post := fun xs y => ValP (CrpP (gd xs 6) (gd xs 6).len ∧ FrsP xs (gd xs 5).len) y }
def lGr : Con := lupC 6 88 3 7 12 fun xs n => RgsP xs n
def lUr : Con := lupC 11 88 4 8 101 fun xs n => DtsP xs n
end Go.Proofs.Ytcidomlhmdefaaa
