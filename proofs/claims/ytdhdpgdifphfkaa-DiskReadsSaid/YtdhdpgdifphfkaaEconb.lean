/- DERIVED. What the laws' functions and loops keep. -/
import Derived.Test.YtdhdpgdifphfkaaEcon
namespace Go.Proofs.Ytdhdpgdifphfkaa
open Go.Dx
set_option linter.unusedVariables false
def dblL (c : Int) : List Int := c :: List.replicate 63 0 ++ c :: List.replicate 63 0
def cDbl : Con := { f := 27, args := [.c u8s], res := [.one dO], pre := fun _ => True, post := fun xs y => bys (gd y 0) = dblL (gi xs 0) }
abbrev mv : List Sh := [.bool, u8s, u8s]
abbrev mvS : Sh := .sl 9223372036854775807 mv
def lStp : Con :=
  { lp := some ⟨10, 121, [(.tmp 11, .int)]⟩, mea := fun r => ((gd r 0).len - gi r 18).toNat, bnd := [big]
    pre := fun r => gi r 18 ≤ (gd r 0).len }
def lRds : Con :=
  { lp := some ⟨20, 172, [(.tmp 23, .int)]⟩, mea := fun r => ((gd r 0).len - gi r 32).toNat, bnd := [big]
    pre := fun r => gi r 32 ≤ (gd r 0).len }
end Go.Proofs.Ytdhdpgdifphfkaa
