/- DERIVED. Loops of laws. -/
import Derived.Test.YtalkhponnfggoaaDlawd
namespace Go.Proofs.Ytalkhponnfggoaa
open Go.Dx
set_option linter.unusedVariables false
abbrev u16s : Sh := .int .u16 0 65535
abbrev u32s : Sh := .int .u32 0 4294967295
def lShr : Con :=
  { lp := some ⟨7, 172, [(.tmp 37, .int)]⟩, mea := fun | [_, _, _, _, _, _, _, _, l, _, i] => (l.len - i.int).toNat | _ => 0
    bnd := [big]
    pre := fun | [_, _, _, _, _, _, _, _, l, _, i] => i.int ≤ l.els.length | _ => False }
def xLea : Con := tt 17 181 [(.tmp 21, .int), (.tmp 20, .int), (.cell 4 0, .int), (.cell 4 1, .int)] [big, .i 0 1, oneB, oneB]
end Go.Proofs.Ytalkhponnfggoaa
