/- DERIVED. Loops of laws. -/
import Derived.Test.YtalkhponnfggoaaDlawd
namespace Go.Proofs.Ytalkhponnfggoaa
open Go.Dx
set_option linter.unusedVariables false
abbrev u16s : Sh := .int .u16 0 65535
abbrev u32s : Sh := .int .u32 0 4294967295
def lShr : Con :=
  { lp := some ⟨7, 172, [(.tmp 37, .int)]⟩, mea := fun | [_, _, _, _, _, _, _, _, l, _, i] => (l.len - i.int).toNat | _ => 0
    bnd := [big]
    pre := fun | [_, _, _, _, _, _, _, _, l, _, i] => i.int ≤ l.els.length | _ => False }
end Go.Proofs.Ytalkhponnfggoaa
