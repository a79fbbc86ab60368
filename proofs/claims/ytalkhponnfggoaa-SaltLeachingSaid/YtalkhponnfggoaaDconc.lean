/- DERIVED. Loops of laws. -/
import Derived.Test.YtalkhponnfggoaaDlawb
namespace Go.Proofs.Ytalkhponnfggoaa
open Go.Dx
set_option linter.unusedVariables false
abbrev u8s : Sh := .int .u8 0 255
def lOrd : Con :=
  { lp := some ⟨8, 100, [(.tmp 8, .int), (.tmp 7, .sl true 24)]⟩, mea := fun | [_, _, _, _, _, _, _, i, _] => (i.int + 1).toNat | _ => 0
    bnd := [.i (-1) 9223372036854775807, .d wats]
    pre := fun | [d, _, _, _, _, _, _, i, b] => i.int < d.els.length ∧ b.els = (d.els.drop (i.int + 1).toNat).reverse | _ => False }
def lCons : Con :=
  { lp := some ⟨9, 183, [(.tmp 54, .int)]⟩, mea := fun | [_, _, _, _, _, _, _, _, l, _, _, _, _, i] => (l.len - i.int).toNat | _ => 0
    bnd := [big]
    pre := fun | [_, _, _, _, _, _, _, _, l, _, _, _, _, i] => i.int ≤ l.els.length | _ => False }
end Go.Proofs.Ytalkhponnfggoaa
