/- DERIVED. Loops of laws. -/
import Derived.Test.YtalkhponnfggoaaDcone
namespace Go.Proofs.Ytalkhponnfggoaa
open Go.Dx
set_option linter.unusedVariables false
def lLea : Con :=
  { lp := some ⟨17, 181, [(.tmp 21, .int), (.tmp 20, .int), (.cell 4 0, .int), (.cell 4 1, .int)]⟩
    mea := fun | [_, _, _, _, m, _, _, _, _, _, _, _, _, _, _, _, _, i, _, _, _] => (m.int + 1 - i.int).toNat | _ => 0
    bnd := [big, .i 0 1, oneB, oneB]
    pre := fun | [h, f, l, s, m, lim, _, _, _, _, _, _, _, _, n, o, _, i, lo, a, b] => lo.int = 0 → (o.int = 0 ∨ i.int ≤ n.int) → turnsI h.int f.int l.int s.int m.int lim.int i.int a.int b.int | _ => False }
end Go.Proofs.Ytalkhponnfggoaa
