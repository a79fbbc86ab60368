/- DERIVED. What loops of the law of further factors keep. -/
import Derived.Test.YtpaphkpdnmalhaaEconc
namespace Go.Proofs.Ytpaphkpdnmalhaa
open Go.Dx
set_option linter.unusedVariables false
/-- A set of factors, and one more. -/
def addL (n : Int) (f : DV) : Nat → List (List DV)
  | 0 => []
  | i + 1 => if (i : Int) = n ∨ memP f i then addL n f i ++ [[.n i]] else addL n f i
def lEach (k : Nat) : Con :=
  { lp := some ⟨9, 139, [(.tmp 52, .int)]⟩, mea := fun r => (2 - gi r k).toNat, bnd := [.i 0 2]
    pre := fun r => True }
/-- As lEach; only where a number lies in slot 49. -/
def lEachN (k : Nat) : Con :=
  { lp := some ⟨9, 139, [(.tmp 52, .int), (.tmp 49, .int)]⟩, mea := fun r => (2 - gi r k).toNat, bnd := [.i 0 2, .i (-9223372036854775808) 9223372036854775807]
    pre := fun r => True }
/-- Check, where it is known what comes out. -/
def cChk0 (f : FuncId) : Con := { f := f, args := [.agg book], res := [.one ⟨.int .i64 0 0, none⟩], pre := fun xs => chkF (gd xs 0) (gd xs 1) = 0, post := fun _ _ => True }
def cChkN (f : FuncId) : Con := { f := f, args := [.agg book], res := [.one ⟨.int .i64 1 600, none⟩], pre := fun xs => chkF (gd xs 0) (gd xs 1) ≠ 0, post := fun _ _ => True }
/-- For calls that are not reached. -/
def cBad (f : FuncId) : Con := { f := f, args := [], res := [], pre := fun _ => False, post := fun _ _ => True }
def lAdd : Con :=
  { lp := some ⟨24, 139, [(.tmp 19, .sl true 3), (.tmp 107, .int)]⟩, bnd := [.d ints, big]
    mea := fun r => ((gd r 0).len - gi r (r.length - 1)).toNat
    pre := fun r => gi r (r.length - 1) ≤ (gd r 0).len ∧ (gd r (r.length - 2)).els = addL (Int.tmod (gi r 3) (gd r 0).len) (gd r 2) (gi r (r.length - 1)).toNat }
/-- Few cases? -/
def FewP (S C : DV) : Prop := ¬ (100 < C.len ∨ 100 < S.len) ∧ ∀ i : Nat, i < C.len.toNat → ¬ (60 < (C.cell i 3).len ∨ 60 < (C.cell i 4).len)
noncomputable instance decFew (S C : DV) : Decidable (FewP S C) := Classical.propDecidable _
noncomputable def cFew (f : FuncId) : Con := b2 f [.agg book] [.one bR] fun xs => yn (FewP (gd xs 0) (gd xs 1))
def lFewP : Con :=
  { lp := some ⟨4, 39, [(.tmp 3, .int)]⟩, mea := fun r => ((gd r 1).len - gi r 2).toNat, bnd := [big]
    pre := fun r => gi r 2 ≤ (gd r 1).len ∧ ∀ i : Nat, i < (gi r 2).toNat → ¬ (60 < ((gd r 1).cell i 3).len ∨ 60 < ((gd r 1).cell i 4).len) }
end Go.Proofs.Ytpaphkpdnmalhaa
