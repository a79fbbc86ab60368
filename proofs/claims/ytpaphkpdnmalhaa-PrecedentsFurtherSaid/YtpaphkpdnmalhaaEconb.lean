/- DERIVED. What laws of precedents keep. -/
import Derived.Test.YtpaphkpdnmalhaaEcon
namespace Go.Proofs.Ytpaphkpdnmalhaa
open Go.Dx
set_option linter.unusedVariables false
def sameP (a b : DV) : Prop := a.len = b.len ∧ ∀ i : Nat, i < a.len.toNat → el a i = el b i
instance decSa (a b : DV) : Decidable (sameP a b) := by unfold sameP; infer_instance
def cSame (f : FuncId) : Con := b2 f [.c ints, .c ints] [.one bR] fun xs => yn (sameP (gd xs 0) (gd xs 1))
def lSame : Con :=
  { lp := some ⟨4, 26, [(.tmp 5, .int)]⟩, mea := fun r => ((gd r 0).len - gi r 2).toNat, bnd := [big]
    pre := fun r => gi r 2 ≤ (gd r 0).len ∧ ∀ i : Nat, i < (gi r 2).toNat → el (gd r 0) i = el (gd r 1) i }
/-- The factors of a set that favour a side. -/
def favL (S f : DV) (side : Int) : Nat → List (List DV)
  | 0 => []
  | i + 1 => if S.at (el f i) 0 = side then favL S f side i ++ [[.n (el f i)]] else favL S f side i
def cFavR (f : FuncId) : Con := { f := f, args := [.agg book, .c ints, aI], res := [.one lR], pre := fun xs => setP (gd xs 0).len (gd xs 2) (gd xs 2).len.toNat ∧ (gd xs 0).len ≤ 32, post := fun xs y => y = [.sl none 0 (favL (gd xs 0) (gd xs 2) (gi xs 3) (gd xs 2).len.toNat)] }
def lFavR : Con :=
  { lp := some ⟨3, 34, [(.tmp 7, .sl true 3), (.tmp 8, .int)]⟩, mea := fun r => ((gd r 2).len - gi r 6).toNat, bnd := [.d ints, big]
    pre := fun r => gi r 6 ≤ (gd r 2).len ∧ (gd r 5).els = favL (gd r 0) (gd r 2) (gi r 3) (gi r 6).toNat }
/-- Are cases, and a set, right, and few? -/
def cRight (f : FuncId) : Con := { f := f, args := [.agg book, .c ints], res := [.one bR], pre := fun _ => True, post := fun xs y => gi y 0 ≠ 0 → chkF (gd xs 0) (gd xs 1) = 0 ∧ (gd xs 2).len ≤ 60 ∧ setP (gd xs 0).len (gd xs 2) (gd xs 2).len.toNat }
/-- Few cases. -/
def lFew (k : Nat) : Con :=
  { lp := some ⟨4, 39, [(.tmp 3, .int)]⟩, mea := fun r => ((gd r 1).len - gi r k).toNat, bnd := [big]
    pre := fun r => gi r k ≤ (gd r 1).len }
end Go.Proofs.Ytpaphkpdnmalhaa
