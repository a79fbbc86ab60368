/- DERIVED. What cutting keeps. -/
import Derived.Test.YtmphcgafegmheaaDcon
namespace Go.Proofs.Ytmphcgafegmheaa
open Go.Dx
set_option linter.unusedVariables false
/-- After some pairs: a link is put in before the first greater one. -/
def cutI (a : List (Int × Int)) (l : Int × Int) (on0 on : Prop) (s : List (Int × Int)) (i : Nat) : Prop :=
  s.Pairwise ltP ∧ (∀ p, p ∈ s ↔ (p = l ∧ on0 ∧ ¬ on) ∨ (p ≠ l ∧ p ∈ a.take i)) ∧ (on → on0 ∧ ∀ p ∈ s, ltP p l) ∧ (on0 ∧ ¬ on → ∀ p ∈ a.drop i, ltP l p)
noncomputable def cCut (f : FuncId) : Con := { f := f, args := [.agg net, aI, aI, .c .bool], res := [netR, .one iR], pre := fun _ => True, post := fun xs y => cutQ (pks (gd xs 0)) (prs (gd xs 1)) (gi xs 2) (gi xs 3) (gi xs 4 = 1) (net3 y 0) }
def lCut : Con :=
  { lp := some ⟨1, 22, [(.tmp 8, .int), (.rc 11 0, .sl true 55), (.rc 7 0, .int)]⟩, mea := fun r => ((gd r 1).len - gi r 7).toNat, bnd := [big, .d prsS, bitV]
    pre := fun r => gi r 7 ≤ (gd r 1).len ∧ cutI (prs (gd r 1)) (link (gi r 2) (gi r 3)) (gi r 4 = 1) (gi r 9 = 1) (prs (gd r 8)) (gi r 7).toNat }
/-- The pairs that are before some one. -/
def befP (x y : Int) (p : Int × Int) : Prop := ltP p (x, y)
def cutJ (a : List (Int × Int)) (l : Int × Int) (on : Prop) (s : List (Int × Int)) (x y : Int) : Prop :=
  s.Pairwise ltP ∧ ∀ p, p ∈ s ↔ ltP p (x, y) ∧ ((p = l ∧ on) ∨ (p ≠ l ∧ p ∈ a))
def lCutR : Con :=
  { lp := some ⟨7, 69, [(.tmp 10, .sl true 55), (.tmp 11, .int)]⟩, mea := fun r => (24 - gi r 8).toNat, bnd := [.d prsS, .i 0 24]
    pre := fun r => cutJ (prs (gd r 1)) (link (gi r 2) (gi r 3)) (gi r 4 = 1) (prs (gd r 7)) (gi r 8) (gi r 8 + 1) }
def lCutR2 : Con :=
  { lp := some ⟨10, 69, [(.tmp 10, .sl true 55), (.tmp 12, .int)]⟩, mea := fun r => (24 - gi r 79).toNat, bnd := [.d prsS, .i 0 24]
    pre := fun r => gi r 8 < gi r 79 ∧ cutJ (prs (gd r 1)) (link (gi r 2) (gi r 3)) (gi r 4 = 1) (prs (gd r 78)) (gi r 8) (gi r 79) }
end Go.Proofs.Ytmphcgafegmheaa
