/- DERIVED. What loops of laws of wells keep. -/
import Derived.Test.YtcidomlhmdefaaaDconb
namespace Go.Proofs.Ytcidomlhmdefaaa
open Go.Dx
set_option linter.unusedVariables false
abbrev mid : VD := .i 0 1125899906842624
/-- What is missing on a day, by the first elements of the kernel. -/
def kers (w : WO) (p : DV) (k j : Nat) : Int := sumN (fun q => if q ≤ k ∧ k - q < p.len.toNat then el w.K q * el p (k - q) else 0) j
def xDay : Con :=
  { lp := some ⟨17, 157, [(.tmp 9, .int), (.tmp 78, .int)]⟩, mea := fun r => ((gd r 8).len - gi r 11).toNat, bnd := [sumV, big]
    pre := fun r => gi r 11 ≤ (gd r 8).len ∧ gi r 10 = bef (U (wo r) (gd r 4)) (gi r 11).toNat }
def xKer : Con :=
  { lp := some ⟨20, 157, [(.tmp 9, .int), (.tmp 86, .int)]⟩, mea := fun r => ((gd r 3).len - gi r 170).toNat, bnd := [sumV, big]
    pre := fun r => gi r 170 ≤ (gd r 3).len ∧ gi r 169 = bef (U (wo r) (gd r 4)) (gi r 11).toNat + kers (wo r) (gd r 4) (gi r 11).toNat (gi r 170).toNat }
def xSk : Con :=
  { lp := some ⟨29, 157, [(.tmp 10, .int), (.tmp 134, .int)]⟩, mea := fun r => ((gd r 3).len - gi r 170).toNat, bnd := [mid, big]
    pre := fun r => gi r 170 ≤ (gd r 3).len ∧ gi r 169 = sumN (el (gd r 3)) (gi r 170).toNat }
def xSp : Con :=
  { lp := some ⟨34, 157, [(.tmp 11, .int), (.tmp 144, .int)]⟩, mea := fun r => ((gd r 4).len - gi r 329).toNat, bnd := [mid, big]
    pre := fun r => gi r 329 ≤ (gd r 4).len ∧ gi r 328 = sumN (el (gd r 4)) (gi r 329).toNat }
def xCau : Con :=
  { lp := some ⟨13, 94, [(.tmp 61, .int)]⟩, mea := fun r => (256 - gi r 12).toNat, bnd := [big]
    pre := fun _ => True }
def bothP (a b : DV) (n : Nat) : Prop := ∀ k : Nat, k < n → (0 ≤ el a k ∧ 0 ≤ el b k) ∧ el a k + el b k ≤ 1073741824
def xBoth : Con :=
  { lp := some ⟨11, 183, [(.tmp 11, .sl true 3), (.tmp 57, .int)]⟩, mea := fun r => ((gd r 4).len - gi r 13).toNat, bnd := [.d ints, big]
    pre := fun r => gi r 13 ≤ (gd r 4).len ∧ (gd r 12).els = gRows (fun k => el (gd r 4) k + el (gd r 5) k) (gi r 13).toNat ∧ bothP (gd r 4) (gd r 5) (gi r 13).toNat }
def xTog : Con :=
  { lp := some ⟨26, 183, [(.tmp 152, .int)]⟩, mea := fun r => ((gd r 203).len - gi r 205).toNat, bnd := [big]
    pre := fun r => gi r 205 ≤ (gd r 203).len }
def xSmall : Con :=
  { lp := some ⟨10, 190, [(.tmp 13, .int), (.tmp 44, .int)]⟩, mea := fun r => ((gd r 9).len - gi r 12).toNat, bnd := [.i 0 1, big]
    pre := fun r => gi r 12 ≤ (gd r 9).len }
def xNone : Con :=
  { lp := some ⟨18, 190, [(.tmp 79, .int)]⟩, mea := fun r => ((gd r 203).len - gi r 205).toNat, bnd := [big]
    pre := fun r => gi r 205 ≤ (gd r 203).len }
def xLess : Con :=
  { lp := some ⟨39, 190, [(.tmp 150, .int)]⟩, mea := fun r => ((gd r 399).len - gi r 401).toNat, bnd := [big]
    pre := fun r => gi r 401 ≤ (gd r 399).len }
end Go.Proofs.Ytcidomlhmdefaaa
