/- DERIVED. What loops of precedents' laws keep. -/
import Derived.Test.YtpaphkpdnmalhaaEconb
namespace Go.Proofs.Ytpaphkpdnmalhaa
open Go.Dx
set_option linter.unusedVariables false
/-- A part of a list, in its order. -/
def partP (L o : DV) (n : Nat) : Prop := o.len ≤ n ∧ (∀ m : Nat, m < o.len.toNat → ∃ k, k < n ∧ el L k = el o m) ∧ (∀ m : Nat, m < o.len.toNat → 0 < m → el o (m - 1) < el o m)
instance decP2 (L o : DV) (n : Nat) : Decidable (partP L o n) := by unfold partP; infer_instance
def aU : ASh := .c u32s
def aB : ASh := .c (.int .u8 0 255)
/-- Two loops: some of the factors that favour the other side. -/
def lSome : Con :=
  { lp := some ⟨15, 103, [(.tmp 17, .sl true 3), (.tmp 68, .int)]⟩, bnd := [.d ints, big]
    mea := fun r => match r.length with
      | 17 => ((gd r 10).len - gi r 16).toNat
      | _ => ((gd r 126).len - gi r 132).toNat
    pre := fun r => match r.length with
      | 17 => gi r 16 ≤ (gd r 10).len ∧ partP (gd r 10) (gd r 15) (gi r 16).toNat
      | _ => gi r 132 ≤ (gd r 126).len ∧ partP (gd r 126) (gd r 131) (gi r 132).toNat }
def lSomeC : Con :=
  { lp := some ⟨19, 210, [(.tmp 26, .sl true 3), (.tmp 134, .int)]⟩, bnd := [.d ints, big]
    mea := fun r => ((gd r 25).len - gi r 28).toNat
    pre := fun r => gi r 28 ≤ (gd r 25).len ∧ partP (gd r 25) (gd r 27) (gi r 28).toNat }
/-- A set of factors, and one more. -/
def moreL (n : Int) (f : DV) : Nat → List (List DV)
  | 0 => []
  | i + 1 => if (i : Int) = n ∨ memP f i then moreL n f i ++ [[.n i]] else moreL n f i
def lMore : Con :=
  { lp := some ⟨24, 139, [(.tmp 19, .sl true 3), (.tmp 107, .int)]⟩, bnd := [.d ints, big]
    mea := fun r => ((gd r 0).len - gi r 0).toNat
    pre := fun r => True }
end Go.Proofs.Ytpaphkpdnmalhaa
