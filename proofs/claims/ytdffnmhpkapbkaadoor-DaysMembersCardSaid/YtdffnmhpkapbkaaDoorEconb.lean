/- DERIVED. What the functions on lists of spans keep. -/
import Derived.Test.YtdffnmhpkapbkaaDoorEcon
namespace Go.Proofs.YtdffnmhpkapbkaaDoor
open Go.Dx
set_option linter.unusedVariables false
/-- The least day at which span k may begin. -/
def lst (d : DV) (k : Int) : Int := if k = 0 then 0 else d.at (k - 1) 1 + 2
def OkS (d : DV) (k : Int) : Prop := (lst d k ≤ d.at k 0 ∧ d.at k 0 ≤ d.at k 1) ∧ 0 ≤ d.at k 1 ∧ d.at k 1 ≤ 73048
def AllS (d : DV) (n : Int) : Prop := ∀ k : Int, 0 ≤ k → k < n → OkS d k
def cn (d : DV) : Nat → Int
  | 0 => 0
  | k + 1 => cn d k + (d.at k 1 - d.at k 0 + 1)
def ErrP (d : DV) (z : List DV) (fine : Prop) (y : List DV) : Prop := (256 < d.len → y = z ++ [.n 2]) ∧ (¬ 256 < d.len → ¬ AllS d d.len → y = z ++ [.n 140]) ∧ (¬ 256 < d.len → AllS d d.len → fine)
def CheckP (d : DV) (y : List DV) : Prop := ErrP d [] (y = [.n 0]) y
def CountP (d : DV) (y : List DV) : Prop := ErrP d [.n 0] (y = [.n (cn d d.len.toNat), .n 0]) y
def NthP (d : DV) (k : Int) (y : List DV) : Prop := ErrP d [.n 0, .n 0] ((k < 0 → y = [.n 0, .n 0, .n 1]) ∧ (0 ≤ k → cn d d.len.toNat ≤ k → y = [.n 0, .n 0, .n 0]) ∧
  (0 ≤ k → k < cn d d.len.toNat → ∃ i : Nat, (i : Int) < d.len ∧ (cn d i ≤ k ∧ k < cn d (i + 1)) ∧ y = [.n (d.at i 0 + (k - cn d i)), .n 1, .n 0])) y
def cChk (f : FuncId) : Con := { f := f, args := [.c spans], res := [eR], pre := fun _ => True, post := fun xs y => CheckP (dv xs 0) y }
def cCnt (f : FuncId) : Con := { f := f, args := [.c spans], res := [.one iR, eR], pre := fun _ => True, post := fun xs y => CountP (dv xs 0) y }
def cNth (f : FuncId) : Con := { f := f, args := [.c spans, .c i64s], res := [.one iR, bR, eR], pre := fun _ => True, post := fun xs y => NthP (dv xs 0) (ev xs 1) y }
def lChk : Con :=
  { lp := some ⟨5, 36, [(.tmp 11, .int), (.tmp 3, .int)]⟩, mea := fun xs => ((dv xs 0).len - ev xs 1).toNat, bnd := [big, .i 0 73050]
    pre := fun xs => ev xs 1 ≤ (dv xs 0).len ∧ AllS (dv xs 0) (ev xs 1) ∧ ev xs 2 = lst (dv xs 0) (ev xs 1) }
def lChkR : Con :=
  { lp := some ⟨4, 61, [(.tmp 3, .int)]⟩, mea := fun xs => ((dv xs 0).len - ev xs 1).toNat, bnd := [big]
    pre := fun xs => ev xs 1 ≤ (dv xs 0).len ∧ AllS (dv xs 0) (ev xs 1) }
def lCnt (id nt a b : Nat) : Con :=
  { lp := some ⟨id, nt, [(.tmp a, .int), (.tmp b, .int)]⟩, mea := fun xs => ((dv xs 0).len - ev xs 2).toNat, bnd := [big, .i 0 73050]
    pre := fun xs => ev xs 2 ≤ (dv xs 0).len ∧ ev xs 3 = cn (dv xs 0) (ev xs 2).toNat }
def lNth (id nt a b : Nat) : Con :=
  { lp := some ⟨id, nt, [(.tmp a, .int), (.tmp b, .int)]⟩, mea := fun xs => ((dv xs 0).len - ev xs 3).toNat, bnd := [big, big]
    pre := fun xs => ev xs 3 ≤ (dv xs 0).len ∧ ev xs 4 = ev xs 1 - cn (dv xs 0) (ev xs 3).toNat }
end Go.Proofs.YtdffnmhpkapbkaaDoor
