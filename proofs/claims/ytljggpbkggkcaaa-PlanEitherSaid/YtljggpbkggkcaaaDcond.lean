/- DERIVED. What the greatest firm demand keeps. -/
import Derived.Test.YtljggpbkggkcaaaDconc
namespace Go.Proofs.Ytljggpbkggkcaaa
open Go.Dx
set_option linter.unusedVariables false
/-- A right course. -/
def cIsR (f : FuncId) : Con := b2 f [.agg course] [.one bR] fun xs => [.n (if rightC (co xs) then 1 else 0)]
/-- The demands of the first periods are n times a shape. -/
def setK (els : List (List DV)) (S : DV) (n : Int) : Nat → List (List DV)
  | 0 => els
  | i + 1 => (setK els S n i).modify i fun e => layG e 2 [.n (n * S.at i 0)]
def dem (c : CO) (S : DV) (n : Int) : CO := ⟨c.cap, c.st, c.fl, .sl none 0 (setK c.P.els S n c.P.len.toNat)⟩
def met (c : CO) (S : DV) (n : Int) : Prop := rightC (dem c S n) ∧ inR (rob (dem c S n) 0) c.st
instance decM (c : CO) (S : DV) (n : Int) : Decidable (met c S n) := by unfold met; infer_instance
def shOk (S : DV) (n : Nat) : Prop := ∀ k : Nat, k < n → 0 ≤ S.at k 0 ∧ S.at k 0 ≤ 1048576
instance decS (S : DV) (n : Nat) : Decidable (shOk S n) := by unfold shOk; infer_instance
/-- A search by halves: the first that isn't met. -/
def bs (p : Int → Prop) [DecidablePred p] : Nat → Int → Int → Int
  | 0, lo, _ => lo
  | f + 1, lo, hi => if lo < hi then (if p ((lo + hi) / 2) then bs p f ((lo + hi) / 2 + 1) hi else bs p f lo ((lo + hi) / 2)) else lo
def firstF (c : CO) (S : DV) : Int := bs (met c S) 21 0 1048577
def FirmF (c : CO) (S : DV) : List DV := if chkF c ≠ 0 then [.n 0, .n 0, .n (chkF c)] else if S.len ≠ c.P.len ∨ ¬ shOk S S.len.toNat then [.n 0, .n 0, .n 390] else if firstF c S = 0 then [.n 0, .n 0, .n 0] else [.n (firstF c S - 1), .n 1, .n 0]
def cFirm (f : FuncId) : Con := b2 f [.agg course, .c ints] [.one iR, .one bR, .one iR] fun xs => FirmF (co xs) (gd xs 4)
/-- What within has looked at. -/
def lWith (k : Nat) : Con :=
  { lp := some ⟨2, 21, [(.tmp 9, .int)]⟩, mea := fun r => ((gd r 4).len - gi r k).toNat
    bnd := [big]
    pre := fun r => gi r k ≤ (gd r 4).len ∧ shOk (gd r 4) (gi r k).toNat }
def lFirm (k : Nat) : Con :=
  { lp := some ⟨8, 45, [(.tmp 8, .int), (.tmp 9, .int)]⟩, mea := fun r => (gi r (k + 1) - gi r k).toNat
    bnd := [.i 0 1048577, .i 0 1048577]
    pre := fun r => gi r k ≤ gi r (k + 1) ∧ ∃ f, gi r (k + 1) - gi r k < 2 ^ f ∧ bs (met (co r) (gd r 4)) f (gi r k) (gi r (k + 1)) = firstF (co r) (gd r 4) }
/-- Where the index stands: behind a new empty list, or not. -/
def kOf (d : DV) : Nat := match d with
  | .sl _ _ _ => 76
  | _ => 75
/-- Demands are laid, n of the variable m. -/
def lFst (m : Nat) : Con :=
  { lp := some ⟨4, 43, [(.tmp 15, .int), (.rc 1005 3, .sl true 50)]⟩, mea := fun r => ((gd r 3).len - gi r (kOf (gd r 75))).toNat
    bnd := [big, .d pers]
    pre := fun r => gi r (kOf (gd r 75)) ≤ (gd r 3).len ∧ (gd r (kOf (gd r 75) + 1)).els = setK (gd r 3).els (gd r 4) ((gi r m + gi r (m + 1)) / 2) (gi r (kOf (gd r 75))).toNat }
end Go.Proofs.Ytljggpbkggkcaaa
