/- DERIVED. What the loops of the game keep. -/
import Derived.Test.YtljggpbkggkcaaaDcond
namespace Go.Proofs.Ytljggpbkggkcaaa
open Go.Dx
set_option linter.unusedVariables false
/-- An inflow that leaves a robust store. -/
def okQ (c : CO) (t s o q : Int) : Prop := ¬ c.P.at t 4 < s - o + q - afterF c s o q ∧ inR (rob c (t + 1)) (afterF c s o q)
/-- A release that does so whatever inflow comes. -/
def wins (c : CO) (t s o : Int) : Prop := ∀ q, c.P.at t 0 ≤ q → q ≤ c.P.at t 1 → okQ c t s o q
def outP (c : CO) (t s b o : Int) : Prop := (c.P.at t 2 ≤ o ∧ (o = c.P.at t 2 ∨ o ≤ min (c.P.at t 3) s + 1)) ∧ (b = 1 ↔ ∃ x, c.P.at t 2 ≤ x ∧ x < o ∧ wins c t s x)
def inP (c : CO) (t s o b q : Int) : Prop := (c.P.at t 0 ≤ q ∧ q ≤ c.P.at t 1 + 1) ∧ (b = 1 ↔ ∀ x, c.P.at t 0 ≤ x → x < q → okQ c t s o x)
def gPer : Con :=
  { lp := some ⟨9, 143, [(.tmp 64, .int)]⟩, mea := fun r => ((gd r 3).len - gi r 8).toNat
    bnd := [big]
    pre := fun r => gi r 8 ≤ (gd r 3).len }
def gSto : Con :=
  { lp := some ⟨14, 143, [(.tmp 77, .int)]⟩, mea := fun r => (gi r 0 + 1 - gi r 152).toNat
    bnd := [.i 0 31]
    pre := fun r => gi r 152 ≤ gi r 0 + 1 }
def gOut : Con :=
  { lp := some ⟨18, 143, [(.tmp 8, .int), (.tmp 9, .int)]⟩, mea := fun r => (1099511627778 - gi r 297).toNat
    bnd := [.i 0 1, .i 0 1099511627777]
    pre := fun r => outP (co r) (gi r 8) (gi r 152) (gi r 296) (gi r 297) }
def gIn : Con :=
  { lp := some ⟨22, 143, [(.tmp 10, .int), (.tmp 11, .int)]⟩, mea := fun r => (1099511627778 - gi r 442).toNat
    bnd := [.i 0 1, .i 0 1099511627777]
    pre := fun r => inP (co r) (gi r 8) (gi r 152) (gi r 297) (gi r 441) (gi r 442) }
end Go.Proofs.Ytljggpbkggkcaaa
