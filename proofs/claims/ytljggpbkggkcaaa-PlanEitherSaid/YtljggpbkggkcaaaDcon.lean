/- DERIVED. What functions of plans keep. -/
import Derived.Test.YtljggpbkggkcaaaDtb
namespace Go.Proofs.Ytljggpbkggkcaaa
open Go.Dx
set_option linter.unusedVariables false
abbrev i64s : Sh := .int .i64 (-9223372036854775808) 9223372036854775807
abbrev pers : Sh := .sl 9223372036854775807 [i64s, i64s, i64s, i64s, i64s]
abbrev course : List Sh := [i64s, i64s, i64s, pers]
abbrev rngs : Sh := .sl 9223372036854775807 [i64s, i64s]
abbrev ints : Sh := .sl 9223372036854775807 [i64s]
abbrev iR : RC := ⟨i64s, none⟩
abbrev bR : RC := ⟨.bool, none⟩
abbrev big : VD := .i 0 9223372036854775807
def gi (l : List DV) (k : Nat) : Int := (l.getD k (.n 0)).int
def gd (l : List DV) (k : Nat) : DV := l.getD k (.n 0)
structure CO where
  cap : Int
  st : Int
  fl : Int
  P : DV
def co (l : List DV) : CO := ⟨gi l 0, gi l 1, gi l 2, gd l 3⟩
def okN (x : Int) : Prop := 0 ≤ x ∧ x ≤ 1099511627776
/-- A right period: the inflow, the demand, the release, the spill. -/
def perOk (P : DV) (k : Int) : Prop := ((0 ≤ P.at k 0 ∧ P.at k 0 ≤ P.at k 1) ∧ P.at k 1 ≤ 1099511627776) ∧ ((0 ≤ P.at k 2 ∧ P.at k 2 ≤ P.at k 3) ∧ P.at k 3 ≤ 1099511627776) ∧ okN (P.at k 4)
def persOk (P : DV) (n : Nat) : Prop := ∀ k : Nat, k < n → perOk P k
def rightC (c : CO) : Prop := ((0 ≤ c.cap ∧ c.cap ≤ 1099511627776) ∧ (0 ≤ c.st ∧ c.st ≤ c.cap) ∧ 0 ≤ c.fl ∧ c.fl ≤ c.cap) ∧ persOk c.P c.P.len.toNat
instance decN (x : Int) : Decidable (okN x) := by unfold okN; infer_instance
instance decP (P : DV) (k : Int) : Decidable (perOk P k) := by unfold perOk; infer_instance
instance decPs (P : DV) (n : Nat) : Decidable (persOk P n) := by unfold persOk; infer_instance
instance decR (c : CO) : Decidable (rightC c) := by unfold rightC; infer_instance
def chkF (c : CO) : Int := if 64 < c.P.len then 2 else if rightC c then 0 else 390
/-- The robust stores of a moment, from those of the next one. -/
def befF (cap : Int) (P : DV) (t : Int) (x : Int × Int) : Int × Int :=
  if x.1 > x.2 then (1, 0) else
  let p := max 0 (x.1 - P.at t 0)
  let q := (if x.2 = cap then x.2 + P.at t 4 else x.2) - P.at t 1
  if p > q then (1, 0) else if p + P.at t 2 > min (q + P.at t 3) cap then (1, 0) else (p + P.at t 2, min (q + P.at t 3) cap)
/-- So many periods before the end. -/
def robK (c : CO) : Nat → Int × Int
  | 0 => (c.fl, c.cap)
  | k + 1 => befF c.cap c.P (c.P.len - 1 - k) (robK c k)
/-- At a moment. -/
def rob (c : CO) (t : Int) : Int × Int := robK c (c.P.len - t).toNat
def rowsF (c : CO) : List (List DV) := (List.range (c.P.len.toNat + 1)).map fun (t : Nat) => [.n (rob c t).1, .n (rob c t).2]
def RobustF (c : CO) : List DV := if chkF c ≠ 0 then [.sl none 0 [], .n (chkF c)] else [.sl none 0 (rowsF c), .n 0]
def b2 (f : FuncId) (a : List ASh) (r : List RSh) (q : List DV → List DV) : Con := { f := f, args := a, res := r, pre := fun _ => True, post := fun xs y => y = q xs }
def cChk (f : FuncId) : Con := b2 f [.agg course] [.one iR] fun xs => [.n (chkF (co xs))]
def cRobust (f : FuncId) : Con := b2 f [.agg course] [.one ⟨rngs, some 48⟩, .one iR] fun xs => RobustF (co xs)
/-- Loops of checks. -/
def lChk : Con :=
  { lp := some ⟨4, 62, [(.tmp 27, .int)]⟩, mea := fun r => ((gd r 3).len - gi r 4).toNat
    bnd := [big]
    pre := fun r => gi r 4 ≤ (gd r 3).len ∧ persOk (gd r 3) (gi r 4).toNat }
abbrev num : VD := .i 0 1099511627776
/-- What the reference's check has looked at. -/
def lChkR : Con :=
  { lp := some ⟨6, 77, [(.tmp 3, .int)]⟩, mea := fun r => ((gd r 3).len - gi r 4).toNat
    bnd := [big]
    pre := fun r => gi r 4 ≤ (gd r 3).len ∧ persOk (gd r 3) (gi r 4).toNat }
/-- The stores of so many last moments, from the last one on. -/
def rowsK (c : CO) (n : Nat) : List (List DV) := (List.range n).map fun (j : Nat) => [.n (robK c j).1, .n (robK c j).2]
/-- Backwards, from the k-th variable on: the index, the stores, the list. -/
def lBack (k : Nat) : Con :=
  { lp := some ⟨1, 19, [(.tmp 3, .int), (.rc 3 0, .int), (.rc 3 1, .int), (.rc 2002 0, .sl true 48)]⟩, mea := fun r => (gi r k + 1).toNat
    bnd := [.i (-1) 9223372036854775807, num, num, .d rngs]
    pre := fun r => gi r k < (gd r 3).len ∧ (gi r (k + 1), gi r (k + 2)) = robK (co r) ((gd r 3).len - 1 - gi r k).toNat ∧ (gd r (k + 3)).els = rowsK (co r) (((gd r 3).len - 1 - gi r k).toNat + 1) }
/-- Turned round so far. -/
def revP (L els : List (List DV)) (a : Nat) : Prop := els.length = L.length ∧ ∀ k : Nat, k < L.length → els[k]? = if k < a ∨ L.length - 1 - a < k then L[L.length - 1 - k]? else L[k]?
def lRev (k : Nat) : Con :=
  { lp := some ⟨1, 28, [(.tmp 2, .int), (.tmp 3, .int), (.tc 0 1000 0, .sl true 48)]⟩, mea := fun r => (gi r (k + 1) + 1 - gi r k).toNat
    bnd := [big, big, .d rngs]
    pre := fun r => gi r k + gi r (k + 1) = (gd r 3).len ∧ gi r k ≤ gi r (k + 1) + 1 ∧ revP (rowsK (co r) ((gd r 3).len.toNat + 1)) (gd r (k + 2)).els (gi r k).toNat }
/-- The reference's list: the moments behind t are right. -/
def tailP (c : CO) (els : List (List DV)) (t : Int) : Prop := els.length = c.P.len.toNat + 1 ∧ ∀ k : Nat, t < k → k < c.P.len.toNat + 1 → els[k]? = some [.n (rob c k).1, .n (rob c k).2]
def lRobR (k : Nat) : Con :=
  { lp := some ⟨7, 48, [(.tmp 6, .int), (.tmp 5, .sl true 48)]⟩, mea := fun r => (gi r k + 1).toNat
    bnd := [.i (-1) 9223372036854775807, .d rngs]
    pre := fun r => gi r k < (gd r 3).len ∧ tailP (co r) (gd r (k + 1)).els (gi r k) }
end Go.Proofs.Ytljggpbkggkcaaa
