/- DERIVED. What goes through a pipe. -/
import Derived.Test.YtkophklnleodcaaDconb
namespace Go.Proofs.Ytkophklnleodcaa
open Go.Dx
set_option linter.unusedVariables false
abbrev shocks : Sh := .sl 9223372036854775807 [i64s, i64s]
/-- What was fed in the first hours; what was fed so many hours before. -/
def sumF (l : DV) : Nat → Int
  | 0 => 0
  | k + 1 => sumF l k + l.at k 0
def prev (l : DV) (i j : Int) : Int := if j ≤ i then l.at (i - j) 0 else 0
def inPipe (p : PL) (l : DV) (i : Int) (s : ST) : Prop := (p.pp = 0 → s.p0 = 0 ∧ s.p1 = 0) ∧ (p.pp = 1 → s.p0 = prev l i 1 ∧ s.p1 = 0) ∧ (p.pp = 2 → s.p0 = prev l i 2 ∧ s.p1 = prev l i 1)
def fedOk (p : PL) (l : DV) (n : Nat) : Prop := ∀ k : Nat, k < n → 0 ≤ l.at k 0 ∧ l.at k 0 ≤ p.fd
structure PipeI (p : PL) (l : DV) (i fed ard pas ovr : Int) (s : ST) : Prop where
  hle : i ≤ l.len
  hblg : blg p s
  hfed : fed = sumF l i.toNat
  hard : ard = sumF l (i - p.pp).toNat
  hok : fedOk p l i.toNat
  hpipe : inPipe p l i s
  heq : p.st + ard = s.lv + pas + ovr
  hpas : 0 ≤ pas ∧ pas ≤ 225 * i
  hovr : 0 ≤ ovr ∧ ovr ≤ 300 * i
abbrev some6 : VD := .i 0 1000000
def lPipe : Con :=
  { lp := some ⟨10, 126, [(.tmp 39, .int), (.tmp 9, .int), (.tmp 10, .int), (.tmp 11, .int), (.tmp 12, .int), (.cell 2 0, .int), (.cell 2 1, .int), (.cell 2 2, .int), (.cell 2 3, .int), (.cell 2 4, .int), (.cell 2 5, .int)]⟩
    mea := fun r => ((r.getD 13 (.n 0)).len - gi r 23).toNat
    bnd := [big, some6, some6, some6, some6, some6, some6, some6, some6, some6, some6]
    pre := fun r => PipeI (pl r) (r.getD 13 (.n 0)) (gi r 23) (gi r 24) (gi r 25) (gi r 26) (gi r 27) (stt r 28) }
end Go.Proofs.Ytkophklnleodcaa
