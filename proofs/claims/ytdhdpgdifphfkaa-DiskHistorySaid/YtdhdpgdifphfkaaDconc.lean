/- DERIVED. What the law of syncing together keeps. -/
import Derived.Test.YtdhdpgdifphfkaaDconb
namespace Go.Proofs.Ytdhdpgdifphfkaa
open Go.Dx
set_option linter.unusedVariables false
/-- The writes of a script. -/
def wAt (S M : DV) (k : Int) : Wr := (Int.tmod (M.at k 1) S.len, padL [M.at k 2])
def wsL (S M : DV) (n : Nat) : Pen := (List.range n).map fun k : Nat => wAt S M (k : Int)
/-- Where one is who syncs after each write. -/
def togP (S M : DV) (l : Int) (d : D4) (e i : Int) : Prop :=
  (e = 0 ∧ (0 ≤ l → i ≤ l) ∧ d = (doP (secs S) (wsL S M i.toNat), [], (if 0 ≤ l then l - i else l), 0)) ∨
  (e = 40 ∧ 0 ≤ l ∧ l < i ∧ d = (tearL (doP (secs S) (wsL S M l.toNat)) (wAt S M l), [], 0, 1))
def lTog : Con :=
  { lp := some ⟨8, 131, [(.rc 1005 0, .sl false 0), (.rc 1005 1, .sl false 0), (.rc 1005 2, .int), (.rc 1005 3, .int), (.tmp 7, .int), (.tmp 8, .int)]⟩, mea := fun r => ((gd r 4).len - gi r 13).toNat, bnd := [.d secS, .d penS, i64V, bitV, i64V, big]
    pre := fun r => gi r 13 ≤ (gd r 4).len ∧ togP (gd r 0) (gd r 4) (gi r 2) (d4 r 8) (gi r 12) (gi r 13) }
def lTog2 : Con :=
  { lp := some ⟨16, 131, [(.rc 1006 0, .sl false 0), (.rc 1006 1, .sl false 0), (.rc 1006 2, .int), (.rc 1006 3, .int), (.tmp 12, .int)]⟩, mea := fun r => ((gd r 4).len - gi r 149).toNat, bnd := [.d secS, .d penS, i64V, bitV, big]
    pre := fun r => gi r 149 ≤ (gd r 4).len ∧ d4 r 145 = (secs (gd r 0), wsL (gd r 0) (gd r 4) (gi r 149).toNat, gi r 2, 0) }
end Go.Proofs.Ytdhdpgdifphfkaa
