/- DERIVED. What the laws' functions and loops keep. -/
import Derived.Test.YtmphcgafegmheaaDconb
namespace Go.Proofs.Ytmphcgafegmheaa
open Go.Dx
set_option linter.unusedVariables false
abbrev mv : List Sh := [u8s, u8s, u8s, u8s, u8s]
abbrev mvS : Sh := .sl 9223372036854775807 mv
abbrev u8L : Sh := .sl 9223372036854775807 [u8s]
/-- What happens. -/
def hapR (k : Int) (q : List P3) (a : List (Int × Int)) (i x y d : Int) (n : Net) (p : P3) : Prop :=
  (k = 0 → p = zero ∧ n = sendQ q a (x, y, [d])) ∧ (k = 1 → (p, n) = delQ q a i) ∧ (k = 2 → p = zero ∧ n = losQ q a i) ∧ (k = 3 → p = zero ∧ n = repQ q a i) ∧
  (k = 4 → p = zero ∧ cutQ q a x y True n) ∧ (k = 5 → p = zero ∧ cutQ q a x y False n)
/-- The packet that is meant. -/
def atF (q : List P3) (i : Int) : Int := if 0 < (q.length : Int) then Int.tmod i q.length else 0
noncomputable def cHap (f : FuncId) : Con := { f := f, args := [.agg net, .agg mv], res := [netR, pktR, .one iR], pre := fun _ => True, post := fun xs y => hapR (Int.tmod (gi xs 2) 6) (pks (gd xs 0)) (prs (gd xs 1)) (atF (pks (gd xs 0)) (gi xs 3)) (Int.tmod (gi xs 4) 24) (Int.tmod (gi xs 5) 24) (gi xs 6) (pks (gd y 0), prs (gd y 1), gi y 5) (pk3 y 2) }
/-- All packets that are on their way have been sent. -/
def runP (q : List P3) (a : List (Int × Int)) (sent : List P3) (cuts : Int) : Prop := okP q a ∧ (∀ p ∈ q, p ∈ sent) ∧ (cuts = 0 → a = [])
/-- MoveSpec: the numbers; the comparisons. -/
def lMov : Con :=
  { lp := some ⟨11, 150, [(.tmp 15, .sl true 3), (.tmp 16, .int)]⟩, mea := fun r => (3 - gi r 17).toNat, bnd := [.d (.sl 9223372036854775807 [i64s]), .i 0 3]
    pre := fun r => (gd r 16).len ≤ 1 + gi r 17 }
def lMov2 : Con :=
  { lp := some ⟨15, 150, [(.tmp 74, .int)]⟩, mea := fun r => ((gd r 16).len - gi r 168).toNat, bnd := [big]
    pre := fun r => gi r 168 ≤ (gd r 16).len }
def lRun : Con :=
  { lp := some ⟨9, 102, [(.cell 0 0, .sl false 0), (.cell 0 1, .sl false 0), (.tmp 4, .sl true 28), (.tmp 5, .int), (.tmp 6, .int)]⟩, mea := fun r => ((gd r 0).len - gi r 9).toNat, bnd := [.d queS, .d prsS, .d queS, .i 0 60, .i 0 60]
    pre := fun r => gi r 9 ≤ (gd r 0).len ∧ gi r 8 ≤ gi r 9 ∧ (gd r 7).len ≤ gi r 9 ∧ runP (pks (gd r 5)) (prs (gd r 6)) (pks (gd r 7)) (gi r 8) }
def lRun2 : Con :=
  { lp := some ⟨23, 102, [(.tmp 10, .int), (.tmp 11, .int)]⟩, mea := fun r => ((gd r 7).len - gi r 121).toNat, bnd := [bitV, big]
    pre := fun r => gi r 121 ≤ (gd r 7).len ∧ (¬ gi r 119 = 0 ∧ 0 < gi r 8 → gi r 120 = 1) ∧ (pk3 r 114 ∈ (pks (gd r 7)).take (gi r 121).toNat → gi r 120 = 1) }
def lAll : Con :=
  { lp := some ⟨8, 96, [(.cell 0 0, .sl false 0), (.cell 0 1, .sl false 0), (.tmp 6, .sl true 28), (.tmp 7, .int)]⟩, mea := fun r => ((gd r 0).len - gi r 9).toNat, bnd := [.d queS, .d prsS, .d queS, .i 0 12]
    pre := fun r => gi r 9 ≤ (gd r 0).len ∧ (gd r 8).len ≤ gi r 9 ∧ pks (gd r 6) = pks (gd r 8) ∧ prs (gd r 7) = [] ∧ okP (pks (gd r 6)) [] }
def lAll2 : Con :=
  { lp := some ⟨15, 96, [(.cell 0 0, .sl false 0), (.cell 0 1, .sl false 0), (.tmp 6, .sl true 28), (.tmp 10, .int)]⟩, mea := fun r => (gd r 108).len.toNat, bnd := [.d queS, .d prsS, .d queS, .i 0 12]
    pre := fun r => gi r 109 + (gd r 108).len ≤ 12 ∧ pks (gd r 106) = pks (gd r 108) ∧ prs (gd r 107) = [] ∧ okP (pks (gd r 106)) [] }
end Go.Proofs.Ytmphcgafegmheaa
