/- DERIVED. What functions of network keep. -/
import Derived.Test.YtmphcgafegmheaaDtb
namespace Go.Proofs.Ytmphcgafegmheaa
open Go.Dx
set_option linter.unusedVariables false
abbrev i64s : Sh := .int .i64 (-9223372036854775808) 9223372036854775807
abbrev u8s : Sh := .int .u8 0 255
abbrev bytes : Sh := .sl 9223372036854775807 [u8s]
abbrev pkt : List Sh := [i64s, i64s, bytes]
abbrev pair : List Sh := [i64s, i64s]
abbrev queS : Sh := .sl 9223372036854775807 pkt
abbrev prsS : Sh := .sl 9223372036854775807 pair
abbrev net : List Sh := [queS, prsS]
abbrev iR : RC := ⟨i64s, none⟩
abbrev bR : RC := ⟨.bool, none⟩
abbrev dR : RC := ⟨bytes, none⟩
abbrev qR : RC := ⟨queS, none⟩
abbrev aR : RC := ⟨prsS, none⟩
abbrev netR : RSh := .agg [qR, aR]
abbrev pktR : RSh := .agg [iR, iR, dR]
abbrev big : VD := .i 0 9223372036854775807
abbrev bitV : VD := .i 0 1
abbrev aI : ASh := .c i64s
def gi (l : List DV) (k : Nat) : Int := (l.getD k (.n 0)).int
def gd (l : List DV) (k : Nat) : DV := l.getD k (.n 0)
/-- A packet; a pair. -/
abbrev P3 := Int × Int × List Int
def pkE (e : List DV) : P3 := ((e.getD 0 (.n 0)).int, (e.getD 1 (.n 0)).int, numsOf (e.getD 2 (.n 0)).els)
def pks (d : DV) : List P3 := d.els.map pkE
def prE (e : List DV) : Int × Int := ((e.getD 0 (.n 0)).int, (e.getD 1 (.n 0)).int)
def prs (d : DV) : List (Int × Int) := d.els.map prE
def siteP (x : Int) : Prop := 0 ≤ x ∧ x < 24
def pkP (p : P3) : Prop := ((siteP p.1 ∧ siteP p.2.1) ∧ p.1 ≠ p.2.1) ∧ p.2.2.length ≤ 1048576
def ltP (a b : Int × Int) : Prop := a.1 < b.1 ∨ (a.1 = b.1 ∧ a.2 < b.2)
def prP (a : Int × Int) : Prop := (siteP a.1 ∧ siteP a.2) ∧ a.1 < a.2
def okP (q : List P3) (a : List (Int × Int)) : Prop := q.length ≤ 4096 ∧ (∀ p ∈ q, pkP p) ∧ (∀ p ∈ a, prP p) ∧ a.Pairwise ltP
noncomputable instance decS (x : Int) : Decidable (siteP x) := Classical.propDecidable _
noncomputable instance decO (q : List P3) (a : List (Int × Int)) : Decidable (okP q a) := Classical.propDecidable _
noncomputable instance decP (p : P3) : Decidable (pkP p) := Classical.propDecidable _
noncomputable def yn (p : Prop) : List DV := @ite _ p (Classical.propDecidable p) [.n 1] [.n 0]
noncomputable def chkF (q : List P3) (a : List (Int × Int)) : Int := if okP q a then 0 else 60
def zero : P3 := (0, 0, [])
/-- The lesser one first. -/
def link (x y : Int) : Int × Int := (min x y, max x y)
abbrev Net := List P3 × List (Int × Int) × Int
noncomputable def sendQ (q : List P3) (a : List (Int × Int)) (p : P3) : Net := if okP q a ∧ pkP p then (if q.length = 4096 then ([], [], 2) else (q ++ [p], a, 0)) else ([], [], 60)
def inQ (q : List P3) (k : Int) : Prop := 0 ≤ k ∧ k < q.length
instance decI (q : List P3) (k : Int) : Decidable (inQ q k) := by unfold inQ; infer_instance
noncomputable def delQ (q : List P3) (a : List (Int × Int)) (k : Int) : P3 × Net :=
  if okP q a then (if inQ q k then ((if link (q.getD k.toNat zero).1 (q.getD k.toNat zero).2.1 ∈ a then zero else q.getD k.toNat zero), q.eraseIdx k.toNat, a, 0) else (zero, [], [], 1)) else (zero, [], [], 60)
noncomputable def losQ (q : List P3) (a : List (Int × Int)) (k : Int) : Net := if okP q a then (if inQ q k then (q.eraseIdx k.toNat, a, 0) else ([], [], 1)) else ([], [], 60)
noncomputable def repQ (q : List P3) (a : List (Int × Int)) (k : Int) : Net := if okP q a then (if inQ q k then (if q.length = 4096 then ([], [], 2) else (q ++ [q.getD k.toNat zero], a, 0)) else ([], [], 1)) else ([], [], 60)
/-- A link is cut, or mended. -/
def cutR (a : List (Int × Int)) (l : Int × Int) (on : Prop) (s : List (Int × Int)) : Prop := s.Pairwise ltP ∧ ∀ p, p ∈ s ↔ (p = l ∧ on) ∨ (p ≠ l ∧ p ∈ a)
def cutQ (q : List P3) (a : List (Int × Int)) (x y : Int) (on : Prop) (r : Net) : Prop :=
  (¬ okP q a ∧ r = ([], [], 60)) ∨ (okP q a ∧ ¬ ((siteP x ∧ siteP y) ∧ x ≠ y) ∧ r = ([], [], 1)) ∨ (okP q a ∧ ((siteP x ∧ siteP y) ∧ x ≠ y) ∧ r.1 = q ∧ cutR a (link x y) on r.2.1 ∧ r.2.2 = 0)
def net3 (y : List DV) (k : Nat) : Net := (pks (gd y k), prs (gd y (k + 1)), gi y (k + 2))
def pk3 (y : List DV) (k : Nat) : P3 := (gi y k, gi y (k + 1), numsOf (gd y (k + 2)).els)
def b2 (f : FuncId) (a : List ASh) (r : List RSh) (q : List DV → List DV) : Con := { f := f, args := a, res := r, pre := fun _ => True, post := fun xs y => y = q xs }
noncomputable def cVal (f : FuncId) : Con := b2 f [.agg pkt] [.one bR] fun xs => yn (pkP (pk3 xs 0))
noncomputable def cPair (f : FuncId) : Con := b2 f [.agg pair] [.one bR] fun xs => yn (prP (gi xs 0, gi xs 1))
noncomputable def cLess (f : FuncId) : Con := b2 f [.agg pair, .agg pair] [.one bR] fun xs => yn (ltP (gi xs 0, gi xs 1) (gi xs 2, gi xs 3))
noncomputable def cSite (f : FuncId) : Con := b2 f [aI] [.one bR] fun xs => yn (siteP (gi xs 0))
noncomputable def cChk (f : FuncId) : Con := b2 f [.agg net] [.one iR] fun xs => [.n (chkF (pks (gd xs 0)) (prs (gd xs 1)))]
def allPk (q : List P3) (i : Int) : Prop := ∀ p ∈ q.take i.toNat, pkP p
def allPr (a : List (Int × Int)) (i : Int) : Prop := (∀ p ∈ a.take i.toNat, prP p) ∧ (a.take i.toNat).Pairwise ltP
def lChk : Con :=
  { lp := some ⟨4, 49, [(.tmp 14, .int)]⟩, mea := fun r => ((gd r 0).len - gi r 2).toNat, bnd := [big]
    pre := fun r => gi r 2 ≤ (gd r 0).len ∧ allPk (pks (gd r 0)) (gi r 2) }
def lChk2 : Con :=
  { lp := some ⟨10, 49, [(.tmp 25, .int)]⟩, mea := fun r => ((gd r 1).len - gi r 52).toNat, bnd := [big]
    pre := fun r => gi r 52 ≤ (gd r 1).len ∧ allPr (prs (gd r 1)) (gi r 52) }
def lChkR : Con :=
  { lp := some ⟨4, 91, [(.tmp 3, .int)]⟩, mea := fun r => ((gd r 0).len - gi r 2).toNat, bnd := [big]
    pre := fun r => gi r 2 ≤ (gd r 0).len ∧ allPk (pks (gd r 0)) (gi r 2) }
def lChkR2 : Con :=
  { lp := some ⟨9, 91, [(.tmp 4, .int)]⟩, mea := fun r => ((gd r 1).len - gi r 94).toNat, bnd := [big]
    pre := fun r => gi r 94 ≤ (gd r 1).len ∧ allPr (prs (gd r 1)) (gi r 94) }
noncomputable def cSameP (f : FuncId) : Con := b2 f [.agg pkt, .agg pkt] [.one bR] fun xs => yn (pk3 xs 0 = pk3 xs 3)
noncomputable def cSame (f : FuncId) : Con := b2 f [.agg net, .agg net] [.one bR] fun xs => yn (pks (gd xs 0) = pks (gd xs 2) ∧ prs (gd xs 1) = prs (gd xs 3))
def lSame : Con :=
  { lp := some ⟨4, 60, [(.tmp 5, .int)]⟩, mea := fun r => ((gd r 0).len - gi r 4).toNat, bnd := [big]
    pre := fun r => gi r 4 ≤ (gd r 0).len ∧ (pks (gd r 0)).take (gi r 4).toNat = (pks (gd r 2)).take (gi r 4).toNat }
def lSame2 : Con :=
  { lp := some ⟨9, 60, [(.tmp 6, .int)]⟩, mea := fun r => ((gd r 1).len - gi r 65).toNat, bnd := [big]
    pre := fun r => gi r 65 ≤ (gd r 1).len ∧ (prs (gd r 1)).take (gi r 65).toNat = (prs (gd r 3)).take (gi r 65).toNat }
noncomputable def cFew (f : FuncId) : Con := b2 f [.agg net] [.one bR] fun xs => yn ((gd xs 0).len ≤ 40 ∧ (gd xs 1).len ≤ 40)
noncomputable def cIsC (f : FuncId) : Con := b2 f [.agg net, .agg pair] [.one bR] fun xs => yn ((gi xs 2, gi xs 3) ∈ prs (gd xs 1))
def lIsC : Con :=
  { lp := some ⟨2, 18, [(.tmp 10, .int)]⟩, mea := fun r => ((gd r 1).len - gi r 4).toNat, bnd := [big]
    pre := fun r => gi r 4 ≤ (gd r 1).len ∧ (gi r 2, gi r 3) ∉ (prs (gd r 1)).take (gi r 4).toNat }
noncomputable def cIsR (f : FuncId) : Con := b2 f [.agg net, aI, aI] [.one bR] fun xs => yn (link (gi xs 2) (gi xs 3) ∈ prs (gd xs 1))
def lIsR : Con :=
  { lp := some ⟨2, 37, [(.tmp 7, .int)]⟩, mea := fun r => ((gd r 1).len - gi r 4).toNat, bnd := [big]
    pre := fun r => gi r 4 ≤ (gd r 1).len ∧ link (gi r 2) (gi r 3) ∉ (prs (gd r 1)).take (gi r 4).toNat }
/-- Without a packet. -/
def cWo (f : FuncId) : Con := { f := f, args := [.agg [.sl 4096 pkt, prsS], .c (.int .i64 0 4095)], res := [netR], pre := fun xs => gi xs 2 < (gd xs 0).len, post := fun xs y => pks (gd y 0) = (pks (gd xs 0)).eraseIdx (gi xs 2).toNat ∧ prs (gd y 1) = prs (gd xs 1) }
noncomputable def cSend (f : FuncId) : Con := { f := f, args := [.agg net, .agg pkt], res := [netR, .one iR], pre := fun _ => True, post := fun xs y => net3 y 0 = sendQ (pks (gd xs 0)) (prs (gd xs 1)) (pk3 xs 2) }
noncomputable def cDel (f : FuncId) : Con := { f := f, args := [.agg net, aI], res := [pktR, netR, .one iR], pre := fun _ => True, post := fun xs y => (pk3 y 0, net3 y 3) = delQ (pks (gd xs 0)) (prs (gd xs 1)) (gi xs 2) }
noncomputable def cLos (f : FuncId) : Con := { f := f, args := [.agg net, aI], res := [netR, .one iR], pre := fun _ => True, post := fun xs y => net3 y 0 = losQ (pks (gd xs 0)) (prs (gd xs 1)) (gi xs 2) }
noncomputable def cRep (f : FuncId) : Con := { f := f, args := [.agg net, aI], res := [netR, .one iR], pre := fun _ => True, post := fun xs y => net3 y 0 = repQ (pks (gd xs 0)) (prs (gd xs 1)) (gi xs 2) }
end Go.Proofs.Ytmphcgafegmheaa
