/- DERIVED. What functions of disk keep. -/
import Derived.Test.YtdhdpgdifphfkaaEtb
namespace Go.Proofs.Ytdhdpgdifphfkaa
open Go.Dx
set_option linter.unusedVariables false
abbrev i64s : Sh := .int .i64 (-9223372036854775808) 9223372036854775807
abbrev u8s : Sh := .int .u8 0 255
abbrev bytes : Sh := .sl 9223372036854775807 [u8s]
abbrev wr : List Sh := [i64s, bytes]
abbrev secS : Sh := .sl 9223372036854775807 [bytes]
abbrev penS : Sh := .sl 9223372036854775807 wr
abbrev disk : List Sh := [secS, penS, i64s, .bool]
abbrev iR : RC := ⟨i64s, none⟩
abbrev bR : RC := ⟨.bool, none⟩
abbrev dR : RC := ⟨bytes, none⟩
abbrev dO : RC := ⟨bytes, some 5⟩
abbrev sR : RC := ⟨secS, none⟩
abbrev pR : RC := ⟨penS, none⟩
abbrev diskR : RSh := .agg [sR, pR, iR, bR]
abbrev big : VD := .i 0 9223372036854775807
abbrev bitV : VD := .i 0 1
abbrev aI : ASh := .c i64s
def gi (l : List DV) (k : Nat) : Int := (l.getD k (.n 0)).int
def gd (l : List DV) (k : Nat) : DV := l.getD k (.n 0)
/-- Bytes; sectors; writes; a disk. -/
def bys (d : DV) : List Int := numsOf d.els
def sece (e : List DV) : List Int := bys (e.getD 0 (.n 0))
abbrev Sec := List (List Int)
def secs (d : DV) : Sec := d.els.map sece
abbrev Wr := Int × List Int
def pene (e : List DV) : Wr := ((e.getD 0 (.n 0)).int, bys (e.getD 1 (.n 0)))
abbrev Pen := List Wr
def pens (d : DV) : Pen := d.els.map pene
abbrev D4 := Sec × Pen × Int × Int
def d4 (y : List DV) (k : Nat) : D4 := (secs (gd y k), pens (gd y (k + 1)), gi y (k + 2), gi y (k + 3))
def inD (d : D4) (k : Int) : Prop := 0 ≤ k ∧ k < d.1.length
def okD (d : D4) : Prop := ((1 ≤ d.1.length ∧ d.1.length ≤ 4096) ∧ d.2.1.length ≤ 4096 ∧ (-1 ≤ d.2.2.1 ∧ d.2.2.1 ≤ 65536)) ∧ (∀ s ∈ d.1, s.length = 128) ∧ ∀ p ∈ d.2.1, inD d p.1 ∧ p.2.length = 128
def runD (d : D4) : Prop := okD d ∧ d.2.2.2 = 0
noncomputable instance decR (d : D4) : Decidable (runD d) := Classical.propDecidable _
noncomputable instance decO (d : D4) : Decidable (okD d) := Classical.propDecidable _
instance decI (d : D4) (k : Int) : Decidable (inD d k) := by unfold inD; infer_instance
noncomputable def yn (p : Prop) : List DV := @ite _ p (Classical.propDecidable p) [.n 1] [.n 0]
noncomputable def chkF (d : D4) : Int := if okD d then 0 else 40
def padL (b : List Int) : List Int := b.take 128 ++ List.replicate (128 - b.length) 0
def nil4 : D4 := ([], [], 0, 0)
/-- What was written last. -/
def lastP (k : Int) : Pen → List Int → List Int
  | [], b => b
  | p :: l, b => lastP k l (if p.1 = k then p.2 else b)
def doP (s : Sec) (p : Pen) : Sec := p.foldl (fun s p => s.set p.1.toNat p.2) s
def tearL (s : Sec) (p : Wr) : Sec := s.set p.1.toNat (p.2.take 64 ++ (s.getD p.1.toNat []).drop 64)
noncomputable def readQ (d : D4) (k : Int) : List Int × Int := if runD d ∧ inD d k then (lastP k d.2.1 (d.1.getD k.toNat []), 0) else ([], 40)
noncomputable def writeQ (d : D4) (k : Int) (b : List Int) : D4 × Int :=
  if runD d ∧ inD d k then (if b.length ≤ 128 then (if d.2.1.length = 4096 then (nil4, 2) else ((d.1, d.2.1 ++ [(k, padL b)], d.2.2.1, d.2.2.2), 0)) else (nil4, 1)) else (nil4, 40)
noncomputable def syncQ (d : D4) : D4 × Int :=
  if runD d then (if 0 ≤ d.2.2.1 ∧ d.2.2.1 < d.2.1.length then ((tearL (doP d.1 (d.2.1.take d.2.2.1.toNat)) (d.2.1.getD d.2.2.1.toNat (0, [])), [], 0, 1), 40)
    else ((doP d.1 d.2.1, [], (if 0 ≤ d.2.2.1 then d.2.2.1 - d.2.1.length else d.2.2.1), 0), 0)) else (nil4, 40)
noncomputable def stopQ (d : D4) (l : Int) : D4 × Int := if runD d then (if 0 ≤ l ∧ l ≤ 65536 then ((d.1, d.2.1, l, d.2.2.2), 0) else (nil4, 1)) else (nil4, 40)
def resQ (d : D4) : D4 := (d.1, [], -1, 0)
def newQ (n : Int) : D4 × Int := if 1 ≤ n ∧ n ≤ 4096 then ((List.replicate n.toNat (List.replicate 128 0), [], -1, 0), 0) else (nil4, 1)
def b2 (f : FuncId) (a : List ASh) (r : List RSh) (q : List DV → List DV) : Con := { f := f, args := a, res := r, pre := fun _ => True, post := fun xs y => y = q xs }
def cFew (f : FuncId) : Con := { f := f, args := [.agg disk], res := [.one bR], pre := fun _ => True, post := fun _ _ => True }
noncomputable def cChk (f : FuncId) : Con := b2 f [.agg disk] [.one iR] fun xs => [.n (chkF (d4 xs 0))]
noncomputable def cRun (f : FuncId) : Con := b2 f [.agg disk] [.one bR] fun xs => yn (runD (d4 xs 0))
noncomputable def cSame (f : FuncId) : Con := b2 f [.agg disk, .agg disk] [.one bR] fun xs => yn (d4 xs 0 = d4 xs 4)
def cPad (f : FuncId) : Con := { f := f, args := [.c bytes], res := [.one dO], pre := fun _ => True, post := fun xs y => bys (gd y 0) = padL (bys (gd xs 0)) }
noncomputable def cRead (f : FuncId) : Con := { f := f, args := [.agg disk, aI], res := [.one dR, .one iR], pre := fun _ => True, post := fun xs y => (bys (gd y 0), gi y 1) = readQ (d4 xs 0) (gi xs 4) }
noncomputable def cWrite (f : FuncId) : Con := { f := f, args := [.agg disk, aI, .c bytes], res := [diskR, .one iR], pre := fun _ => True, post := fun xs y => (d4 y 0, gi y 4) = writeQ (d4 xs 0) (gi xs 4) (bys (gd xs 5)) }
noncomputable def cSync (f : FuncId) : Con := { f := f, args := [.agg disk], res := [diskR, .one iR], pre := fun _ => True, post := fun xs y => (d4 y 0, gi y 4) = syncQ (d4 xs 0) }
noncomputable def cStop (f : FuncId) : Con := { f := f, args := [.agg disk, aI], res := [diskR, .one iR], pre := fun _ => True, post := fun xs y => (d4 y 0, gi y 4) = stopQ (d4 xs 0) (gi xs 4) }
def cRes (f : FuncId) : Con := { f := f, args := [.agg disk], res := [diskR], pre := fun _ => True, post := fun xs y => d4 y 0 = resQ (d4 xs 0) }
def cNew (f : FuncId) : Con := { f := f, args := [aI], res := [diskR, .one iR], pre := fun _ => True, post := fun xs y => (d4 y 0, gi y 4) = newQ (gi xs 0) }
/-! Loops. -/
def allS (s : Sec) (i : Int) : Prop := ∀ x ∈ s.take i.toNat, x.length = 128
def allW (s : Sec) (p : Pen) (i : Int) : Prop := ∀ x ∈ p.take i.toNat, (0 ≤ x.1 ∧ x.1 < s.length) ∧ x.2.length = 128
def lChk : Con :=
  { lp := some ⟨4, 63, [(.tmp 36, .int)]⟩, mea := fun r => ((gd r 0).len - gi r 4).toNat, bnd := [big]
    pre := fun r => gi r 4 ≤ (gd r 0).len ∧ allS (secs (gd r 0)) (gi r 4) }
def lChk2 : Con :=
  { lp := some ⟨10, 63, [(.tmp 47, .int)]⟩, mea := fun r => ((gd r 1).len - gi r 68).toNat, bnd := [big]
    pre := fun r => gi r 68 ≤ (gd r 1).len ∧ allW (secs (gd r 0)) (pens (gd r 1)) (gi r 68) }
def lChkR : Con :=
  { lp := some ⟨5, 71, [(.tmp 4, .int)]⟩, mea := fun r => ((gd r 0).len - gi r 4).toNat, bnd := [big]
    pre := fun r => gi r 4 ≤ (gd r 0).len ∧ allS (secs (gd r 0)) (gi r 4) }
def lChkR2 : Con :=
  { lp := some ⟨10, 71, [(.tmp 5, .int)]⟩, mea := fun r => ((gd r 1).len - gi r 76).toNat, bnd := [big]
    pre := fun r => gi r 76 ≤ (gd r 1).len ∧ allW (secs (gd r 0)) (pens (gd r 1)) (gi r 76) }
def lSame : Con :=
  { lp := some ⟨4, 94, [(.tmp 5, .int)]⟩, mea := fun r => ((gd r 0).len - gi r 8).toNat, bnd := [big]
    pre := fun r => gi r 8 ≤ (gd r 0).len ∧ (secs (gd r 0)).take (gi r 8).toNat = (secs (gd r 4)).take (gi r 8).toNat }
def lSame2 : Con :=
  { lp := some ⟨9, 94, [(.tmp 6, .int)]⟩, mea := fun r => ((gd r 1).len - gi r 103).toNat, bnd := [big]
    pre := fun r => gi r 103 ≤ (gd r 1).len ∧ (pens (gd r 1)).take (gi r 103).toNat = (pens (gd r 5)).take (gi r 103).toNat }
abbrev i64V : VD := .i (-9223372036854775808) 9223372036854775807
def lFew : Con :=
  { lp := some ⟨3, 49, [(.tmp 3, .int), (.tmp 4, .int)]⟩, mea := fun r => ((gd r 0).len - gi r 5).toNat, bnd := [i64V, big]
    pre := fun r => gi r 5 ≤ (gd r 0).len }
def lFew2 : Con :=
  { lp := some ⟨7, 49, [(.tmp 3, .int), (.tmp 5, .int)]⟩, mea := fun r => ((gd r 1).len - gi r 56).toNat, bnd := [i64V, big]
    pre := fun r => gi r 56 ≤ (gd r 1).len }
def lRead : Con :=
  { lp := some ⟨1, 18, [(.tmp 3, .int)]⟩, mea := fun r => (gi r 6 + 1).toNat, bnd := [.i (-1) 9223372036854775807]
    pre := fun r => gi r 6 < (gd r 1).len ∧ ∀ x ∈ (pens (gd r 1)).drop (gi r 6 + 1).toNat, x.1 ≠ gi r 4 }
def lReadR : Con :=
  { lp := some ⟨5, 53, [(.tmp 6, .sl false 0), (.tmp 7, .int)]⟩, mea := fun r => ((gd r 1).len - gi r 8).toNat, bnd := [.d bytes, big]
    pre := fun r => gi r 8 ≤ (gd r 1).len ∧ bys (gd r 7) = lastP (gi r 4) ((pens (gd r 1)).take (gi r 8).toNat) ((secs (gd r 0)).getD (gi r 4).toNat []) }
def lWriteR : Con :=
  { lp := some ⟨8, 57, [(.tmp 8, .sl true 5)]⟩, mea := fun r => (128 - (gd r 7).len).toNat, bnd := [.d bytes]
    pre := fun r => (gd r 7).len ≤ 128 ∧ ∃ k, bys (gd r 7) = bys (gd r 5) ++ List.replicate k 0 }
def lSync : Con :=
  { lp := some ⟨9, 73, [(.cell 1 0, .sl true 35), (.tmp 39, .int)]⟩, mea := fun r => ((gd r 5).len - gi r 7).toNat, bnd := [.d secS, big]
    pre := fun r => gi r 7 ≤ (gd r 5).len ∧ secs (gd r 6) = doP (secs (gd r 0)) ((pens (gd r 5)).take (gi r 7).toNat) }
def manyS (l n : Int) : Int := if 0 ≤ l ∧ l < n then l else n
def lSyncR : Con :=
  { lp := some ⟨9, 95, [(.cell 2 0, .sl true 35), (.tmp 7, .int)]⟩, mea := fun r => (manyS (gi r 2) (gd r 1).len - gi r 6).toNat, bnd := [.d secS, big]
    pre := fun r => gi r 6 ≤ manyS (gi r 2) (gd r 1).len ∧ secs (gd r 5) = doP (secs (gd r 0)) ((pens (gd r 1)).take (gi r 6).toNat) }
def zero128 : List Int := List.replicate 128 0
def lNew : Con :=
  { lp := some ⟨5, 29, [(.cell 0 0, .sl true 35), (.tmp 18, .int)]⟩, mea := fun r => (gi r 0 - gi r 3).toNat, bnd := [.d secS, big]
    pre := fun r => gi r 3 ≤ gi r 0 ∧ (secs (gd r 2)).length = (gi r 0).toNat ∧ (secs (gd r 2)).take (gi r 3).toNat = List.replicate (gi r 3).toNat zero128 }
def lNewR : Con :=
  { lp := some ⟨5, 26, [(.cell 1 0, .sl true 35), (.tmp 5, .int)]⟩, mea := fun r => (gi r 0 - gi r 3).toNat, bnd := [.d secS, big]
    pre := fun r => gi r 3 ≤ gi r 0 ∧ secs (gd r 2) = List.replicate (gi r 3).toNat zero128 }
end Go.Proofs.Ytdhdpgdifphfkaa
