/- DERIVED. What the law of a disk's history keeps. -/
import Derived.Test.YtdhdpgdifphfkaaDconc
namespace Go.Proofs.Ytdhdpgdifphfkaa
open Go.Dx
set_option linter.unusedVariables false
abbrev arr4 : List Sh := [u8s, u8s, u8s, u8s]
/-- Four bytes. -/
abbrev A4 := Int × Int × Int × Int
def q4 (r : List DV) (k : Nat) : A4 := (gi r k, gi r (k + 1), gi r (k + 2), gi r (k + 3))
def getA (f : A4) (i : Int) : Int := if i = 0 then f.1 else if i = 1 then f.2.1 else if i = 2 then f.2.2.1 else f.2.2.2
def setA (f : A4) (i b : Int) : A4 := (if i = 0 then b else f.1, if i = 1 then b else f.2.1, if i = 2 then b else f.2.2.1, if i = 3 then b else f.2.2.2)
/-- A sector by the first bytes of its halves. -/
def sec2 (f s : Int) : List Int := f :: List.replicate 63 0 ++ s :: List.replicate 63 0
def secs4 (f s : A4) : Sec := [sec2 f.1 s.1, sec2 f.2.1 s.2.1, sec2 f.2.2.1 s.2.2.1, sec2 f.2.2.2 s.2.2.2]
abbrev Act2 := Int × Int
def actE (e : List DV) : Act2 := (Int.tmod (e.getD 1 (.n 0)).int 4, (e.getD 2 (.n 0)).int)
def acts (d : DV) : List Act2 := d.els.map actE
def appA (f : A4) (w : List Act2) : A4 := w.foldl (fun f a => setA f a.1 a.2) f
def pw (w : List Act2) : Pen := w.map fun a => (a.1, dblL a.2)
def hYes (d : D4) (f s : A4) : Prop := ∀ i : Int, 0 ≤ i → i < 4 → readQ d i = (sec2 (getA f i) (getA s i), 0)
def cHold : Con := { f := 28, args := [.agg disk, .agg arr4, .agg arr4], res := [.one bR], pre := fun _ => True, post := fun xs y => hYes (d4 xs 0) (q4 xs 4) (q4 xs 8) → y = [.n 1] }
def hisP (d : D4) (last f s : A4) (w : List Act2) (room : Int) : Prop := s = f ∧ last = appA f w ∧ d = (secs4 f f, pw w, room, 0) ∧ 0 ≤ room ∧ room ≤ 255
abbrev byV : VD := .i 0 255
def lHis : Con :=
  { lp := some ⟨13, 163, [(.rc 1005 0, .sl false 0), (.rc 1005 1, .sl false 0), (.rc 1005 2, .int), (.rc 1005 3, .int), (.rc 1008 0, .int), (.rc 1008 1, .int), (.rc 1008 2, .int), (.rc 1008 3, .int), (.rc 1009 0, .int), (.rc 1009 1, .int), (.rc 1009 2, .int), (.rc 1009 3, .int), (.rc 1010 0, .int), (.rc 1010 1, .int), (.rc 1010 2, .int), (.rc 1010 3, .int), (.tmp 11, .sl true 46), (.tmp 12, .int), (.tmp 13, .int)]⟩, mea := fun r => ((gd r 0).len - gi r 32).toNat
    bnd := [.d secS, .d penS, i64V, bitV, byV, byV, byV, byV, byV, byV, byV, byV, byV, byV, byV, byV, .d mvS, i64V, big]
    pre := fun r => gi r 32 ≤ (gd r 0).len ∧ (gd r 30).len ≤ gi r 32 ∧ hisP (d4 r 14) (q4 r 18) (q4 r 22) (q4 r 26) (acts (gd r 30)) (gi r 31) }
def lHis2 : Con :=
  { lp := some ⟨26, 163, [(.rc 1009 0, .int), (.rc 1009 1, .int), (.rc 1009 2, .int), (.rc 1009 3, .int), (.rc 1010 0, .int), (.rc 1010 1, .int), (.rc 1010 2, .int), (.rc 1010 3, .int), (.tmp 20, .int)]⟩, mea := fun r => ((gd r 30).len - gi r 209).toNat
    bnd := [byV, byV, byV, byV, byV, byV, byV, byV, big]
    pre := fun r => (gi r 209 ≤ (gd r 30).len ∧ gi r 209 ≤ gi r 31 + 1) ∧ q4 r 201 = appA (q4 r 22) ((acts (gd r 30)).take (gi r 209).toNat) ∧ q4 r 205 = appA (q4 r 26) ((acts (gd r 30)).take (min (gi r 209) (gi r 31)).toNat) }
end Go.Proofs.Ytdhdpgdifphfkaa
