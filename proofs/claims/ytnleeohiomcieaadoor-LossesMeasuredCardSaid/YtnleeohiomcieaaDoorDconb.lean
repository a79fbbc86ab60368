/- DERIVED. What the functions on surveys keep. -/
import Derived.Test.YtnleeohiomcieaaDoorDcon
namespace Go.Proofs.YtnleeohiomcieaaDoor
open Go.Dx
set_option linter.unusedVariables false
abbrev big : VD := .i 0 9223372036854775807
abbrev any : VD := .i (-9223372036854775808) 9223372036854775807
abbrev pans : Sh := .sl 9223372036854775807 [i64s, i64s]
abbrev ponds : Sh := .sl 9223372036854775807 [i64s, i64s, i64s, i64s]
abbrev survey : List Sh := [i64s, i64s, i64s, i64s, i64s, i64s, pans, ponds]
structure Svy where
  su : Int
  so : Int
  n0 : Int
  d0 : Int
  n1 : Int
  d1 : Int
  pa : DV
  po : DV
def dv (xs : List DV) (i : Nat) : DV := xs.getD i (.n 0)
def svy (xs : List DV) : Svy := ⟨ev xs 0, ev xs 1, ev xs 2, ev xs 3, ev xs 4, ev xs 5, dv xs 6, dv xs 7⟩
def PanOk (d : DV) (k : Int) : Prop := (0 ≤ d.at k 0 ∧ d.at k 0 ≤ d.at k 1) ∧ d.at k 1 ≤ 1000
def PondOk (d : DV) (k : Int) : Prop := ((1 ≤ d.at k 0 ∧ d.at k 0 ≤ 1073741824) ∧ 1 ≤ d.at k 1 ∧ d.at k 1 ≤ 4096) ∧ (0 ≤ d.at k 2 ∧ d.at k 2 ≤ d.at k 3) ∧ d.at k 3 ≤ d.at k 0
def AllP (p : DV → Int → Prop) (d : DV) (n : Int) : Prop := ∀ k : Int, 0 ≤ k → k < n → p d k
def Head (s : Svy) : Prop := ((0 ≤ s.su ∧ s.su ≤ 1048576) ∧ 0 ≤ s.so ∧ s.so ≤ 5) ∧ Shr s.n0 s.d0 s.n1 s.d1 ∧ s.d0 ≤ 1000 ∧ s.d1 ≤ 1000
def RightS (s : Svy) : Prop := Head s ∧ AllP PanOk s.pa s.pa.len ∧ AllP PondOk s.po s.po.len
def cIsS : Con := { f := 64, args := [.agg survey], res := [bR], pre := fun _ => True, post := fun xs y => ValP (RightS (svy xs)) y }
def cIsSR : Con := { f := 66, args := [.agg survey], res := [bR], pre := fun _ => True, post := fun xs y => ValP (RightS (svy xs)) y }
/-- The pans, the ponds, one after the other. -/
def lAll (p : DV → Int → Prop) (id nt slot j m : Nat) : Con :=
  { lp := some ⟨id, nt, [(.tmp slot, .int)]⟩, mea := fun xs => ((dv xs j).len - ev xs m).toNat
    bnd := [big], pre := fun xs => ev xs m ≤ (dv xs j).len ∧ AllP p (dv xs j) (ev xs m) }
/-- What evaporates by one pan, by the first ones. -/
def eLo (s : Svy) (dl x : Int) : Int := (s.n0 * x * s.su * dl).tdiv (240 * s.d0)
def eHi (s : Svy) (dl x : Int) : Int := (s.n1 * x * s.su * dl + 240 * s.d1 - 1).tdiv (240 * s.d1)
def evL (s : Svy) (dl : Int) : Nat → Int
  | 0 => 0
  | k + 1 => max (evL s dl k) (eLo s dl (s.pa.at k 0))
def evH (s : Svy) (dl : Int) : Nat → Int
  | 0 => 1073741824
  | k + 1 => min (evH s dl k) (eHi s dl (s.pa.at k 1))
def Dly (dl : Int) : Prop := 1 ≤ dl ∧ dl ≤ 16
def Long (s : Svy) : Prop := 16 < s.pa.len ∨ 16 < s.po.len
def eLs (s : Svy) (dl : Int) : Int := if s.pa.len = 0 then eLo s dl 0 else evL s dl s.pa.len.toNat
def eHs (s : Svy) (dl : Int) : Int := if s.pa.len = 0 then min 1073741824 (eHi s dl 240) else evH s dl s.pa.len.toNat
/-- What both return, but for errors. -/
def ErrP (s : Svy) (dl : Int) (z : List DV) (fine : Prop) (y : List DV) : Prop := (Long s → y = z ++ [.n 2]) ∧ (¬ Long s → ¬ RightS s → y = z ++ [.n 210]) ∧ (¬ Long s → RightS s → ¬ Dly dl → y = z ++ [.n 1]) ∧ (¬ Long s → RightS s → Dly dl → fine)
def EvapP (s : Svy) (dl : Int) (y : List DV) : Prop := ErrP s dl [.n 0, .n 0] ((eHs s dl < eLs s dl → y = [.n 0, .n 0, .n 210]) ∧ (¬ eHs s dl < eLs s dl → y = [.n (eLs s dl), .n (eHs s dl), .n 0])) y
def cEvap (f : FuncId) : Con := { f := f, args := [.agg survey, .c i64s], res := [.agg [iR, iR], eR], pre := fun _ => True, post := fun xs y => EvapP (svy xs) (ev xs 8) y }
def lEv : Con :=
  { lp := some ⟨3, 23, [(.tmp 13, .int), (.rc 3 0, .int), (.rc 3 1, .int)]⟩, mea := fun xs => ((dv xs 6).len - ev xs 10).toNat, bnd := [big, any, any]
    pre := fun xs => ev xs 10 ≤ (dv xs 6).len ∧ ev xs 11 = evL (svy xs) (ev xs 8) (ev xs 10).toNat ∧ ev xs 12 = evH (svy xs) (ev xs 8) (ev xs 10).toNat }
def lEvR : Con :=
  { lp := some ⟨8, 68, [(.tmp 8, .int), (.cell 2 0, .int), (.cell 2 1, .int)]⟩, mea := fun xs => ((dv xs 6).len - ev xs 10).toNat, bnd := [.i 1 9223372036854775807, any, any]
    pre := fun xs => ((dv xs 6).len = 0 → ev xs 11 = eLo (svy xs) (ev xs 8) 0 ∧ ev xs 12 = eHi (svy xs) (ev xs 8) 240) ∧
      ((dv xs 6).len ≠ 0 → ev xs 10 ≤ (dv xs 6).len ∧ ev xs 11 = evL (svy xs) (ev xs 8) (ev xs 10).toNat ∧ ev xs 12 = evH (svy xs) (ev xs 8) (ev xs 10).toNat) }
/-- What seeps, of 2^20 parts. -/
def soLo (c : Int) : Int := if c = 0 then 0 else if c = 1 then 64 else if c = 2 then 256 else if c = 3 then 512 else if c = 4 then 1024 else 2048
def soHi (c : Int) : Int := if c = 0 then 64 else if c = 1 then 512 else if c = 2 then 1024 else if c = 3 then 2048 else if c = 4 then 4096 else 16384
def pLo (s : Svy) (dl : Int) (k : Int) : Int := (1048576 * s.po.at k 2 * dl).tdiv (s.po.at k 0 * s.po.at k 1)
def pHi (s : Svy) (dl : Int) (k : Int) : Int := (1048576 * s.po.at k 3 * dl + s.po.at k 0 * s.po.at k 1 - 1).tdiv (s.po.at k 0 * s.po.at k 1)
def spL (s : Svy) (dl : Int) : Nat → Int
  | 0 => soLo s.so * dl
  | k + 1 => max (spL s dl k) (pLo s dl k)
def spH (s : Svy) (dl : Int) : Nat → Int
  | 0 => soHi s.so * dl
  | k + 1 => min (spH s dl k) (pHi s dl k)
def sLs (s : Svy) (dl : Int) : Int := min (spL s dl s.po.len.toNat) 1048576
def sHs (s : Svy) (dl : Int) : Int := min (spH s dl s.po.len.toNat) 1048576
/-- n / 2^20 in lowest terms. -/
def mN (n : Int) : Int := n / gcdI n 1048576
def mD (n : Int) : Int := 1048576 / gcdI n 1048576
def SeepP (s : Svy) (dl : Int) (y : List DV) : Prop := ErrP s dl [.n 0, .n 0, .n 0, .n 0]
  ((sHs s dl < sLs s dl → y = [.n 0, .n 0, .n 0, .n 0, .n 210]) ∧ (¬ sHs s dl < sLs s dl → y = [.n (mN (sLs s dl)), .n (mD (sLs s dl)), .n (mN (sHs s dl)), .n (mD (sHs s dl)), .n 0])) y
def cSeep (f : FuncId) : Con := { f := f, args := [.agg survey, .c i64s], res := [.agg [iR, iR, iR, iR], eR], pre := fun _ => True, post := fun xs y => SeepP (svy xs) (ev xs 8) y }
def cMk (f : FuncId) : Con := { f := f, args := [.c (.int .i64 0 1048576), .c (.int .i64 1048576 1048576)], res := [.agg [iR, iR], eR], pre := fun _ => True, post := fun xs y => y = [.n (mN (ev xs 0)), .n (mD (ev xs 0)), .n 0] }
def lMkR : Con :=
  { lp := some ⟨11, 69, [(.tmp 8, .int), (.tmp 9, .int)]⟩, bnd := [.i (-1048576) 0, .i (-1048576) 0]
    pre := fun xs => gcdI (ev xs 2) (ev xs 3) = gcdI (ev xs 0) (ev xs 1) ∧ (ev xs 2 = 0 → ev xs 3 ≠ 0), mea := fun xs => (ev xs 3).natAbs }
def lSp : Con :=
  { lp := some ⟨1, 16, [(.tmp 7, .int), (.rc 3 0, .int), (.rc 3 1, .int)]⟩, mea := fun xs => ((dv xs 7).len - ev xs 10).toNat, bnd := [big, any, any]
    pre := fun xs => ev xs 10 ≤ (dv xs 7).len ∧ ev xs 11 = spL (svy xs) (ev xs 8) (ev xs 10).toNat ∧ ev xs 12 = spH (svy xs) (ev xs 8) (ev xs 10).toNat }
def lSpR : Con :=
  { lp := some ⟨9, 108, [(.tmp 9, .int), (.cell 2 0, .int), (.cell 2 1, .int)]⟩, mea := fun xs => ((dv xs 7).len - ev xs 10).toNat, bnd := [big, any, any]
    pre := fun xs => ev xs 10 ≤ (dv xs 7).len ∧ ev xs 11 = min (spL (svy xs) (ev xs 8) (ev xs 10).toNat) 1048576 ∧ ev xs 12 = min (spH (svy xs) (ev xs 8) (ev xs 10).toNat) 1048576 }
end Go.Proofs.YtnleeohiomcieaaDoor
