/- DERIVED. What the functions on days keep. -/
import Derived.Test.YtdffnmhpkapbkaaDoorEtb
namespace Go.Proofs.YtdffnmhpkapbkaaDoor
open Go.Dx
set_option linter.unusedVariables false
abbrev i64s : Sh := .int .i64 (-9223372036854775808) 9223372036854775807
abbrev iR : RC := ⟨i64s, none⟩
abbrev eR : RSh := .one ⟨.int .i64 0 140, none⟩
abbrev bR : RSh := .one ⟨.bool, none⟩
abbrev big : VD := .i 0 9223372036854775807
abbrev any : VD := .i (-9223372036854775808) 9223372036854775807
abbrev spans : Sh := .sl 9223372036854775807 [i64s, i64s]
def ev (xs : List DV) (i : Nat) : Int := (xs.getD i (.n 0)).int
def dv (xs : List DV) (i : Nat) : DV := xs.getD i (.n 0)
/-- One more day in leap years; the lengths of years and months; the days before a year, before a month of it. -/
def lp (y : Int) : Int := if y % 4 = 0 ∧ y ≠ 2100 then 1 else 0
def yl (y : Int) : Int := 365 + lp y
def yb (y : Int) : Int := 365 * (y - 2000) + (y - 2000 + 3) / 4 - (if 2100 < y then 1 else 0)
def ml (y m : Int) : Int := if m = 2 then 28 + lp y else if m = 4 ∨ m = 6 ∨ m = 9 ∨ m = 11 then 30 else 31
def mb (y m : Int) : Int := (367 * m - 362) / 12 - (if m ≤ 2 then 0 else 2 - lp y)
def Date (y m d : Int) : Prop := (2000 ≤ y ∧ y ≤ 2199) ∧ (1 ≤ m ∧ m ≤ 12) ∧ 1 ≤ d ∧ d ≤ ml y m
def nb (y m d : Int) : Int := yb y + mb y m + d - 1
def Day (n : Int) : Prop := 0 ≤ n ∧ n ≤ 73048
def OfP (n : Int) (y : List DV) : Prop := (¬ Day n → y = [.n 0, .n 0, .n 0, .n 1]) ∧ (Day n → ∃ Y M D, Date Y M D ∧ n = nb Y M D ∧ y = [.n Y, .n M, .n D, .n 0])
def NumP (Y M D : Int) (y : List DV) : Prop := (¬ Date Y M D → y = [.n 0, .n 140]) ∧ (Date Y M D → y = [.n (nb Y M D), .n 0])
def WkP (n : Int) (y : List DV) : Prop := (¬ Day n → y = [.n 0, .n 1]) ∧ (Day n → y = [.n ((n + 5) % 7), .n 0])
def cOf (f : FuncId) : Con := { f := f, args := [.c i64s], res := [.agg [iR, iR, iR], eR], pre := fun _ => True, post := fun xs y => OfP (ev xs 0) y }
def cNum (f : FuncId) : Con := { f := f, args := [.agg [i64s, i64s, i64s]], res := [.one iR, eR], pre := fun _ => True, post := fun xs y => NumP (ev xs 0) (ev xs 1) (ev xs 2) y }
def cWk (f : FuncId) : Con := { f := f, args := [.c i64s], res := [.one iR, eR], pre := fun _ => True, post := fun xs y => WkP (ev xs 0) y }
def tt (id nt : Nat) (l : List (Dx.Loc × Tn)) (b : List VD) : Con := { lp := some ⟨id, nt, l⟩, bnd := b, pre := fun _ => True }
def cYl : Con := { f := 33, args := [.c (.int .i64 2000 2199)], res := [.one ⟨.int .i64 365 366, none⟩], pre := fun _ => True, post := fun xs y => y = [.n (yl (ev xs 0))] }
def cMl : Con := { f := 34, args := [.c (.int .i64 2000 2199), .c (.int .i64 1 12)], res := [.one ⟨.int .i64 28 31, none⟩], pre := fun _ => True, post := fun xs y => y = [.n (ml (ev xs 0) (ev xs 1))] }
def cMlR : Con := { f := 36, args := [.c i64s, .c i64s], res := [.one ⟨.int .i64 28 31, none⟩], pre := fun _ => True, post := fun xs y => y = [.n (ml (ev xs 0) (ev xs 1))] }
/-- The days that are left; the loops. -/
def lOf1 : Con :=
  { lp := some ⟨4, 37, [(.tmp 0, .int), (.tmp 4, .int)]⟩, mea := fun xs => (ev xs 1).toNat, bnd := [.i 0 73048, .i 2000 2199]
    pre := fun xs => ev xs 0 = ev xs 1 + yb (ev xs 2) }
def lOf2 : Con :=
  { lp := some ⟨7, 37, [(.tmp 0, .int), (.tmp 5, .int)]⟩, mea := fun xs => (ev xs 41).toNat, bnd := [.i 0 73048, .i 1 12]
    pre := fun xs => ev xs 1 = ev xs 41 + mb (ev xs 2) (ev xs 42) ∧ ev xs 1 < yl (ev xs 2) }
def lOfR : Con :=
  { lp := some ⟨4, 40, [(.tmp 0, .int), (.rc 1004 0, .int), (.rc 1004 1, .int)]⟩, mea := fun xs => (ev xs 1).toNat, bnd := [.i 0 73048, .i 2000 2199, .i 1 12]
    pre := fun xs => ev xs 0 = ev xs 1 + (yb (ev xs 2) + mb (ev xs 2) (ev xs 3)) }
def lNum1 : Con :=
  { lp := some ⟨5, 65, [(.tmp 2, .int), (.tmp 4, .int)]⟩, mea := fun xs => (ev xs 0 - ev xs 5).toNat, bnd := [.i 0 100000, .i 2000 2199]
    pre := fun xs => ev xs 5 ≤ ev xs 0 ∧ ev xs 4 = ev xs 2 - 1 + yb (ev xs 5) }
def lNum2 : Con :=
  { lp := some ⟨9, 65, [(.tmp 2, .int), (.tmp 5, .int)]⟩, mea := fun xs => (ev xs 1 - ev xs 72).toNat, bnd := [.i 0 100000, .i 1 12]
    pre := fun xs => ev xs 72 ≤ ev xs 1 ∧ ev xs 71 = ev xs 2 - 1 + yb (ev xs 0) + mb (ev xs 0) (ev xs 72) }
def lNumR1 : Con :=
  { lp := some ⟨5, 41, [(.tmp 4, .int), (.tmp 5, .int)]⟩, mea := fun xs => (ev xs 0 + 1 - ev xs 5).toNat, bnd := [.i 0 100000, .i 2000 2200]
    pre := fun xs => ev xs 5 ≤ ev xs 0 + 1 ∧ (ev xs 5 ≤ ev xs 0 → ev xs 4 = ev xs 2 - 1 + yb (ev xs 5)) ∧ (ev xs 5 = ev xs 0 + 1 → ev xs 4 = nb (ev xs 0) (ev xs 1) (ev xs 2)) }
def lNumR2 : Con :=
  { lp := some ⟨8, 41, [(.tmp 4, .int), (.tmp 6, .int)]⟩, mea := fun xs => (13 - ev xs 48).toNat, bnd := [.i 0 100000, .i 1 13]
    pre := fun xs => ev xs 5 ≤ ev xs 0 ∧ (ev xs 5 = ev xs 0 → ev xs 48 ≤ ev xs 1) ∧ ev xs 47 = ev xs 2 - 1 + yb (ev xs 5) + mb (ev xs 5) (ev xs 48) }
end Go.Proofs.YtdffnmhpkapbkaaDoor
