/- DERIVED. What functions of wells keep. -/
import Derived.Test.YtcidomlhmdefaaaDtb
namespace Go.Proofs.Ytcidomlhmdefaaa
open Go.Dx
set_option linter.unusedVariables false
abbrev i64s : Sh := .int .i64 (-9223372036854775808) 9223372036854775807
abbrev ints : Sh := .sl 9223372036854775807 [i64s]
abbrev well : List Sh := [i64s, i64s, i64s, ints]
abbrev iR : RC := ⟨i64s, none⟩
abbrev bR : RC := ⟨.bool, none⟩
abbrev lR : RC := ⟨ints, some 3⟩
abbrev big : VD := .i 0 9223372036854775807
abbrev sumV : VD := .i 0 576460752303423488
abbrev aI : ASh := .c i64s
def gi (l : List DV) (k : Nat) : Int := (l.getD k (.n 0)).int
def gd (l : List DV) (k : Nat) : DV := l.getD k (.n 0)
/-- A well. -/
structure WO where
  f : Int
  r : Int
  d : Int
  K : DV
def wo (l : List DV) : WO := ⟨gi l 0, gi l 1, gi l 2, gd l 3⟩
/-- The sum of the first n. -/
def sumN (f : Nat → Int) : Nat → Int
  | 0 => 0
  | n + 1 => sumN f n + f n
def el (L : DV) (i : Nat) : Int := L.at i 0
def kOk (w : WO) (n : Nat) : Prop := ∀ i : Nat, i < n → 0 ≤ el w.K i ∧ el w.K i ≤ w.d
def sumK (w : WO) (n : Nat) : Int := sumN (el w.K) n
def kernP (w : WO) : Prop := (1 ≤ w.d ∧ w.d ≤ 1048576) ∧ w.K.len ≠ 0 ∧ kOk w w.K.len.toNat ∧ sumK w w.K.len.toNat ≤ w.d
def litP (L : DV) (n : Nat) : Prop := ∀ i : Nat, i < n → 0 ≤ el L i ∧ el L i ≤ 1073741824
def isW (w : WO) (a b : Int) : Prop := ((0 ≤ w.f ∧ w.f < a) ∧ 0 ≤ w.r ∧ w.r < b) ∧ kernP w
instance decK (w : WO) (n : Nat) : Decidable (kOk w n) := by unfold kOk; infer_instance
instance decKe (w : WO) : Decidable (kernP w) := by unfold kernP; infer_instance
instance decL (L : DV) (n : Nat) : Decidable (litP L n) := by unfold litP; infer_instance
instance decW (w : WO) (a b : Int) : Decidable (isW w a b) := by unfold isW; infer_instance
def chkF (w : WO) (p : DV) : Int := if 64 < w.K.len ∨ 400 < p.len then 2 else if isW w 600 64 ∧ litP p p.len.toNat then 0 else 420
/-- What is missing on a day; until a day. -/
def cellE (w : WO) (p : DV) (day i j : Nat) : Int := if i + j = day then el p i * el w.K j else 0
def cellL (w : WO) (p : DV) (day i j : Nat) : Int := if i + j ≤ day then el p i * el w.K j else 0
/-- The sum over n rows of length m, and over j cells of the next one. -/
def dsum (f : Nat → Nat → Int) (m n j : Nat) : Int := sumN (fun i => sumN (f i) m) n + sumN (f n) j
def U (w : WO) (p : DV) (k : Nat) : Int := dsum (cellL w p k) w.K.len.toNat p.len.toNat 0
def untF (w : WO) (p : DV) (k : Nat) : Int := (U w p k).tdiv w.d
def days (w : WO) (p : DV) : Nat := if p.len = 0 then 0 else (p.len + w.K.len - 1).toNat
/-- One number a row. -/
def gRows (g : Nat → Int) (n : Nat) : List (List DV) := (List.range n).map fun k => [.n (g k)]
def bef (g : Nat → Int) : Nat → Int
  | 0 => 0
  | k + 1 => g k
def owF (w : WO) (p : DV) (k : Nat) : Int := untF w p k - bef (untF w p) k
def rpF (w : WO) (p R : DV) (k : Nat) : Int := max 0 (untF w p k - sumN (el R) (k + 1))
def OwedF (w : WO) (p : DV) : List DV := if chkF w p ≠ 0 then [.sl none 0 [], .n (chkF w p)] else [.sl none 0 (gRows (owF w p) (days w p)), .n 0]
def RepF (w : WO) (p R : DV) : List DV := if chkF w p ≠ 0 then [.sl none 0 [], .n (chkF w p)] else if R.len ≠ days w p ∨ ¬ litP R R.len.toNat then [.sl none 0 [], .n 420] else [.sl none 0 (gRows (rpF w p R) (days w p)), .n 0]
def b2 (f : FuncId) (a : List ASh) (r : List RSh) (q : List DV → List DV) : Con := { f := f, args := a, res := r, pre := fun _ => True, post := fun xs y => y = q xs }
def cLit (f : FuncId) : Con := b2 f [.c ints] [.one bR] fun xs => [.n (if litP (gd xs 0) (gd xs 0).len.toNat then 1 else 0)]
def lLit (a n : Nat) : Con :=
  { lp := some ⟨2, a, [(.tmp n, .int)]⟩, mea := fun r => ((gd r 0).len - gi r 1).toNat, bnd := [big]
    pre := fun r => gi r 1 ≤ (gd r 0).len ∧ litP (gd r 0) (gi r 1).toNat }
def cIsW (f : FuncId) : Con := b2 f [.agg well, aI, aI] [.one bR] fun xs => [.n (if isW (wo xs) (gi xs 4) (gi xs 5) then 1 else 0)]
def lIsW : Con :=
  { lp := some ⟨2, 18, [(.tmp 9, .int), (.cell 1 0, .int)]⟩, mea := fun r => ((gd r 3).len - gi r 6).toNat, bnd := [big, .i 0 1048576]
    pre := fun r => gi r 6 ≤ (gd r 3).len ∧ kOk (wo r) (gi r 6).toNat ∧ gi r 7 = sumK (wo r) (gi r 6).toNat ∧ gi r 7 ≤ gi r 2 }
def cKern (f : FuncId) : Con := { f := f, args := [.agg well], res := [.one bR], pre := fun xs => (gd xs 3).len ≤ 64, post := fun xs y => y = [.n (if kernP (wo xs) then 1 else 0)] }
def lKern : Con :=
  { lp := some ⟨5, 53, [(.tmp 3, .int), (.tmp 4, .int)]⟩, mea := fun r => ((gd r 3).len - gi r 5).toNat, bnd := [big, big]
    pre := fun r => gi r 5 ≤ (gd r 3).len ∧ kOk (wo r) (gi r 5).toNat ∧ gi r 4 = sumK (wo r) (gi r 5).toNat }
def cChk (f : FuncId) : Con := b2 f [.agg well, .c ints] [.one iR] fun xs => [.n (chkF (wo xs) (gd xs 4))]
def cUnt (f : FuncId) : Con := { f := f, args := [.agg well, .c ints], res := [.one lR], pre := fun xs => chkF (wo xs) (gd xs 4) = 0, post := fun xs y => y = [.sl none 0 (gRows (untF (wo xs) (gd xs 4)) (days (wo xs) (gd xs 4)))] }
def lM1 : Con :=
  { lp := some ⟨1, 34, [(.tmp 10, .int), (.rc 5 0, .sl true 3)]⟩, mea := fun r => ((gd r 4).len - gi r 6).toNat, bnd := [big, .d ints]
    pre := fun r => gi r 6 ≤ (gd r 4).len ∧ (gd r 7).els = gRows (fun d => dsum (cellE (wo r) (gd r 4) d) (gd r 3).len.toNat (gi r 6).toNat 0) (days (wo r) (gd r 4)) }
def lM2 : Con :=
  { lp := some ⟨4, 34, [(.tmp 18, .int), (.rc 5 0, .sl true 3)]⟩, mea := fun r => ((gd r 3).len - gi r 42).toNat, bnd := [big, .d ints]
    pre := fun r => gi r 42 ≤ (gd r 3).len ∧ (gd r 43).els = gRows (fun d => dsum (cellE (wo r) (gd r 4) d) (gd r 3).len.toNat (gi r 6).toNat (gi r 42).toNat) (days (wo r) (gd r 4)) }
/-- So many days are divided. -/
def divd (w : WO) (p : DV) (i : Nat) (d : Nat) : Int := if d < i then untF w p d else dsum (cellE w p d) w.K.len.toNat p.len.toNat 0
def lDiv : Con :=
  { lp := some ⟨10, 53, [(.tmp 37, .int), (.tc 35 1000 0, .sl true 3), (.cell 6 0, .int)]⟩, mea := fun r => (days (wo r) (gd r 4) - gi r 42).toNat, bnd := [big, .d ints, sumV]
    pre := fun r => gi r 42 ≤ days (wo r) (gd r 4) ∧ (gd r 43).els = gRows (divd (wo r) (gd r 4) (gi r 42).toNat) (days (wo r) (gd r 4)) ∧ gi r 44 = bef (U (wo r) (gd r 4)) (gi r 42).toNat }
def cUntR (f : FuncId) : Con := { f := f, args := [.agg well, .c ints, aI], res := [.one iR], pre := fun xs => chkF (wo xs) (gd xs 4) = 0 ∧ 0 ≤ gi xs 5 ∧ gi xs 5 ≤ 1000, post := fun xs y => y = [.n (untF (wo xs) (gd xs 4) (gi xs 5).toNat)] }
def lU1 : Con :=
  { lp := some ⟨3, 44, [(.tmp 7, .int), (.tmp 8, .int)]⟩, mea := fun r => ((gd r 4).len - gi r 7).toNat, bnd := [sumV, big]
    pre := fun r => gi r 7 ≤ (gd r 4).len ∧ gi r 6 = dsum (cellL (wo r) (gd r 4) (gi r 5).toNat) (gd r 3).len.toNat (gi r 7).toNat 0 }
def lU2 : Con :=
  { lp := some ⟨6, 44, [(.tmp 7, .int), (.tmp 9, .int)]⟩, mea := fun r => ((gd r 3).len - gi r 53).toNat, bnd := [sumV, big]
    pre := fun r => gi r 53 ≤ (gd r 3).len ∧ gi r 52 = dsum (cellL (wo r) (gd r 4) (gi r 5).toNat) (gd r 3).len.toNat (gi r 7).toNat (gi r 53).toNat }
def cOwe (f : FuncId) : Con := b2 f [.agg well, .c ints] [.one lR, .one iR] fun xs => OwedF (wo xs) (gd xs 4)
def lOwe : Con :=
  { lp := some ⟨6, 32, [(.tmp 4, .sl true 3), (.tmp 6, .int), (.tmp 19, .int)]⟩, mea := fun r => (days (wo r) (gd r 4) - gi r 10).toNat, bnd := [.d ints, sumV, big]
    pre := fun r => gi r 10 ≤ days (wo r) (gd r 4) ∧ (gd r 8).els = gRows (owF (wo r) (gd r 4)) (gi r 10).toNat ∧ gi r 9 = bef (untF (wo r) (gd r 4)) (gi r 10).toNat }
def lOweR : Con :=
  { lp := some ⟨7, 37, [(.tmp 7, .sl true 3), (.tmp 8, .int), (.tmp 9, .int)]⟩, mea := fun r => (days (wo r) (gd r 4) - gi r 9).toNat, bnd := [.d ints, sumV, big]
    pre := fun r => gi r 9 ≤ days (wo r) (gd r 4) ∧ (gd r 7).els = gRows (owF (wo r) (gd r 4)) (gi r 9).toNat ∧ gi r 8 = bef (untF (wo r) (gd r 4)) (gi r 9).toNat }
def cRep (f : FuncId) : Con := b2 f [.agg well, .c ints, .c ints] [.one lR, .one iR] fun xs => RepF (wo xs) (gd xs 4) (gd xs 5)
def lRep : Con :=
  { lp := some ⟨9, 53, [(.tmp 6, .sl true 3), (.tmp 34, .int), (.cell 1 0, .int)]⟩, mea := fun r => (days (wo r) (gd r 4) - gi r 11).toNat, bnd := [.d ints, big, sumV]
    pre := fun r => gi r 11 ≤ days (wo r) (gd r 4) ∧ (gd r 10).els = gRows (rpF (wo r) (gd r 4) (gd r 5)) (gi r 11).toNat ∧ gi r 12 = sumN (el (gd r 5)) (gi r 11).toNat }
def lRepR : Con :=
  { lp := some ⟨9, 53, [(.tmp 9, .sl true 3), (.tmp 10, .int), (.tmp 11, .int)]⟩, mea := fun r => (days (wo r) (gd r 4) - gi r 11).toNat, bnd := [.d ints, sumV, big]
    pre := fun r => gi r 11 ≤ days (wo r) (gd r 4) ∧ (gd r 9).els = gRows (rpF (wo r) (gd r 4) (gd r 5)) (gi r 11).toNat ∧ gi r 10 = sumN (el (gd r 5)) (gi r 11).toNat }
end Go.Proofs.Ytcidomlhmdefaaa
