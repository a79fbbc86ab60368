/- DERIVED. What functions of garments keep. -/
import Derived.Test.YtcjdheaaddaagaaDtb
namespace Go.Proofs.Ytcjdheaaddaagaa
open Go.Dx
set_option linter.unusedVariables false
abbrev i64s : Sh := .int .i64 (-9223372036854775808) 9223372036854775807
abbrev ints : Sh := .sl 9223372036854775807 [i64s]
abbrev prow : List Sh := [.int .i64 0 664, i64s]
abbrev prs : Sh := .sl 664 prow
abbrev mkSh : List Sh := [.bool, i64s, i64s, i64s]
abbrev iR : RC := ⟨i64s, none⟩
abbrev bR : RC := ⟨.bool, none⟩
abbrev lR : RC := ⟨ints, some 3⟩
abbrev big : VD := .i 0 9223372036854775807
abbrev full : VD := .i (-9223372036854775808) 9223372036854775807
abbrev sumV : VD := .i 0 1000000000000
abbrev lvV : VD := .i 0 1073741825
abbrev aI : ASh := .c i64s
abbrev aB : ASh := .c .bool
abbrev mkR : RSh := .agg [bR, iR, iR, iR]
def gi (l : List DV) (k : Nat) : Int := (l.getD k (.n 0)).int
def gd (l : List DV) (k : Nat) : DV := l.getD k (.n 0)
/-- The sum of the first n. -/
def sumN (f : Nat → Int) : Nat → Int
  | 0 => 0
  | n + 1 => sumN f n + f n
def el (L : DV) (i : Nat) : Int := L.at i 0
def litP (L : DV) (n : Nat) : Prop := ∀ i : Nat, i < n → 0 ≤ el L i ∧ el L i ≤ 1073741824
instance decL (L : DV) (n : Nat) : Decidable (litP L n) := by unfold litP; infer_instance
def nn (p : DV) : Nat := p.len.toNat
def chkF (est : Int) (p : DV) : Int := if 664 < p.len then 2 else if litP p (nn p) ∧ 0 ≤ est ∧ est ≤ sumN (el p) (nn p) then 0 else 400
/-- The early or the late litres of a claim; those before a level or in it. -/
def lts (b : Bool) (c : Int) : Int := if b = true then c - c / 2 else c / 2
def tF (b : Bool) (l c : Int) : Int := if b = true then c / 2 + max 0 (c - c / 2 - l + 1) else max 0 (min (c / 2) l)
def toF (b : Bool) (l : Int) (c : Nat → Int) (n : Nat) : Int := sumN (fun i => tF b l (c i)) n
def hasF (b : Bool) (l c : Int) : Prop := l ≤ lts b c
def ahF (b : Bool) (c i d k : Int) : Prop := if b = true then c < d ∨ (c = d ∧ k ≤ i) else d < c ∨ (c = d ∧ i ≤ k)
instance decH (b : Bool) (l c : Int) : Decidable (hasF b l c) := by unfold hasF; infer_instance
instance decA (b : Bool) (c i d k : Int) : Decidable (ahF b c i d k) := by unfold ahF; infer_instance
def prv (b : Bool) (l : Int) : Int := if b = true then l + 1 else l - 1
def cntF (b : Bool) (l : Int) (c : Nat → Int) (n : Nat) (d k : Int) : Int := sumN (fun j => if hasF b l (c j) ∧ ahF b (c j) j d k then 1 else 0) n
def plF (b : Bool) (l : Int) (c : Nat → Int) (n i : Nat) : Int := toF b (prv b l) c n + cntF b l c n (c i) i
def PF (b : Bool) (est : Int) (c : Nat → Int) (n : Nat) (l : Int) : Prop := if b = true then toF true (l + 1) c n < est else est ≤ toF false l c n
instance decP (b : Bool) (est : Int) (c : Nat → Int) (n : Nat) (l : Int) : Decidable (PF b est c n l) := by unfold PF; infer_instance
def bis (p : Int → Bool) : Nat → Int → Int → Int
  | 0, lo, _ => lo
  | f + 1, lo, hi => match decide (lo < hi) with
    | true => match p ((lo + hi) / 2) with
      | true => bis p f lo ((lo + hi) / 2)
      | false => bis p f ((lo + hi) / 2 + 1) hi
    | false => lo
def lvF (b : Bool) (est : Int) (c : Nat → Int) (n : Nat) : Int := bis (fun l => decide (PF b est c n l)) 31 1 1073741824
def latF (est : Int) (c : Nat → Int) (n : Nat) : Bool := decide (toF false 1073741824 c n < est)
def firstN (p : Nat → Bool) : Nat → Nat
  | 0 => 0
  | n + 1 => match decide (firstN p n < n) with
    | true => firstN p n
    | false => match p n with
      | true => n
      | false => n + 1
structure Mk where
  b : Bool
  l : Int
  c : Int
  i : Int
  deriving DecidableEq
def mk0 : Mk := ⟨false, 0, 0, 0⟩
def thP (est : Int) (c : Nat → Int) (n : Nat) (b : Bool) (l : Int) (i : Nat) : Bool := decide (hasF b l (c i) ∧ plF b l c n i = est)
def thG (est : Int) (c : Nat → Int) (n : Nat) (b : Bool) (l : Int) : Mk :=
  if firstN (thP est c n b l) n < n then ⟨b, l, c (firstN (thP est c n b l) n), firstN (thP est c n b l) n⟩ else mk0
def thF (est : Int) (p : DV) : Mk := if chkF est p ≠ 0 ∨ est = 0 then mk0 else thG est (el p) (nn p) (latF est (el p) (nn p)) (lvF (latF est (el p) (nn p)) est (el p) (nn p))
def mkD (m : Mk) : List DV := [.n (if m.b = true then 1 else 0), .n m.l, .n m.c, .n m.i]
def mkO (l : List DV) : Mk := ⟨!decide (gi l 0 = 0), gi l 1, gi l 2, gi l 3⟩
def befF (b : Bool) (l c : Int) : Int := tF b (prv b l) c
def ownF (m : Mk) (i c : Int) : Int := if m = mk0 then 0 else befF m.b m.l c + if hasF m.b m.l c ∧ ahF m.b c i m.c m.i then 1 else 0
/-- One number a row. -/
def gRows (g : Nat → Int) (n : Nat) : List (List DV) := (List.range n).map fun k => [.n (g k)]
def awG (m : Mk) (p : DV) : Nat → Int := fun i => ownF m i (el p i)
def awF (est : Int) (p : DV) : List DV := if chkF est p ≠ 0 then [.sl none 0 [], .n (chkF est p)] else [.sl none 0 (gRows (awG (thF est p) p) (nn p)), .n 0]
def thR (est : Int) (p : DV) : List DV := mkD (thF est p) ++ [.n (chkF est p)]
def vMk (m : Mk) : Prop := m = mk0 ∨ (0 ≤ m.c ∧ m.c ≤ 1073741824 ∧ 0 ≤ m.i ∧ m.i ≤ 663 ∧ 1 ≤ m.l ∧ m.l ≤ m.c ∧ hasF m.b m.l m.c)
instance decV (m : Mk) : Decidable (vMk m) := by unfold vMk; infer_instance
def ownR (m : Mk) (i c : Int) : List DV := if ¬ vMk m then [.n 0, .n 400] else if ¬ (0 ≤ i ∧ i ≤ 663 ∧ 0 ≤ c ∧ c ≤ 1073741824) then [.n 0, .n 1] else [.n (ownF m i c), .n 0]
def prR (n c d : Int) : List DV :=
  if ¬ (0 ≤ c ∧ c ≤ 1073741824 ∧ 0 ≤ d ∧ d ≤ 1073741824 ∧ 0 ≤ n ∧ n ≤ c + d) then [.n 0, .n 0, .n 400]
  else [.n (max 0 (n - d) + (n - max 0 (n - d) - max 0 (n - c)) / 2), .n (max 0 (n - d) + (n - max 0 (n - d) - max 0 (n - c)) - (n - max 0 (n - d) - max 0 (n - c)) / 2), .n 0]
def b2 (f : FuncId) (a : List ASh) (r : List RSh) (q : List DV → List DV) : Con := { f := f, args := a, res := r, pre := fun _ => True, post := fun xs y => y = q xs }
def cChk (f : FuncId) : Con := b2 f [aI, .c ints] [.one ⟨.int .i64 0 400, none⟩] fun xs => [.n (chkF (gi xs 0) (gd xs 1))]
def lChk (nt a i : Nat) : Con :=
  { lp := some ⟨5, nt, [(.tmp a, .int), (.tmp i, .int)]⟩, mea := fun r => ((gd r 1).len - gi r 3).toNat, bnd := [sumV, .i 0 664]
    pre := fun r => gi r 3 ≤ (gd r 1).len ∧ litP (gd r 1) (gi r 3).toNat ∧ gi r 2 = sumN (el (gd r 1)) (gi r 3).toNat }
def vP (p : DV) : Prop := p.len ≤ 664 ∧ litP p (nn p)
def cTo (f : FuncId) : Con := { f := f, args := [.c ints, aB, .c (.int .i64 0 1073741825)], res := [.one ⟨.int .i64 0 1000000000000, none⟩], pre := fun xs => vP (gd xs 0), post := fun xs y => y = [.n (toF (!decide (gi xs 1 = 0)) (gi xs 2) (el (gd xs 0)) (nn (gd xs 0)))] }
def lTo : Con :=
  { lp := some ⟨3, 39, [(.tmp 7, .int), (.tmp 8, .int)]⟩, mea := fun r => ((gd r 0).len - gi r 4).toNat, bnd := [sumV, .i 0 664]
    pre := fun r => gi r 4 ≤ (gd r 0).len ∧ gi r 3 = toF (!decide (gi r 1 = 0)) (gi r 2) (el (gd r 0)) (gi r 4).toNat }
/-- The search for a level. -/
def LvI (b : Bool) (est : Int) (c : Nat → Int) (n : Nat) (lo hi : Int) : Prop := 1 ≤ lo ∧ lo ≤ hi ∧ hi ≤ 1073741824 ∧ PF b est c n hi ∧ (1 < lo → ¬ PF b est c n (lo - 1))
/-- The reference's, for late litres. -/
def LvL (est : Int) (c : Nat → Int) (n : Nat) (lo hi : Int) : Prop := 1 ≤ lo ∧ lo ≤ hi ∧ hi ≤ 1073741824 ∧ est ≤ toF true lo c n ∧ toF true (hi + 1) c n < est
def cLvl (f : FuncId) : Con := { f := f, args := [aI, .c ints, aB], res := [.one ⟨.int .i64 1 1073741824, none⟩], pre := fun xs => chkF (gi xs 0) (gd xs 1) = 0 ∧ gi xs 0 ≠ 0 ∧ gi xs 2 = (if latF (gi xs 0) (el (gd xs 1)) (nn (gd xs 1)) = true then 1 else 0), post := fun xs y => y = [.n (lvF (latF (gi xs 0) (el (gd xs 1)) (nn (gd xs 1))) (gi xs 0) (el (gd xs 1)) (nn (gd xs 1)))] }
def lLvl : Con :=
  { lp := some ⟨3, 57, [(.tmp 7, .int), (.tmp 8, .int)]⟩, mea := fun r => (gi r 4 - gi r 3).toNat, bnd := [.i 1 1073741824, .i 1 1073741824]
    pre := fun r => if gi r 2 = 0 then LvI false (gi r 0) (el (gd r 1)) (nn (gd r 1)) (gi r 3) (gi r 4) else LvL (gi r 0) (el (gd r 1)) (nn (gd r 1)) (gi r 3) (gi r 4) }
def cHas : Con := { f := 29, args := [.c i64s, aB, .c (.int .i64 0 1073741825)], res := [.one bR], pre := fun xs => 0 ≤ gi xs 0 ∧ gi xs 0 ≤ 1073741824, post := fun xs y => y = [.n (if hasF (!decide (gi xs 1 = 0)) (gi xs 2) (gi xs 0) then 1 else 0)] }
def cAh : Con := { f := 50, args := [aB, aI, aI, aI, aI], res := [.one bR], pre := fun xs => True, post := fun xs y => y = [.n (if ahF (!decide (gi xs 0 = 0)) (gi xs 1) (gi xs 2) (gi xs 3) (gi xs 4) then 1 else 0)] }
def cPlc (f : FuncId) : Con := { f := f, args := [.c ints, aB, .c (.int .i64 1 1073741824), .c (.int .i64 0 663)], res := [.one ⟨.int .i64 0 1000000000000, none⟩], pre := fun xs => vP (gd xs 0) ∧ gi xs 3 < (gd xs 0).len, post := fun xs y => y = [.n (plF (!decide (gi xs 1 = 0)) (gi xs 2) (el (gd xs 0)) (nn (gd xs 0)) (gi xs 3).toNat)] }
def lPlc : Con :=
  { lp := some ⟨5, 52, [(.tmp 9, .int), (.tmp 10, .int)]⟩, mea := fun r => ((gd r 0).len - gi r (r.length - 1)).toNat, bnd := [sumV, .i 0 664]
    pre := fun r => gi r (r.length - 1) ≤ (gd r 0).len ∧ gi r (r.length - 2) = toF (!decide (gi r 1 = 0)) (prv (!decide (gi r 1 = 0)) (gi r 2)) (el (gd r 0)) (nn (gd r 0)) + cntF (!decide (gi r 1 = 0)) (gi r 2) (el (gd r 0)) (gi r (r.length - 1)).toNat (el (gd r 0) (gi r 3).toNat) (gi r 3) }
def cThr (f : FuncId) : Con := b2 f [aI, .c ints] [mkR, .one ⟨.int .i64 0 400, none⟩] fun xs => thR (gi xs 0) (gd xs 1)
def lThr : Con :=
  { lp := some ⟨7, 60, [(.tmp 9, .int)]⟩, mea := fun r => ((gd r 1).len - gi r 5).toNat, bnd := [.i 0 664]
    pre := fun r => gi r 5 ≤ (gd r 1).len ∧ ∀ j : Nat, j < (gi r 5).toNat → thP (gi r 0) (el (gd r 1)) (nn (gd r 1)) (latF (gi r 0) (el (gd r 1)) (nn (gd r 1))) (gi r 4) j = false }
def cOwR (f : FuncId) : Con := { f := f, args := [.agg [.bool, .int .i64 0 1073741824, .int .i64 0 1073741824, .int .i64 0 663], .c (.int .i64 0 663), .c (.int .i64 0 1073741824)], res := [.one ⟨.int .i64 0 1073741825, none⟩], pre := fun xs => True, post := fun xs y => y = [.n (ownF (mkO xs) (gi xs 4) (gi xs 5))] }
def cAw (f : FuncId) : Con := b2 f [aI, .c ints] [.one lR, .one ⟨.int .i64 0 400, none⟩] fun xs => awF (gi xs 0) (gd xs 1)
def lAwR : Con :=
  { lp := some ⟨6, 37, [(.tmp 8, .sl true 3), (.tmp 9, .int)]⟩, mea := fun r => ((gd r 1).len - gi r 9).toNat, bnd := [.d (.sl 664 [i64s]), .i 0 664]
    pre := fun r => gi r 9 ≤ (gd r 1).len ∧ (gd r 8).els = gRows (awG (mkO (r.drop 2)) (gd r 1)) (gi r 9).toNat }
def cOwn (f : FuncId) : Con := b2 f [.agg mkSh, aI, aI] [.one iR, .one ⟨.int .i64 0 400, none⟩] fun xs => ownR (mkO xs) (gi xs 4) (gi xs 5)
def cPr (f : FuncId) : Con := b2 f [aI, aI, aI] [.agg [iR, iR], .one ⟨.int .i64 0 400, none⟩] fun xs => prR (gi xs 0) (gi xs 1) (gi xs 2)
/-! The program's line. -/
def prD (c : Nat → Int) (i : Nat) : List DV := [.n i, .n (c i)]
def pRows (c : Nat → Int) (n : Nat) : List (List DV) := (List.range n).map (prD c)
def hasI (b : Bool) (l : Int) (c : Nat → Int) (n : Nat) : List Nat := (List.range n).filter fun i => decide (hasF b l (c i))
/-- How many litres have a level, or one above it. -/
def abF (b : Bool) (l : Int) (c : Nat → Int) (n : Nat) : Int := sumN (fun i => max 0 (lts b (c i) - l + 1)) n
def leP (b : Bool) (x y : List DV) : Prop := ahF b (gi x 1) (gi x 0) (gi y 1) (gi y 0)
def cSrt (b : Bool) (g : FuncId) : Con := { f := 47, res := [.one ⟨prs, none⟩], pre := fun _ => True, post := fun xs ys => (gd ys 0).els.Perm (gd xs 0).els ∧ (gd ys 0).els.Pairwise (leP b), inp := some ⟨664, prow, some g⟩ }
structure LineP (est : Int) (c : Nat → Int) (n : Nat) (b : Bool) (l : Int) (T : List (List DV)) : Prop where
  hb : b = latF est c n
  hl : l = lvF b est c n
  hT : ∃ S : List (List DV), S.Perm ((hasI b l c n).map (prD c)) ∧ S.Pairwise (leP b) ∧ T = S.take (est - toF b (prv b l) c n).toNat
def cLine (f : FuncId) : Con := { f := f, args := [aI, .c ints], res := [.agg [bR, ⟨.int .i64 1 1073741824, none⟩, ⟨prs, none⟩]], pre := fun xs => chkF (gi xs 0) (gd xs 1) = 0 ∧ gi xs 0 ≠ 0, post := fun xs ys => LineP (gi xs 0) (el (gd xs 1)) (nn (gd xs 1)) (!decide (gi ys 0 = 0)) (gi ys 1) (gd ys 2).els }
def lL1 : Con :=
  { lp := some ⟨4, 77, [(.cell 2 0, .sl true 59), (.cell 3 0, .int), (.tmp 16, .int)]⟩, mea := fun r => ((gd r 1).len - gi r 5).toNat, bnd := [.d prs, sumV, .i 0 664]
    pre := fun r => gi r 5 ≤ (gd r 1).len ∧ (gd r 3).els = pRows (el (gd r 1)) (gi r 5).toNat ∧ gi r 4 = sumN (fun i => el (gd r 1) i / 2) (gi r 5).toNat }
def isLat (r : List DV) : Bool := decide (gi r 4 < gi r 0)
def lFst : Con :=
  { lp := some ⟨1, 22, [(.tmp 0, .int), (.tmp 1, .int)]⟩, mea := fun r => (gi r (r.length - 1) - gi r (r.length - 2)).toNat, bnd := [.i 1 1073741824, .i 1 1073741824]
    pre := fun r => LvI (isLat r) (gi r 0) (el (gd r 1)) (nn (gd r 1)) (gi r (r.length - 2)) (gi r (r.length - 1)) }
/-- The level that is asked: in the search, or behind it. -/
def levA (b : Bool) (lo hi : Int) : Int := if lo < hi then (lo + hi) / 2 + 1 else if b = true then lo + 1 else lo
def lAb : Con :=
  { lp := some ⟨3, 25, [(.tmp 5, .int), (.tmp 10, .int)]⟩, mea := fun r => ((gd r 1).len - gi r (r.length - 1)).toNat, bnd := [sumV, .i 0 664]
    pre := fun r => gi r (r.length - 1) ≤ (gd r 1).len ∧ gi r (r.length - 2) = abF (isLat r) (levA (isLat r) (gi r 83) (gi r 84)) (el (gd r 1)) (gi r (r.length - 1)).toNat }
def lIdx : Con :=
  { lp := some ⟨2, 19, [(.tmp 8, .int)]⟩, mea := fun r => ((gd r 1).len - gi r 134).toNat, bnd := [.i 0 664]
    pre := fun r => gi r 134 ≤ (gd r 1).len ∧ ∀ j : Nat, j < (gi r 134).toNat → hasF (isLat r) (gi r 83) (el (gd r 1) j) }
structure DelI (b : Bool) (l : Int) (c : Nat → Int) (n : Nat) (i j : Int) (K : List (List DV)) : Prop where
  hj : j ≤ n
  hi : i = ((hasI b l c j.toNat).length : Int)
  hK : K.length = n
  h1 : K.take i.toNat = (hasI b l c j.toNat).map (prD c)
  h2 : ∀ k : Nat, j.toNat ≤ k → k < n → K[k]? = some (prD c k)
def lDel : Con :=
  { lp := some ⟨5, 42, [(.tmp 5, .int), (.tmp 6, .int), (.tc 0 2 0, .sl true 59)]⟩, mea := fun r => ((gd r 1).len - gi r 155).toNat, bnd := [.i 0 664, .i 0 664, .d prs]
    pre := fun r => DelI (isLat r) (gi r 83) (el (gd r 1)) (nn (gd r 1)) (gi r 154) (gi r 155) (gd r 156).els }
/-! The program's awards. -/
def cntL (T : List (List DV)) (k : Nat) : Int := ((T.filter fun e => decide (gi e 0 = k)).length : Int)
def lA1 : Con :=
  { lp := some ⟨9, 58, [(.tmp 4, .sl true 3), (.tmp 28, .int)]⟩, mea := fun r => ((gd r 1).len - gi r 8).toNat, bnd := [.d (.sl 664 [i64s]), .i 0 664]
    pre := fun r => gi r 8 ≤ (gd r 1).len ∧ (gd r 7).els = gRows (fun k => if k < (gi r 8).toNat then befF (!decide (gi r 4 = 0)) (gi r 5) (el (gd r 1) k) else 0) (nn (gd r 1)) }
def lA2 : Con :=
  { lp := some ⟨14, 58, [(.tmp 4, .sl true 3), (.tmp 45, .int)]⟩, mea := fun r => ((gd r 6).len - gi r (r.length - 1)).toNat, bnd := [.d (.sl 664 [i64s]), .i 0 664]
    pre := fun r => gi r (r.length - 1) ≤ (gd r 6).len ∧ (gd r (r.length - 2)).els = gRows (fun k => befF (!decide (gi r 4 = 0)) (gi r 5) (el (gd r 1) k) + cntL ((gd r 6).els.take (gi r (r.length - 1)).toNat) k) (nn (gd r 1)) }
/-! The laws. -/
def cSame : Con := { f := 16, args := [.c ints, .c ints], res := [.one bR], pre := fun _ => True, post := fun xs y => y = [.n (if (gd xs 0).len = (gd xs 1).len ∧ ∀ i : Nat, i < nn (gd xs 0) → el (gd xs 0) i = el (gd xs 1) i then 1 else 0)] }
def lSame : Con :=
  { lp := some ⟨4, 26, [(.tmp 5, .int)]⟩, mea := fun r => ((gd r 0).len - gi r 2).toNat, bnd := [big]
    pre := fun r => gi r 2 ≤ (gd r 0).len ∧ ∀ i : Nat, i < (gi r 2).toNat → el (gd r 0) i = el (gd r 1) i }
def cEst : Con := { f := 40, args := [.c ints, .c (.int .u16 0 65535)], res := [.one iR, .one bR], pre := fun _ => True, post := fun xs y => y = [.n (gi y 0), .n (if litP (gd xs 0) (nn (gd xs 0)) ∧ (gd xs 0).len ≤ 60 then 1 else 0)] ∧ (gi y 1 = 1 → 0 ≤ gi y 0 ∧ gi y 0 ≤ sumN (el (gd xs 0)) (nn (gd xs 0))) }
def lEst : Con :=
  { lp := some ⟨3, 33, [(.tmp 6, .int), (.tmp 11, .int)]⟩, mea := fun r => ((gd r 0).len - gi r 3).toNat, bnd := [full, big]
    pre := fun r => gi r 3 ≤ (gd r 0).len ∧ litP (gd r 0) (gi r 3).toNat ∧ (gi r 3 ≤ 664 → gi r 2 = sumN (el (gd r 0)) (gi r 3).toNat) }
def cNear : Con := { f := 21, args := [.c ints, .c (.int .u16 0 65535), .c (.int .i16 (-32768) 32767)], res := [.one iR, .one bR], pre := fun _ => True, post := fun xs y => y = [.n (gi y 0), .n (if litP (gd xs 0) (nn (gd xs 0)) ∧ (gd xs 0).len ≤ 60 then 1 else 0)] ∧ (gi y 1 = 1 → 0 ≤ gi y 0 ∧ gi y 0 ≤ sumN (el (gd xs 0)) (nn (gd xs 0))) }
def lNear : Con :=
  { lp := some ⟨4, 37, [(.tmp 8, .int), (.tmp 19, .int)]⟩, mea := fun r => ((gd r 0).len - gi r 6).toNat, bnd := [full, big]
    pre := fun r => gi r 6 ≤ (gd r 0).len ∧ (gi r 4 = 1 → gi r 5 = sumN (el (gd r 0)) (gi r 6).toNat) }
def cFew : Con := { f := 11, args := [.c ints], res := [.one bR], pre := fun _ => True, post := fun _ _ => True }
end Go.Proofs.Ytcjdheaaddaagaa
