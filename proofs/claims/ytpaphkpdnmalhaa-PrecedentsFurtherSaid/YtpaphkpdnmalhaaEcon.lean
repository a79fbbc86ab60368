/- DERIVED. What functions of precedents keep. -/
import Derived.Test.YtpaphkpdnmalhaaEtb
namespace Go.Proofs.Ytpaphkpdnmalhaa
open Go.Dx
set_option linter.unusedVariables false
abbrev i64s : Sh := .int .i64 (-9223372036854775808) 9223372036854775807
abbrev u32s : Sh := .int .u32 0 4294967295
abbrev ints : Sh := .sl 9223372036854775807 [i64s]
abbrev case1 : List Sh := [i64s, i64s, i64s, ints, ints]
abbrev casesS : Sh := .sl 9223372036854775807 case1
abbrev book : List Sh := [ints, casesS]
abbrev iR : RC := ⟨i64s, none⟩
abbrev uR : RC := ⟨u32s, none⟩
abbrev bR : RC := ⟨.bool, none⟩
abbrev lR : RC := ⟨ints, some 3⟩
abbrev big : VD := .i 0 9223372036854775807
abbrev aI : ASh := .c i64s
abbrev u32V : VD := .i 0 4294967295
abbrev allV : VD := .i (-9223372036854775808) 9223372036854775807
def gi (l : List DV) (k : Nat) : Int := (l.getD k (.n 0)).int
def gd (l : List DV) (k : Nat) : DV := l.getD k (.n 0)
def el (L : DV) (i : Nat) : Int := L.at i 0
def memP (L : DV) (x : Int) : Prop := ∃ i, i < L.len.toNat ∧ el L i = x
instance decM (L : DV) (x : Int) : Decidable (memP L x) := by unfold memP; infer_instance
/-- All elements of a list are in another one. -/
def allP (l m : DV) : Prop := ∀ i, i < l.len.toNat → memP m (el l i)
instance decA (l m : DV) : Decidable (allP l m) := by unfold allP; infer_instance
/-- A set of factors. -/
def setP (F : Int) (L : DV) (n : Nat) : Prop := ∀ i, i < n → (0 ≤ el L i ∧ el L i < F) ∧ (0 < i → el L (i - 1) < el L i)
instance decS (F : Int) (L : DV) (n : Nat) : Decidable (setP F L n) := by unfold setP; infer_instance
def favP (S R : DV) (side : Int) (n : Nat) : Prop := ∀ i, i < n → S.at (el R i) 0 = side
instance decF (S R : DV) (side : Int) (n : Nat) : Decidable (favP S R side n) := by unfold favP; infer_instance
def reaP (S f R : DV) (side : Int) : Prop := setP S.len R R.len.toNat ∧ allP R f ∧ favP S R side R.len.toNat
instance decR (S f R : DV) (side : Int) : Decidable (reaP S f R side) := by unfold reaP; infer_instance
def decP (S f R : DV) (side : Int) : Prop := setP S.len f f.len.toNat ∧ reaP S f R side
instance decD (S f R : DV) (side : Int) : Decidable (decP S f R side) := by unfold decP; infer_instance
/-- A set as bits. -/
def bitsK (L : DV) : Nat → Nat
  | 0 => 0
  | i + 1 => bitsK L i ||| 2 ^ (el L i).toNat
def bits (L : DV) : Int := bitsK L L.len.toNat
/-- The factors that favour a side, as bits. -/
def favK (S : DV) (side : Int) : Nat → Nat
  | 0 => 0
  | i + 1 => if el S i = side then favK S side i ||| 2 ^ i else favK S side i
def fc (C : DV) (i : Int) : DV := .sl none 0 (C.cell i 3).els
def rc (C : DV) (i : Int) : DV := .sl none 0 (C.cell i 4).els
def caseP (S C : DV) (i : Nat) : Prop := (((0 ≤ C.at i 0 ∧ C.at i 0 ≤ 1048576) ∧ 0 ≤ C.at i 1 ∧ C.at i 1 ≤ 4096) ∧ 0 ≤ C.at i 2 ∧ C.at i 2 ≤ 1) ∧ (0 < i → C.at ((i : Int) - 1) 0 < C.at i 0 ∧ C.at ((i : Int) - 1) 1 ≤ C.at i 1) ∧ decP S (fc C i) (rc C i) (C.at i 2)
instance decC (S C : DV) (i : Nat) : Decidable (caseP S C i) := by unfold caseP; infer_instance
def sidesP (S : DV) (n : Nat) : Prop := ∀ i, i < n → 0 ≤ el S i ∧ el S i ≤ 1
instance decSi (S : DV) (n : Nat) : Decidable (sidesP S n) := by unfold sidesP; infer_instance
def casesP (S C : DV) (n : Nat) : Prop := ∀ i, i < n → caseP S C i
instance decCs (S C : DV) (n : Nat) : Decidable (casesP S C n) := by unfold casesP; infer_instance
def chkF (S C : DV) : Int := if 32 < S.len ∨ 64 < C.len then 2 else if sidesP S S.len.toNat ∧ casesP S C C.len.toNat then 0 else 520
/-- Two cases clash. -/
def clP (v : Int) (f R : DV) (w : Int) (g T : DV) : Prop := v ≠ w ∧ allP R g ∧ allP T f
instance decCl (v : Int) (f R : DV) (w : Int) (g T : DV) : Decidable (clP v f R w g T) := by unfold clP; infer_instance
def clC (C : DV) (i j : Int) : Prop := clP (C.at i 2) (fc C i) (rc C i) (C.at j 2) (fc C j) (rc C j)
instance decCC (C : DV) (i j : Int) : Decidable (clC C i j) := by unfold clC; infer_instance
/-- The first number for which something holds, or n. -/
def firstN (p : Nat → Prop) [DecidablePred p] : Nat → Nat
  | 0 => 0
  | n + 1 => if firstN p n < n then firstN p n else if p n then n else n + 1
def cl1 (C : DV) (n : Nat) (i : Nat) : Prop := ∃ j, j < n ∧ i < j ∧ clC C i j
instance decC1 (C : DV) (n i : Nat) : Decidable (cl1 C n i) := by unfold cl1; infer_instance
def cl2 (C : DV) (i : Nat) (j : Nat) : Prop := i < j ∧ clC C i j
instance decC2 (C : DV) (i j : Nat) : Decidable (cl2 C i j) := by unfold cl2; infer_instance
def cl1N (C : DV) : Nat := firstN (cl1 C C.len.toNat) C.len.toNat
def ClashF (S C : DV) : List DV := if chkF S C ≠ 0 then [.n 0, .n 0, .n 0, .n (chkF S C)] else if cl1N C < C.len.toNat then [.n (cl1N C), .n (firstN (cl2 C (cl1N C)) C.len.toNat), .n 1, .n 0] else [.n 0, .n 0, .n 0, .n 0]
def askF (S C f : DV) (side : Int) : Int := if chkF S C ≠ 0 then chkF S C else if ¬ setP S.len f f.len.toNat then 520 else if ¬ (0 ≤ side ∧ side ≤ 1) then 1 else 0
/-- A factor that favours the loser and is not among the facts. -/
def lackP (S : DV) (w : Int) (g : DV) (x : Int) : Prop := ¬ S.at x 0 = w ∧ ¬ memP g x
instance decLa (S : DV) (w : Int) (g : DV) (x : Int) : Decidable (lackP S w g x) := by unfold lackP; infer_instance
def misK (S : DV) (w : Int) (g f : DV) : Nat → List (List DV)
  | 0 => []
  | i + 1 => if lackP S w g (el f i) then misK S w g f i ++ [[.n (el f i)]] else misK S w g f i
def bindP (S C f : DV) (side : Int) (i : Nat) : Prop := C.at i 2 = side ∧ allP (rc C i) f ∧ ∀ k, k < f.len.toNat → ¬ lackP S (C.at i 2) (fc C i) (el f k)
instance decB (S C f : DV) (side : Int) (i : Nat) : Decidable (bindP S C f side i) := by unfold bindP; infer_instance
def bindN (S C f : DV) (side : Int) : Nat := firstN (bindP S C f side) C.len.toNat
def BindsF (S C f : DV) (side : Int) : List DV := if askF S C f side ≠ 0 then [.n 0, .n 0, .n (askF S C f side)] else if bindN S C f side < C.len.toNat then [.n (bindN S C f side), .n 1, .n 0] else [.n 0, .n 0, .n 0]
def mayP (C f R : DV) (side : Int) (i : Nat) : Prop := clP (C.at i 2) (fc C i) (rc C i) side f R
instance decMa (C f R : DV) (side : Int) (i : Nat) : Decidable (mayP C f R side i) := by unfold mayP; infer_instance
def mayN (C f R : DV) (side : Int) : Nat := firstN (mayP C f R side) C.len.toNat
def MayF (S C f R : DV) (side : Int) : List DV := if askF S C f side ≠ 0 then [.n 0, .n 0, .n (askF S C f side)] else if ¬ reaP S f R side then [.n 0, .n 0, .n 520] else if mayN C f R side < C.len.toNat then [.n (mayN C f R side), .n 0, .n 0] else [.n 0, .n 1, .n 0]
def disL (S C : DV) (i : Int) (f : DV) : List (List DV) := misK S (C.at i 2) (fc C i) f f.len.toNat
def DisF (S C : DV) (i : Int) (f : DV) : List DV := if askF S C f 0 ≠ 0 then [.sl none 0 [], .n 0, .n (askF S C f 0)] else if ¬ (0 ≤ i ∧ i < C.len) then [.sl none 0 [], .n 0, .n 1] else [.sl none 0 (disL S C i f), .n (if 0 < (disL S C i f).length ∧ allP (rc C i) f then 1 else 0), .n 0]
def b2 (f : FuncId) (a : List ASh) (r : List RSh) (q : List DV → List DV) : Con := { f := f, args := a, res := r, pre := fun _ => True, post := fun xs y => y = q xs }
def yn (p : Prop) [Decidable p] : List DV := [.n (if p then 1 else 0)]
/-! The program's. -/
def SetF (F : Int) (L : DV) : List DV := if setP F L L.len.toNat then [.n (bits L), .n 1] else [.n 0, .n 0]
def cSet (f : FuncId) : Con := { f := f, args := [.c ints, aI], res := [.one uR, .one bR], pre := fun xs => gi xs 1 ≤ 32, post := fun xs y => y = SetF (gi xs 1) (gd xs 0) }
def lSet : Con :=
  { lp := some ⟨2, 41, [(.tmp 4, .int), (.tmp 10, .int)]⟩, mea := fun r => ((gd r 0).len - gi r 3).toNat, bnd := [u32V, big]
    pre := fun r => gi r 3 ≤ (gd r 0).len ∧ setP (gi r 1) (gd r 0) (gi r 3).toNat ∧ gi r 2 = bitsK (gd r 0) (gi r 3).toNat }
def cDec (f : FuncId) : Con :=
  { f := f, args := [.c ints, .c ints, .c ints, aI], res := [.agg [iR, uR, uR], .one bR], pre := fun xs => (gd xs 0).len ≤ 32
    post := fun xs y => (∃ a b c, y = [.n a, .n b, .n c, .n (if decP (gd xs 0) (gd xs 1) (gd xs 2) (gi xs 3) then 1 else 0)]) ∧ (decP (gd xs 0) (gd xs 1) (gd xs 2) (gi xs 3) → gi y 0 = gi xs 3 ∧ gi y 1 = bits (gd xs 1) ∧ gi y 2 = bits (gd xs 2)) }
/-- Two loops: are reasons among the facts, do they favour the side? -/
def lDec : Con :=
  { lp := some ⟨2, 18, [(.tmp 9, .int)]⟩, bnd := [big]
    mea := fun r => match r.length with
      | 9 => ((gd r 2).len - gi r 8).toNat
      | _ => ((gd r 2).len - gi r 27).toNat
    pre := fun r => match r.length with
      | 9 => gi r 8 ≤ (gd r 2).len ∧ ∀ i, i < (gi r 8).toNat → memP (gd r 1) (el (gd r 2) i)
      | _ => gi r 27 ≤ (gd r 2).len ∧ favP (gd r 0) (gd r 2) (gi r 3) (gi r 27).toNat }
def cChk (f : FuncId) : Con := b2 f [.agg book] [.one iR] fun xs => [.n (chkF (gd xs 0) (gd xs 1))]
def lSides : Con :=
  { lp := some ⟨2, 18, [(.tmp 9, .int)]⟩, mea := fun r => ((gd r 0).len - gi r 2).toNat, bnd := [big]
    pre := fun r => gi r 2 ≤ (gd r 0).len ∧ sidesP (gd r 0) (gi r 2).toNat }
def lChk : Con :=
  { lp := some ⟨7, 76, [(.tmp 26, .int), (.rc 1003 0, .int), (.rc 1003 1, .int), (.rc 1003 2, .int), (.rc 1003 3, .sl false 3), (.rc 1003 4, .sl false 3)]⟩, mea := fun r => ((gd r 1).len - gi r 23).toNat
    bnd := [big, allV, allV, allV, .d ints, .d ints]
    pre := fun r => gi r 23 ≤ (gd r 1).len ∧ casesP (gd r 0) (gd r 1) (gi r 23).toNat ∧ (gi r 23 = 0 → gi r 24 = -1 ∧ gi r 25 = 0) ∧ (0 < gi r 23 → gi r 24 = (gd r 1).at (gi r 23 - 1) 0 ∧ gi r 25 = (gd r 1).at (gi r 23 - 1) 1) }
def cClash (f : FuncId) : Con := b2 f [.agg book] [.one iR, .one iR, .one bR, .one iR] fun xs => ClashF (gd xs 0) (gd xs 1)
def lClash : Con :=
  { lp := some ⟨1, 33, [(.tmp 10, .int)]⟩, bnd := [big]
    mea := fun r => match r.length with
      | 4 => ((gd r 1).len - gi r 3).toNat
      | _ => ((gd r 1).len - gi r 43).toNat
    pre := fun r => match r.length with
      | 4 => gi r 3 ≤ (gd r 1).len ∧ ∀ i : Nat, i < (gi r 3).toNat → ¬ cl1 (gd r 1) (gd r 1).len.toNat i
      | _ => gi r 43 ≤ (gd r 1).len ∧ ∀ j : Nat, j < (gi r 43).toNat → ¬ cl2 (gd r 1) (gi r 3).toNat j }
def cAsk (f : FuncId) : Con := b2 f [.agg book, .c ints, aI] [.one uR, .one iR] fun xs => [.n (if askF (gd xs 0) (gd xs 1) (gd xs 2) (gi xs 3) = 0 then bits (gd xs 2) else 0), .n (askF (gd xs 0) (gd xs 1) (gd xs 2) (gi xs 3))]
def cFav (f : FuncId) : Con := { f := f, args := [.agg book, aI], res := [.one uR], pre := fun xs => (gd xs 0).len ≤ 32, post := fun xs y => y = [.n (favK (gd xs 0) (gi xs 2) (gd xs 0).len.toNat)] }
def lFav : Con :=
  { lp := some ⟨2, 24, [(.tmp 4, .int), (.tmp 10, .int)]⟩, mea := fun r => ((gd r 0).len - gi r 4).toNat, bnd := [u32V, big]
    pre := fun r => gi r 4 ≤ (gd r 0).len ∧ gi r 3 = favK (gd r 0) (gi r 2) (gi r 4).toNat }
def cBinds (f : FuncId) : Con := b2 f [.agg book, .c ints, aI] [.one iR, .one bR, .one iR] fun xs => BindsF (gd xs 0) (gd xs 1) (gd xs 2) (gi xs 3)
def lBinds (k : Nat) : Con :=
  { lp := some ⟨1, 33, [(.tmp 10, .int)]⟩, mea := fun r => ((gd r 1).len - gi r 7).toNat, bnd := [big]
    pre := fun r => gi r 7 ≤ (gd r 1).len ∧ ∀ i : Nat, i < (gi r 7).toNat → ¬ bindP (gd r 0) (gd r 1) (gd r 2) (gi r 3) i }
def cMay (f : FuncId) : Con := b2 f [.agg book, .c ints, .c ints, aI] [.one iR, .one bR, .one iR] fun xs => MayF (gd xs 0) (gd xs 1) (gd xs 2) (gd xs 3) (gi xs 4)
def lMay : Con :=
  { lp := some ⟨1, 33, [(.tmp 10, .int)]⟩, mea := fun r => ((gd r 1).len - gi r 11).toNat, bnd := [big]
    pre := fun r => gi r 11 ≤ (gd r 1).len ∧ ∀ i : Nat, i < (gi r 11).toNat → ¬ mayP (gd r 1) (gd r 2) (gd r 3) (gi r 4) i }
def cDis (f : FuncId) : Con := b2 f [.agg book, aI, .c ints] [.one lR, .one bR, .one iR] fun xs => DisF (gd xs 0) (gd xs 1) (gi xs 2) (gd xs 3)
def lDis : Con :=
  { lp := some ⟨9, 86, [(.tmp 6, .sl true 3), (.tmp 52, .int)]⟩, mea := fun r => ((gd r 3).len - gi r 14).toNat, bnd := [.d ints, big]
    pre := fun r => gi r 14 ≤ (gd r 3).len ∧ (gd r 13).els = misK (gd r 0) ((gd r 1).at (gi r 2) 2) (fc (gd r 1) (gi r 2)) (gd r 3) (gi r 14).toNat }
/-! The reference's. -/
def cHas (f : FuncId) : Con := b2 f [.c ints, aI] [.one bR] fun xs => yn (memP (gd xs 0) (gi xs 1))
def lHas : Con :=
  { lp := some ⟨2, 18, [(.tmp 5, .int)]⟩, mea := fun r => ((gd r 0).len - gi r 2).toNat, bnd := [big]
    pre := fun r => gi r 2 ≤ (gd r 0).len ∧ ∀ i : Nat, i < (gi r 2).toNat → ¬ el (gd r 0) i = gi r 1 }
def cAll (f : FuncId) : Con := b2 f [.c ints, .c ints] [.one bR] fun xs => yn (allP (gd xs 0) (gd xs 1))
def lAll : Con :=
  { lp := some ⟨2, 21, [(.tmp 5, .int)]⟩, mea := fun r => ((gd r 0).len - gi r 2).toNat, bnd := [big]
    pre := fun r => gi r 2 ≤ (gd r 0).len ∧ ∀ i : Nat, i < (gi r 2).toNat → memP (gd r 1) (el (gd r 0) i) }
def cSetR (f : FuncId) : Con := b2 f [.agg book, .c ints] [.one bR] fun xs => yn (setP (gd xs 0).len (gd xs 2) (gd xs 2).len.toNat)
def lSetR : Con :=
  { lp := some ⟨2, 38, [(.tmp 5, .int)]⟩, mea := fun r => ((gd r 2).len - gi r 3).toNat, bnd := [big]
    pre := fun r => gi r 3 ≤ (gd r 2).len ∧ setP (gd r 0).len (gd r 2) (gi r 3).toNat }
def cRea (f : FuncId) : Con := b2 f [.agg book, .c ints, .c ints, aI] [.one bR] fun xs => yn (reaP (gd xs 0) (gd xs 2) (gd xs 3) (gi xs 4))
def lRea : Con :=
  { lp := some ⟨5, 38, [(.tmp 10, .int)]⟩, mea := fun r => ((gd r 3).len - gi r 7).toNat, bnd := [big]
    pre := fun r => gi r 7 ≤ (gd r 3).len ∧ favP (gd r 0) (gd r 3) (gi r 4) (gi r 7).toNat }
def lChk1 : Con :=
  { lp := some ⟨4, 102, [(.tmp 3, .int)]⟩, mea := fun r => ((gd r 0).len - gi r 2).toNat, bnd := [big]
    pre := fun r => gi r 2 ≤ (gd r 0).len ∧ sidesP (gd r 0) (gi r 2).toNat }
def lChk2 : Con :=
  { lp := some ⟨9, 102, [(.tmp 4, .int)]⟩, mea := fun r => ((gd r 1).len - gi r 105).toNat, bnd := [big]
    pre := fun r => gi r 105 ≤ (gd r 1).len ∧ casesP (gd r 0) (gd r 1) (gi r 105).toNat }
def cClg (f : FuncId) : Con := b2 f [.agg case1, .agg case1] [.one bR] fun xs => yn (clP (gi xs 2) (gd xs 3) (gd xs 4) (gi xs 7) (gd xs 8) (gd xs 9))
def lCl1 : Con :=
  { lp := some ⟨5, 43, [(.tmp 7, .int)]⟩, mea := fun r => ((gd r 1).len - gi r 3).toNat, bnd := [big]
    pre := fun r => gi r 3 ≤ (gd r 1).len ∧ ∀ i : Nat, i < (gi r 3).toNat → ¬ cl1 (gd r 1) (gd r 1).len.toNat i }
def lCl2 : Con :=
  { lp := some ⟨8, 43, [(.tmp 8, .int)]⟩, mea := fun r => ((gd r 1).len - gi r 47).toNat, bnd := [big]
    pre := fun r => (gi r 47 ≤ (gd r 1).len ∧ gi r 3 < gi r 47) ∧ ∀ j : Nat, j < (gi r 47).toNat → ¬ cl2 (gd r 1) (gi r 3).toNat j }
def cMis (f : FuncId) : Con := { f := f, args := [.agg book, .agg case1, .c ints], res := [.one lR], pre := fun xs => setP (gd xs 0).len (gd xs 7) (gd xs 7).len.toNat ∧ (gd xs 0).len ≤ 32, post := fun xs y => y = [.sl none 0 (misK (gd xs 0) (gi xs 4) (gd xs 5) (gd xs 7) (gd xs 7).len.toNat)] }
def lMis : Con :=
  { lp := some ⟨3, 47, [(.tmp 7, .sl true 3), (.tmp 8, .int)]⟩, mea := fun r => ((gd r 7).len - gi r 10).toNat, bnd := [.d ints, big]
    pre := fun r => gi r 10 ≤ (gd r 7).len ∧ (gd r 9).els = misK (gd r 0) (gi r 4) (gd r 5) (gd r 7) (gi r 10).toNat }
def cAskR (f : FuncId) : Con := b2 f [.agg book, .c ints, aI] [.one iR] fun xs => [.n (askF (gd xs 0) (gd xs 1) (gd xs 2) (gi xs 3))]
def lBindsR : Con :=
  { lp := some ⟨5, 50, [(.tmp 10, .int)]⟩, mea := fun r => ((gd r 1).len - gi r 5).toNat, bnd := [big]
    pre := fun r => gi r 5 ≤ (gd r 1).len ∧ ∀ i : Nat, i < (gi r 5).toNat → ¬ bindP (gd r 0) (gd r 1) (gd r 2) (gi r 3) i }
def lMayR : Con :=
  { lp := some ⟨9, 48, [(.tmp 14, .int)]⟩, mea := fun r => ((gd r 1).len - gi r 7).toNat, bnd := [big]
    pre := fun r => gi r 7 ≤ (gd r 1).len ∧ ∀ i : Nat, i < (gi r 7).toNat → ¬ mayP (gd r 1) (gd r 2) (gd r 3) (gi r 4) i }
end Go.Proofs.Ytpaphkpdnmalhaa
