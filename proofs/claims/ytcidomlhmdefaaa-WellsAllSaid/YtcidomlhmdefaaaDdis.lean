/- DERIVED. When a district is valid: contracts of its check, on both sides. -/
import Derived.Test.YtcidomlhmdefaaaDcon
namespace Go.Proofs.Ytcidomlhmdefaaa
open Go.Dx
set_option linter.unusedVariables false
abbrev u64s : Sh := .int .u64 0 18446744073709551615
abbrev mR : RC := ⟨.int .i64 0 1073741824, none⟩
abbrev eRR : RSh := .one ⟨.int .i64 0 500, none⟩
abbrev bRR : RSh := .one ⟨.bool, none⟩
abbrev strS : Sh := .str 9223372036854775807
abbrev slS (row : List Sh) : Sh := .sl 9223372036854775807 row
abbrev reachS : List Sh := [strS, i64s, i64s, i64s, i64s, i64s, i64s, i64s, i64s, i64s, i64s, i64s]
abbrev farmS : List Sh := [strS, i64s, i64s, i64s]
abbrev cropS : List Sh := [strS, i64s]
abbrev rightS : List Sh := [strS, i64s, i64s, i64s, i64s, i64s, i64s, i64s, i64s, i64s]
abbrev dutyS : List Sh := [strS, i64s, i64s, i64s]
abbrev distS : List Sh := [strS, i64s, i64s, i64s, slS reachS, slS farmS, slS cropS, slS rightS, slS dutyS, slS well]
def gcdI (a b : Int) : Int := (Nat.gcd a.natAbs b.natAbs : Nat)
/-- Is N / D a valid ratio? -/
def VRat (N D : Int) : Prop := 1 ≤ D ∧ D ≤ 1073741824 ∧ -1073741824 ≤ N ∧ N ≤ 1073741824 ∧ gcdI N D = 1
def cDiv : Con :=
  { f := 63, args := [.c u64s, .c u64s], res := [.one ⟨.int .u64 1 18446744073709551615, none⟩], pre := fun | [a, b] => 1 ≤ b.int | _ => False
    post := fun | [a, b], [g] => g.int = gcdI a.int b.int | _, _ => False }
def lDivG : Con :=
  { lp := some ⟨1, 18, [(.tmp 4, .int), (.tmp 5, .int), (.cell 0 0, .int)]⟩, mea := fun | [_, _, _, y, _] => y.int.toNat | _ => 0
    bnd := [.i 0 18446744073709551615, .i 0 18446744073709551615, .i 0 18446744073709551615]
    pre := fun | [a, b, x, y, g] => gcdI x.int y.int = gcdI a.int b.int ∧ (y.int = 0 → g.int = x.int) | _ => False }
def cDivR : Con :=
  { f := 69, args := [.c (.int .i64 0 1073741824), .c (.int .i64 0 1073741824)], res := [.one mR], pre := fun | [a, b] => True | _ => False
    post := fun | [a, b], [g] => g.int = gcdI a.int b.int | _, _ => False }
def lDivR : Con :=
  { lp := some ⟨1, 14, [(.tmp 0, .int), (.tmp 1, .int)]⟩, mea := fun | [_, _, _, y] => y.int.toNat | _ => 0
    bnd := [.i 0 1073741824, .i 0 1073741824]
    pre := fun | [a, b, x, y] => gcdI x.int y.int = gcdI a.int b.int | _ => False }
def ChkP (n d : Int) (y : List DV) : Prop := (VRat n d → y = [.n 0]) ∧ (¬ VRat n d → y = [.n 120])
def cRat : Con := { f := 59, args := [.agg [i64s, i64s]], res := [eRR], pre := fun _ => True, post := fun | [n, d], y => ChkP n.int d.int y | _, _ => False }
def ValP (p : Prop) (y : List DV) : Prop := (p → y = [.n 1]) ∧ (¬ p → y = [.n 0])
def cVal : Con := { f := 65, args := [.agg [i64s, i64s]], res := [bRR], pre := fun _ => True, post := fun | [n, d], y => ValP (VRat n.int d.int) y | _, _ => False }
/-- Are two ratios a least and a greatest share? -/
def Shr (n0 d0 n1 d1 : Int) : Prop := VRat n0 d0 ∧ VRat n1 d1 ∧ n0 * d1 ≤ n1 * d0 ∧ 0 ≤ n0 ∧ n1 ≤ d1
def cShrR : Con := { f := 58, args := [.agg [i64s, i64s, i64s, i64s]], res := [bRR], pre := fun _ => True, post := fun | [a, b, c, d], y => ValP (Shr a.int b.int c.int d.int) y | _, _ => False }
/-- A reach, but for its Up: the cells from the name on. -/
def RchP (x : Nat → Int) : Prop :=
  (((1 ≤ x 2 ∧ x 2 ≤ 16) ∧ (0 ≤ x 3 ∧ x 3 ≤ 1073741824) ∧ 0 ≤ x 4 ∧ x 4 ≤ 1099511627776) ∧ (0 ≤ x 5 ∧ x 5 ≤ x 3 ∧ x 5 ≤ x 4) ∧ 0 ≤ x 6 ∧ x 6 ≤ x 7 ∧ x 7 ≤ 1073741824) ∧ Shr (x 8) (x 9) (x 10) (x 11)
def cRch (f : FuncId) : Con := { f := f, args := [.agg reachS], res := [bRR], pre := fun _ => True, post := fun xs y => ValP (RchP (gi xs)) y }
def FrmP (nR nC : Int) (x : Nat → Int) : Prop := ((0 ≤ x 1 ∧ x 1 < nR) ∧ 0 ≤ x 2 ∧ x 2 ≤ 1048576) ∧ (x 2 = 0 → x 3 = -1) ∧ (x 2 ≠ 0 → 0 ≤ x 3 ∧ x 3 < nC)
def cFrm (f : FuncId) : Con := { f := f, args := [.agg distS, .agg farmS], res := [bRR], pre := fun _ => True, post := fun xs y => ValP (FrmP (gd xs 4).len (gd xs 6).len fun k => gi xs (10 + k)) y }
def RgtP (H nR nF : Int) (x : Nat → Int) : Prop :=
  ((0 ≤ x 2 ∧ x 2 < nF) ∧ (0 ≤ x 3 ∧ x 3 < nR) ∧ 0 ≤ x 6 ∧ x 6 ≤ x 7 ∧ x 7 < H) ∧
    ((x 1 = 1 ∧ x 3 = 0 ∧ (0 ≤ x 4 ∧ x 4 ≤ 1048576) ∧ (1 ≤ x 5 ∧ x 5 ≤ 1073741824) ∧ 1 ≤ x 9 ∧ x 9 ≤ x 8 ∧ x 8 ≤ H) ∨
      ((x 1 = 2 ∨ x 1 = 3) ∧ x 4 = 0 ∧ x 5 = 0 ∧ x 8 = 0 ∧ x 9 = 0 ∧ (x 1 = 2 → x 6 = 0 ∧ x 7 = H - 1)))
def cRgt (f : FuncId) : Con := { f := f, args := [.agg distS, .agg rightS], res := [bRR], pre := fun xs => 1 ≤ gi xs 1 ∧ gi xs 1 ≤ 4096, post := fun xs y => ValP (RgtP (gi xs 1) (gd xs 4).len (gd xs 5).len fun k => gi xs (10 + k)) y }
def DtyP (H nR nF : Int) (x : Nat → Int) : Prop := (0 ≤ x 1 ∧ x 1 < nF) ∧ (0 ≤ x 2 ∧ x 2 < nR) ∧ 0 ≤ x 3 ∧ x 3 ≤ H
def AllTo (n : Int) (P : Int → Prop) : Prop := ∀ i, 0 ≤ i → i < n → P i
def UpP (R : DV) (i : Int) : Prop := (i = 0 → R.at i 1 = -1) ∧ (0 < i → 0 ≤ R.at i 1 ∧ R.at i 1 < i)
def ReaP (R : DV) (n : Int) : Prop := AllTo n fun i => UpP R i ∧ RchP (R.at i)
def CrpP (C : DV) (n : Int) : Prop := AllTo n fun i => 0 ≤ C.at i 1 ∧ C.at i 1 ≤ 1048576
def FrsP (d : List DV) (n : Int) : Prop := AllTo n fun i => FrmP (gd d 4).len (gd d 6).len ((gd d 5).at i)
def RgsP (d : List DV) (n : Int) : Prop := AllTo n fun i => RgtP (gi d 1) (gd d 4).len (gd d 5).len ((gd d 7).at i)
def DtsP (d : List DV) (n : Int) : Prop := AllTo n fun i => DtyP (gi d 1) (gd d 4).len (gd d 5).len ((gd d 8).at i)
def HedP (d : List DV) : Prop := (1 ≤ gi d 1 ∧ gi d 1 ≤ 4096) ∧ 0 ≤ gi d 3 ∧ gi d 3 ≤ gi d 2 ∧ gi d 2 ≤ 1099511627776
def VldP (d : List DV) : Prop :=
  (HedP d ∧ 1 ≤ (gd d 4).len ∧ ReaP (gd d 4) (gd d 4).len) ∧ CrpP (gd d 6) (gd d 6).len ∧ FrsP d (gd d 5).len ∧ RgsP d (gd d 7).len ∧ DtsP d (gd d 8).len
def BigP (d : List DV) : Prop := 64 < (gd d 4).len ∨ 600 < (gd d 5).len ∨ 32 < (gd d 6).len ∨ 256 < (gd d 7).len ∨ 256 < (gd d 8).len
def cVld (f : FuncId) : Con := { f := f, args := [.agg distS], res := [bRR], pre := fun _ => True, post := fun xs y => ValP (VldP xs) y }
def DisP (d : List DV) (y : List DV) : Prop := (BigP d → y = [.n 2]) ∧ (¬ BigP d → ¬ VldP d → y = [.n 191]) ∧ (¬ BigP d → VldP d → y = [.n 0])
def cDis (f : FuncId) : Con := { f := f, args := [.agg distS], res := [eRR], pre := fun _ => True, post := fun xs y => DisP xs y }
end Go.Proofs.Ytcidomlhmdefaaa
