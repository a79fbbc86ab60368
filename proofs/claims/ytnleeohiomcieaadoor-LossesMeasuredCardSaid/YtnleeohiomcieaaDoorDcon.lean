/- DERIVED. What the functions of losses keep. -/
import Derived.Test.YtnleeohiomcieaaDoorDtb
namespace Go.Proofs.YtnleeohiomcieaaDoor
open Go.Dx
set_option linter.unusedVariables false
abbrev i64s : Sh := .int .i64 (-9223372036854775808) 9223372036854775807
abbrev u64s : Sh := .int .u64 0 18446744073709551615
abbrev iR : RC := ⟨i64s, none⟩
abbrev mR : RC := ⟨.int .i64 0 1073741824, none⟩
abbrev eR : RSh := .one ⟨.int .i64 0 210, none⟩
abbrev bR : RSh := .one ⟨.bool, none⟩
/-- A reach: its name, five numbers, what evaporates, what seeps. -/
abbrev reach : List Sh := [.str 9223372036854775807, i64s, i64s, i64s, i64s, i64s, i64s, i64s, i64s, i64s, i64s, i64s]
def gcdI (a b : Int) : Int := (Nat.gcd a.natAbs b.natAbs : Nat)
/-- Is N / D a valid ratio? -/
def Val (N D : Int) : Prop := 1 ≤ D ∧ D ≤ 1073741824 ∧ -1073741824 ≤ N ∧ N ≤ 1073741824 ∧ gcdI N D = 1
def cDiv : Con :=
  { f := 75, args := [.c u64s, .c u64s], res := [.one ⟨.int .u64 1 18446744073709551615, none⟩], pre := fun | [a, b] => 1 ≤ b.int | _ => False
    post := fun | [a, b], [g] => g.int = gcdI a.int b.int | _, _ => False }
def lDiv : Con :=
  { lp := some ⟨1, 18, [(.tmp 4, .int), (.tmp 5, .int), (.cell 0 0, .int)]⟩, mea := fun | [_, _, _, y, _] => y.int.toNat | _ => 0
    bnd := [.i 0 18446744073709551615, .i 0 18446744073709551615, .i 0 18446744073709551615]
    pre := fun | [a, b, x, y, g] => gcdI x.int y.int = gcdI a.int b.int ∧ (y.int = 0 → g.int = x.int) | _ => False }
def cDivR : Con :=
  { f := 83, args := [.c (.int .i64 0 1073741824), .c (.int .i64 0 1073741824)], res := [.one mR], pre := fun | [a, b] => True | _ => False
    post := fun | [a, b], [g] => g.int = gcdI a.int b.int | _, _ => False }
def lDivR : Con :=
  { lp := some ⟨1, 14, [(.tmp 0, .int), (.tmp 1, .int)]⟩, mea := fun | [_, _, _, y] => y.int.toNat | _ => 0
    bnd := [.i 0 1073741824, .i 0 1073741824]
    pre := fun | [a, b, x, y] => gcdI x.int y.int = gcdI a.int b.int | _ => False }
def ChkP (n d : Int) (y : List DV) : Prop := (Val n d → y = [.n 0]) ∧ (¬ Val n d → y = [.n 120])
def cChk : Con := { f := 62, args := [.agg [i64s, i64s]], res := [eR], pre := fun _ => True, post := fun | [n, d], y => ChkP n.int d.int y | _, _ => False }
def ValP (p : Prop) (y : List DV) : Prop := (p → y = [.n 1]) ∧ (¬ p → y = [.n 0])
def cVal : Con := { f := 81, args := [.agg [i64s, i64s]], res := [bR], pre := fun _ => True, post := fun | [n, d], y => ValP (Val n.int d.int) y | _, _ => False }
/-- Are two ratios a least and a greatest share? -/
def Shr (n0 d0 n1 d1 : Int) : Prop := Val n0 d0 ∧ Val n1 d1 ∧ n0 * d1 ≤ n1 * d0 ∧ 0 ≤ n0 ∧ n1 ≤ d1
def cShr : Con := { f := 70, args := [.agg [i64s, i64s, i64s, i64s]], res := [bR], pre := fun _ => True, post := fun | [a, b, c, d], y => ValP (Shr a.int b.int c.int d.int) y | _, _ => False }
def cShrR : Con := { f := 72, args := [.agg [i64s, i64s, i64s, i64s]], res := [bR], pre := fun _ => True, post := fun | [a, b, c, d], y => ValP (Shr a.int b.int c.int d.int) y | _, _ => False }
/-- What a reach loses: the numbers that matter. -/
structure Rch where
  el : Int
  eh : Int
  n0 : Int
  d0 : Int
  n1 : Int
  d1 : Int
def ev (xs : List DV) (i : Nat) : Int := (xs.getD i (.n 0)).int
def rch (xs : List DV) : Rch := ⟨ev xs 6, ev xs 7, ev xs 8, ev xs 9, ev xs 10, ev xs 11⟩
def OkR (r : Rch) : Prop := (0 ≤ r.el ∧ r.el ≤ r.eh ∧ r.eh ≤ 1073741824) ∧ Shr r.n0 r.d0 r.n1 r.d1
def Lit (v : Int) : Prop := 0 ≤ v ∧ v ≤ 1073741824
def loF (r : Rch) (v : Int) : Int := min v (r.el + (v * r.n0).tdiv r.d0)
def hiF (r : Rch) (v : Int) : Int := min v (r.eh + (v * r.n1 + r.d1 - 1).tdiv r.d1)
def CheckP (r : Rch) (v : Int) (y : List DV) : Prop := (¬ OkR r → y = [.n 210]) ∧ (OkR r → ¬ Lit v → y = [.n 1]) ∧ (OkR r → Lit v → y = [.n 0])
def cCheck : Con := { f := 47, args := [.agg reach, .c i64s], res := [eR], pre := fun _ => True, post := fun xs y => CheckP (rch xs) (ev xs 12) y }
def cLost : Con := { f := 48, args := [.agg reach, .c i64s], res := [.agg [mR, mR]], pre := fun xs => OkR (rch xs) ∧ Lit (ev xs 12), post := fun xs y => y = [.n (loF (rch xs) (ev xs 12)), .n (hiF (rch xs) (ev xs 12))] }
def cLostR : Con := { f := 50, args := [.agg reach, .c i64s], res := [.agg [mR, mR]], pre := fun xs => OkR (rch xs) ∧ Lit (ev xs 12), post := fun xs y => y = [.n (loF (rch xs) (ev xs 12)), .n (hiF (rch xs) (ev xs 12))] }
def worst (r : Rch) (v : Int) : Int := v - hiF r v
def best (r : Rch) (v : Int) : Int := v - loF r v
def wayF (b : Bool) (r : Rch) (v : Int) : Int := if b then best r v else worst r v
def cWorst : Con := { f := 51, args := [.agg reach, .c i64s], res := [.one mR], pre := fun xs => OkR (rch xs) ∧ Lit (ev xs 12), post := fun xs y => y = [.n (worst (rch xs) (ev xs 12))] }
def cBest : Con := { f := 52, args := [.agg reach, .c i64s], res := [.one mR], pre := fun xs => OkR (rch xs) ∧ Lit (ev xs 12), post := fun xs y => y = [.n (best (rch xs) (ev xs 12))] }
def cArr : Con := { f := 73, args := [.agg reach, .c i64s, .c .bool], res := [.one mR], pre := fun xs => OkR (rch xs) ∧ Lit (ev xs 12), post := fun xs y => y = [.n (wayF (decide (ev xs 13 ≠ 0)) (rch xs) (ev xs 12))] }
/-- The least parcel of which w litres arrive. -/
def Lst (f : Int → Int) (w L : Int) : Prop := 0 ≤ L ∧ L ≤ 1073741825 ∧ (∀ v, 0 ≤ v → v < L → f v < w) ∧ (∀ v, L ≤ v → v ≤ 1073741824 → w ≤ f v)
def LostP (r : Rch) (v : Int) (y : List DV) : Prop := (¬ OkR r → y = [.n 0, .n 0, .n 210]) ∧ (OkR r → ¬ Lit v → y = [.n 0, .n 0, .n 1]) ∧ (OkR r → Lit v → y = [.n (loF r v), .n (hiF r v), .n 0])
def WayP (b : Bool) (r : Rch) (v : Int) (y : List DV) : Prop := (¬ OkR r → y = [.n 0, .n 210]) ∧ (OkR r → ¬ Lit v → y = [.n 0, .n 1]) ∧ (OkR r → Lit v → y = [.n (wayF b r v), .n 0])
def NeedP (b : Bool) (r : Rch) (w : Int) (y : List DV) : Prop := (¬ OkR r → y = [.n 0, .n 0, .n 210]) ∧ (OkR r → ¬ Lit w → y = [.n 0, .n 0, .n 1]) ∧
  (OkR r → Lit w → ∃ L, Lst (wayF b r) w L ∧ (L ≤ 1073741824 → y = [.n L, .n 1, .n 0]) ∧ (1073741824 < L → y = [.n 0, .n 0, .n 0]))
def MostP (r : Rch) (w : Int) (y : List DV) : Prop := (¬ OkR r → y = [.n 0, .n 210]) ∧ (OkR r → ¬ Lit w → y = [.n 0, .n 1]) ∧
  (OkR r → Lit w → ∃ L, Lst (wayF false r) (w + 1) L ∧ y = [.n (L - 1), .n 0])
abbrev rv : List ASh := [.agg reach, .c i64s]
def cLostX (f : FuncId) : Con := { f := f, args := rv, res := [.agg [mR, mR], eR], pre := fun _ => True, post := fun xs y => LostP (rch xs) (ev xs 12) y }
def cWayX (f : FuncId) (b : Bool) : Con := { f := f, args := rv, res := [.one mR, eR], pre := fun _ => True, post := fun xs y => WayP b (rch xs) (ev xs 12) y }
def cNeed (f : FuncId) (b : Bool) : Con := { f := f, args := rv, res := [.one mR, bR, eR], pre := fun _ => True, post := fun xs y => NeedP b (rch xs) (ev xs 12) y }
def cMost (f : FuncId) : Con := { f := f, args := rv, res := [.one mR, eR], pre := fun _ => True, post := fun xs y => MostP (rch xs) (ev xs 12) y }
/-- The loop that looks for it. -/
def Look (f : Int → Int) (w lo hi : Int) : Prop := lo ≤ hi ∧ (∀ v, 0 ≤ v → v < lo → f v < w) ∧ (∀ v, hi ≤ v → v ≤ 1073741824 → w ≤ f v)
def lLst (b : Bool) (k : Int) (m : Nat) : Con :=
  { lp := some ⟨2, 20, [(.tmp 3, .int), (.tmp 4, .int)]⟩, mea := fun xs => (ev xs (m + 1) - ev xs m).toNat
    bnd := [.i 0 1073741825, .i 0 1073741825]
    pre := fun xs => Look (wayF b (rch xs)) (ev xs 12 + k) (ev xs m) (ev xs (m + 1)) }
def cLst : Con :=
  { f := 59, args := [.agg reach, .c i64s, .c .bool], res := [.one ⟨.int .i64 (-1) 1073741824, none⟩], pre := fun xs => OkR (rch xs) ∧ 0 ≤ ev xs 12 ∧ ev xs 12 ≤ 1073741825
    post := fun xs y => ∃ L, Lst (wayF (decide (ev xs 13 ≠ 0)) (rch xs)) (ev xs 12) L ∧ (L ≤ 1073741824 → y = [.n L]) ∧ (1073741824 < L → y = [.n (-1)]) }
def lLstR : Con :=
  { lp := some ⟨5, 32, [(.tmp 7, .int), (.tmp 8, .int)]⟩, mea := fun xs => (ev xs 16 - ev xs 15).toNat
    bnd := [.i 0 1073741824, .i 0 1073741824]
    pre := fun xs => Look (wayF (decide (ev xs 13 ≠ 0)) (rch xs)) (ev xs 12) (ev xs 15) (ev xs 16) }
end Go.Proofs.YtnleeohiomcieaaDoor
