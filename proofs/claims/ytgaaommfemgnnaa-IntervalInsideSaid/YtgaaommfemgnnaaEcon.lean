/- DERIVED. What the operations of intervals keep. -/
import Derived.Test.YtgaaommfemgnnaaEtb
namespace Go.Proofs.Ytgaaommfemgnnaa
open Go.Dx
set_option linter.unusedVariables false
abbrev i64s : Sh := .int .i64 (-9223372036854775808) 9223372036854775807
abbrev u64s : Sh := .int .u64 0 18446744073709551615
abbrev mS : Sh := .int .i64 (-1099511627776) 1099511627776
abbrev rS : Sh := .int .i64 (-1073741824) 1073741824
abbrev dS : Sh := .int .i64 1 1073741824
abbrev mR : RC := ⟨mS, none⟩
abbrev m2R : RC := ⟨.int .i64 (-2199023255552) 2199023255552, none⟩
abbrev uR : RSh := .one ⟨u64s, none⟩
abbrev eR : RSh := .one ⟨.int .i64 0 140, none⟩
abbrev bR : RSh := .one ⟨.bool, none⟩
abbrev two : ASh := .agg [i64s, i64s]
abbrev rtwo : RSh := .agg [mR, mR]
def gi (l : List DV) (k : Nat) : Int := (l.getD k (.n 0)).int
abbrev In (x : Int) : Prop := -1099511627776 ≤ x ∧ x ≤ 1099511627776
/-- Is it an interval? -/
abbrev V (a b : Int) : Prop := -1099511627776 ≤ a ∧ a ≤ b ∧ b ≤ 1099511627776
/-- The interval from lo to hi, if A. -/
def OpP (A : Prop) (lo hi x y e : Int) : Prop := (A → V lo hi → x = lo ∧ y = hi ∧ e = 0) ∧ (A → ¬ V lo hi → x = 0 ∧ y = 0 ∧ e = 2) ∧ (¬ A → x = 0 ∧ y = 0 ∧ e = 130)
def cOp (f : FuncId) (lo hi : Int → Int → Int → Int → Int) : Con :=
  { f := f, args := [two, two], res := [rtwo, eR], pre := fun _ => True
    post := fun xs y => OpP (V (gi xs 0) (gi xs 1) ∧ V (gi xs 2) (gi xs 3)) (lo (gi xs 0) (gi xs 1) (gi xs 2) (gi xs 3)) (hi (gi xs 0) (gi xs 1) (gi xs 2) (gi xs 3)) (gi y 0) (gi y 1) (gi y 2) }
abbrev min4 (a b c d : Int) : Int := min (min (min a b) c) d
abbrev max4 (a b c d : Int) : Int := max (max (max a b) c) d
def cAdd (f : FuncId) : Con := cOp f (fun a b c d => a + c) (fun a b c d => b + d)
def cSub (f : FuncId) : Con := cOp f (fun a b c d => a - d) (fun a b c d => b - c)
def cMul (f : FuncId) : Con := cOp f (fun a b c d => min4 (a * c) (a * d) (b * c) (b * d)) (fun a b c d => max4 (a * c) (a * d) (b * c) (b * d))
def cHull (f : FuncId) : Con := cOp f (fun a b c d => min a c) (fun a b c d => max b d)
def sqL (a b : Int) : Int := if a ≤ 0 ∧ 0 ≤ b then 0 else min (a * a) (b * b)
def cSqr (f : FuncId) : Con :=
  { f := f, args := [two], res := [rtwo, eR], pre := fun _ => True
    post := fun xs y => OpP (V (gi xs 0) (gi xs 1)) (sqL (gi xs 0) (gi xs 1)) (max (gi xs 0 * gi xs 0) (gi xs 1 * gi xs 1)) (gi y 0) (gi y 1) (gi y 2) }
def InP (a b c d k e : Int) : Prop := (V a b ∧ V c d → (k = 1 ↔ c ≤ a ∧ b ≤ d) ∧ e = 0) ∧ (¬ (V a b ∧ V c d) → k = 0 ∧ e = 130)
def cIn (f : FuncId) : Con := { f := f, args := [two, two], res := [bR, eR], pre := fun _ => True, post := fun xs y => InP (gi xs 0) (gi xs 1) (gi xs 2) (gi xs 3) (gi y 0) (gi y 1) }
/-- r is the root of n, rounded down; rounded up. -/
def IsRt (n r : Int) : Prop := 0 ≤ r ∧ r * r ≤ n ∧ n < (r + 1) * (r + 1)
def IsUp (n r : Int) : Prop := 0 ≤ r ∧ n ≤ r * r ∧ (r = 0 ∨ (r - 1) * (r - 1) < n)
def RootP (a b x y e : Int) : Prop := (V a b → 0 ≤ a → IsRt a x ∧ IsUp b y ∧ e = 0) ∧ (V a b → a < 0 → x = 0 ∧ y = 0 ∧ e = 1) ∧ (¬ V a b → x = 0 ∧ y = 0 ∧ e = 130)
abbrev tR : RC := ⟨.int .i64 0 1048576, none⟩
def cRoot (f : FuncId) : Con := { f := f, args := [two], res := [.agg [tR, tR], eR], pre := fun _ => True, post := fun xs y => RootP (gi xs 0) (gi xs 1) (gi y 0) (gi y 1) (gi y 2) }
def cRt (f : FuncId) : Con := { f := f, args := [.c (.int .i64 0 1099511627776)], res := [.one tR], pre := fun _ => True, post := fun xs y => IsRt (gi xs 0) (gi y 0) }
def RtI (n r b : Int) : Prop := r * r ≤ n ∧ ((b = 0 ∧ n < (r + 1) * (r + 1)) ∨ ∃ j : Nat, b = 2 ^ j ∧ n < (r + 2 * b) * (r + 2 * b))
def lRt : Con :=
  { lp := some ⟨3, 22, [(.tmp 3, .int), (.tmp 4, .int)]⟩, mea := fun xs => (gi xs 2).toNat, bnd := [.i 0 1048576, .i 0 1048576]
    pre := fun xs => RtI (gi xs 0) (gi xs 1) (gi xs 2) }
def cMul64 (f : FuncId) : Con := { f := f, args := [.c u64s, .c u64s], res := [uR, uR], pre := fun _ => True, post := fun xs y => gi y 0 * 18446744073709551616 + gi y 1 = gi xs 0 * gi xs 1 }
/-- How many bits a number has that is not too great. -/
def cLen (f : FuncId) : Con := { f := f, args := [.c (.int .u64 1 1073741824)], res := [.one ⟨.int .i64 1 31, none⟩], pre := fun _ => True, post := fun xs y => 2 ^ (gi y 0 - 1).toNat ≤ gi xs 0 ∧ gi xs 0 < 2 ^ (gi y 0).toNat }
def cDiv64 (f : FuncId) : Con :=
  { f := f, args := [.c u64s, .c u64s, .c (.int .u64 1 1073741824)], res := [uR, uR], pre := fun xs => gi xs 0 < gi xs 2
    post := fun xs y => gi y 0 * gi xs 2 + gi y 1 = gi xs 0 * 18446744073709551616 + gi xs 1 ∧ 0 ≤ gi y 1 ∧ gi y 1 < gi xs 2 }
def tN (n : Int) : Int := 2 ^ (min (64 - n).toNat 64)
def wN (n : Int) : Int := 2 ^ (min (64 - (64 - n)).toNat 64)
def u32 (T W hi lo : Int) : Int := hi * T + lo / W
def u10 (T W lo : Int) : Int := lo % W * T
def aa (T' D : Int) : Int := D * T'
def u21 (T W T' D hi lo : Int) : Int := u32 T W hi lo % aa T' D * 4294967296 + u10 T W lo / 4294967296
def aN (n D : Int) : Int := aa (2 ^ (32 - n).toNat) D
def u3N (n hi lo : Int) : Int := u32 (tN n) (wN n) hi lo
def u2N (n D hi lo : Int) : Int := u21 (tN n) (wN n) (2 ^ (32 - n).toNat) D hi lo
abbrev w64 : VD := .i 0 18446744073709551615
def lQ1 : Con := { lp := some ⟨17, 135, [(.tmp 15, .int), (.tmp 16, .int)]⟩, mea := fun xs => 0, bnd := [w64, w64], pre := fun xs => gi xs 4 = u3N (gi xs 3) (gi xs 0) (gi xs 1) / aN (gi xs 3) (gi xs 2) ∧ gi xs 5 = u3N (gi xs 3) (gi xs 0) (gi xs 1) % aN (gi xs 3) (gi xs 2) }
def lQ2 : Con := { lp := some ⟨24, 135, [(.tmp 16, .int), (.tmp 18, .int)]⟩, mea := fun xs => 0, bnd := [w64, w64], pre := fun xs => gi xs 142 = u2N (gi xs 3) (gi xs 2) (gi xs 0) (gi xs 1) % aN (gi xs 3) (gi xs 2) ∧ gi xs 143 = u2N (gi xs 3) (gi xs 2) (gi xs 0) (gi xs 1) / aN (gi xs 3) (gi xs 2) }
/-- The quotient, rounded towards 0, or away from it; far beyond the limits it stays where it is. -/
def scQ (m d w : Int) : Int := if 2199023255552 < m / d then 2199023255552 else if w = 1 ∧ 0 < m % d then m / d + 1 else m / d
def scF (z d w : Int) : Int := if z < 0 then -scQ (-z) d w else scQ z d w
def cScd (f : FuncId) : Con :=
  { f := f, args := [.c mS, .c rS, .c dS, .c .bool], res := [.one ⟨.int .i64 (-2199023255553) 2199023255553, none⟩], pre := fun _ => True, post := fun xs y => gi y 0 = scF (gi xs 0 * gi xs 1) (gi xs 2) (gi xs 3) }
def clip (z : Int) : Int := if 2199023255552 < z then 2199023255552 else if z < -2199023255552 then -2199023255552 else z
def cProd (f : FuncId) : Con := { f := f, args := [.c mS, .c mS], res := [.one m2R], pre := fun _ => True, post := fun xs y => gi y 0 = clip (gi xs 0 * gi xs 1) }
def cFits (f : FuncId) : Con := { f := f, args := [.c mS, .c mS], res := [bR], pre := fun _ => True, post := fun xs y => gi y 0 = 1 ↔ In (gi xs 0 * gi xs 1) }
def gcdI (a b : Int) : Int := (Nat.gcd a.natAbs b.natAbs : Nat)
def VRat (N D : Int) : Prop := 1 ≤ D ∧ D ≤ 1073741824 ∧ -1073741824 ≤ N ∧ N ≤ 1073741824 ∧ gcdI N D = 1
def cDiv (f : FuncId) : Con :=
  { f := f, args := [.c u64s, .c u64s], res := [.one ⟨.int .u64 1 18446744073709551615, none⟩], pre := fun | [a, b] => 1 ≤ b.int | _ => False
    post := fun | [a, b], [g] => g.int = gcdI a.int b.int | _, _ => False }
def lDivG : Con :=
  { lp := some ⟨1, 18, [(.tmp 4, .int), (.tmp 5, .int), (.cell 0 0, .int)]⟩, mea := fun | [_, _, _, y, _] => y.int.toNat | _ => 0
    bnd := [.i 0 18446744073709551615, .i 0 18446744073709551615, .i 0 18446744073709551615]
    pre := fun | [a, b, x, y, g] => gcdI x.int y.int = gcdI a.int b.int ∧ (y.int = 0 → g.int = x.int) | _ => False }
def cDivR (f : FuncId) : Con :=
  { f := f, args := [.c (.int .i64 0 1073741824), .c (.int .i64 0 1073741824)], res := [.one ⟨.int .i64 0 1073741824, none⟩], pre := fun | [a, b] => True | _ => False
    post := fun | [a, b], [g] => g.int = gcdI a.int b.int | _, _ => False }
def lDivR : Con :=
  { lp := some ⟨1, 14, [(.tmp 0, .int), (.tmp 1, .int)]⟩, mea := fun | [_, _, _, y] => y.int.toNat | _ => 0
    bnd := [.i 0 1073741824, .i 0 1073741824]
    pre := fun | [a, b, x, y] => gcdI x.int y.int = gcdI a.int b.int | _ => False }
def ChkP (n d : Int) (y : List DV) : Prop := (VRat n d → y = [.n 0]) ∧ (¬ VRat n d → y = [.n 120])
def cRat (f : FuncId) : Con := { f := f, args := [.agg [i64s, i64s]], res := [eR], pre := fun _ => True, post := fun | [n, d], y => ChkP n.int d.int y | _, _ => False }
def ValP (p : Prop) (y : List DV) : Prop := (p → y = [.n 1]) ∧ (¬ p → y = [.n 0])
def cVal (f : FuncId) : Con := { f := f, args := [.agg [i64s, i64s]], res := [bR], pre := fun _ => True, post := fun | [n, d], y => ValP (VRat n.int d.int) y | _, _ => False }
/-- Scale. -/
def flo (z d : Int) : Int := z / d
def cei (z d : Int) : Int := -((-z) / d)
def SclP (a b N D x y e : Int) : Prop :=
  (¬ V a b → x = 0 ∧ y = 0 ∧ e = 130) ∧ (V a b → ¬ VRat N D → x = 0 ∧ y = 0 ∧ e = 120) ∧
    (V a b → VRat N D → OpP True (flo (min (N * a) (N * b)) D) (cei (max (N * a) (N * b)) D) x y e)
def cScl (f : FuncId) : Con := { f := f, args := [two, two], res := [rtwo, eR], pre := fun _ => True, post := fun xs y => SclP (gi xs 0) (gi xs 1) (gi xs 2) (gi xs 3) (gi y 0) (gi y 1) (gi y 2) }
/-- The reference's: both ends of a product, or that it is far beyond the limits. -/
def ScRP (n N D x y k : Int) : Prop := (k = 1 → x = flo (N * n) D ∧ y = cei (N * n) D) ∧ (k = 0 → N * n < -1649267441664 * D ∨ 1649267441664 * D < N * n)
def cScdR (f : FuncId) : Con :=
  { f := f, args := [.c mS, .agg [rS, dS]], res := [.one ⟨.int .i64 (-3298534883328) 3298534883328, none⟩, .one ⟨.int .i64 (-3298534883328) 3298534883328, none⟩, bR], pre := fun _ => True
    post := fun xs y => ScRP (gi xs 0) (gi xs 1) (gi xs 2) (gi y 0) (gi y 1) (gi y 2) }
end Go.Proofs.Ytgaaommfemgnnaa
