/- DERIVED. What the operations of intervals have to keep. -/
import Derived.Test.YtgaaommfemgnnaaTb
namespace Go.Proofs.Ytgaaommfemgnnaa
open Go.Sx
set_option linter.unusedVariables false
abbrev u64b : Int × Int := (0, 18446744073709551615)
abbrev mm : Int × Int := (-1099511627776, 1099511627776)
abbrev m2 : Int × Int := (-2199023255552, 2199023255552)
abbrev two : Sh := .agg [some .i64, some .i64]
abbrev rtwo : RSh := .agg [some .i64, some .i64]
abbrev i64s : RSh := .one (some .i64)
abbrev In (x : Int) : Prop := -1099511627776 ≤ x ∧ x ≤ 1099511627776
/-- Is it an interval? -/
abbrev V (a b : Int) : Prop := -1099511627776 ≤ a ∧ a ≤ b ∧ b ≤ 1099511627776
def I4 (a b c d : Int) : Prop := I64 a ∧ I64 b ∧ I64 c ∧ I64 d
abbrev min2 (a b : Int) : Int := min a b
abbrev max2 (a b : Int) : Int := max a b
abbrev min4 (a b c d : Int) : Int := min (min (min a b) c) d
abbrev max4 (a b c d : Int) : Int := max (max (max a b) c) d
/-- The interval from lo to hi, if A. -/
def OpP (A : Prop) (lo hi x y e : Int) : Prop := (A → V lo hi → x = lo ∧ y = hi ∧ e = 0) ∧ (A → ¬ V lo hi → x = 0 ∧ y = 0 ∧ e = 2) ∧ (¬ A → x = 0 ∧ y = 0 ∧ e = 130)
def cOp (f : FuncId) (lo hi : Int → Int → Int → Int → Int) : Con :=
  { f := f, args := [two, two], res := [rtwo, i64s], bnd := [mm, mm, (0, 130)]
    pre := fun | [a, b, c, d] => I4 a b c d | _ => False
    post := fun | [a, b, c, d], [x, y, e] => OpP (V a b ∧ V c d) (lo a b c d) (hi a b c d) x y e | _, _ => False }
def cAdd (f : FuncId) : Con := cOp f (fun a b c d => a + c) (fun a b c d => b + d)
def cSub (f : FuncId) : Con := cOp f (fun a b c d => a - d) (fun a b c d => b - c)
def cMul (f : FuncId) : Con := cOp f (fun a b c d => min4 (a * c) (a * d) (b * c) (b * d)) (fun a b c d => max4 (a * c) (a * d) (b * c) (b * d))
def cHull (f : FuncId) : Con := cOp f (fun a b c d => min2 a c) (fun a b c d => max2 b d)
def cSqr (f : FuncId) : Con :=
  { f := f, args := [two], res := [rtwo, i64s], bnd := [mm, mm, (0, 130)]
    pre := fun | [a, b] => I64 a ∧ I64 b | _ => False
    post := fun | [a, b], [x, y, e] => OpP (V a b) (if a ≤ 0 ∧ 0 ≤ b then 0 else min2 (a * a) (b * b)) (max2 (a * a) (b * b)) x y e | _, _ => False }
def MeetP (a b c d x y k e : Int) : Prop :=
  (V a b ∧ V c d → max a c ≤ min b d → x = max a c ∧ y = min b d ∧ k = 1 ∧ e = 0) ∧ (V a b ∧ V c d → min b d < max a c → x = 0 ∧ y = 0 ∧ k = 0 ∧ e = 0) ∧ (¬ (V a b ∧ V c d) → x = 0 ∧ y = 0 ∧ k = 0 ∧ e = 130)
def cMeet (f : FuncId) : Con :=
  { f := f, args := [two, two], res := [rtwo, .one none, i64s], bnd := [mm, mm, (0, 1), (0, 130)]
    pre := fun | [a, b, c, d] => I4 a b c d | _ => False
    post := fun | [a, b, c, d], [x, y, k, e] => MeetP a b c d x y k e | _, _ => False }
def InP (a b c d k e : Int) : Prop :=
  (V a b ∧ V c d → (k = 1 ↔ c ≤ a ∧ b ≤ d) ∧ e = 0) ∧ (¬ (V a b ∧ V c d) → k = 0 ∧ e = 130)
def cIn (f : FuncId) : Con :=
  { f := f, args := [two, two], res := [.one none, i64s], bnd := [(0, 1), (0, 130)]
    pre := fun | [a, b, c, d] => I4 a b c d | _ => False
    post := fun | [a, b, c, d], [k, e] => InP a b c d k e | _, _ => False }
/-- r is the root of n, rounded down. -/
def IsRt (n r : Int) : Prop := 0 ≤ r ∧ r * r ≤ n ∧ n < (r + 1) * (r + 1)
/-- r is the root of n, rounded up. -/
def IsUp (n r : Int) : Prop := 0 ≤ r ∧ n ≤ r * r ∧ (r = 0 ∨ (r - 1) * (r - 1) < n)
def RootP (a b x y e : Int) : Prop := (V a b → 0 ≤ a → IsRt a x ∧ IsUp b y ∧ e = 0) ∧ (V a b → a < 0 → x = 0 ∧ y = 0 ∧ e = 1) ∧ (¬ V a b → x = 0 ∧ y = 0 ∧ e = 130)
def cRoot (f : FuncId) : Con :=
  { f := f, args := [two], res := [rtwo, i64s], bnd := [(0, 1048576), (0, 1048576), (0, 130)]
    pre := fun | [a, b] => I64 a ∧ I64 b | _ => False
    post := fun | [a, b], [x, y, e] => RootP a b x y e | _, _ => False }
def cRt (f : FuncId) : Con :=
  { f := f, args := [.int .i64], res := [i64s], bnd := [(0, 1048576)]
    pre := fun | [n] => 0 ≤ n ∧ n ≤ 1099511627776 | _ => False
    post := fun | [n], [r] => IsRt n r | _, _ => False }
def RtI (n r b : Int) : Prop := r * r ≤ n ∧ ((b = 0 ∧ n < (r + 1) * (r + 1)) ∨ ∃ j : Nat, b = 2 ^ j ∧ n < (r + 2 * b) * (r + 2 * b))
def lRt : Con :=
  { lp := some { id := 3, nt := 22, locs := [.tmp 3, .tmp 4] }, f := 0, args := [], res := [], bnd := [(0, 1048576), (0, 1048576)]
    pre := fun | [n, r, b] => RtI n r b | _ => False
    mea := fun | [_, _, b] => b.toNat | _ => 0
    post := fun _ _ => True }
def cMul64 : Con :=
  { f := 56, args := [.int .u64, .int .u64], res := [.one (some .u64), .one (some .u64)], bnd := [u64b, u64b]
    pre := fun | [x, y] => (0 ≤ x ∧ x ≤ 18446744073709551615) ∧ 0 ≤ y ∧ y ≤ 18446744073709551615 | _ => False
    post := fun | [x, y], [hi, lo] => hi * 18446744073709551616 + lo = x * y | _, _ => False }
def clip (z : Int) : Int := if 2199023255552 < z then 2199023255552 else if z < -2199023255552 then -2199023255552 else z
def cProd : Con :=
  { f := 42, args := [.int .i64, .int .i64], res := [i64s], bnd := [m2]
    pre := fun | [x, y] => In x ∧ In y | _ => False
    post := fun | [x, y], [p] => p = clip (x * y) | _, _ => False }
def cFits : Con :=
  { f := 34, args := [.int .i64, .int .i64], res := [.one none], bnd := [(0, 1)]
    pre := fun | [x, y] => In x ∧ In y | _ => False
    post := fun | [x, y], [k] => (k = 1 ↔ In (x * y)) | _, _ => False }
end Go.Proofs.Ytgaaommfemgnnaa
