/- DERIVED. What the operations of ratios have to keep. -/
import Derived.Test.YtkcomadagclikaaCt
namespace Go.Proofs.Ytkcomadagclikaa
open Go.Sx
set_option linter.unusedVariables false
/-- The ratio n / d, if V. -/
def Op2 (V : Prop) (n d N D e : Int) : Prop := (V → N = mkN n d ∧ D = mkD n d ∧ e = mkE n d) ∧ (¬ V → N = 0 ∧ D = 0 ∧ e = 120)
abbrev two : Sh := .agg [some .i64, some .i64]
abbrev rtwo : RSh := .agg [some .i64, some .i64]
abbrev i64s : RSh := .one (some .i64)
def I4 (a b c d : Int) : Prop := I64 a ∧ I64 b ∧ I64 c ∧ I64 d
def cOp (f : FuncId) (V : Int → Int → Int → Int → Prop) (n d : Int → Int → Int → Int → Int) : Con :=
  { f := f, args := [two, two], res := [rtwo, i64s], bnd := [mr, mp, (0, 120)]
    pre := fun | [a, b, c, d] => I4 a b c d | _ => False
    post := fun | [a, b, c, e], [N, D, x] => Op2 (V a b c e) (n a b c e) (d a b c e) N D x | _, _ => False }
def V2 (a b c d : Int) : Prop := Val a b ∧ Val c d
def V3 (a b c d : Int) : Prop := Val a b ∧ Val c d ∧ c ≠ 0
def cAdd (f : FuncId) : Con := cOp f V2 (fun a b c d => a * d + c * b) (fun a b c d => b * d)
def cSub (f : FuncId) : Con := cOp f V2 (fun a b c d => a * d - c * b) (fun a b c d => b * d)
def cMul (f : FuncId) : Con := cOp f V2 (fun a b c d => a * c) (fun a b c d => b * d)
def cQuo (f : FuncId) : Con := cOp f V3 (fun a b c d => a * d) (fun a b c d => b * c)
def sgn (x y : Int) : Int := if x < y then -1 else if y < x then 1 else 0
def cCmp (f : FuncId) : Con :=
  { f := f, args := [two, two], res := [i64s, i64s], bnd := [(-1, 1), (0, 120)]
    pre := fun | [a, b, c, d] => I4 a b c d | _ => False
    post := fun | [a, b, c, d], [x, e] => (V2 a b c d → x = sgn (a * d) (c * b) ∧ e = 0) ∧ (¬ V2 a b c d → x = 0 ∧ e = 120) | _, _ => False }
def fl (n d : Int) : Int := if n.tmod d < 0 then n.tdiv d - 1 else n.tdiv d
def TimP (a b n lo hi e : Int) : Prop := (¬ Val a b → lo = 0 ∧ hi = 0 ∧ e = 120) ∧ (Val a b → ¬ (-1073741824 ≤ n ∧ n ≤ 1073741824) → lo = 0 ∧ hi = 0 ∧ e = 1) ∧ (Val a b → -1073741824 ≤ n ∧ n ≤ 1073741824 → lo = fl (a * n) b ∧ hi = -fl (-(a * n)) b ∧ e = 0)
def cTim (f : FuncId) : Con :=
  { f := f, args := [two, .int .i64], res := [i64s, i64s, i64s], bnd := [(-2305843009213693952, 2305843009213693952), (-2305843009213693952, 2305843009213693952), (0, 120)]
    pre := fun | [a, b, n] => I64 a ∧ I64 b ∧ I64 n | _ => False
    post := fun | [a, b, n], [lo, hi, e] => TimP a b n lo hi e | _, _ => False }
abbrev fb : Int × Int := (-1152921504606846976, 1152921504606846976)
def cFl (f : FuncId) : Con :=
  { f := f, args := [.int .i64, .int .i64], res := [i64s], bnd := [fb]
    pre := fun | [n, d] => (-1152921504606846976 ≤ n ∧ n ≤ 1152921504606846976) ∧ 1 ≤ d ∧ d ≤ 1073741824 | _ => False
    post := fun | [n, d], [q] => q = fl n d | _, _ => False }
end Go.Proofs.Ytkcomadagclikaa
