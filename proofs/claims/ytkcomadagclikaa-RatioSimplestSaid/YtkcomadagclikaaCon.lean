/- DERIVED. What the functions of the program and of the reference have to keep: what a ratio is made of two numbers. -/
import Derived.Test.YtkcomadagclikaaTb
namespace Go.Proofs.Ytkcomadagclikaa
open Go.Sx
set_option linter.unusedVariables false
abbrev u64b : Int × Int := (0, 18446744073709551615)
abbrev u64p : Int × Int := (1, 18446744073709551615)
abbrev mr : Int × Int := (-1073741824, 1073741824)
abbrev mp : Int × Int := (0, 1073741824)
abbrev np : Int × Int := (-9223372036854775808, 0)
def gcdI (a b : Int) : Int := (Nat.gcd a.natAbs b.natAbs : Nat)
/-- The ratio n / d: its terms, or why there is none. -/
def rx (n d : Int) : Nat := n.natAbs / Nat.gcd n.natAbs d.natAbs
def ry (n d : Int) : Nat := d.natAbs / Nat.gcd n.natAbs d.natAbs
def mkN (n d : Int) : Int := if (rx n d ≤ 1073741824 ∧ ry n d ≤ 1073741824) ∧ d ≠ 0 then (if n < 0 ↔ d < 0 then (rx n d : Int) else -(rx n d : Int)) else 0
def mkD (n d : Int) : Int := if (rx n d ≤ 1073741824 ∧ ry n d ≤ 1073741824) ∧ d ≠ 0 then (ry n d : Int) else 0
def mkE (n d : Int) : Int := if d = 0 then 120 else if rx n d ≤ 1073741824 ∧ ry n d ≤ 1073741824 then 0 else 2
/-- Is N / D a valid ratio? -/
def Val (N D : Int) : Prop := 1 ≤ D ∧ D ≤ 1073741824 ∧ -1073741824 ≤ N ∧ N ≤ 1073741824 ∧ gcdI N D = 1
def cDiv : Con := { f := 35, args := [.int .u64, .int .u64], res := [.one (some .u64)], bnd := [u64p]
                    pre := fun | [a, b] => 0 ≤ a ∧ a ≤ 18446744073709551615 ∧ 1 ≤ b ∧ b ≤ 18446744073709551615 | _ => False
                    post := fun | [a, b], [g] => g = gcdI a b | _, _ => False }
def lDiv : Con := { lp := some { id := 1, nt := 18, locs := [.tmp 4, .tmp 5, .cell 0 0] }, f := 0, args := [], res := [], bnd := [u64b, u64b, u64b]
                    pre := fun | [a, b, x, y, g] => gcdI x y = gcdI a b ∧ (y = 0 → g = x) | _ => False
                    mea := fun | [_, _, _, y, _] => y.toNat | _ => 0
                    post := fun _ _ => True }
def cLow : Con := { f := 45, args := [.int .i64, .int .i64], res := [.agg [some .i64, some .i64], .one (some .i64)], bnd := [mr, mp, (0, 2)]
                    pre := fun | [n, d] => I64 n ∧ I64 d ∧ d ≠ 0 | _ => False
                    post := fun | [n, d], [N, D, e] => N = mkN n d ∧ D = mkD n d ∧ e = mkE n d | _, _ => False }
def cMake : Con := { f := 11, args := [.int .i64, .int .i64], res := [.agg [some .i64, some .i64], .one (some .i64)], bnd := [mr, mp, (0, 120)]
                     pre := fun | [n, d] => I64 n ∧ I64 d | _ => False
                     post := fun | [n, d], [N, D, e] => N = mkN n d ∧ D = mkD n d ∧ e = mkE n d | _, _ => False }
def cMakeR : Con := { cMake with f := 12 }
def lMakeR : Con := { lp := some { id := 11, nt := 69, locs := [.tmp 8, .tmp 9] }, f := 0, args := [], res := [], bnd := [np, np]
                      pre := fun | [n, d, a, b] => gcdI a b = gcdI n d ∧ (a = 0 → b ≠ 0) | _ => False
                      mea := fun | [_, _, _, b] => b.natAbs | _ => 0
                      post := fun _ _ => True }
def cDivR : Con := { f := 43, args := [.int .i64, .int .i64], res := [.one (some .i64)], bnd := [mp]
                     pre := fun | [a, b] => 0 ≤ a ∧ a ≤ 1073741824 ∧ 0 ≤ b ∧ b ≤ 1073741824 | _ => False
                     post := fun | [a, b], [g] => g = gcdI a b | _, _ => False }
def lDivR : Con := { lp := some { id := 1, nt := 14, locs := [.tmp 0, .tmp 1] }, f := 0, args := [], res := [], bnd := [mp, mp]
                     pre := fun | [a, b, x, y] => gcdI x y = gcdI a b | _ => False
                     mea := fun | [_, _, _, y] => y.toNat | _ => 0
                     post := fun _ _ => True }
open Classical in
noncomputable def cChk : Con := { f := 13, args := [.agg [some .i64, some .i64]], res := [.one (some .i64)], bnd := [(0, 120)]
                                  pre := fun | [n, d] => I64 n ∧ I64 d | _ => False
                                  post := fun | [n, d], [e] => e = if Val n d then 0 else 120 | _, _ => False }
open Classical in
noncomputable def cVal : Con := { f := 32, args := [.agg [some .i64, some .i64]], res := [.one none], bnd := [(0, 1)]
                                  pre := fun | [n, d] => I64 n ∧ I64 d | _ => False
                                  post := fun | [n, d], [e] => e = if Val n d then 1 else 0 | _, _ => False }
end Go.Proofs.Ytkcomadagclikaa
