/- DERIVED. What functions of group keep. -/
import Derived.Test.YtbkjjehfidnagaaDoorDtb
import Derived.Test.YtbkjjehfidnagaaDoorDjac
namespace Go.Proofs.YtbkjjehfidnagaaDoor
open Go.Dx
set_option linter.unusedVariables false
abbrev i64s : Sh := .int .i64 (-9223372036854775808) 9223372036854775807
abbrev u64s : Sh := .int .u64 0 18446744073709551615
abbrev eltS : Sh := .int .i64 0 2147483579
abbrev expS : Sh := .int .i64 0 1073741789
abbrev i64V : VD := .i (-9223372036854775808) 9223372036854775807
abbrev eltV : VD := .i 0 2147483579
abbrev iR : RC := ⟨i64s, none⟩
abbrev bR : RC := ⟨.bool, none⟩
abbrev pR : RC := ⟨eltS, none⟩
abbrev eR : RC := ⟨.int .i64 0 100, none⟩
abbrev aI : ASh := .c i64s
def gi (l : List DV) (k : Nat) : Int := (l.getD k (.n 0)).int
def gd (l : List DV) (k : Nat) : DV := l.getD k (.n 0)
noncomputable def yn (p : Prop) : List DV := @ite _ p (Classical.propDecidable p) [.n 1] [.n 0]
def b2 (f : FuncId) (a : List ASh) (r : List RSh) (q : List DV → List DV) : Con := { f := f, args := a, res := r, pre := fun _ => True, post := fun xs y => y = q xs }
noncomputable instance decV (x : Int) : Decidable (V x) := Classical.propDecidable _
/-- a ^ n modulo the prime. -/
def pwF (a n : Int) : Int := (a.toNat ^ n.toNat % PP : Nat)
def prodF (a b : Int) : Int := a * b % 2147483579
def expF (n : Int) : Int := n % 1073741789
noncomputable def mulQ (a b : Int) : List DV := if V a ∧ V b then [.n (prodF a b), .n 0] else [.n 0, .n 100]
noncomputable def powQ (a n : Int) : List DV := if V a then [.n (pwF a (expF n)), .n 0] else [.n 0, .n 100]
noncomputable def elV (n : Int) : Int := if V n then n else 2147483579 - n
noncomputable def elQ (n : Int) : List DV := if 1 ≤ n ∧ n ≤ 1073741789 then [.n (elV n), .n 0] else [.n 0, .n 1]
noncomputable def numQ (x : Int) : List DV := if V x then [.n (min x (2147483579 - x)), .n 0] else [.n 0, .n 100]
def Twos (x t : Int) : Prop := 0 ≤ t ∧ ∃ a : Nat, a % 2 = 1 ∧ x.toNat = 2 ^ t.toNat * a
def cTz (f : FuncId) : Con := { f := f, args := [.c u64s], res := [.one ⟨.int .i64 0 64, none⟩], pre := fun xs => 1 ≤ gi xs 0, post := fun xs y => Twos (gi xs 0) (gi y 0) }
def cJac (f : FuncId) : Con := { f := f, args := [.c eltS, .c eltS], res := [.one ⟨.int .i64 (-1) 1, none⟩], pre := fun xs => 1 ≤ gi xs 0 ∧ gi xs 0 < 2147483579 ∧ gi xs 1 = 2147483579, post := fun xs y => y = [.n (js (gi xs 0).toNat PP)] }
noncomputable def cVal (f : FuncId) : Con := b2 f [aI] [.one bR] fun xs => yn (V (gi xs 0))
def cPw (f : FuncId) : Con := { f := f, args := [.c eltS, .c expS], res := [.one pR], pre := fun _ => True, post := fun xs y => y = [.n (pwF (gi xs 0) (gi xs 1))] }
noncomputable def cMul (f : FuncId) : Con := b2 f [aI, aI] [.one pR, .one eR] fun xs => mulQ (gi xs 0) (gi xs 1)
noncomputable def cPow (f : FuncId) : Con := b2 f [aI, aI] [.one pR, .one eR] fun xs => powQ (gi xs 0) (gi xs 1)
noncomputable def cEl (f : FuncId) : Con := b2 f [aI] [.one pR, .one eR] fun xs => elQ (gi xs 0)
noncomputable def cNum (f : FuncId) : Con := b2 f [aI] [.one pR, .one eR] fun xs => numQ (gi xs 0)
/-- The laws' own: products and powers of numbers, 0 for an error. -/
noncomputable def mulV (a b : Int) : Int := if V a ∧ V b then prodF a b else 0
noncomputable def powV (a n : Int) : Int := if V a then pwF a (expF n) else 0
abbrev ints : Sh := .sl 9223372036854775807 [i64s]
noncomputable def cMulL (f : FuncId) : Con := { f := f, args := [.c ints], res := [.one pR], pre := fun xs => (gd xs 0).els.length = 2, post := fun xs y => y = [.n (mulV ((gd xs 0).at 0 0) ((gd xs 0).at 1 0))] }
noncomputable def cPowL (f : FuncId) : Con := b2 f [aI, aI] [.one pR] fun xs => [.n (powV (gi xs 0) (gi xs 1))]
noncomputable def cElL (f : FuncId) : Con := b2 f [aI] [.one pR] fun xs => [.n (elV (expF (gi xs 0) + 1))]
/-! Loops. -/
def JacI (x a n s : Int) : Prop := n % 2 = 1 ∧ Nat.Coprime a.toNat n.toNat ∧ (s = 1 ∨ s = -1) ∧ s * js a.toNat n.toNat = js x.toNat PP
def lJac : Con :=
  { lp := some ⟨2, 48, [(.tmp 0, .int), (.tmp 1, .int), (.tmp 5, .int)]⟩, mea := fun r => (gi r 3).toNat, bnd := [eltV, .i 1 2147483579, .i (-1) 1]
    pre := fun r => JacI (gi r 0) (gi r 2) (gi r 3) (gi r 4) }
def lPw : Con :=
  { lp := some ⟨2, 22, [(.tmp 0, .int), (.tmp 1, .int), (.tmp 5, .int)]⟩, mea := fun r => (gi r 3).toNat, bnd := [eltV, .i 0 1073741789, eltV]
    pre := fun r => gi r 4 < 2147483579 ∧ prodF (gi r 4) (pwF (gi r 2) (gi r 3)) = pwF (gi r 0) (gi r 1) }
def PowI (a e k q c m : Int) : Prop := c < 2147483579 ∧ m < 2 ^ (30 - k).toNat ∧ prodF c (pwF q m) = pwF a e
def lPow : Con :=
  { lp := some ⟨2, 16, [(.tmp 3, .int), (.tmp 6, .int), (.cell 0 0, .int), (.cell 1 0, .int)]⟩, mea := fun r => (30 - gi r 4).toNat, bnd := [eltV, .i 0 30, eltV, .i 0 1073741789]
    pre := fun r => PowI (gi r 0) (expF (gi r 1)) (gi r 4) (gi r 3) (gi r 5) (gi r 6) }
def MulI (x y i c : Int) : Prop := (i = 0 ∧ c = 1) ∨ (i = 1 ∧ c = x ∧ V x) ∨ (i = 2 ∧ V x ∧ V y ∧ c = prodF x y)
def lMul : Con :=
  { lp := some ⟨3, 25, [(.tmp 3, .int), (.tmp 10, .int)]⟩, mea := fun r => (2 - gi r 2).toNat, bnd := [eltV, .i 0 9223372036854775807]
    pre := fun r => MulI ((gd r 0).at 0 0) ((gd r 0).at 1 0) (gi r 2) (gi r 1) }
end Go.Proofs.YtbkjjehfidnagaaDoor
