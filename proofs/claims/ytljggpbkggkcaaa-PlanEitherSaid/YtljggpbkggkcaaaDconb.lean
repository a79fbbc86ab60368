/- DERIVED. What steps of plans keep. -/
import Derived.Test.YtljggpbkggkcaaaDcon
namespace Go.Proofs.Ytljggpbkggkcaaa
open Go.Dx
set_option linter.unusedVariables false
/-- The robust stores of a right course. -/
def cRobOf (f : FuncId) : Con := { f := f, args := [.agg course], res := [.agg [iR, iR, iR, ⟨pers, none⟩, ⟨rngs, some 48⟩]], pre := fun xs => (gd xs 3).len ≤ 64 ∧ rightC (co xs), post := fun xs y => y = [gd xs 0, gd xs 1, gd xs 2, gd xs 3, .sl none 0 (rowsF (co xs))] }
def askF (c : CO) (t s : Int) : Int := if chkF c ≠ 0 then chkF c else if (t < 0 ∨ c.P.len ≤ t) ∨ ¬ (0 ≤ s ∧ s ≤ c.cap) then 1 else 0
def inR (x : Int × Int) (s : Int) : Prop := x.1 ≤ s ∧ s ≤ x.2
instance decI (x : Int × Int) (s : Int) : Decidable (inR x s) := by unfold inR; infer_instance
def topF (c : CO) (t : Int) : Int := if (rob c (t + 1)).2 = c.cap then (rob c (t + 1)).2 + c.P.at t 4 else (rob c (t + 1)).2
def allowed (c : CO) (t s o : Int) : Prop := (c.P.at t 2 ≤ o ∧ o ≤ c.P.at t 3) ∧ o ≤ s
instance decA (c : CO) (t s o : Int) : Decidable (allowed c t s o) := by unfold allowed; infer_instance
def afterF (c : CO) (s o i : Int) : Int := min (s - o + i) c.cap
def RelF (c : CO) (t s : Int) : List DV := if askF c t s ≠ 0 then [.n 0, .n (askF c t s)] else if ¬ inR (rob c t) s then [.n 0, .n 390] else [.n (max (c.P.at t 2) (s - (topF c t - c.P.at t 1))), .n 0]
def NextF (c : CO) (t s o i : Int) : List DV := if askF c t s ≠ 0 then [.n 0, .n 0, .n 0, .n (askF c t s)] else if ¬ (okN o ∧ okN i) then [.n 0, .n 0, .n 0, .n 1] else if ¬ allowed c t s o ∨ c.P.at t 4 < s - o + i - afterF c s o i then [.n 0, .n 0, .n 0, .n 0] else [.n (afterF c s o i), .n (s - o + i - afterF c s o i), .n 1, .n 0]
def SpoF (c : CO) (t s o : Int) : List DV := if askF c t s ≠ 0 then [.n 0, .n (askF c t s)] else if ¬ okN o then [.n 0, .n 1] else if inR (rob c t) s ∨ ¬ allowed c t s o then [.n 0, .n 390] else if c.P.at t 4 < s - o + c.P.at t 0 - afterF c s o (c.P.at t 0) ∨ ¬ inR (rob c (t + 1)) (afterF c s o (c.P.at t 0)) then [.n (c.P.at t 0), .n 0] else [.n (c.P.at t 1), .n 0]
abbrev aI : ASh := .c i64s
def cRel (f : FuncId) : Con := b2 f [.agg course, aI, aI] [.one iR, .one iR] fun xs => RelF (co xs) (gi xs 4) (gi xs 5)
def cNext (f : FuncId) : Con := b2 f [.agg course, aI, aI, aI, aI] [.one iR, .one iR, .one bR, .one iR] fun xs => NextF (co xs) (gi xs 4) (gi xs 5) (gi xs 6) (gi xs 7)
def cSpo (f : FuncId) : Con := b2 f [.agg course, aI, aI, aI] [.one iR, .one iR] fun xs => SpoF (co xs) (gi xs 4) (gi xs 5) (gi xs 6)
end Go.Proofs.Ytljggpbkggkcaaa
