/- DERIVED. What putting sets of days together keeps. -/
import Derived.Test.YtdffnmhpkapbkaaDoorEspn
namespace Go.Proofs.YtdffnmhpkapbkaaDoor
open Go.Dx
set_option linter.unusedVariables false
abbrev ints : Sh := .sl 9223372036854775807 [i64s]
abbrev dayV : VD := .i (-1) 73049
/-- A list of numbers. -/
def ivl (d : DV) : List Int := d.els.map fun e => (e.getD 0 (.n 0)).cint
def Rgt (d : DV) : Prop := d.len ≤ 256 ∧ AllS d d.len
noncomputable def yn (p : Prop) : List DV := @ite _ p (Classical.propDecidable p) [.n 1] [.n 0]
/-- The operations. -/
def chO (o : Int) (x y : Bool) : Bool := if o = 1 then x || y else if o = 2 then x && y else x && !y
def cEdg (f : FuncId) : Con := { f := f, args := [.c spans], res := [.one ⟨ints, none⟩], pre := fun xs => Rgt (dv xs 0), post := fun xs y => ivl (dv y 0) = edges (spn (dv xs 0)) }
def lEdg : Con :=
  { lp := some ⟨3, 22, [(.tmp 3, .sl true 3), (.tmp 8, .int)]⟩, mea := fun xs => ((dv xs 0).len - ev xs 3).toNat, bnd := [.d ints, big]
    pre := fun xs => ev xs 3 ≤ (dv xs 0).len ∧ ivl (dv xs 2) = edges ((spn (dv xs 0)).take (ev xs 3).toNat) }
/-- What Union, Meet and Without return. -/
def CombP (o : Int) (a b : DV) (y : List DV) : Prop :=
  ErrP a [.sl none 0 []] (ErrP b [.sl none 0 []] (∃ L e, y = [.sl none 0 L, .n e] ∧ ∃ l, (Can 0 l ∧ ∀ n, FF (chO o) (spn a) (spn b) n ↔ Mem n l) ∧ ((256 < l.length ∧ e = 2 ∧ L = []) ∨ (l.length ≤ 256 ∧ e = 0 ∧ spn (.sl none 0 L) = l))) y) y
def cUni (f : FuncId) (o : Int) : Con := { f := f, args := [.c spans, .c spans], res := [.one ⟨spans, some 45⟩, eR], pre := fun xs => True, post := fun xs y => CombP o (dv xs 0) (dv xs 1) y }
/-- Between two boundaries. -/
def CInv (o : Int) (a b x y : DV) (A B : Int) (l : DV) (q : Int) : Prop :=
  ∃ D, CI (chO o) (FF (chO o) (spn a) (spn b)) (ivl x) (ivl y) (decide (A = 1)) (decide (B = 1)) (decide (q = 1)) (spn l) D ∧ (Ev (decide (A = 1)) (ivl x) ∧ Ev (decide (B = 1)) (ivl y)) ∧
    l.len + x.len + y.len ≤ 1100 ∧ (∀ e, e ∈ ivl x → 0 ≤ e ∧ e ≤ 73049) ∧ ∀ e, e ∈ ivl y → 0 ≤ e ∧ e ≤ 73049
def lCom (o : Int) : Con :=
  { lp := some ⟨2, 62, [(.tmp 4, .sl false 0), (.tmp 5, .sl false 0), (.rc 1006 0, .int), (.rc 1006 1, .int), (.rc 1006 2, .int), (.rc 6 0, .sl true 45), (.rc 8 0, .int)]⟩, mea := fun xs => ((dv xs 7).len + (dv xs 8).len).toNat
    bnd := [.d ints, .d ints, any, .i 0 1, .i 0 1, .d spans, .i 0 1], pre := fun xs => CInv o (dv xs 0) (dv xs 1) (dv xs 7) (dv xs 8) (ev xs 10) (ev xs 11) (dv xs 12) (ev xs 13) }
def cPut (f : FuncId) : Con := { f := f, args := [.c ints, .c i64s], res := [.one ⟨ints, none⟩], pre := fun xs => (dv xs 0).len ≤ 4096, post := fun xs y => ivl (dv y 0) = ins (ivl (dv xs 0)) (ev xs 1) }
def lPut : Con :=
  { lp := some ⟨3, 51, [(.tmp 5, .sl true 3), (.tmp 6, .int)]⟩, mea := fun xs => ((dv xs 0).len - ev xs 4).toNat, bnd := [.d ints, big]
    pre := fun xs => ev xs 4 ≤ (dv xs 0).len ∧ ivl (dv xs 3) = (ivl (dv xs 0)).take (ev xs 4).toNat ∧ ∀ i : Nat, i < (ev xs 4).toNat → (ivl (dv xs 0)).getD i 0 < ev xs 1 }
def cEnds (f : FuncId) : Con := { f := f, args := [.c ints, .c spans], res := [.one ⟨ints, none⟩], pre := fun xs => Rgt (dv xs 1) ∧ (dv xs 0).len ≤ 600, post := fun xs y => ivl (dv y 0) = endsL (ivl (dv xs 0)) (spn (dv xs 1)) }
def lEnds : Con :=
  { lp := some ⟨2, 27, [(.tmp 0, .sl false 3), (.tmp 5, .int)]⟩, mea := fun xs => ((dv xs 1).len - ev xs 3).toNat, bnd := [.d ints, big]
    pre := fun xs => ev xs 3 ≤ (dv xs 1).len ∧ (dv xs 2).len ≤ 600 + 2 * ev xs 3 ∧ endsL (ivl (dv xs 2)) ((spn (dv xs 1)).drop (ev xs 3).toNat) = endsL (ivl (dv xs 0)) (spn (dv xs 1)) }
def cHas (f : FuncId) : Con := { f := f, args := [.c spans, .c i64s], res := [.one ⟨.bool, none⟩], pre := fun xs => True, post := fun xs y => y = yn (Mem (ev xs 1) (spn (dv xs 0))) }
def lHas (id nt a : Nat) : Con :=
  { lp := some ⟨id, nt, [(.tmp a, .int)]⟩, mea := fun xs => ((dv xs 0).len - ev xs 2).toNat, bnd := [big]
    pre := fun xs => ev xs 2 ≤ (dv xs 0).len ∧ ¬ Mem (ev xs 1) ((spn (dv xs 0)).take (ev xs 2).toNat) }
def cIn (f : FuncId) : Con := { f := f, args := [.c spans, .c spans, .c (.int .i64 1 3), .c i64s], res := [.one ⟨.bool, none⟩], pre := fun xs => True, post := fun xs y => y = yn (@ite _ (ev xs 2 = 1) _ (Mem (ev xs 3) (spn (dv xs 0)) ∨ Mem (ev xs 3) (spn (dv xs 1))) (@ite _ (ev xs 2 = 2) _ (Mem (ev xs 3) (spn (dv xs 0)) ∧ Mem (ev xs 3) (spn (dv xs 1))) (Mem (ev xs 3) (spn (dv xs 0)) ∧ ¬ Mem (ev xs 3) (spn (dv xs 1))))) }
def cSam (f : FuncId) : Con := { f := f, args := [.c spans, .c spans], res := [.one ⟨.bool, none⟩], pre := fun xs => True, post := fun xs y => y = yn (spn (dv xs 0) = spn (dv xs 1)) }
def lSam : Con :=
  { lp := some ⟨4, 26, [(.tmp 5, .int)]⟩, mea := fun xs => ((dv xs 0).len - ev xs 2).toNat, bnd := [big]
    pre := fun xs => ev xs 2 ≤ (dv xs 0).len ∧ (spn (dv xs 0)).take (ev xs 2).toNat = (spn (dv xs 1)).take (ev xs 2).toNat }
/-- Up to edge i of the reference's. -/
def RInv (o : Int) (a b u l : DV) (i : Int) : Prop :=
  (i < u.len ∧ RI (FF (chO o) (spn a) (spn b)) (spn l) ((ivl u).getD i.toNat 0) ∧ l.len ≤ i) ∨ (u.len = 0 ∧ i = 0 ∧ l.els = [])
def lOfR2 (o : Int) : Con :=
  { lp := some ⟨10, 90, [(.tmp 11, .sl true 45), (.tmp 12, .int)]⟩, mea := fun xs => ((dv xs 6).len - ev xs 9).toNat, bnd := [.d spans, big], pre := fun xs => RInv o (dv xs 0) (dv xs 1) (dv xs 6) (dv xs 8) (ev xs 9) }
end Go.Proofs.YtdffnmhpkapbkaaDoor
