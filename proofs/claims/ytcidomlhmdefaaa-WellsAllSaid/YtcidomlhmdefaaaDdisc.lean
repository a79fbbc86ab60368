/- DERIVED. The wells of a district: contracts of Check, on both sides, and what the laws walk. -/
import Derived.Test.YtcidomlhmdefaaaDdisb
import Derived.Test.YtcidomlhmdefaaaDconb
namespace Go.Proofs.Ytcidomlhmdefaaa
open Go.Dx
set_option linter.unusedVariables false
def wAt (W : DV) (i : Int) : WO := ⟨W.at i 0, W.at i 1, W.at i 2, W.cell i 3⟩
def ShoP (W : DV) (n : Int) : Prop := AllTo n fun i => (W.cell i 3).len ≤ 64
def WlsP (W : DV) (nF nR n : Int) : Prop := AllTo n fun i => isW (wAt W i) nF nR
noncomputable def cI (p : Prop) (a b : Int) : Int := @ite _ p (Classical.propDecidable p) a b
noncomputable def welF (d : List DV) : Int :=
  cI (BigP d) 2 (cI (VldP d) (cI (64 < (gd d 9).len ∨ ¬ ShoP (gd d 9) (gd d 9).len) 2 (cI (WlsP (gd d 9) (gd d 5).len (gd d 4).len (gd d 9).len) 0 420)) 191)
def cWel (f : FuncId) : Con := { f := f, args := [.agg distS], res := [eRR], pre := fun _ => True, post := fun xs y => y = [.n (welF xs)] }
/-- The program's loop over wells, twice: are they short? are they wells? -/
def lAllW : Con :=
  { lp := some ⟨2, 18, [(.tmp 9, .int)]⟩, mea := fun xs => ((gd xs 9).len - gi xs (xs.length - 1)).toNat, bnd := [big]
    pre := fun xs => gi xs (xs.length - 1) ≤ (gd xs 9).len ∧ (xs.length = 12 → ShoP (gd xs 9) (gi xs (xs.length - 1))) ∧ (xs.length ≠ 12 → WlsP (gd xs 9) (gd xs 5).len (gd xs 4).len (gi xs (xs.length - 1))) }
def lW1 : Con := lupC 7 72 4 9 11 fun xs n => ShoP (gd xs 9) n
def lW2 : Con := lupC 12 72 5 9 84 fun xs n => WlsP (gd xs 9) (gd xs 5).len (gd xs 4).len n
def cFewW (f : FuncId) : Con := { f := f, args := [.agg distS], res := [bRR], pre := fun _ => True, post := fun _ _ => True }
def lFewW : Con := { lp := some ⟨5, 30, [(.tmp 4, .int)]⟩, mea := fun xs => ((gd xs 9).len - gi xs 10).toNat, bnd := [big], pre := fun xs => gi xs 10 ≤ (gd xs 9).len }
abbrev u32s : List Sh := [.int .u32 0 4294967295]
/-- The litres that are pumped: so many, all fine. -/
def lLit9 : Con :=
  { lp := some ⟨9, 85, [(.tmp 5, .sl true 3), (.tmp 32, .int)]⟩, mea := fun xs => ((gd xs 10).len - gi xs 17).toNat, bnd := [.d ints, big]
    pre := fun xs => gi xs 17 ≤ (gd xs 10).len ∧ (gd xs 16).len = gi xs 17 ∧ litP (gd xs 16) (gi xs 17).toNat }
def lWls9 : Con := { lp := some ⟨14, 85, [(.tmp 46, .int)]⟩, mea := fun xs => ((gd xs 9).len - gi xs 103).toNat, bnd := [big], pre := fun xs => gi xs 103 ≤ (gd xs 9).len }
end Go.Proofs.Ytcidomlhmdefaaa
