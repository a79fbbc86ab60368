/- DERIVED. What laws of wells keep. -/
import Derived.Test.YtcidomlhmdefaaaDcon
namespace Go.Proofs.Ytcidomlhmdefaaa
open Go.Dx
set_option linter.unusedVariables false
def sameP (a b : DV) : Prop := a.len = b.len ∧ ∀ i : Nat, i < a.len.toNat → el a i = el b i
instance decSa (a b : DV) : Decidable (sameP a b) := by unfold sameP; infer_instance
def cSame (f : FuncId) : Con := b2 f [.c ints, .c ints] [.one bR] fun xs => [.n (if sameP (gd xs 0) (gd xs 1) then 1 else 0)]
def lSame : Con :=
  { lp := some ⟨4, 26, [(.tmp 5, .int)]⟩, mea := fun r => ((gd r 0).len - gi r 2).toNat, bnd := [big]
    pre := fun r => gi r 2 ≤ (gd r 0).len ∧ ∀ i : Nat, i < (gi r 2).toNat → el (gd r 0) i = el (gd r 1) i }
def sumsOk (L : DV) (n : Nat) : Prop := ∀ i : Nat, i < n → 0 ≤ el L i ∧ el L i ≤ 1125899906842624
instance decSo (L : DV) (n : Nat) : Decidable (sumsOk L n) := by unfold sumsOk; infer_instance
def preF (L : DV) (k : Nat) : Int := sumN (el L) (k + 1)
def SumsF (L : DV) : List DV := if sumsOk L L.len.toNat then [.sl none 0 (gRows (preF L) L.len.toNat), .n 1] else [.sl none 0 [], .n 0]
def cSums (f : FuncId) : Con := { f := f, args := [.c ints], res := [.one lR, .one bR], pre := fun xs => (gd xs 0).len ≤ 500, post := fun xs y => y = SumsF (gd xs 0) }
def lSums : Con :=
  { lp := some ⟨3, 28, [(.tmp 2, .sl true 3), (.tmp 4, .int), (.tmp 9, .int)]⟩, mea := fun r => ((gd r 0).len - gi r 4).toNat, bnd := [.d ints, .i 0 576460752303423488, big]
    pre := fun r => gi r 4 ≤ (gd r 0).len ∧ sumsOk (gd r 0) (gi r 4).toNat ∧ (gd r 2).els = gRows (preF (gd r 0)) (gi r 4).toNat ∧ gi r 3 = sumN (el (gd r 0)) (gi r 4).toNat }
end Go.Proofs.Ytcidomlhmdefaaa
