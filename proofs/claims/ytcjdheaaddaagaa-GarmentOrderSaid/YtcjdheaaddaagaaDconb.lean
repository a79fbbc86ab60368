/- DERIVED. The loops of the laws. -/
import Derived.Test.YtcjdheaaddaagaaDsub
namespace Go.Proofs.Ytcjdheaaddaagaa
open Go.Dx
abbrev aU16 : ASh := .c (.int .u16 0 65535)
abbrev aI16 : ASh := .c (.int .i16 (-32768) 32767)
abbrev aU32 : ASh := .c (.int .u32 0 4294967295)
abbrev aU64 : ASh := .c (.int .u64 0 18446744073709551615)
def whoS (w : Int) (j : Nat) : Bool := decide (Int.tmod (Int.tdiv w (2 ^ min j IntKind.u64.bits)) 2 = 1)
def lPub : Con := { lp := some ⟨12, 97, [(.tmp 13, .int), (.tmp 56, .int)]⟩, mea := fun r => ((gd r 6).len - gi r 14).toNat, bnd := [full, big], pre := fun r => gi r 14 ≤ (gd r 6).len ∧ gi r 13 = sumN (el (gd r 6)) (gi r 14).toNat }
def lCons : Con := { lp := some ⟨12, 89, [(.tmp 13, .sl true 3), (.tmp 14, .sl true 3), (.tmp 15, .int), (.tmp 48, .int)]⟩, mea := fun r => ((gd r 0).len - gi r 14).toNat, bnd := [.d (.sl 664 [i64s]), .d (.sl 664 [i64s]), full, .i 0 664], pre := fun r => gi r 14 ≤ (gd r 0).len ∧ (gd r 11).els = gSel (el (gd r 0)) (selI (whoS (gi r 3)) (gi r 14).toNat) ∧ (gd r 12).els = gSel (el (gd r 7)) (selI (whoS (gi r 3)) (gi r 14).toNat) ∧ gi r 13 = sumN (fun j => if whoS (gi r 3) j = true then el (gd r 7) j else 0) (gi r 14).toNat }
def lO0 : Con := { lp := some ⟨8, 134, [(.tmp 11, .int), (.tmp 35, .int)]⟩, mea := fun r => ((gd r 0).len - gi r 8).toNat, bnd := [full, big], pre := fun r => gi r 8 ≤ (gd r 0).len ∧ gi r 7 = sumN (el (gd r 0)) (gi r 8).toNat }
def lO1 : Con := { lp := some ⟨17, 134, [(.tmp 82, .int)]⟩, mea := fun r => ((gd r 0).len - gi r 147).toNat, bnd := [big], pre := fun r => gi r 147 ≤ (gd r 0).len }
def lO2 : Con := { lp := some ⟨22, 134, [(.tmp 98, .int)]⟩, mea := fun r => ((gd r 0).len - gi r 282).toNat, bnd := [big], pre := fun r => gi r 282 ≤ (gd r 0).len }
def lD0 : Con := { lp := some ⟨8, 95, [(.tmp 9, .int), (.tmp 31, .int)]⟩, mea := fun r => ((gd r 0).len - gi r 7).toNat, bnd := [full, big], pre := fun r => gi r 7 ≤ (gd r 0).len ∧ gi r 6 = sumN (el (gd r 0)) (gi r 7).toNat ∧ ∀ j : Nat, j < (gi r 7).toNat → el (gd r 0) j % 2 = 0 }
def lD1 : Con := { lp := some ⟨19, 95, [(.tmp 78, .int)]⟩, mea := fun r => ((gd r 0).len - gi r 107).toNat, bnd := [big], pre := fun r => gi r 107 ≤ (gd r 0).len }
end Go.Proofs.Ytcjdheaaddaagaa
