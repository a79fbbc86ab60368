/- DERIVED. IntervalScaled, for any arguments. -/
import Derived.Test.YtgaaommfemgnnaaElawq
namespace Go.Proofs.Ytgaaommfemgnnaa
open Go.Dx Go.RowKit
set_option linter.unusedVariables false
theorem glb0 (w : World) : Glb tb w := fun g l h => by
  have : tb.glob g = none := rfl
  rw [this] at h; cases h
def PairA (w : World) (v : Value) : Prop := ∃ (a b : Int) (cs : List Value), v = .agg cs.toArray ∧ cellsA w [i64s, i64s] [.n a, .n b] cs
theorem shs_len : ∀ {l : List Sh} {ds : List DV}, HasShs l ds → ds.length = l.length
  | [], [], _ => rfl
  | _ :: l, _ :: ds, h => by simp only [HasShs] at h; simp only [List.length_cons, shs_len h.2]
  | [], _ :: _, h => by simp only [HasShs] at h
  | _ :: _, [], h => by simp only [HasShs] at h
theorem list2 {α : Type} : ∀ {l : List α}, l.length = 2 → ∃ a b, l = [a, b]
  | [a, b], _ => ⟨a, b, rfl⟩
section
variable {H : Type} {enc : TypeId × Value → H} {w : World} {base : Nat} {spare : Nat → Bool} {held : Bool} {r : Reach} {b0 : Nat} {v : Value} {d : DataW H} {p : List MemPlace}
set_option maxRecDepth 100000 in
theorem range_arg (hv : Value.okWide Try.prog w r b0 23 v) (h : DataW.Trod enc Try.prog w base spare held 23 v d p) : PairA w v := by
  obtain ⟨ds, rfl, hs, _⟩ := open_agg_arg (P := Try.prog) (tb := tb) (f := 20) (row := [i64s, i64s]) (by kernel_rfl) Try.underlying23 hv h
  have k := (agg_cellsA (w := w) rfl hs).1
  obtain ⟨a, b, e⟩ := list2 (shs_len hs)
  clear hs
  subst e
  simp only [tidies, DV.tidy] at k
  exact ⟨_, _, _, rfl, k⟩
set_option maxRecDepth 100000 in
theorem ratio_arg (hv : Value.okWide Try.prog w r b0 31 v) (h : DataW.Trod enc Try.prog w base spare held 31 v d p) : PairA w v := by
  obtain ⟨ds, rfl, hs, _⟩ := open_agg_arg (P := Try.prog) (tb := tb) (f := 20) (row := [i64s, i64s]) (by kernel_rfl) Try.underlying31 hv h
  have k := (agg_cellsA (w := w) rfl hs).1
  obtain ⟨a, b, e⟩ := list2 (shs_len hs)
  clear hs
  subst e
  simp only [tidies, DV.tidy] at k
  exact ⟨_, _, _, rfl, k⟩
end
end Go.Proofs.Ytgaaommfemgnnaa
