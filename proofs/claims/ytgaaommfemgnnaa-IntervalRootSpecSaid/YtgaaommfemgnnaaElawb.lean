/- DERIVED. IntervalScaled, for any arguments. -/
import Derived.Test.YtgaaommfemgnnaaElaw
namespace Go.Proofs.Ytgaaommfemgnnaa
open Go.Dx Go.RowKit
set_option linter.unusedVariables false
theorem glb0 (w : World) : Glb tb w := fun g l h => by
  have : tb.glob g = none := rfl
  rw [this] at h; cases h
def PairA (w : World) (v : Value) : Prop := ∃ (a b : Int) (cs : List Value), v = .agg cs.toArray ∧ cellsA w [i64s, i64s] [.n a, .n b] cs
theorem shs_len : ∀ {l : List Sh} {ds : List DV}, HasShs l ds → ds.length = l.length
  | [], [], _ => rfl
  | _ :: l, _ :: ds, h => by simp only [HasShs] at h; simp only [List.length_cons, shs_len h.2]
  | [], _ :: _, h => by simp only [HasShs] at h
  | _ :: _, [], h => by simp only [HasShs] at h
theorem list2 {α : Type} : ∀ {l : List α}, l.length = 2 → ∃ a b, l = [a, b]
  | [a, b], _ => ⟨a, b, rfl⟩
section
variable {H : Type} {enc : TypeId × Value → H} {w : World} {base : Nat} {spare : Nat → Bool} {held : Bool} {r : Reach} {b0 : Nat} {v : Value} {d : DataW H} {p : List MemPlace}
set_option maxRecDepth 100000 in
theorem range_arg (hv : Value.okWide Try.prog w r b0 23 v) (h : DataW.Trod enc Try.prog w base spare held 23 v d p) : PairA w v := by
  obtain ⟨ds, rfl, hs, _⟩ := open_agg_arg (P := Try.prog) (tb := tb) (f := 20) (row := [i64s, i64s]) (by kernel_rfl) Try.underlying23 hv h
  have k := (agg_cellsA (w := w) rfl hs).1
  obtain ⟨a, b, e⟩ := list2 (shs_len hs)
  clear hs
  subst e
  simp only [tidies, DV.tidy] at k
  exact ⟨_, _, _, rfl, k⟩
set_option maxRecDepth 100000 in
theorem ratio_arg (hv : Value.okWide Try.prog w r b0 31 v) (h : DataW.Trod enc Try.prog w base spare held 31 v d p) : PairA w v := by
  obtain ⟨ds, rfl, hs, _⟩ := open_agg_arg (P := Try.prog) (tb := tb) (f := 20) (row := [i64s, i64s]) (by kernel_rfl) Try.underlying31 hv h
  have k := (agg_cellsA (w := w) rfl hs).1
  obtain ⟨a, b, e⟩ := list2 (shs_len hs)
  clear hs
  subst e
  simp only [tidies, DV.tidy] at k
  exact ⟨_, _, _, rfl, k⟩
end
set_option maxRecDepth 100000 in
theorem IntervalScaled_any (v0 v1 : Value) (w : World) (hG : Glb tb w) (g0 : PairA w v0) (g1 : PairA w v1) :
    Calls Try.prog 8 #[v0, v1] w fun e w' => e = .returned (.bool true) ∧ Below w.heap.size w w' := by
  obtain ⟨a, b, c0, rfl, h0⟩ := g0
  obtain ⟨N, D, c1, rfl, h1⟩ := g1
  refine law_of_walk (tb := tb) (P := Try.prog) fine (C := [lawCon 12 [], cScl 25, cIn 31]) (conCons cSane_ok (conCons cScl_ok (conCons cIn_ok noCon))) 80 8 [two, two] rfl (w := w) hG (xs := [.n a, .n b, .n N, .n D]) ?_ (walk_scl a b N D)
  exact ⟨_, [.n N, .n D], c0, rfl, rfl, h0, _, [], c1, rfl, rfl, h1, by simp [ArgsV]⟩
end Go.Proofs.Ytgaaommfemgnnaa
