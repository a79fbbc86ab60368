/- DERIVED. Slices of ints and of points that came in: what they hold. -/
import Derived.Test.YtmmoenbdlfmgeaaSpec
import Derived.ProofKit
import Derived.Deep.Slices
import Derived.Deep.Fields
namespace Go.Proofs.Ytmmoenbdlfmgeaa
open Go.ChangeShapes Go.WideShapes Go.RowKit
/-- The slice value v holds the ints cs. -/
def IntSl (W : World) (v : Value) (cs : List Int) : Prop :=
  ∃ ao cap, v = .slice ao cs.length cap ∧ (cs ≠ [] → ∃ b off, ao = some ⟨b, off, none⟩ ∧ IntsAt W.heap.size W b off cs)
theorem IntSl.below {W W' : World} (h : Below W.heap.size W W') {v : Value} {cs : List Int} (hs : IntSl W v cs) : IntSl W' v cs := by
  obtain ⟨ao, cap, hv, hc⟩ := hs
  refine ⟨ao, cap, hv, fun hne => ?_⟩
  obtain ⟨b, off, ha, hI⟩ := hc hne
  have := hI.below h
  exact ⟨b, off, ha, Nat.lt_of_lt_of_le this.1 h.size, this.2⟩
theorem lits_len {H : Type} (k : IntKind) (l : List Int) : (lits (H := H) k l).length = l.length := by simp [lits]
theorem cells29 : Try.prog.cellsOf 3 = 1 := by kernel_rfl
theorem open_intsl {H : Type} {enc : TypeId × Value → H} {W : World} {r : Reach} {base : Nat} {v : Value} {d : DataW H} {p : List MemPlace}
    (hv : Value.okWide Try.prog W r base 29 v) (h : DataW.Trod enc Try.prog W 0 (fun _ => true) true 29 v d p) :
    ∃ cs, IntSl W v cs := by
  obtain ⟨a0, len, cap, rfl⟩ := okWide_slice Try.underlying29 hv
  obtain ⟨fuel, hf⟩ := h
  rcases open_ints Try.underlying29 Try.underlying3 cells29 hf with ⟨hcs, hx⟩ | ⟨a, len', cap', zs, hcs, _, hl, hm, hz, hx, hcell, hwz⟩
  · simp [Value.cells] at hcs
    obtain ⟨rfl, rfl, rfl⟩ := hcs
    exact ⟨[], none, 0, rfl, fun h => absurd rfl h⟩
  · simp [Value.cells] at hcs
    obtain ⟨rfl, rfl, rfl⟩ := hcs
    simp only [if_true] at hz
    have hlen : (zs.take len).length = len := by rw [List.length_take]; omega
    refine ⟨zs.take len, some a, cap, by rw [hlen], fun hne => ?_⟩
    have hpos : 0 < len := by
      apply Nat.pos_of_ne_zero; intro e; subst e; simp at hne
    obtain ⟨b, off, spot⟩ := a
    have hspot : spot = none := by simpa [Addr.add] using World.cell?_spot (hcell 0 (by omega))
    subst hspot
    refine ⟨b, off, rfl, ?_, fun j hj => ?_⟩
    · have := World.block_lt_of_cell? W _ (hcell 0 (by omega)); simpa [Addr.add] using this
    · rw [hlen] at hj
      have := hcell j (by omega)
      rw [show (Addr.add ⟨b, off, none⟩ j) = ⟨b, off + j, none⟩ from by simp [Addr.add]] at this
      rw [this]; simp [List.getElem?_take, hj]
theorem value_sl (v : Value) (at_ : Int) (cs : List Int) (hlen : cs.length ≤ 100000000000000) (w : World) (hs : IntSl w v cs) :
    Calls Try.prog 21 #[v, .int .i64 at_] w fun e w' => e = .returned (.int .i64 (hor at_ cs)) ∧ Below w.heap.size w w' := by
  obtain ⟨ao, cap, rfl, hc⟩ := hs
  by_cases hne : cs = []
  · subst hne
    exact (value_nil ao cap at_ w).mono fun e w' ⟨he, hw⟩ => ⟨he, hw ▸ Below.refl _ _⟩
  · obtain ⟨b, off, rfl, hI⟩ := hc hne
    exact value_any b off cap at_ cs hlen w hI
end Go.Proofs.Ytmmoenbdlfmgeaa
