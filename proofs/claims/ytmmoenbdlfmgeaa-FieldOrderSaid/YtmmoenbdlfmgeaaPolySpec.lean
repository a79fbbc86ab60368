/- DERIVED. The walk of FieldPolySpec. -/
import Derived.Test.YtmmoenbdlfmgeaaRef
import Derived.Deep.SlicePairs
namespace Go.Proofs.Ytmmoenbdlfmgeaa
open Go.RowKit Go.ChangeShapes Go.WideShapes Go.Deep
set_option linter.unusedVariables false
set_option linter.unusedSimpArgs false
theorem cells38 : Try.prog.cellsOf 38 = 2 := by kernel_rfl
theorem open_ptsl {H : Type} {enc : TypeId × Value → H} {W : World} {r : Reach} {base : Nat} {v : Value} {d : DataW H} {p : List MemPlace}
    (hv : Value.okWide Try.prog W r base 30 v) (h : DataW.Trod enc Try.prog W 0 (fun _ => true) true 30 v d p) :
    ∃ pts, PtSl W v pts := by
  obtain ⟨a0, len, cap, rfl⟩ := okWide_slice Try.underlying30 hv
  obtain ⟨fuel, hf⟩ := h
  rcases open_slice_pairs Try.underlying30 Try.underlying38 cells38 rfl rfl cells29 cells29 hf with ⟨hcs, hx⟩ | ⟨a, len', cap', m, n, V0, V1, D0, D1, P0, P1, hcs, _, hl, hm, hmm, hx, hcell⟩
  · simp [Value.cells] at hcs
    obtain ⟨rfl, rfl, rfl⟩ := hcs
    exact ⟨[], none, 0, rfl, fun h => absurd rfl h⟩
  · simp [Value.cells] at hcs
    obtain ⟨rfl, rfl, rfl⟩ := hcs
    simp only [if_true] at hmm
    refine ⟨(List.range len).map (fun i => (intOf (V0 i), intOf (V1 i))), some a, cap, by simp, fun hne => ?_⟩
    have hpos : 0 < len := by
      apply Nat.pos_of_ne_zero; intro e; subst e; simp at hne
    have each : ∀ i, i < len → W.cell? (a.add (i * 2)) = some (.int .i64 (intOf (V0 i))) ∧ W.cell? (a.add (i * 2 + 1)) = some (.int .i64 (intOf (V1 i))) := by
      intro i hi
      obtain ⟨q0, q1, t0, t1⟩ := hcell i (by omega)
      obtain ⟨x, e0, _, _⟩ := DataW.trod_int Try.underlying3 t0
      obtain ⟨y, e1, _, _⟩ := DataW.trod_int Try.underlying3 t1
      simp at e0 e1
      rw [q0, q1, e0, e1]; exact ⟨rfl, rfl⟩
    obtain ⟨b, off, spot⟩ := a
    have hspot : spot = none := by simpa [Addr.add] using World.cell?_spot (each 0 hpos).1
    subst hspot
    refine ⟨b, off, rfl, ?_, fun j hj => ?_⟩
    · have := World.block_lt_of_cell? W _ (each 0 hpos).1; simpa [Addr.add] using this
    · have hj' : j < len := by simpa using hj
      have := each j hj'
      rw [add_plain, add_plain] at this
      simp [hj', ← Nat.add_assoc] at this ⊢
      exact this

set_option maxHeartbeats 400000 in
theorem few_any (a : Option Addr) (len cap : Nat) (w : World) :
    Calls Try.prog 18 #[.slice a len cap] w fun e w' => e = .returned (.bool (decide ((len : Int) ≤ 70))) ∧ w = w' := by
  go_enter Try.func18, Try.ntmps18
  go_wp2
  go_ret
  exact ⟨rfl, rfl⟩

set_option maxRecDepth 100000 in
set_option maxHeartbeats 2000000 in
theorem PolySpec_in (sa sb : Value) (cs : List Int) (pts : List (Int × Int)) (at_ : Int) (hla : cs.length ≤ 100) (hlb : pts.length ≤ 70) (w : World) (ha : IntSl w sa cs) (hb : PtSl w sb pts) :
    Calls Try.prog 4 #[sa, sb, .int .i64 at_] w fun e w' => e = .returned (.bool true) ∧ Below w.heap.size w w' := by
  have ha' := Lib.hid ha; have hb' := Lib.hid hb
  obtain ⟨aa, ca, rfl, hca⟩ := ha
  obtain ⟨ab, cb, rfl, hcb⟩ := hb
  have la2 : decide ((100 : Int) < (cs.length : Int)) = false := by simp; omega
  have lb2 : decide ((pts.length : Int) ≤ 70) = true := by simp; omega
  have la1 : (cs.length : Int) ≤ 100 := by omega
  have lb1 : (pts.length : Int) ≤ 70 := by omega
  clear hca hcb
  go_enter Try.func4, Try.ntmps4
  go_wp2_with (first | (go_at_call 9; refine (sane_any _).mono ?_; rintro e w1 ⟨rfl, hB⟩) | (go_at_call 18; refine (few_any _ _ _ _).mono ?_; rintro e w' ⟨rfl, rfl⟩; rw [lb2]))
  refine (at_sl _ at_ pts _ (hb'.out.below hB)).mono ?_; rintro e w2 ⟨x, y, rfl, hr, hB2⟩
  have HR := Lib.hid hr; clear hr
  replace hB2 := thenB hB hB2; clear hB
  go_wp2_with fail
  refine (rat_sl _ at_ pts _ (hb'.out.below hB2)).mono ?_; rintro e w3 ⟨x', y', rfl, hr', hB3⟩
  obtain ⟨rfl, rfl⟩ := HR.out.same hr'
  clear hr'
  replace hB3 := thenB hB2 hB3; clear hB2
  go_wp2_with fail
  refine (value_sl _ at_ cs (by omega) _ (ha'.out.below hB3)).mono ?_; rintro e w4 ⟨rfl, hB4⟩
  replace hB4 := thenB hB3 hB4; clear hB3
  go_wp2_with fail
  refine (rvalue_sl _ at_ cs (by omega) _ (ha'.out.below hB4)).mono ?_; rintro e w5 ⟨rfl, hB5⟩
  replace hB5 := thenB hB4 hB5; clear hB4
  go_wp2
  go_ret
  exact ⟨rfl, hB5⟩

set_option maxHeartbeats 1000000 in
theorem PolySpec_out (sa sb : Value) (cs : List Int) (pts : List (Int × Int)) (at_ : Int) (hl : 100 < cs.length ∨ 70 < pts.length) (w : World) (ha : IntSl w sa cs) (hb : PtSl w sb pts) :
    Calls Try.prog 4 #[sa, sb, .int .i64 at_] w fun e w' => e = .returned (.bool true) ∧ Below w.heap.size w w' := by
  obtain ⟨aa, ca, rfl, hca⟩ := ha
  obtain ⟨ab, cb, rfl, hcb⟩ := hb
  by_cases h1 : 100 < cs.length
  · have la1 : (100 : Int) < ((cs.length : Nat) : Int) := by omega
    have la2 : decide ((100 : Int) < (cs.length : Int)) = true := by simp; omega
    clear hl h1 hca hcb
    go_enter Try.func4, Try.ntmps4
    go_wp2_with (first | (go_at_call 9; refine (sane_any _).mono ?_; rintro e w1 ⟨rfl, hB⟩) | (go_at_call 18; refine (few_any _ _ _ _).mono ?_; rintro e w' ⟨rfl, rfl⟩))
    go_ret
    exact ⟨rfl, hB⟩
  · have lb1 : (cs.length : Int) ≤ 100 := by omega
    have la2 : decide ((100 : Int) < (cs.length : Int)) = false := by simp; omega
    have lb2 : decide ((pts.length : Int) ≤ 70) = false := by simp; omega
    clear hl h1 hca hcb
    go_enter Try.func4, Try.ntmps4
    go_wp2_with (first | (go_at_call 9; refine (sane_any _).mono ?_; rintro e w1 ⟨rfl, hB⟩) | (go_at_call 18; refine (few_any _ _ _ _).mono ?_; rintro e w' ⟨rfl, rfl⟩; rw [lb2]))
    go_ret
    exact ⟨rfl, hB⟩
theorem FieldPolySpec_walk (sa sb : Value) (at_ : Int) (w : World) (ha : ∃ a, IntSl w sa a) (hb : ∃ b, PtSl w sb b) :
    Calls Try.prog 4 #[sa, sb, .int .i64 at_] w fun e w' => e = .returned (.bool true) ∧ Below w.heap.size w w' := by
  obtain ⟨a, ha⟩ := ha; obtain ⟨b, hb⟩ := hb
  by_cases h : a.length ≤ 100 ∧ b.length ≤ 70
  · exact PolySpec_in sa sb a b at_ h.1 h.2 w ha hb
  · exact PolySpec_out sa sb a b at_ (by omega) w ha hb
end Go.Proofs.Ytmmoenbdlfmgeaa
