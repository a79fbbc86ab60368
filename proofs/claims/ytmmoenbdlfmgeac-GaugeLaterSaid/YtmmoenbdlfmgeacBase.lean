/- DERIVED. Gauges: what lies in memory; the contract of within. -/
import Derived.Test.YtmmoenbdlfmgeacRows
import Derived.WalkKit
import Derived.WalkSpells
import Derived.WalkLawsBesides
import Derived.Lib.Hide
import Derived.BigRegion
import Derived.BigQuiet
import Derived.Deep.RegionHeld3
import Derived.Laws.BitsLemmas
namespace Go.Proofs.Ytmmoenbdlfmgeac
open Go.RowKit
set_option linter.unusedVariables false
set_option linter.unusedSimpArgs false
theorem thenB {w a b : World} (h : Below w.heap.size w a) (k : Below a.heap.size a b) : Below w.heap.size w b := h.trans (k.mono h.size)
theorem ret_int {k : IntKind} {a b : Int} (h : a = b) : Ending.returned (.int k a) = .returned (.int k b) := by rw [h]
theorem ret_bool {a b : Bool} (h : a = b) : Ending.returned (.bool a) = .returned (.bool b) := by rw [h]
theorem cellAl {w : World} {a : Addr} {v : Value} (o : Obj) (h : w.cell? a = some v) : (w.alloc o).cell? a = some v := (World.cell?_alloc_some w a o (by simp [h])).trans h
theorem belowAl {w w' : World} (h : Below w.heap.size w w') (o : Obj) : Below w.heap.size w (w'.alloc o) := h.alloc h.size o
theorem belowDr {w w' : World} (h : Below w.heap.size w w') : Below w.heap.size w w'.drew := h.drew
theorem belowDn {w w' : World} (h : Below w.heap.size w w') (k : Nat) : Below w.heap.size w (w'.drewN k) := ⟨h.os, h.tape, h.output, h.size, h.block⟩
def PtsAt (n : Nat) (W : World) (b off : Nat) (pts : List (Int × Int)) : Prop :=
  b < n ∧ ∀ j, j < pts.length → W.cell? ⟨b, off + j * 2, none⟩ = some (.int .i64 (pts[j]?.getD (0, 0)).1) ∧ W.cell? ⟨b, off + j * 2 + 1, none⟩ = some (.int .i64 (pts[j]?.getD (0, 0)).2)
theorem PtsAt.below {n : Nat} {A B : World} (h : Below n A B) {b off : Nat} {pts : List (Int × Int)} (hp : PtsAt n A b off pts) : PtsAt n B b off pts :=
  ⟨hp.1, fun j hj => ⟨(h.cell (p := ⟨b, off + j * 2, none⟩) hp.1).trans (hp.2 j hj).1, (h.cell (p := ⟨b, off + j * 2 + 1, none⟩) hp.1).trans (hp.2 j hj).2⟩⟩
/-- The slice value v holds the pairs pts. -/
def PtSl (W : World) (v : Value) (pts : List (Int × Int)) : Prop :=
  ∃ ao cap, v = .slice ao pts.length cap ∧ (pts ≠ [] → ∃ b off, ao = some ⟨b, off, none⟩ ∧ PtsAt W.heap.size W b off pts)
theorem PtSl.below {W W' : World} (h : Below W.heap.size W W') {v : Value} {pts : List (Int × Int)} (hs : PtSl W v pts) : PtSl W' v pts := by
  obtain ⟨ao, cap, hv, hc⟩ := hs
  refine ⟨ao, cap, hv, fun hne => ?_⟩
  obtain ⟨b, off, ha, hI⟩ := hc hne
  have := hI.below h
  exact ⟨b, off, ha, Nat.lt_of_lt_of_le this.1 h.size, this.2⟩

def inB (n m : Int) : Bool := decide (0 ≤ n ∧ n ≤ m)
theorem inB_t {n m : Int} (h : inB n m = true) : 0 ≤ n ∧ n ≤ m := by simpa [inB] using h
theorem inB_f {n m : Int} (h : inB n m = false) : ¬ (0 ≤ n ∧ n ≤ m) := by simpa [inB] using h
theorem inB_mk {n m : Int} (h : 0 ≤ n ∧ n ≤ m) : inB n m = true := by simpa [inB] using h
theorem inB_no {n m : Int} (h : ¬ (0 ≤ n ∧ n ≤ m)) : inB n m = false := by simpa [inB] using h

set_option maxHeartbeats 400000 in
theorem within1 (m x : Int) (B : Nat) (w : World) (h0 : w.cell? ⟨B, 0, none⟩ = some (.int .i64 x)) :
    Calls Try.prog 9 #[.int .i64 m, .slice (some ⟨B, 0, none⟩) 1 1] w fun e w' => e = .returned (.bool (inB x m)) ∧ w = w' := by
  by_cases h1 : x < 0
  · have H := Lib.hid (inB_no (n := x) (m := m) (by omega))
    have d1 : decide (x < 0) = true := by simpa using h1
    go_enter Try.func9, Try.ntmps9
    go_wp2
    refine wp_loop_rounds 2 ?_; rw [rounds_succ]
    go_wp2
    go_ret
    exact ⟨by rw [H.out]; rfl, rfl⟩
  · have d1 : decide (x < 0) = false := by simpa using h1
    by_cases h2 : m < x
    · have H := Lib.hid (inB_no (n := x) (m := m) (by omega))
      have d2 : decide (m < x) = true := by simpa using h2
      go_enter Try.func9, Try.ntmps9
      go_wp2
      refine wp_loop_rounds 2 ?_; rw [rounds_succ]
      go_wp2
      go_ret
      exact ⟨by rw [H.out]; rfl, rfl⟩
    · have H := Lib.hid (inB_mk (n := x) (m := m) (by omega))
      have d2 : decide (m < x) = false := by simpa using h2
      go_enter Try.func9, Try.ntmps9
      go_wp2
      refine wp_loop_rounds 2 ?_; rw [rounds_succ]
      go_wp2
      rw [rounds_succ]
      go_wp2
      go_ret
      exact ⟨by rw [H.out]; rfl, rfl⟩

set_option maxHeartbeats 400000 in
theorem within2 (m x y : Int) (B : Nat) (w : World) (h0 : w.cell? ⟨B, 0, none⟩ = some (.int .i64 x)) (h1 : w.cell? ⟨B, 1, none⟩ = some (.int .i64 y)) :
    Calls Try.prog 9 #[.int .i64 m, .slice (some ⟨B, 0, none⟩) 2 2] w fun e w' => e = .returned (.bool (inB x m && inB y m)) ∧ w = w' := by
  cases hx : inB x m
  · have H := Lib.hid hx
    have := inB_f hx
    by_cases h2 : x < 0
    · have d1 : decide (x < 0) = true := by simpa using h2
      go_enter Try.func9, Try.ntmps9
      go_wp2
      refine wp_loop_rounds 2 ?_; rw [rounds_succ]
      go_wp2
      go_ret
      exact ⟨rfl, rfl⟩
    · have d1 : decide (x < 0) = false := by simpa using h2
      have d2 : decide (m < x) = true := by simp; omega
      go_enter Try.func9, Try.ntmps9
      go_wp2
      refine wp_loop_rounds 2 ?_; rw [rounds_succ]
      go_wp2
      go_ret
      exact ⟨rfl, rfl⟩
  · have hx' := inB_t hx
    have d1 : decide (x < 0) = false := by simp; omega
    have d2 : decide (m < x) = false := by simp; omega
    cases hy : inB y m
    · have := inB_f hy
      by_cases h2 : y < 0
      · have d3 : decide (y < 0) = true := by simpa using h2
        go_enter Try.func9, Try.ntmps9
        go_wp2
        refine wp_loop_rounds 3 ?_; rw [rounds_succ]
        go_wp2
        rw [rounds_succ]
        go_wp2
        go_ret
        exact ⟨rfl, rfl⟩
      · have d3 : decide (y < 0) = false := by simpa using h2
        have d4 : decide (m < y) = true := by simp; omega
        go_enter Try.func9, Try.ntmps9
        go_wp2
        refine wp_loop_rounds 3 ?_; rw [rounds_succ]
        go_wp2
        rw [rounds_succ]
        go_wp2
        go_ret
        exact ⟨rfl, rfl⟩
    · have hy' := inB_t hy
      have d3 : decide (y < 0) = false := by simp; omega
      have d4 : decide (m < y) = false := by simp; omega
      go_enter Try.func9, Try.ntmps9
      go_wp2
      refine wp_loop_rounds 3 ?_; rw [rounds_succ]
      go_wp2
      rw [rounds_succ]
      go_wp2
      rw [rounds_succ]
      go_wp2
      go_ret
      exact ⟨rfl, rfl⟩
end Go.Proofs.Ytmmoenbdlfmgeac
