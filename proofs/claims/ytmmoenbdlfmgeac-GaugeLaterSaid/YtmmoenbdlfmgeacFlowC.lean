/- DERIVED. Gauges: the contract of Flow. -/
import Derived.Test.YtmmoenbdlfmgeacFlow
namespace Go.Proofs.Ytmmoenbdlfmgeac
open Go.RowKit
set_option linter.unusedVariables false
set_option linter.unusedSimpArgs false
set_option maxRecDepth 100000 in
set_option maxHeartbeats 1000000 in
theorem Flow_bad (no rc cl dr si st : Int) (t : Value) (pts : List (Int × Int)) (hc : chk no rc cl dr si pts ≠ 0) (w : World) (hs : PtSl w t pts) :
    Calls Try.prog 6 #[gv no rc cl dr si t, .int .i64 st] w fun e w' => e = .returned (.tuple #[.agg #[.int .i64 0, .int .i64 0], .int .i64 (chk no rc cl dr si pts)]) ∧ Below w.heap.size w w' := by
  have hs' := Lib.hid hs
  have hS0 : PtSl ((w.alloc (.cells #[.int .i64 no, .int .i64 rc, .int .i64 cl, .int .i64 dr, .int .i64 si, t] 24)).alloc (.cells #[.int .i64 0, .int .i64 0] 28)) t pts := hs.below (belowAl (belowAl (Below.refl _ _) _) _)
  have hB0 : Below w.heap.size w ((w.alloc (.cells #[.int .i64 no, .int .i64 rc, .int .i64 cl, .int .i64 dr, .int .i64 si, t] 24)).alloc (.cells #[.int .i64 0, .int .i64 0] 28)) := belowAl (belowAl (Below.refl _ _) _) _
  have hG0 : ((w.alloc (.cells #[.int .i64 no, .int .i64 rc, .int .i64 cl, .int .i64 dr, .int .i64 si, t] 24)).alloc (.cells #[.int .i64 0, .int .i64 0] 28)).heap[w.heap.size]? = some (.cells #[.int .i64 no, .int .i64 rc, .int .i64 cl, .int .i64 dr, .int .i64 si, t] 24 (0, 0)) :=
    (Below.heap_alloc _ _ _ (by simp)).trans (World.alloc_heap_new w _)
  have hZ0 : ((w.alloc (.cells #[.int .i64 no, .int .i64 rc, .int .i64 cl, .int .i64 dr, .int .i64 si, t] 24)).alloc (.cells #[.int .i64 0, .int .i64 0] 28)).heap[w.heap.size + 1]? = some (.cells #[.int .i64 0, .int .i64 0] 28 (0, 0)) := by
    have := World.alloc_heap_new (w.alloc (.cells #[.int .i64 no, .int .i64 rc, .int .i64 cl, .int .i64 dr, .int .i64 si, t] 24)) (.cells #[.int .i64 0, .int .i64 0] 28)
    simpa using this
  go_enter Try.func6, Try.ntmps6
  go_wp2_with fail
  refine (check_any no rc cl dr si t pts _ hS0).mono ?_; rintro e w1 ⟨rfl, hB1⟩
  have hG := (hB1.block w.heap.size (by simp <;> omega)).trans hG0
  have hZ := (hB1.block (w.heap.size + 1) (by simp)).trans hZ0
  have hsz : w.heap.size + 2 ≤ w1.heap.size := by have := hB1.size; simp at this; omega
  have hBw := thenB hB0 hB1
  have hS1 := Lib.hid (hS0.below hB1)
  clear hB1 hG0 hZ0 hB0 hS0
  have g0 := cellEq (i := 0) hG; have g1 := cellEq (i := 1) hG; have g2 := cellEq (i := 2) hG; have g3 := cellEq (i := 3) hG; have g4 := cellEq (i := 4) hG; have g5 := cellEq (i := 5) hG
  have z0 := cellEq (i := 0) hZ; have z1 := cellEq (i := 1) hZ; have f0 := frozenEq (i := 0) hZ; have f1 := frozenEq (i := 1) hZ
  simp at g0 g1 g2 g3 g4 g5 z0 z1
  have hne : (chk no rc cl dr si pts != 0) = true := by simpa using hc
  obtain ⟨c, hcc⟩ : ∃ c, c = chk no rc cl dr si pts := ⟨_, rfl⟩
  rw [← hcc] at hne ⊢
  have HC := Lib.hid hcc
  clear hcc hc
  go_wp2_with fail
  refine bodyPost_ret (v := .tuple #[.agg #[.int .i64 0, .int .i64 0], .int .i64 c]) (by simp [results, Try.results6, go_sem, z0, z1, f0, f1]) rfl ?_
  exact ⟨by rw [HC.out], by repeat' (first | exact hBw | refine belowAl ?_ _ | refine belowDr ?_ | refine belowDn ?_ _ | refine Below.setCell ?_ (by simp <;> omega) _)⟩
set_option maxRecDepth 100000 in
set_option maxHeartbeats 1000000 in
theorem Flow_arg (no rc cl dr si st : Int) (t : Value) (pts : List (Int × Int)) (hc : chk no rc cl dr si pts = 0) (hst : inB st 1048576 = false) (w : World) (hs : PtSl w t pts) :
    Calls Try.prog 6 #[gv no rc cl dr si t, .int .i64 st] w fun e w' => e = .returned (.tuple #[.agg #[.int .i64 0, .int .i64 0], .int .i64 1]) ∧ Below w.heap.size w w' := by
  have hs' := Lib.hid hs
  have hS0 : PtSl ((w.alloc (.cells #[.int .i64 no, .int .i64 rc, .int .i64 cl, .int .i64 dr, .int .i64 si, t] 24)).alloc (.cells #[.int .i64 0, .int .i64 0] 28)) t pts := hs.below (belowAl (belowAl (Below.refl _ _) _) _)
  have hB0 : Below w.heap.size w ((w.alloc (.cells #[.int .i64 no, .int .i64 rc, .int .i64 cl, .int .i64 dr, .int .i64 si, t] 24)).alloc (.cells #[.int .i64 0, .int .i64 0] 28)) := belowAl (belowAl (Below.refl _ _) _) _
  have hG0 : ((w.alloc (.cells #[.int .i64 no, .int .i64 rc, .int .i64 cl, .int .i64 dr, .int .i64 si, t] 24)).alloc (.cells #[.int .i64 0, .int .i64 0] 28)).heap[w.heap.size]? = some (.cells #[.int .i64 no, .int .i64 rc, .int .i64 cl, .int .i64 dr, .int .i64 si, t] 24 (0, 0)) :=
    (Below.heap_alloc _ _ _ (by simp)).trans (World.alloc_heap_new w _)
  have hZ0 : ((w.alloc (.cells #[.int .i64 no, .int .i64 rc, .int .i64 cl, .int .i64 dr, .int .i64 si, t] 24)).alloc (.cells #[.int .i64 0, .int .i64 0] 28)).heap[w.heap.size + 1]? = some (.cells #[.int .i64 0, .int .i64 0] 28 (0, 0)) := by
    have := World.alloc_heap_new (w.alloc (.cells #[.int .i64 no, .int .i64 rc, .int .i64 cl, .int .i64 dr, .int .i64 si, t] 24)) (.cells #[.int .i64 0, .int .i64 0] 28)
    simpa using this
  go_enter Try.func6, Try.ntmps6
  go_wp2_with fail
  refine (check_any no rc cl dr si t pts _ hS0).mono ?_; rintro e w1 ⟨rfl, hB1⟩
  have hG := (hB1.block w.heap.size (by simp <;> omega)).trans hG0
  have hZ := (hB1.block (w.heap.size + 1) (by simp)).trans hZ0
  have hsz : w.heap.size + 2 ≤ w1.heap.size := by have := hB1.size; simp at this; omega
  have hBw := thenB hB0 hB1
  have hS1 := Lib.hid (hS0.below hB1)
  clear hB1 hG0 hZ0 hB0 hS0
  have g0 := cellEq (i := 0) hG; have g1 := cellEq (i := 1) hG; have g2 := cellEq (i := 2) hG; have g3 := cellEq (i := 3) hG; have g4 := cellEq (i := 4) hG; have g5 := cellEq (i := 5) hG
  have z0 := cellEq (i := 0) hZ; have z1 := cellEq (i := 1) hZ; have f0 := frozenEq (i := 0) hZ; have f1 := frozenEq (i := 1) hZ
  simp at g0 g1 g2 g3 g4 g5 z0 z1
  have hBx : Below w1.heap.size w1 (w1.alloc (.cells #[.int .i64 st] 3)) := (Below.refl _ _).alloc (Nat.le_refl _) _
  have hGx := (hBx.block w.heap.size (by omega)).trans hG
  have hZx := (hBx.block (w.heap.size + 1) (by omega)).trans hZ
  have xg0 := cellEq (i := 0) hGx; have xg1 := cellEq (i := 1) hGx; have xg2 := cellEq (i := 2) hGx; have xg3 := cellEq (i := 3) hGx; have xg4 := cellEq (i := 4) hGx; have xg5 := cellEq (i := 5) hGx
  have xz0 := cellEq (i := 0) hZx; have xz1 := cellEq (i := 1) hZx; have xf0 := frozenEq (i := 0) hZx; have xf1 := frozenEq (i := 1) hZx
  simp only [List.getElem?_toArray, List.getElem?_cons_zero, List.getElem?_cons_succ] at xg0 xg1 xg2 xg3 xg4 xg5 xz0 xz1
  rw [hc]
  go_wp2_with fail
  refine (within1 1048576 st _ _ (by go_simp)).mono ?_; rintro e w' ⟨rfl, rfl⟩; rw [hst]
  go_wp2_with fail
  refine bodyPost_ret (v := .tuple #[.agg #[.int .i64 0, .int .i64 0], .int .i64 1]) (by simp [results, Try.results6, go_sem, xz0, xz1, xf0, xf1]) rfl ?_
  exact ⟨rfl, by repeat' (first | exact hBw | refine belowAl ?_ _ | refine belowDr ?_ | refine belowDn ?_ _ | refine Below.setCell ?_ (by simp <;> omega) _)⟩
set_option maxRecDepth 100000 in
set_option maxHeartbeats 1000000 in
theorem Flow_ok (no rc cl dr si st : Int) (t : Value) (pts : List (Int × Int)) (hc : chk no rc cl dr si pts = 0) (hst : inB st 1048576 = true) (w : World) (hs : PtSl w t pts) :
    Calls Try.prog 6 #[gv no rc cl dr si t, .int .i64 st] w fun e w' => e = .returned (.tuple #[.agg #[.int .i64 (lo pts st), .int .i64 (hi pts st)], .int .i64 0]) ∧ Below w.heap.size w w' := by
  have hTt := chk_tab hc
  have hst' := inB_t hst
  have hs' := Lib.hid hs
  have hS0 : PtSl ((w.alloc (.cells #[.int .i64 no, .int .i64 rc, .int .i64 cl, .int .i64 dr, .int .i64 si, t] 24)).alloc (.cells #[.int .i64 0, .int .i64 0] 28)) t pts := hs.below (belowAl (belowAl (Below.refl _ _) _) _)
  have hB0 : Below w.heap.size w ((w.alloc (.cells #[.int .i64 no, .int .i64 rc, .int .i64 cl, .int .i64 dr, .int .i64 si, t] 24)).alloc (.cells #[.int .i64 0, .int .i64 0] 28)) := belowAl (belowAl (Below.refl _ _) _) _
  have hG0 : ((w.alloc (.cells #[.int .i64 no, .int .i64 rc, .int .i64 cl, .int .i64 dr, .int .i64 si, t] 24)).alloc (.cells #[.int .i64 0, .int .i64 0] 28)).heap[w.heap.size]? = some (.cells #[.int .i64 no, .int .i64 rc, .int .i64 cl, .int .i64 dr, .int .i64 si, t] 24 (0, 0)) :=
    (Below.heap_alloc _ _ _ (by simp)).trans (World.alloc_heap_new w _)
  have hZ0 : ((w.alloc (.cells #[.int .i64 no, .int .i64 rc, .int .i64 cl, .int .i64 dr, .int .i64 si, t] 24)).alloc (.cells #[.int .i64 0, .int .i64 0] 28)).heap[w.heap.size + 1]? = some (.cells #[.int .i64 0, .int .i64 0] 28 (0, 0)) := by
    have := World.alloc_heap_new (w.alloc (.cells #[.int .i64 no, .int .i64 rc, .int .i64 cl, .int .i64 dr, .int .i64 si, t] 24)) (.cells #[.int .i64 0, .int .i64 0] 28)
    simpa using this
  go_enter Try.func6, Try.ntmps6
  go_wp2_with fail
  refine (check_any no rc cl dr si t pts _ hS0).mono ?_; rintro e w1 ⟨rfl, hB1⟩
  have hG := (hB1.block w.heap.size (by simp <;> omega)).trans hG0
  have hZ := (hB1.block (w.heap.size + 1) (by simp)).trans hZ0
  have hsz : w.heap.size + 2 ≤ w1.heap.size := by have := hB1.size; simp at this; omega
  have hBw := thenB hB0 hB1
  have hS1 := Lib.hid (hS0.below hB1)
  clear hB1 hG0 hZ0 hB0 hS0
  have g0 := cellEq (i := 0) hG; have g1 := cellEq (i := 1) hG; have g2 := cellEq (i := 2) hG; have g3 := cellEq (i := 3) hG; have g4 := cellEq (i := 4) hG; have g5 := cellEq (i := 5) hG
  have z0 := cellEq (i := 0) hZ; have z1 := cellEq (i := 1) hZ; have f0 := frozenEq (i := 0) hZ; have f1 := frozenEq (i := 1) hZ
  simp at g0 g1 g2 g3 g4 g5 z0 z1
  have hBx : Below w1.heap.size w1 (w1.alloc (.cells #[.int .i64 st] 3)) := (Below.refl _ _).alloc (Nat.le_refl _) _
  have hGx := (hBx.block w.heap.size (by omega)).trans hG
  have hZx := (hBx.block (w.heap.size + 1) (by omega)).trans hZ
  have xg0 := cellEq (i := 0) hGx; have xg1 := cellEq (i := 1) hGx; have xg2 := cellEq (i := 2) hGx; have xg3 := cellEq (i := 3) hGx; have xg4 := cellEq (i := 4) hGx; have xg5 := cellEq (i := 5) hGx
  have xz0 := cellEq (i := 0) hZx; have xz1 := cellEq (i := 1) hZx; have xf0 := frozenEq (i := 0) hZx; have xf1 := frozenEq (i := 1) hZx
  simp only [List.getElem?_toArray, List.getElem?_cons_zero, List.getElem?_cons_succ] at xg0 xg1 xg2 xg3 xg4 xg5 xz0 xz1
  rw [hc]
  go_wp2_with fail
  refine (within1 1048576 st _ _ (by go_simp)).mono ?_; rintro e w' ⟨rfl, rfl⟩; rw [hst]
  go_wp2_with fail
  refine (flow_any no rc cl dr si st t pts hTt.1 hst' _ (hS1.out.below hBx)).mono ?_; rintro e w2 ⟨rfl, hB2⟩
  have hZ2 := (hB2.block (w.heap.size + 1) (by simp; omega)).trans ((hBx.block (w.heap.size + 1) (by omega)).trans hZ)
  have hBw2 := thenB (thenB hBw hBx) hB2
  have z0 := cellEq (i := 0) hZ2; have z1 := cellEq (i := 1) hZ2; have f0 := frozenEq (i := 0) hZ2; have f1 := frozenEq (i := 1) hZ2
  simp at z0 z1
  go_wp2_with fail
  refine bodyPost_ret (v := .tuple #[.agg #[.int .i64 (lo pts st), .int .i64 (hi pts st)], .int .i64 0]) (by simp [results, Try.results6, go_sem, z0, z1, f0, f1]) rfl ?_
  exact ⟨rfl, by repeat' (first | exact hBw2 | refine belowAl ?_ _ | refine belowDr ?_ | refine belowDn ?_ _ | refine Below.setCell ?_ (by simp <;> omega) _)⟩
end Go.Proofs.Ytmmoenbdlfmgeac
