/- DERIVED. Gauges: the reference's Flow, Read, Stage. -/
import Derived.Test.YtmmoenbdlfmgeabRefB
namespace Go.Proofs.Ytmmoenbdlfmgeab
open Go.RowKit
set_option linter.unusedVariables false
set_option linter.unusedSimpArgs false
set_option maxRecDepth 100000 in
set_option maxHeartbeats 2000000 in
theorem RFlow_bad (no rc cl dr si st : Int) (t : Value) (pts : List (Int × Int)) (hc : chk no rc cl dr si pts ≠ 0) (w : World) (hs : PtSl w t pts) :
    Calls Try.prog 11 #[gv no rc cl dr si t, .int .i64 st] w fun e w' => e = .returned (.tuple #[.agg #[.int .i64 0, .int .i64 0], .int .i64 (chk no rc cl dr si pts)]) ∧ Below w.heap.size w w' := by
  have hs' := Lib.hid hs
  have hS0 : PtSl ((w.alloc (.cells #[.int .i64 no, .int .i64 rc, .int .i64 cl, .int .i64 dr, .int .i64 si, t] 24)).alloc (.cells #[.int .i64 0, .int .i64 0] 27)) t pts := hs.below (belowAl (belowAl (Below.refl _ _) _) _)
  have hB0 : Below w.heap.size w ((w.alloc (.cells #[.int .i64 no, .int .i64 rc, .int .i64 cl, .int .i64 dr, .int .i64 si, t] 24)).alloc (.cells #[.int .i64 0, .int .i64 0] 27)) := belowAl (belowAl (Below.refl _ _) _) _
  have hG0 : ((w.alloc (.cells #[.int .i64 no, .int .i64 rc, .int .i64 cl, .int .i64 dr, .int .i64 si, t] 24)).alloc (.cells #[.int .i64 0, .int .i64 0] 27)).heap[w.heap.size]? = some (.cells #[.int .i64 no, .int .i64 rc, .int .i64 cl, .int .i64 dr, .int .i64 si, t] 24 (0, 0)) := alFar _ (World.alloc_heap_new w _)
  have hZ0 : ((w.alloc (.cells #[.int .i64 no, .int .i64 rc, .int .i64 cl, .int .i64 dr, .int .i64 si, t] 24)).alloc (.cells #[.int .i64 0, .int .i64 0] 27)).heap[w.heap.size + 1]? = some (.cells #[.int .i64 0, .int .i64 0] 27 (0, 0)) := by
    have := World.alloc_heap_new (w.alloc (.cells #[.int .i64 no, .int .i64 rc, .int .i64 cl, .int .i64 dr, .int .i64 si, t] 24)) (.cells #[.int .i64 0, .int .i64 0] 27)
    simpa using this
  go_enter Try.func11, Try.ntmps11
  go_wp2_with fail
  refine (rcheck_any no rc cl dr si t pts _ hS0).mono ?_; rintro e w1 ⟨rfl, hB1⟩
  have hG := (hB1.block w.heap.size (by simp <;> omega)).trans hG0
  have hZ := (hB1.block (w.heap.size + 1) (by simp <;> omega)).trans hZ0
  have hsz : w.heap.size + 2 ≤ w1.heap.size := by have := hB1.size; simp at this; omega
  have hBw := thenB hB0 hB1
  clear hB1 hG0 hZ0 hB0 hS0
  have g0 := cellEq (i := 0) hG; have g1 := cellEq (i := 1) hG; have g2 := cellEq (i := 2) hG; have g3 := cellEq (i := 3) hG; have g4 := cellEq (i := 4) hG; have g5 := cellEq (i := 5) hG
  have z0 := cellEq (i := 0) hZ; have z1 := cellEq (i := 1) hZ; have f0 := frozenEq (i := 0) hZ; have f1 := frozenEq (i := 1) hZ
  simp only [List.getElem?_toArray, List.getElem?_cons_zero, List.getElem?_cons_succ] at g0 g1 g2 g3 g4 g5 z0 z1
  have hne : (chk no rc cl dr si pts != 0) = true := by simpa using hc
  obtain ⟨c, hcc⟩ : ∃ c, c = chk no rc cl dr si pts := ⟨_, rfl⟩
  rw [← hcc] at hne ⊢
  have HC := Lib.hid hcc
  clear hcc hc
  go_wp2_with fail
  refine bodyPost_ret (v := .tuple #[.agg #[.int .i64 0, .int .i64 0], .int .i64 c]) (by simp [results, Try.results11, go_sem, z0, z1, f0, f1]) rfl ?_
  exact ⟨by rw [HC.out], by repeat' (first | exact hBw | refine belowAl ?_ _ | refine belowDr ?_ | refine belowDn ?_ _ | refine Below.setCell ?_ (by simp <;> omega) _)⟩
set_option maxRecDepth 100000 in
set_option maxHeartbeats 2000000 in
theorem RFlow_arg (no rc cl dr si st : Int) (t : Value) (pts : List (Int × Int)) (hc : chk no rc cl dr si pts = 0) (hst : inB st 1048576 = false) (w : World) (hs : PtSl w t pts) :
    Calls Try.prog 11 #[gv no rc cl dr si t, .int .i64 st] w fun e w' => e = .returned (.tuple #[.agg #[.int .i64 0, .int .i64 0], .int .i64 1]) ∧ Below w.heap.size w w' := by
  have hs' := Lib.hid hs
  have hS0 : PtSl ((w.alloc (.cells #[.int .i64 no, .int .i64 rc, .int .i64 cl, .int .i64 dr, .int .i64 si, t] 24)).alloc (.cells #[.int .i64 0, .int .i64 0] 27)) t pts := hs.below (belowAl (belowAl (Below.refl _ _) _) _)
  have hB0 : Below w.heap.size w ((w.alloc (.cells #[.int .i64 no, .int .i64 rc, .int .i64 cl, .int .i64 dr, .int .i64 si, t] 24)).alloc (.cells #[.int .i64 0, .int .i64 0] 27)) := belowAl (belowAl (Below.refl _ _) _) _
  have hG0 : ((w.alloc (.cells #[.int .i64 no, .int .i64 rc, .int .i64 cl, .int .i64 dr, .int .i64 si, t] 24)).alloc (.cells #[.int .i64 0, .int .i64 0] 27)).heap[w.heap.size]? = some (.cells #[.int .i64 no, .int .i64 rc, .int .i64 cl, .int .i64 dr, .int .i64 si, t] 24 (0, 0)) := alFar _ (World.alloc_heap_new w _)
  have hZ0 : ((w.alloc (.cells #[.int .i64 no, .int .i64 rc, .int .i64 cl, .int .i64 dr, .int .i64 si, t] 24)).alloc (.cells #[.int .i64 0, .int .i64 0] 27)).heap[w.heap.size + 1]? = some (.cells #[.int .i64 0, .int .i64 0] 27 (0, 0)) := by
    have := World.alloc_heap_new (w.alloc (.cells #[.int .i64 no, .int .i64 rc, .int .i64 cl, .int .i64 dr, .int .i64 si, t] 24)) (.cells #[.int .i64 0, .int .i64 0] 27)
    simpa using this
  go_enter Try.func11, Try.ntmps11
  go_wp2_with fail
  refine (rcheck_any no rc cl dr si t pts _ hS0).mono ?_; rintro e w1 ⟨rfl, hB1⟩
  have hG := (hB1.block w.heap.size (by simp <;> omega)).trans hG0
  have hZ := (hB1.block (w.heap.size + 1) (by simp <;> omega)).trans hZ0
  have hsz : w.heap.size + 2 ≤ w1.heap.size := by have := hB1.size; simp at this; omega
  have hBw := thenB hB0 hB1
  clear hB1 hG0 hZ0 hB0 hS0
  have g0 := cellEq (i := 0) hG; have g1 := cellEq (i := 1) hG; have g2 := cellEq (i := 2) hG; have g3 := cellEq (i := 3) hG; have g4 := cellEq (i := 4) hG; have g5 := cellEq (i := 5) hG
  have z0 := cellEq (i := 0) hZ; have z1 := cellEq (i := 1) hZ; have f0 := frozenEq (i := 0) hZ; have f1 := frozenEq (i := 1) hZ
  simp only [List.getElem?_toArray, List.getElem?_cons_zero, List.getElem?_cons_succ] at g0 g1 g2 g3 g4 g5 z0 z1
  rw [hc]
  go_wp2_with fail
  refine (rwithin_any st 1048576 _).mono ?_; rintro e w' ⟨rfl, rfl⟩; rw [hst]
  go_wp2_with fail
  refine bodyPost_ret (v := (.tuple #[.agg #[.int .i64 0, .int .i64 0], .int .i64 1])) (by simp [results, Try.results11, go_sem, z0, z1, f0, f1]) rfl ?_
  exact ⟨rfl, by repeat' (first | exact hBw | refine belowAl ?_ _ | refine belowDr ?_ | refine belowDn ?_ _ | refine Below.setCell ?_ (by simp <;> omega) _)⟩
set_option maxRecDepth 100000 in
set_option maxHeartbeats 2000000 in
theorem RFlow_ok (no rc cl dr si st : Int) (t : Value) (pts : List (Int × Int)) (hc : chk no rc cl dr si pts = 0) (hst : inB st 1048576 = true) (w : World) (hs : PtSl w t pts) :
    Calls Try.prog 11 #[gv no rc cl dr si t, .int .i64 st] w fun e w' => e = .returned (.tuple #[.agg #[.int .i64 (lo pts st), .int .i64 (hi pts st)], .int .i64 0]) ∧ Below w.heap.size w w' := by
  have hT := (chk_tab hc).1
  have hst' := inB_t hst
  have hs' := Lib.hid hs
  have hS0 : PtSl ((w.alloc (.cells #[.int .i64 no, .int .i64 rc, .int .i64 cl, .int .i64 dr, .int .i64 si, t] 24)).alloc (.cells #[.int .i64 0, .int .i64 0] 27)) t pts := hs.below (belowAl (belowAl (Below.refl _ _) _) _)
  have hB0 : Below w.heap.size w ((w.alloc (.cells #[.int .i64 no, .int .i64 rc, .int .i64 cl, .int .i64 dr, .int .i64 si, t] 24)).alloc (.cells #[.int .i64 0, .int .i64 0] 27)) := belowAl (belowAl (Below.refl _ _) _) _
  have hG0 : ((w.alloc (.cells #[.int .i64 no, .int .i64 rc, .int .i64 cl, .int .i64 dr, .int .i64 si, t] 24)).alloc (.cells #[.int .i64 0, .int .i64 0] 27)).heap[w.heap.size]? = some (.cells #[.int .i64 no, .int .i64 rc, .int .i64 cl, .int .i64 dr, .int .i64 si, t] 24 (0, 0)) := alFar _ (World.alloc_heap_new w _)
  have hZ0 : ((w.alloc (.cells #[.int .i64 no, .int .i64 rc, .int .i64 cl, .int .i64 dr, .int .i64 si, t] 24)).alloc (.cells #[.int .i64 0, .int .i64 0] 27)).heap[w.heap.size + 1]? = some (.cells #[.int .i64 0, .int .i64 0] 27 (0, 0)) := by
    have := World.alloc_heap_new (w.alloc (.cells #[.int .i64 no, .int .i64 rc, .int .i64 cl, .int .i64 dr, .int .i64 si, t] 24)) (.cells #[.int .i64 0, .int .i64 0] 27)
    simpa using this
  go_enter Try.func11, Try.ntmps11
  go_wp2_with fail
  refine (rcheck_any no rc cl dr si t pts _ hS0).mono ?_; rintro e w1 ⟨rfl, hB1⟩
  have hG := (hB1.block w.heap.size (by simp <;> omega)).trans hG0
  have hZ := (hB1.block (w.heap.size + 1) (by simp <;> omega)).trans hZ0
  have hsz : w.heap.size + 2 ≤ w1.heap.size := by have := hB1.size; simp at this; omega
  have hBw := thenB hB0 hB1
  clear hB1 hG0 hZ0 hB0 hS0
  have g0 := cellEq (i := 0) hG; have g1 := cellEq (i := 1) hG; have g2 := cellEq (i := 2) hG; have g3 := cellEq (i := 3) hG; have g4 := cellEq (i := 4) hG; have g5 := cellEq (i := 5) hG
  have z0 := cellEq (i := 0) hZ; have z1 := cellEq (i := 1) hZ; have f0 := frozenEq (i := 0) hZ; have f1 := frozenEq (i := 1) hZ
  simp only [List.getElem?_toArray, List.getElem?_cons_zero, List.getElem?_cons_succ] at g0 g1 g2 g3 g4 g5 z0 z1
  rw [hc]
  go_wp2_with fail
  refine (rwithin_any st 1048576 _).mono ?_; rintro e w' ⟨rfl, rfl⟩; rw [hst]
  go_wp2_with fail
  refine (rflow_any no rc cl dr si st t pts hT hst' _ (hs'.out.below hBw)).mono ?_; rintro e w2 ⟨rfl, hB2⟩
  clear f0 f1 z0 z1 g0 g1 g2 g3 g4 g5
  have hZ2 := (hB2.block (w.heap.size + 1) (by omega)).trans hZ
  have hG2 := (hB2.block w.heap.size (by omega)).trans hG
  have hBw2 := thenB hBw hB2
  have hsz2 : w.heap.size + 2 ≤ w2.heap.size := by have := hB2.size; omega
  have z0 := cellEq (i := 0) hZ2; have z1 := cellEq (i := 1) hZ2; have f0 := frozenEq (i := 0) hZ2; have f1 := frozenEq (i := 1) hZ2
  simp only [List.getElem?_toArray, List.getElem?_cons_zero, List.getElem?_cons_succ] at z0 z1
  go_wp2_with fail
  refine bodyPost_ret (v := (.tuple #[.agg #[.int .i64 (lo pts st), .int .i64 (hi pts st)], .int .i64 0])) (by simp [results, Try.results11, go_sem, z0, z1, f0, f1]) rfl ?_
  exact ⟨rfl, by repeat' (first | exact hBw2 | refine belowAl ?_ _ | refine belowDr ?_ | refine belowDn ?_ _ | refine Below.setCell ?_ (by simp <;> omega) _)⟩
set_option maxHeartbeats 1000000 in
theorem rerror_any (no rc cl dr si hour : Int) (t : Value) (hcl : 0 ≤ cl ∧ cl ≤ 1000) (hdr : 0 ≤ dr ∧ dr ≤ 1000) (hsi : 0 ≤ si ∧ si ≤ 4096) (hho : 0 ≤ hour ∧ hour ≤ 4096) (w : World) :
    Calls Try.prog 23 #[gv no rc cl dr si t, .int .i64 hour] w fun e w' => e = .returned (.int .i64 (offV cl dr si hour)) ∧ Below w.heap.size w w' := by
  have HB := offV_bd hcl hdr hsi.1 hho.2
  have HO := Lib.hid (show offV cl dr si hour = cl + dr * (max 0 (hour - si) / 24) from rfl)
  by_cases h : si < hour
  · rw [show max 0 (hour - si) = hour - si from by omega] at HB HO
    go_enter Try.func23, Try.ntmps23
    go_wp2_with fail
    go_ret
    exact ⟨ret_int (by rw [HO.out]; done), belowAl (Below.refl _ _) _⟩
  · rw [show max 0 (hour - si) = 0 from by omega] at HB HO
    go_enter Try.func23, Try.ntmps23
    go_wp2_with fail
    go_ret
    exact ⟨ret_int (by rw [HO.out]; simp), belowAl (Below.refl _ _) _⟩
set_option maxRecDepth 100000 in
set_option maxHeartbeats 2000000 in
theorem RRead_bad (no rc cl dr si st hour : Int) (t : Value) (pts : List (Int × Int)) (hc : chk no rc cl dr si pts ≠ 0) (w : World) (hs : PtSl w t pts) :
    Calls Try.prog 15 #[gv no rc cl dr si t, .int .i64 st, .int .i64 hour] w fun e w' => e = .returned (.tuple #[.agg #[.int .i64 0, .int .i64 0], .int .i64 (chk no rc cl dr si pts)]) ∧ Below w.heap.size w w' := by
  have hs' := Lib.hid hs
  have hS0 : PtSl ((w.alloc (.cells #[.int .i64 no, .int .i64 rc, .int .i64 cl, .int .i64 dr, .int .i64 si, t] 24)).alloc (.cells #[.int .i64 0, .int .i64 0] 27)) t pts := hs.below (belowAl (belowAl (Below.refl _ _) _) _)
  have hB0 : Below w.heap.size w ((w.alloc (.cells #[.int .i64 no, .int .i64 rc, .int .i64 cl, .int .i64 dr, .int .i64 si, t] 24)).alloc (.cells #[.int .i64 0, .int .i64 0] 27)) := belowAl (belowAl (Below.refl _ _) _) _
  have hG0 : ((w.alloc (.cells #[.int .i64 no, .int .i64 rc, .int .i64 cl, .int .i64 dr, .int .i64 si, t] 24)).alloc (.cells #[.int .i64 0, .int .i64 0] 27)).heap[w.heap.size]? = some (.cells #[.int .i64 no, .int .i64 rc, .int .i64 cl, .int .i64 dr, .int .i64 si, t] 24 (0, 0)) := alFar _ (World.alloc_heap_new w _)
  have hZ0 : ((w.alloc (.cells #[.int .i64 no, .int .i64 rc, .int .i64 cl, .int .i64 dr, .int .i64 si, t] 24)).alloc (.cells #[.int .i64 0, .int .i64 0] 27)).heap[w.heap.size + 1]? = some (.cells #[.int .i64 0, .int .i64 0] 27 (0, 0)) := by
    have := World.alloc_heap_new (w.alloc (.cells #[.int .i64 no, .int .i64 rc, .int .i64 cl, .int .i64 dr, .int .i64 si, t] 24)) (.cells #[.int .i64 0, .int .i64 0] 27)
    simpa using this
  go_enter Try.func15, Try.ntmps15
  go_wp2_with fail
  refine (rcheck_any no rc cl dr si t pts _ hS0).mono ?_; rintro e w1 ⟨rfl, hB1⟩
  have hG := (hB1.block w.heap.size (by simp <;> omega)).trans hG0
  have hZ := (hB1.block (w.heap.size + 1) (by simp <;> omega)).trans hZ0
  have hsz : w.heap.size + 2 ≤ w1.heap.size := by have := hB1.size; simp at this; omega
  have hBw := thenB hB0 hB1
  clear hB1 hG0 hZ0 hB0 hS0
  have g0 := cellEq (i := 0) hG; have g1 := cellEq (i := 1) hG; have g2 := cellEq (i := 2) hG; have g3 := cellEq (i := 3) hG; have g4 := cellEq (i := 4) hG; have g5 := cellEq (i := 5) hG
  have z0 := cellEq (i := 0) hZ; have z1 := cellEq (i := 1) hZ; have f0 := frozenEq (i := 0) hZ; have f1 := frozenEq (i := 1) hZ
  simp only [List.getElem?_toArray, List.getElem?_cons_zero, List.getElem?_cons_succ] at g0 g1 g2 g3 g4 g5 z0 z1
  have hne : (chk no rc cl dr si pts != 0) = true := by simpa using hc
  obtain ⟨c, hcc⟩ : ∃ c, c = chk no rc cl dr si pts := ⟨_, rfl⟩
  rw [← hcc] at hne ⊢
  have HC := Lib.hid hcc
  clear hcc hc
  go_wp2_with fail
  refine bodyPost_ret (v := .tuple #[.agg #[.int .i64 0, .int .i64 0], .int .i64 c]) (by simp [results, Try.results15, go_sem, z0, z1, f0, f1]) rfl ?_
  exact ⟨by rw [HC.out], by repeat' (first | exact hBw | refine belowAl ?_ _ | refine belowDr ?_ | refine belowDn ?_ _ | refine Below.setCell ?_ (by simp <;> omega) _)⟩
set_option maxRecDepth 100000 in
set_option maxHeartbeats 2000000 in
theorem RRead_arg1 (no rc cl dr si st hour : Int) (t : Value) (pts : List (Int × Int)) (hc : chk no rc cl dr si pts = 0) (hst : inB st 1048576 = false) (w : World) (hs : PtSl w t pts) :
    Calls Try.prog 15 #[gv no rc cl dr si t, .int .i64 st, .int .i64 hour] w fun e w' => e = .returned (.tuple #[.agg #[.int .i64 0, .int .i64 0], .int .i64 1]) ∧ Below w.heap.size w w' := by
  have hs' := Lib.hid hs
  have hS0 : PtSl ((w.alloc (.cells #[.int .i64 no, .int .i64 rc, .int .i64 cl, .int .i64 dr, .int .i64 si, t] 24)).alloc (.cells #[.int .i64 0, .int .i64 0] 27)) t pts := hs.below (belowAl (belowAl (Below.refl _ _) _) _)
  have hB0 : Below w.heap.size w ((w.alloc (.cells #[.int .i64 no, .int .i64 rc, .int .i64 cl, .int .i64 dr, .int .i64 si, t] 24)).alloc (.cells #[.int .i64 0, .int .i64 0] 27)) := belowAl (belowAl (Below.refl _ _) _) _
  have hG0 : ((w.alloc (.cells #[.int .i64 no, .int .i64 rc, .int .i64 cl, .int .i64 dr, .int .i64 si, t] 24)).alloc (.cells #[.int .i64 0, .int .i64 0] 27)).heap[w.heap.size]? = some (.cells #[.int .i64 no, .int .i64 rc, .int .i64 cl, .int .i64 dr, .int .i64 si, t] 24 (0, 0)) := alFar _ (World.alloc_heap_new w _)
  have hZ0 : ((w.alloc (.cells #[.int .i64 no, .int .i64 rc, .int .i64 cl, .int .i64 dr, .int .i64 si, t] 24)).alloc (.cells #[.int .i64 0, .int .i64 0] 27)).heap[w.heap.size + 1]? = some (.cells #[.int .i64 0, .int .i64 0] 27 (0, 0)) := by
    have := World.alloc_heap_new (w.alloc (.cells #[.int .i64 no, .int .i64 rc, .int .i64 cl, .int .i64 dr, .int .i64 si, t] 24)) (.cells #[.int .i64 0, .int .i64 0] 27)
    simpa using this
  go_enter Try.func15, Try.ntmps15
  go_wp2_with fail
  refine (rcheck_any no rc cl dr si t pts _ hS0).mono ?_; rintro e w1 ⟨rfl, hB1⟩
  have hG := (hB1.block w.heap.size (by simp <;> omega)).trans hG0
  have hZ := (hB1.block (w.heap.size + 1) (by simp <;> omega)).trans hZ0
  have hsz : w.heap.size + 2 ≤ w1.heap.size := by have := hB1.size; simp at this; omega
  have hBw := thenB hB0 hB1
  clear hB1 hG0 hZ0 hB0 hS0
  have g0 := cellEq (i := 0) hG; have g1 := cellEq (i := 1) hG; have g2 := cellEq (i := 2) hG; have g3 := cellEq (i := 3) hG; have g4 := cellEq (i := 4) hG; have g5 := cellEq (i := 5) hG
  have z0 := cellEq (i := 0) hZ; have z1 := cellEq (i := 1) hZ; have f0 := frozenEq (i := 0) hZ; have f1 := frozenEq (i := 1) hZ
  simp only [List.getElem?_toArray, List.getElem?_cons_zero, List.getElem?_cons_succ] at g0 g1 g2 g3 g4 g5 z0 z1
  rw [hc]
  go_wp2_with fail
  refine (rwithin_any st 1048576 _).mono ?_; rintro e w' ⟨rfl, rfl⟩; rw [hst]
  go_wp2_with fail
  refine bodyPost_ret (v := (.tuple #[.agg #[.int .i64 0, .int .i64 0], .int .i64 1])) (by simp [results, Try.results15, go_sem, z0, z1, f0, f1]) rfl ?_
  exact ⟨rfl, by repeat' (first | exact hBw | refine belowAl ?_ _ | refine belowDr ?_ | refine belowDn ?_ _ | refine Below.setCell ?_ (by simp <;> omega) _)⟩
set_option maxRecDepth 100000 in
set_option maxHeartbeats 2000000 in
theorem RRead_arg2 (no rc cl dr si st hour : Int) (t : Value) (pts : List (Int × Int)) (hc : chk no rc cl dr si pts = 0) (hst : inB st 1048576 = true) (hho : inB hour 4096 = false) (w : World) (hs : PtSl w t pts) :
    Calls Try.prog 15 #[gv no rc cl dr si t, .int .i64 st, .int .i64 hour] w fun e w' => e = .returned (.tuple #[.agg #[.int .i64 0, .int .i64 0], .int .i64 1]) ∧ Below w.heap.size w w' := by
  have hs' := Lib.hid hs
  have hS0 : PtSl ((w.alloc (.cells #[.int .i64 no, .int .i64 rc, .int .i64 cl, .int .i64 dr, .int .i64 si, t] 24)).alloc (.cells #[.int .i64 0, .int .i64 0] 27)) t pts := hs.below (belowAl (belowAl (Below.refl _ _) _) _)
  have hB0 : Below w.heap.size w ((w.alloc (.cells #[.int .i64 no, .int .i64 rc, .int .i64 cl, .int .i64 dr, .int .i64 si, t] 24)).alloc (.cells #[.int .i64 0, .int .i64 0] 27)) := belowAl (belowAl (Below.refl _ _) _) _
  have hG0 : ((w.alloc (.cells #[.int .i64 no, .int .i64 rc, .int .i64 cl, .int .i64 dr, .int .i64 si, t] 24)).alloc (.cells #[.int .i64 0, .int .i64 0] 27)).heap[w.heap.size]? = some (.cells #[.int .i64 no, .int .i64 rc, .int .i64 cl, .int .i64 dr, .int .i64 si, t] 24 (0, 0)) := alFar _ (World.alloc_heap_new w _)
  have hZ0 : ((w.alloc (.cells #[.int .i64 no, .int .i64 rc, .int .i64 cl, .int .i64 dr, .int .i64 si, t] 24)).alloc (.cells #[.int .i64 0, .int .i64 0] 27)).heap[w.heap.size + 1]? = some (.cells #[.int .i64 0, .int .i64 0] 27 (0, 0)) := by
    have := World.alloc_heap_new (w.alloc (.cells #[.int .i64 no, .int .i64 rc, .int .i64 cl, .int .i64 dr, .int .i64 si, t] 24)) (.cells #[.int .i64 0, .int .i64 0] 27)
    simpa using this
  go_enter Try.func15, Try.ntmps15
  go_wp2_with fail
  refine (rcheck_any no rc cl dr si t pts _ hS0).mono ?_; rintro e w1 ⟨rfl, hB1⟩
  have hG := (hB1.block w.heap.size (by simp <;> omega)).trans hG0
  have hZ := (hB1.block (w.heap.size + 1) (by simp <;> omega)).trans hZ0
  have hsz : w.heap.size + 2 ≤ w1.heap.size := by have := hB1.size; simp at this; omega
  have hBw := thenB hB0 hB1
  clear hB1 hG0 hZ0 hB0 hS0
  have g0 := cellEq (i := 0) hG; have g1 := cellEq (i := 1) hG; have g2 := cellEq (i := 2) hG; have g3 := cellEq (i := 3) hG; have g4 := cellEq (i := 4) hG; have g5 := cellEq (i := 5) hG
  have z0 := cellEq (i := 0) hZ; have z1 := cellEq (i := 1) hZ; have f0 := frozenEq (i := 0) hZ; have f1 := frozenEq (i := 1) hZ
  simp only [List.getElem?_toArray, List.getElem?_cons_zero, List.getElem?_cons_succ] at g0 g1 g2 g3 g4 g5 z0 z1
  rw [hc]
  go_wp2_with fail
  refine (rwithin_any st 1048576 _).mono ?_; rintro e w' ⟨rfl, rfl⟩; rw [hst]
  go_wp2_with fail
  refine (rwithin_any hour 4096 _).mono ?_; rintro e w' ⟨rfl, rfl⟩; rw [hho]
  go_wp2_with fail
  refine bodyPost_ret (v := (.tuple #[.agg #[.int .i64 0, .int .i64 0], .int .i64 1])) (by simp [results, Try.results15, go_sem, z0, z1, f0, f1]) rfl ?_
  exact ⟨rfl, by repeat' (first | exact hBw | refine belowAl ?_ _ | refine belowDr ?_ | refine belowDn ?_ _ | refine Below.setCell ?_ (by simp <;> omega) _)⟩
set_option maxRecDepth 100000 in
set_option maxHeartbeats 2000000 in
theorem RRead_c0 (no rc cl dr si st hour : Int) (t : Value) (pts : List (Int × Int)) (of l0 h0 l1 h1 : Int) (ob : 0 ≤ of ∧ of ≤ 172000) (ha : of < st) (hb : st + of < 1048576) (hc : chk no rc cl dr si pts = 0) (hst : inB st 1048576 = true) (hho : inB hour 4096 = true) (HE : ∀ w, Calls Try.prog 23 #[gv no rc cl dr si t, .int .i64 hour] w fun e w' => e = .returned (.int .i64 of) ∧ Below w.heap.size w w') (hL0 : ∀ w, PtSl w t pts → Calls Try.prog 21 #[gv no rc cl dr si t, .int .i64 (st - of)] w fun e w' => e = .returned (.agg #[.int .i64 l0, .int .i64 h0]) ∧ Below w.heap.size w w') (hL1 : ∀ w, PtSl w t pts → Calls Try.prog 21 #[gv no rc cl dr si t, .int .i64 (st + of)] w fun e w' => e = .returned (.agg #[.int .i64 l1, .int .i64 h1]) ∧ Below w.heap.size w w') (w : World) (hs : PtSl w t pts) :
    Calls Try.prog 15 #[gv no rc cl dr si t, .int .i64 st, .int .i64 hour] w fun e w' => e = .returned (.tuple #[.agg #[.int .i64 l0, .int .i64 h1], .int .i64 0]) ∧ Below w.heap.size w w' := by
  have hst' := inB_t hst
  have hho' := inB_t hho
  replace HE := Lib.hid HE
  replace hL0 := Lib.hid hL0
  replace hL1 := Lib.hid hL1
  have hs' := Lib.hid hs
  have hS0 : PtSl ((w.alloc (.cells #[.int .i64 no, .int .i64 rc, .int .i64 cl, .int .i64 dr, .int .i64 si, t] 24)).alloc (.cells #[.int .i64 0, .int .i64 0] 27)) t pts := hs.below (belowAl (belowAl (Below.refl _ _) _) _)
  have hB0 : Below w.heap.size w ((w.alloc (.cells #[.int .i64 no, .int .i64 rc, .int .i64 cl, .int .i64 dr, .int .i64 si, t] 24)).alloc (.cells #[.int .i64 0, .int .i64 0] 27)) := belowAl (belowAl (Below.refl _ _) _) _
  have hG0 : ((w.alloc (.cells #[.int .i64 no, .int .i64 rc, .int .i64 cl, .int .i64 dr, .int .i64 si, t] 24)).alloc (.cells #[.int .i64 0, .int .i64 0] 27)).heap[w.heap.size]? = some (.cells #[.int .i64 no, .int .i64 rc, .int .i64 cl, .int .i64 dr, .int .i64 si, t] 24 (0, 0)) := alFar _ (World.alloc_heap_new w _)
  have hZ0 : ((w.alloc (.cells #[.int .i64 no, .int .i64 rc, .int .i64 cl, .int .i64 dr, .int .i64 si, t] 24)).alloc (.cells #[.int .i64 0, .int .i64 0] 27)).heap[w.heap.size + 1]? = some (.cells #[.int .i64 0, .int .i64 0] 27 (0, 0)) := by
    have := World.alloc_heap_new (w.alloc (.cells #[.int .i64 no, .int .i64 rc, .int .i64 cl, .int .i64 dr, .int .i64 si, t] 24)) (.cells #[.int .i64 0, .int .i64 0] 27)
    simpa using this
  go_enter Try.func15, Try.ntmps15
  go_wp2_with fail
  refine (rcheck_any no rc cl dr si t pts _ hS0).mono ?_; rintro e w1 ⟨rfl, hB1⟩
  have hG := (hB1.block w.heap.size (by simp <;> omega)).trans hG0
  have hZ := (hB1.block (w.heap.size + 1) (by simp <;> omega)).trans hZ0
  have hsz : w.heap.size + 2 ≤ w1.heap.size := by have := hB1.size; simp at this; omega
  have hBw := thenB hB0 hB1
  clear hB1 hG0 hZ0 hB0 hS0
  have g0 := cellEq (i := 0) hG; have g1 := cellEq (i := 1) hG; have g2 := cellEq (i := 2) hG; have g3 := cellEq (i := 3) hG; have g4 := cellEq (i := 4) hG; have g5 := cellEq (i := 5) hG
  have z0 := cellEq (i := 0) hZ; have z1 := cellEq (i := 1) hZ; have f0 := frozenEq (i := 0) hZ; have f1 := frozenEq (i := 1) hZ
  simp only [List.getElem?_toArray, List.getElem?_cons_zero, List.getElem?_cons_succ] at g0 g1 g2 g3 g4 g5 z0 z1
  rw [hc]
  go_wp2_with fail
  refine (rwithin_any st 1048576 _).mono ?_; rintro e w' ⟨rfl, rfl⟩; rw [hst]
  go_wp2_with fail
  refine (rwithin_any hour 4096 _).mono ?_; rintro e w' ⟨rfl, rfl⟩; rw [hho]
  go_wp2_with fail
  refine (HE.out _).mono ?_; rintro e w2 ⟨rfl, hB2⟩
  clear f0 f1 z0 z1 g0 g1 g2 g3 g4 g5
  have hZ2 := (hB2.block (w.heap.size + 1) (by omega)).trans hZ
  have hG2 := (hB2.block w.heap.size (by omega)).trans hG
  have hBw2 := thenB hBw hB2
  have hsz2 : w.heap.size + 2 ≤ w2.heap.size := by have := hB2.size; omega
  clear hBw hZ hG hB2
  have g0 := cellEq (i := 0) hG2; have g1 := cellEq (i := 1) hG2; have g2 := cellEq (i := 2) hG2; have g3 := cellEq (i := 3) hG2; have g4 := cellEq (i := 4) hG2; have g5 := cellEq (i := 5) hG2
  simp only [List.getElem?_toArray, List.getElem?_cons_zero, List.getElem?_cons_succ] at g0 g1 g2 g3 g4 g5
  go_wp2_with fail
  refine (hL0.out _ (hs'.out.below hBw2)).mono ?_; rintro e w3 ⟨rfl, hB3⟩
  have hZ3 := (hB3.block (w.heap.size + 1) (by omega)).trans hZ2
  have hG3 := (hB3.block w.heap.size (by omega)).trans hG2
  have hBw3 := thenB hBw2 hB3
  have hsz3 : w.heap.size + 2 ≤ w3.heap.size := by have := hB3.size; omega
  clear hB3 hZ2 hG2 g0 g1 g2 g3 g4 g5
  have hG3' := alFar (.cells #[.int .i64 l0, .int .i64 h0] 27) hG3
  have g0 := cellEq (i := 0) hG3'; have g1 := cellEq (i := 1) hG3'; have g2 := cellEq (i := 2) hG3'; have g3 := cellEq (i := 3) hG3'; have g4 := cellEq (i := 4) hG3'; have g5 := cellEq (i := 5) hG3'
  clear hG3'
  simp only [List.getElem?_toArray, List.getElem?_cons_zero, List.getElem?_cons_succ] at g0 g1 g2 g3 g4 g5
  go_wp2_with fail
  refine (hL1.out _ (hs'.out.below (belowAl hBw3 _))).mono ?_; rintro e w4 ⟨rfl, hB4⟩
  have hZ4 := (hB4.block (w.heap.size + 1) (by simp; omega)).trans (alFar (.cells #[.int .i64 l0, .int .i64 h0] 27) hZ3)
  have hY4 := (hB4.block w3.heap.size (by simp)).trans (World.alloc_heap_new w3 (.cells #[.int .i64 l0, .int .i64 h0] 27))
  have hBw4 := thenB (belowAl hBw3 _) hB4
  have hsz4 : w3.heap.size + 1 ≤ w4.heap.size := by have := hB4.size; simpa using this
  clear hB4 hZ3 hG3 g0 g1 g2 g3 g4 g5
  have hY5 := alFar (.cells #[.int .i64 l1, .int .i64 h1] 27) hY4
  have y0 := cellEq (i := 0) hY5
  have hZ5 := alFar (.cells #[.int .i64 l1, .int .i64 h1] 27) hZ4
  have z0 := cellEq (i := 0) hZ5; have z1 := cellEq (i := 1) hZ5; have f0 := frozenEq (i := 0) hZ5; have f1 := frozenEq (i := 1) hZ5
  simp only [List.getElem?_toArray, List.getElem?_cons_zero, List.getElem?_cons_succ] at y0 z0 z1
  go_wp2_with fail
  refine bodyPost_ret (v := (.tuple #[.agg #[.int .i64 l0, .int .i64 h1], .int .i64 0])) (by simp [results, Try.results15, go_sem, z0, z1, f0, f1]) rfl ?_
  exact ⟨rfl, by repeat' (first | exact hBw4 | refine belowAl ?_ _ | refine belowDr ?_ | refine belowDn ?_ _ | refine Below.setCell ?_ (by simp <;> omega) _)⟩
set_option maxRecDepth 100000 in
set_option maxHeartbeats 2000000 in
theorem RRead_c1 (no rc cl dr si st hour : Int) (t : Value) (pts : List (Int × Int)) (of l0 h0 l1 h1 : Int) (ob : 0 ≤ of ∧ of ≤ 172000) (ha : of < st) (hb : 1048576 ≤ st + of) (hc : chk no rc cl dr si pts = 0) (hst : inB st 1048576 = true) (hho : inB hour 4096 = true) (HE : ∀ w, Calls Try.prog 23 #[gv no rc cl dr si t, .int .i64 hour] w fun e w' => e = .returned (.int .i64 of) ∧ Below w.heap.size w w') (hL0 : ∀ w, PtSl w t pts → Calls Try.prog 21 #[gv no rc cl dr si t, .int .i64 (st - of)] w fun e w' => e = .returned (.agg #[.int .i64 l0, .int .i64 h0]) ∧ Below w.heap.size w w') (hL1 : ∀ w, PtSl w t pts → Calls Try.prog 21 #[gv no rc cl dr si t, .int .i64 1048576] w fun e w' => e = .returned (.agg #[.int .i64 l1, .int .i64 h1]) ∧ Below w.heap.size w w') (w : World) (hs : PtSl w t pts) :
    Calls Try.prog 15 #[gv no rc cl dr si t, .int .i64 st, .int .i64 hour] w fun e w' => e = .returned (.tuple #[.agg #[.int .i64 l0, .int .i64 h1], .int .i64 0]) ∧ Below w.heap.size w w' := by
  have hst' := inB_t hst
  have hho' := inB_t hho
  replace HE := Lib.hid HE
  replace hL0 := Lib.hid hL0
  replace hL1 := Lib.hid hL1
  have hs' := Lib.hid hs
  have hS0 : PtSl ((w.alloc (.cells #[.int .i64 no, .int .i64 rc, .int .i64 cl, .int .i64 dr, .int .i64 si, t] 24)).alloc (.cells #[.int .i64 0, .int .i64 0] 27)) t pts := hs.below (belowAl (belowAl (Below.refl _ _) _) _)
  have hB0 : Below w.heap.size w ((w.alloc (.cells #[.int .i64 no, .int .i64 rc, .int .i64 cl, .int .i64 dr, .int .i64 si, t] 24)).alloc (.cells #[.int .i64 0, .int .i64 0] 27)) := belowAl (belowAl (Below.refl _ _) _) _
  have hG0 : ((w.alloc (.cells #[.int .i64 no, .int .i64 rc, .int .i64 cl, .int .i64 dr, .int .i64 si, t] 24)).alloc (.cells #[.int .i64 0, .int .i64 0] 27)).heap[w.heap.size]? = some (.cells #[.int .i64 no, .int .i64 rc, .int .i64 cl, .int .i64 dr, .int .i64 si, t] 24 (0, 0)) := alFar _ (World.alloc_heap_new w _)
  have hZ0 : ((w.alloc (.cells #[.int .i64 no, .int .i64 rc, .int .i64 cl, .int .i64 dr, .int .i64 si, t] 24)).alloc (.cells #[.int .i64 0, .int .i64 0] 27)).heap[w.heap.size + 1]? = some (.cells #[.int .i64 0, .int .i64 0] 27 (0, 0)) := by
    have := World.alloc_heap_new (w.alloc (.cells #[.int .i64 no, .int .i64 rc, .int .i64 cl, .int .i64 dr, .int .i64 si, t] 24)) (.cells #[.int .i64 0, .int .i64 0] 27)
    simpa using this
  go_enter Try.func15, Try.ntmps15
  go_wp2_with fail
  refine (rcheck_any no rc cl dr si t pts _ hS0).mono ?_; rintro e w1 ⟨rfl, hB1⟩
  have hG := (hB1.block w.heap.size (by simp <;> omega)).trans hG0
  have hZ := (hB1.block (w.heap.size + 1) (by simp <;> omega)).trans hZ0
  have hsz : w.heap.size + 2 ≤ w1.heap.size := by have := hB1.size; simp at this; omega
  have hBw := thenB hB0 hB1
  clear hB1 hG0 hZ0 hB0 hS0
  have g0 := cellEq (i := 0) hG; have g1 := cellEq (i := 1) hG; have g2 := cellEq (i := 2) hG; have g3 := cellEq (i := 3) hG; have g4 := cellEq (i := 4) hG; have g5 := cellEq (i := 5) hG
  have z0 := cellEq (i := 0) hZ; have z1 := cellEq (i := 1) hZ; have f0 := frozenEq (i := 0) hZ; have f1 := frozenEq (i := 1) hZ
  simp only [List.getElem?_toArray, List.getElem?_cons_zero, List.getElem?_cons_succ] at g0 g1 g2 g3 g4 g5 z0 z1
  rw [hc]
  go_wp2_with fail
  refine (rwithin_any st 1048576 _).mono ?_; rintro e w' ⟨rfl, rfl⟩; rw [hst]
  go_wp2_with fail
  refine (rwithin_any hour 4096 _).mono ?_; rintro e w' ⟨rfl, rfl⟩; rw [hho]
  go_wp2_with fail
  refine (HE.out _).mono ?_; rintro e w2 ⟨rfl, hB2⟩
  clear f0 f1 z0 z1 g0 g1 g2 g3 g4 g5
  have hZ2 := (hB2.block (w.heap.size + 1) (by omega)).trans hZ
  have hG2 := (hB2.block w.heap.size (by omega)).trans hG
  have hBw2 := thenB hBw hB2
  have hsz2 : w.heap.size + 2 ≤ w2.heap.size := by have := hB2.size; omega
  clear hBw hZ hG hB2
  have g0 := cellEq (i := 0) hG2; have g1 := cellEq (i := 1) hG2; have g2 := cellEq (i := 2) hG2; have g3 := cellEq (i := 3) hG2; have g4 := cellEq (i := 4) hG2; have g5 := cellEq (i := 5) hG2
  simp only [List.getElem?_toArray, List.getElem?_cons_zero, List.getElem?_cons_succ] at g0 g1 g2 g3 g4 g5
  go_wp2_with fail
  refine (hL0.out _ (hs'.out.below hBw2)).mono ?_; rintro e w3 ⟨rfl, hB3⟩
  have hZ3 := (hB3.block (w.heap.size + 1) (by omega)).trans hZ2
  have hG3 := (hB3.block w.heap.size (by omega)).trans hG2
  have hBw3 := thenB hBw2 hB3
  have hsz3 : w.heap.size + 2 ≤ w3.heap.size := by have := hB3.size; omega
  clear hB3 hZ2 hG2 g0 g1 g2 g3 g4 g5
  have hG3' := alFar (.cells #[.int .i64 l0, .int .i64 h0] 27) hG3
  have g0 := cellEq (i := 0) hG3'; have g1 := cellEq (i := 1) hG3'; have g2 := cellEq (i := 2) hG3'; have g3 := cellEq (i := 3) hG3'; have g4 := cellEq (i := 4) hG3'; have g5 := cellEq (i := 5) hG3'
  clear hG3'
  simp only [List.getElem?_toArray, List.getElem?_cons_zero, List.getElem?_cons_succ] at g0 g1 g2 g3 g4 g5
  go_wp2_with fail
  refine (hL1.out _ (hs'.out.below (belowAl hBw3 _))).mono ?_; rintro e w4 ⟨rfl, hB4⟩
  have hZ4 := (hB4.block (w.heap.size + 1) (by simp; omega)).trans (alFar (.cells #[.int .i64 l0, .int .i64 h0] 27) hZ3)
  have hY4 := (hB4.block w3.heap.size (by simp)).trans (World.alloc_heap_new w3 (.cells #[.int .i64 l0, .int .i64 h0] 27))
  have hBw4 := thenB (belowAl hBw3 _) hB4
  have hsz4 : w3.heap.size + 1 ≤ w4.heap.size := by have := hB4.size; simpa using this
  clear hB4 hZ3 hG3 g0 g1 g2 g3 g4 g5
  have hY5 := alFar (.cells #[.int .i64 l1, .int .i64 h1] 27) hY4
  have y0 := cellEq (i := 0) hY5
  have hZ5 := alFar (.cells #[.int .i64 l1, .int .i64 h1] 27) hZ4
  have z0 := cellEq (i := 0) hZ5; have z1 := cellEq (i := 1) hZ5; have f0 := frozenEq (i := 0) hZ5; have f1 := frozenEq (i := 1) hZ5
  simp only [List.getElem?_toArray, List.getElem?_cons_zero, List.getElem?_cons_succ] at y0 z0 z1
  go_wp2_with fail
  refine bodyPost_ret (v := (.tuple #[.agg #[.int .i64 l0, .int .i64 h1], .int .i64 0])) (by simp [results, Try.results15, go_sem, z0, z1, f0, f1]) rfl ?_
  exact ⟨rfl, by repeat' (first | exact hBw4 | refine belowAl ?_ _ | refine belowDr ?_ | refine belowDn ?_ _ | refine Below.setCell ?_ (by simp <;> omega) _)⟩
set_option maxRecDepth 100000 in
set_option maxHeartbeats 2000000 in
theorem RRead_c2 (no rc cl dr si st hour : Int) (t : Value) (pts : List (Int × Int)) (of l0 h0 l1 h1 : Int) (ob : 0 ≤ of ∧ of ≤ 172000) (ha : st ≤ of) (hb : st + of < 1048576) (hc : chk no rc cl dr si pts = 0) (hst : inB st 1048576 = true) (hho : inB hour 4096 = true) (HE : ∀ w, Calls Try.prog 23 #[gv no rc cl dr si t, .int .i64 hour] w fun e w' => e = .returned (.int .i64 of) ∧ Below w.heap.size w w') (hL0 : ∀ w, PtSl w t pts → Calls Try.prog 21 #[gv no rc cl dr si t, .int .i64 0] w fun e w' => e = .returned (.agg #[.int .i64 l0, .int .i64 h0]) ∧ Below w.heap.size w w') (hL1 : ∀ w, PtSl w t pts → Calls Try.prog 21 #[gv no rc cl dr si t, .int .i64 (st + of)] w fun e w' => e = .returned (.agg #[.int .i64 l1, .int .i64 h1]) ∧ Below w.heap.size w w') (w : World) (hs : PtSl w t pts) :
    Calls Try.prog 15 #[gv no rc cl dr si t, .int .i64 st, .int .i64 hour] w fun e w' => e = .returned (.tuple #[.agg #[.int .i64 l0, .int .i64 h1], .int .i64 0]) ∧ Below w.heap.size w w' := by
  have hst' := inB_t hst
  have hho' := inB_t hho
  replace HE := Lib.hid HE
  replace hL0 := Lib.hid hL0
  replace hL1 := Lib.hid hL1
  have hs' := Lib.hid hs
  have hS0 : PtSl ((w.alloc (.cells #[.int .i64 no, .int .i64 rc, .int .i64 cl, .int .i64 dr, .int .i64 si, t] 24)).alloc (.cells #[.int .i64 0, .int .i64 0] 27)) t pts := hs.below (belowAl (belowAl (Below.refl _ _) _) _)
  have hB0 : Below w.heap.size w ((w.alloc (.cells #[.int .i64 no, .int .i64 rc, .int .i64 cl, .int .i64 dr, .int .i64 si, t] 24)).alloc (.cells #[.int .i64 0, .int .i64 0] 27)) := belowAl (belowAl (Below.refl _ _) _) _
  have hG0 : ((w.alloc (.cells #[.int .i64 no, .int .i64 rc, .int .i64 cl, .int .i64 dr, .int .i64 si, t] 24)).alloc (.cells #[.int .i64 0, .int .i64 0] 27)).heap[w.heap.size]? = some (.cells #[.int .i64 no, .int .i64 rc, .int .i64 cl, .int .i64 dr, .int .i64 si, t] 24 (0, 0)) := alFar _ (World.alloc_heap_new w _)
  have hZ0 : ((w.alloc (.cells #[.int .i64 no, .int .i64 rc, .int .i64 cl, .int .i64 dr, .int .i64 si, t] 24)).alloc (.cells #[.int .i64 0, .int .i64 0] 27)).heap[w.heap.size + 1]? = some (.cells #[.int .i64 0, .int .i64 0] 27 (0, 0)) := by
    have := World.alloc_heap_new (w.alloc (.cells #[.int .i64 no, .int .i64 rc, .int .i64 cl, .int .i64 dr, .int .i64 si, t] 24)) (.cells #[.int .i64 0, .int .i64 0] 27)
    simpa using this
  go_enter Try.func15, Try.ntmps15
  go_wp2_with fail
  refine (rcheck_any no rc cl dr si t pts _ hS0).mono ?_; rintro e w1 ⟨rfl, hB1⟩
  have hG := (hB1.block w.heap.size (by simp <;> omega)).trans hG0
  have hZ := (hB1.block (w.heap.size + 1) (by simp <;> omega)).trans hZ0
  have hsz : w.heap.size + 2 ≤ w1.heap.size := by have := hB1.size; simp at this; omega
  have hBw := thenB hB0 hB1
  clear hB1 hG0 hZ0 hB0 hS0
  have g0 := cellEq (i := 0) hG; have g1 := cellEq (i := 1) hG; have g2 := cellEq (i := 2) hG; have g3 := cellEq (i := 3) hG; have g4 := cellEq (i := 4) hG; have g5 := cellEq (i := 5) hG
  have z0 := cellEq (i := 0) hZ; have z1 := cellEq (i := 1) hZ; have f0 := frozenEq (i := 0) hZ; have f1 := frozenEq (i := 1) hZ
  simp only [List.getElem?_toArray, List.getElem?_cons_zero, List.getElem?_cons_succ] at g0 g1 g2 g3 g4 g5 z0 z1
  rw [hc]
  go_wp2_with fail
  refine (rwithin_any st 1048576 _).mono ?_; rintro e w' ⟨rfl, rfl⟩; rw [hst]
  go_wp2_with fail
  refine (rwithin_any hour 4096 _).mono ?_; rintro e w' ⟨rfl, rfl⟩; rw [hho]
  go_wp2_with fail
  refine (HE.out _).mono ?_; rintro e w2 ⟨rfl, hB2⟩
  clear f0 f1 z0 z1 g0 g1 g2 g3 g4 g5
  have hZ2 := (hB2.block (w.heap.size + 1) (by omega)).trans hZ
  have hG2 := (hB2.block w.heap.size (by omega)).trans hG
  have hBw2 := thenB hBw hB2
  have hsz2 : w.heap.size + 2 ≤ w2.heap.size := by have := hB2.size; omega
  clear hBw hZ hG hB2
  have g0 := cellEq (i := 0) hG2; have g1 := cellEq (i := 1) hG2; have g2 := cellEq (i := 2) hG2; have g3 := cellEq (i := 3) hG2; have g4 := cellEq (i := 4) hG2; have g5 := cellEq (i := 5) hG2
  simp only [List.getElem?_toArray, List.getElem?_cons_zero, List.getElem?_cons_succ] at g0 g1 g2 g3 g4 g5
  go_wp2_with fail
  refine (hL0.out _ (hs'.out.below hBw2)).mono ?_; rintro e w3 ⟨rfl, hB3⟩
  have hZ3 := (hB3.block (w.heap.size + 1) (by omega)).trans hZ2
  have hG3 := (hB3.block w.heap.size (by omega)).trans hG2
  have hBw3 := thenB hBw2 hB3
  have hsz3 : w.heap.size + 2 ≤ w3.heap.size := by have := hB3.size; omega
  clear hB3 hZ2 hG2 g0 g1 g2 g3 g4 g5
  have hG3' := alFar (.cells #[.int .i64 l0, .int .i64 h0] 27) hG3
  have g0 := cellEq (i := 0) hG3'; have g1 := cellEq (i := 1) hG3'; have g2 := cellEq (i := 2) hG3'; have g3 := cellEq (i := 3) hG3'; have g4 := cellEq (i := 4) hG3'; have g5 := cellEq (i := 5) hG3'
  clear hG3'
  simp only [List.getElem?_toArray, List.getElem?_cons_zero, List.getElem?_cons_succ] at g0 g1 g2 g3 g4 g5
  go_wp2_with fail
  refine (hL1.out _ (hs'.out.below (belowAl hBw3 _))).mono ?_; rintro e w4 ⟨rfl, hB4⟩
  have hZ4 := (hB4.block (w.heap.size + 1) (by simp; omega)).trans (alFar (.cells #[.int .i64 l0, .int .i64 h0] 27) hZ3)
  have hY4 := (hB4.block w3.heap.size (by simp)).trans (World.alloc_heap_new w3 (.cells #[.int .i64 l0, .int .i64 h0] 27))
  have hBw4 := thenB (belowAl hBw3 _) hB4
  have hsz4 : w3.heap.size + 1 ≤ w4.heap.size := by have := hB4.size; simpa using this
  clear hB4 hZ3 hG3 g0 g1 g2 g3 g4 g5
  have hY5 := alFar (.cells #[.int .i64 l1, .int .i64 h1] 27) hY4
  have y0 := cellEq (i := 0) hY5
  have hZ5 := alFar (.cells #[.int .i64 l1, .int .i64 h1] 27) hZ4
  have z0 := cellEq (i := 0) hZ5; have z1 := cellEq (i := 1) hZ5; have f0 := frozenEq (i := 0) hZ5; have f1 := frozenEq (i := 1) hZ5
  simp only [List.getElem?_toArray, List.getElem?_cons_zero, List.getElem?_cons_succ] at y0 z0 z1
  go_wp2_with fail
  refine bodyPost_ret (v := (.tuple #[.agg #[.int .i64 l0, .int .i64 h1], .int .i64 0])) (by simp [results, Try.results15, go_sem, z0, z1, f0, f1]) rfl ?_
  exact ⟨rfl, by repeat' (first | exact hBw4 | refine belowAl ?_ _ | refine belowDr ?_ | refine belowDn ?_ _ | refine Below.setCell ?_ (by simp <;> omega) _)⟩
set_option maxRecDepth 100000 in
set_option maxHeartbeats 2000000 in
theorem RRead_ok (no rc cl dr si st hour : Int) (t : Value) (pts : List (Int × Int)) (hc : chk no rc cl dr si pts = 0) (hst : inB st 1048576 = true) (hho : inB hour 4096 = true) (w : World) (hs : PtSl w t pts) :
    Calls Try.prog 15 #[gv no rc cl dr si t, .int .i64 st, .int .i64 hour] w fun e w' => e = .returned (.tuple #[.agg #[.int .i64 (lo pts (end0 st (offV cl dr si hour))), .int .i64 (hi pts (end1 st (offV cl dr si hour)))], .int .i64 0]) ∧ Below w.heap.size w w' := by
  have hTt := chk_tab hc
  have hst' := inB_t hst
  have hho' := inB_t hho
  have hT := hTt.1
  have ⟨c1, c2, c3, c4, c5, c6⟩ := hTt.2
  have HE := rerror_any no rc cl dr si hour t ⟨c1, c2⟩ ⟨c3, c4⟩ ⟨c5, c6⟩ hho'
  have ⟨ob0, ob1⟩ := offV_bd (cl := cl) (dr := dr) (si := si) (hour := hour) ⟨c1, c2⟩ ⟨c3, c4⟩ c5 hho'.2
  have ob : 0 ≤ offV cl dr si hour ∧ offV cl dr si hour ≤ 172000 := by unfold offV; omega
  clear hTt ob0 ob1
  generalize offV cl dr si hour = of at *
  by_cases ha : of < st
  · by_cases hb : st + of < 1048576
    · rw [show end0 st of = st - of by unfold end0; omega, show end1 st of = st + of by unfold end1; omega]
      exact RRead_c0 no rc cl dr si st hour t pts of _ _ _ _ ob ha hb hc hst hho HE (fun w => rflow_any no rc cl dr si (st - of) t pts hT (by omega) w) (fun w => rflow_any no rc cl dr si (st + of) t pts hT (by omega) w) w hs
    · rw [show end0 st of = st - of by unfold end0; omega, show end1 st of = 1048576 by unfold end1; omega]
      exact RRead_c1 no rc cl dr si st hour t pts of _ _ _ _ ob ha (by omega) hc hst hho HE (fun w => rflow_any no rc cl dr si (st - of) t pts hT (by omega) w) (fun w => rflow_any no rc cl dr si 1048576 t pts hT (by omega) w) w hs
  · by_cases hb : st + of < 1048576
    · rw [show end0 st of = 0 by unfold end0; omega, show end1 st of = st + of by unfold end1; omega]
      exact RRead_c2 no rc cl dr si st hour t pts of _ _ _ _ ob (by omega) hb hc hst hho HE (fun w => rflow_any no rc cl dr si 0 t pts hT (by omega) w) (fun w => rflow_any no rc cl dr si (st + of) t pts hT (by omega) w) w hs
    · omega
set_option maxRecDepth 100000 in
set_option maxHeartbeats 2000000 in
theorem rfirst_false (no rc cl dr si lt : Int) (t : Value) (pts : List (Int × Int)) (hT : Tab pts) (w : World) (hs : PtSl w t pts) :
    Calls Try.prog 27 #[gv no rc cl dr si t, .int .i64 lt, .bool false] w fun e w' => ∃ k : Nat, Fst (pHi pts lt) 1048577 k ∧ e = .returned (.int .i64 k) ∧ Below w.heap.size w w' := by
  have hs' := Lib.hid hs
  have hT' := Lib.hid hT
  clear hT
  have hB0 : Below w.heap.size w (w.alloc (.cells #[.int .i64 no, .int .i64 rc, .int .i64 cl, .int .i64 dr, .int .i64 si, t] 24)) := belowAl (Below.refl _ _) _
  have hG0 : (w.alloc (.cells #[.int .i64 no, .int .i64 rc, .int .i64 cl, .int .i64 dr, .int .i64 si, t] 24)).heap[w.heap.size]? = some (.cells #[.int .i64 no, .int .i64 rc, .int .i64 cl, .int .i64 dr, .int .i64 si, t] 24 (0, 0)) := World.alloc_heap_new w _
  have hz0 : w.heap.size < (w.alloc (.cells #[.int .i64 no, .int .i64 rc, .int .i64 cl, .int .i64 dr, .int .i64 si, t] 24)).heap.size := by simp
  have FIN : ∀ k : Nat, k ≤ 1048577 → (k = 0 ∨ pHi pts lt (k - 1) = false) → (k = 1048577 ∨ pHi pts lt k = true) → Fst (pHi pts lt) 1048577 k := fun k a b c => ⟨a, b, c⟩
  replace FIN := Lib.hid FIN
  go_enter Try.func27, Try.ntmps27
  go_wp2_with fail
  generalize (w.alloc (.cells #[.int .i64 no, .int .i64 rc, .int .i64 cl, .int .i64 dr, .int .i64 si, t] 24)) = w1 at *
  go_loopw [7, 8] (fun a b wr => ∃ lo_ hi_ : Nat, lo_ ≤ hi_ ∧ hi_ ≤ 1048577 ∧ (lo_ = 0 ∨ pHi pts lt (lo_ - 1) = false) ∧ (hi_ = 1048577 ∨ pHi pts lt hi_ = true) ∧ a = .int .i64 lo_ ∧ b = .int .i64 hi_ ∧ Below w1.heap.size w1 wr) (fun a b _ => (intOf b - intOf a).toNat)
  case atStart => exact ⟨0, 1048577, Nat.zero_le _, Nat.le_refl _, .inl rfl, .inl rfl, rfl, rfl, Below.refl _ _⟩
  case round =>
    obtain ⟨lo_, hi_, hlh, hhn, hp, hq, rfl, rfl, hB⟩ := hrel
    have hGr := (hB.block w.heap.size hz0).trans hG0
    have g0 := cellEq (i := 0) hGr; have g1 := cellEq (i := 1) hGr; have g2 := cellEq (i := 2) hGr; have g3 := cellEq (i := 3) hGr; have g4 := cellEq (i := 4) hGr; have g5 := cellEq (i := 5) hGr
    simp only [List.getElem?_toArray, List.getElem?_cons_zero, List.getElem?_cons_succ] at g0 g1 g2 g3 g4 g5
    by_cases hlt : lo_ < hi_
    · have hM := mid_lt lo_ hi_ (by omega)
      obtain ⟨m, hm⟩ : ∃ m, m = (lo_ + hi_) / 2 := ⟨_, rfl⟩
      rw [← hm] at hM
      have hmlo : lo_ ≤ m := by omega
      have hmhi : m < hi_ := by omega
      have HC := rflow_any no rc cl dr si m t pts hT'.out ⟨by omega, by omega⟩ wr (hs'.out.below (thenB hB0 hB))
      clear hm
      cases hpm : pHi pts lt m with
      | true =>
        have HPM := Lib.hid hpm
        unfold pHi at hpm
        obtain ⟨lv, hlv⟩ : ∃ lv, lo pts m = lv := ⟨_, rfl⟩
        obtain ⟨hv, hhv⟩ : ∃ hv, hi pts m = hv := ⟨_, rfl⟩
        have dd : decide (lt ≤ hv) = true := by rw [hhv] at hpm; exact hpm
        rw [hlv, hhv] at HC
        replace HC := Lib.hid HC
        clear hlv hhv hpm
        go_wp2_with fail
        refine HC.out.mono ?_; rintro e w' ⟨rfl, hB'⟩
        go_wp2_with fail
        go_roundw
        case rel => exact ⟨lo_, m, hmlo, by omega, hp, .inr HPM.out, rfl, rfl, belowAl (thenB hB hB') _⟩
        case measure => simp [intOf]; omega
      | false =>
        have HPM := Lib.hid hpm
        unfold pHi at hpm
        obtain ⟨lv, hlv⟩ : ∃ lv, lo pts m = lv := ⟨_, rfl⟩
        obtain ⟨hv, hhv⟩ : ∃ hv, hi pts m = hv := ⟨_, rfl⟩
        have dd : decide (lt ≤ hv) = false := by rw [hhv] at hpm; exact hpm
        rw [hlv, hhv] at HC
        replace HC := Lib.hid HC
        clear hlv hhv hpm
        go_wp2_with fail
        refine HC.out.mono ?_; rintro e w' ⟨rfl, hB'⟩
        go_wp2_with fail
        go_roundw
        case rel => exact ⟨m + 1, hi_, by omega, hhn, .inr (by simpa using HPM.out), hq, by go_num, rfl, belowAl (thenB hB hB') _⟩
        case measure => simp [intOf]; omega
    · obtain rfl : lo_ = hi_ := by omega
      go_wp2_with fail
      go_ret
      exact ⟨lo_, FIN.out lo_ hhn hp hq, by simp, thenB hB0 hB⟩
set_option maxRecDepth 100000 in
set_option maxHeartbeats 2000000 in
theorem rfirst_true (no rc cl dr si lt : Int) (t : Value) (pts : List (Int × Int)) (hT : Tab pts) (w : World) (hs : PtSl w t pts) :
    Calls Try.prog 27 #[gv no rc cl dr si t, .int .i64 lt, .bool true] w fun e w' => ∃ k : Nat, Fst (pLo pts lt) 1048577 k ∧ e = .returned (.int .i64 k) ∧ Below w.heap.size w w' := by
  have hs' := Lib.hid hs
  have hT' := Lib.hid hT
  clear hT
  have hB0 : Below w.heap.size w (w.alloc (.cells #[.int .i64 no, .int .i64 rc, .int .i64 cl, .int .i64 dr, .int .i64 si, t] 24)) := belowAl (Below.refl _ _) _
  have hG0 : (w.alloc (.cells #[.int .i64 no, .int .i64 rc, .int .i64 cl, .int .i64 dr, .int .i64 si, t] 24)).heap[w.heap.size]? = some (.cells #[.int .i64 no, .int .i64 rc, .int .i64 cl, .int .i64 dr, .int .i64 si, t] 24 (0, 0)) := World.alloc_heap_new w _
  have hz0 : w.heap.size < (w.alloc (.cells #[.int .i64 no, .int .i64 rc, .int .i64 cl, .int .i64 dr, .int .i64 si, t] 24)).heap.size := by simp
  have FIN : ∀ k : Nat, k ≤ 1048577 → (k = 0 ∨ pLo pts lt (k - 1) = false) → (k = 1048577 ∨ pLo pts lt k = true) → Fst (pLo pts lt) 1048577 k := fun k a b c => ⟨a, b, c⟩
  replace FIN := Lib.hid FIN
  go_enter Try.func27, Try.ntmps27
  go_wp2_with fail
  generalize (w.alloc (.cells #[.int .i64 no, .int .i64 rc, .int .i64 cl, .int .i64 dr, .int .i64 si, t] 24)) = w1 at *
  go_loopw [7, 8] (fun a b wr => ∃ lo_ hi_ : Nat, lo_ ≤ hi_ ∧ hi_ ≤ 1048577 ∧ (lo_ = 0 ∨ pLo pts lt (lo_ - 1) = false) ∧ (hi_ = 1048577 ∨ pLo pts lt hi_ = true) ∧ a = .int .i64 lo_ ∧ b = .int .i64 hi_ ∧ Below w1.heap.size w1 wr) (fun a b _ => (intOf b - intOf a).toNat)
  case atStart => exact ⟨0, 1048577, Nat.zero_le _, Nat.le_refl _, .inl rfl, .inl rfl, rfl, rfl, Below.refl _ _⟩
  case round =>
    obtain ⟨lo_, hi_, hlh, hhn, hp, hq, rfl, rfl, hB⟩ := hrel
    have hGr := (hB.block w.heap.size hz0).trans hG0
    have g0 := cellEq (i := 0) hGr; have g1 := cellEq (i := 1) hGr; have g2 := cellEq (i := 2) hGr; have g3 := cellEq (i := 3) hGr; have g4 := cellEq (i := 4) hGr; have g5 := cellEq (i := 5) hGr
    simp only [List.getElem?_toArray, List.getElem?_cons_zero, List.getElem?_cons_succ] at g0 g1 g2 g3 g4 g5
    by_cases hlt : lo_ < hi_
    · have hM := mid_lt lo_ hi_ (by omega)
      obtain ⟨m, hm⟩ : ∃ m, m = (lo_ + hi_) / 2 := ⟨_, rfl⟩
      rw [← hm] at hM
      have hmlo : lo_ ≤ m := by omega
      have hmhi : m < hi_ := by omega
      have HC := rflow_any no rc cl dr si m t pts hT'.out ⟨by omega, by omega⟩ wr (hs'.out.below (thenB hB0 hB))
      clear hm
      cases hpm : pLo pts lt m with
      | true =>
        have HPM := Lib.hid hpm
        unfold pLo at hpm
        obtain ⟨lv, hlv⟩ : ∃ lv, lo pts m = lv := ⟨_, rfl⟩
        obtain ⟨hv, hhv⟩ : ∃ hv, hi pts m = hv := ⟨_, rfl⟩
        have dd : decide (lt < lv) = true := by rw [hlv] at hpm; exact hpm
        rw [hlv, hhv] at HC
        replace HC := Lib.hid HC
        clear hlv hhv hpm
        go_wp2_with fail
        refine HC.out.mono ?_; rintro e w' ⟨rfl, hB'⟩
        go_wp2_with fail
        go_roundw
        case rel => exact ⟨lo_, m, hmlo, by omega, hp, .inr HPM.out, rfl, rfl, belowAl (thenB hB hB') _⟩
        case measure => simp [intOf]; omega
      | false =>
        have HPM := Lib.hid hpm
        unfold pLo at hpm
        obtain ⟨lv, hlv⟩ : ∃ lv, lo pts m = lv := ⟨_, rfl⟩
        obtain ⟨hv, hhv⟩ : ∃ hv, hi pts m = hv := ⟨_, rfl⟩
        have dd : decide (lt < lv) = false := by rw [hlv] at hpm; exact hpm
        rw [hlv, hhv] at HC
        replace HC := Lib.hid HC
        clear hlv hhv hpm
        go_wp2_with fail
        refine HC.out.mono ?_; rintro e w' ⟨rfl, hB'⟩
        go_wp2_with fail
        go_roundw
        case rel => exact ⟨m + 1, hi_, by omega, hhn, .inr (by simpa using HPM.out), hq, by go_num, rfl, belowAl (thenB hB hB') _⟩
        case measure => simp [intOf]; omega
    · obtain rfl : lo_ = hi_ := by omega
      go_wp2_with fail
      go_ret
      exact ⟨lo_, FIN.out lo_ hhn hp hq, by simp, thenB hB0 hB⟩
set_option maxRecDepth 100000 in
set_option maxHeartbeats 2000000 in
theorem RStage_bad (no rc cl dr si lt : Int) (t : Value) (pts : List (Int × Int)) (hc : chk no rc cl dr si pts ≠ 0) (w : World) (hs : PtSl w t pts) :
    Calls Try.prog 17 #[gv no rc cl dr si t, .int .i64 lt] w fun e w' => e = .returned (.tuple #[.agg #[.int .i64 0, .int .i64 0], .bool false, .int .i64 (chk no rc cl dr si pts)]) ∧ Below w.heap.size w w' := by
  have hs' := Lib.hid hs
  have hS0 : PtSl ((w.alloc (.cells #[.int .i64 no, .int .i64 rc, .int .i64 cl, .int .i64 dr, .int .i64 si, t] 24)).alloc (.cells #[.int .i64 0, .int .i64 0] 27)) t pts := hs.below (belowAl (belowAl (Below.refl _ _) _) _)
  have hB0 : Below w.heap.size w ((w.alloc (.cells #[.int .i64 no, .int .i64 rc, .int .i64 cl, .int .i64 dr, .int .i64 si, t] 24)).alloc (.cells #[.int .i64 0, .int .i64 0] 27)) := belowAl (belowAl (Below.refl _ _) _) _
  have hG0 : ((w.alloc (.cells #[.int .i64 no, .int .i64 rc, .int .i64 cl, .int .i64 dr, .int .i64 si, t] 24)).alloc (.cells #[.int .i64 0, .int .i64 0] 27)).heap[w.heap.size]? = some (.cells #[.int .i64 no, .int .i64 rc, .int .i64 cl, .int .i64 dr, .int .i64 si, t] 24 (0, 0)) := alFar _ (World.alloc_heap_new w _)
  have hZ0 : ((w.alloc (.cells #[.int .i64 no, .int .i64 rc, .int .i64 cl, .int .i64 dr, .int .i64 si, t] 24)).alloc (.cells #[.int .i64 0, .int .i64 0] 27)).heap[w.heap.size + 1]? = some (.cells #[.int .i64 0, .int .i64 0] 27 (0, 0)) := by
    have := World.alloc_heap_new (w.alloc (.cells #[.int .i64 no, .int .i64 rc, .int .i64 cl, .int .i64 dr, .int .i64 si, t] 24)) (.cells #[.int .i64 0, .int .i64 0] 27)
    simpa using this
  go_enter Try.func17, Try.ntmps17
  go_wp2_with fail
  refine (rcheck_any no rc cl dr si t pts _ hS0).mono ?_; rintro e w1 ⟨rfl, hB1⟩
  have hG := (hB1.block w.heap.size (by simp <;> omega)).trans hG0
  have hZ := (hB1.block (w.heap.size + 1) (by simp <;> omega)).trans hZ0
  have hsz : w.heap.size + 2 ≤ w1.heap.size := by have := hB1.size; simp at this; omega
  have hBw := thenB hB0 hB1
  clear hB1 hG0 hZ0 hB0 hS0
  have g0 := cellEq (i := 0) hG; have g1 := cellEq (i := 1) hG; have g2 := cellEq (i := 2) hG; have g3 := cellEq (i := 3) hG; have g4 := cellEq (i := 4) hG; have g5 := cellEq (i := 5) hG
  have z0 := cellEq (i := 0) hZ; have z1 := cellEq (i := 1) hZ; have f0 := frozenEq (i := 0) hZ; have f1 := frozenEq (i := 1) hZ
  simp only [List.getElem?_toArray, List.getElem?_cons_zero, List.getElem?_cons_succ] at g0 g1 g2 g3 g4 g5 z0 z1
  have hne : (chk no rc cl dr si pts != 0) = true := by simpa using hc
  obtain ⟨c, hcc⟩ : ∃ c, c = chk no rc cl dr si pts := ⟨_, rfl⟩
  rw [← hcc] at hne ⊢
  have HC := Lib.hid hcc
  clear hcc hc
  go_wp2_with fail
  refine bodyPost_ret (v := .tuple #[.agg #[.int .i64 0, .int .i64 0], .bool false, .int .i64 c]) (by simp [results, Try.results17, go_sem, z0, z1, f0, f1]) rfl ?_
  exact ⟨by rw [HC.out], by repeat' (first | exact hBw | refine belowAl ?_ _ | refine belowDr ?_ | refine belowDn ?_ _ | refine Below.setCell ?_ (by simp <;> omega) _)⟩
set_option maxRecDepth 100000 in
set_option maxHeartbeats 2000000 in
theorem RStage_arg (no rc cl dr si lt : Int) (t : Value) (pts : List (Int × Int)) (hc : chk no rc cl dr si pts = 0) (hlt : inB lt 1073741824 = false) (w : World) (hs : PtSl w t pts) :
    Calls Try.prog 17 #[gv no rc cl dr si t, .int .i64 lt] w fun e w' => e = .returned (.tuple #[.agg #[.int .i64 0, .int .i64 0], .bool false, .int .i64 1]) ∧ Below w.heap.size w w' := by
  have hs' := Lib.hid hs
  have hS0 : PtSl ((w.alloc (.cells #[.int .i64 no, .int .i64 rc, .int .i64 cl, .int .i64 dr, .int .i64 si, t] 24)).alloc (.cells #[.int .i64 0, .int .i64 0] 27)) t pts := hs.below (belowAl (belowAl (Below.refl _ _) _) _)
  have hB0 : Below w.heap.size w ((w.alloc (.cells #[.int .i64 no, .int .i64 rc, .int .i64 cl, .int .i64 dr, .int .i64 si, t] 24)).alloc (.cells #[.int .i64 0, .int .i64 0] 27)) := belowAl (belowAl (Below.refl _ _) _) _
  have hG0 : ((w.alloc (.cells #[.int .i64 no, .int .i64 rc, .int .i64 cl, .int .i64 dr, .int .i64 si, t] 24)).alloc (.cells #[.int .i64 0, .int .i64 0] 27)).heap[w.heap.size]? = some (.cells #[.int .i64 no, .int .i64 rc, .int .i64 cl, .int .i64 dr, .int .i64 si, t] 24 (0, 0)) := alFar _ (World.alloc_heap_new w _)
  have hZ0 : ((w.alloc (.cells #[.int .i64 no, .int .i64 rc, .int .i64 cl, .int .i64 dr, .int .i64 si, t] 24)).alloc (.cells #[.int .i64 0, .int .i64 0] 27)).heap[w.heap.size + 1]? = some (.cells #[.int .i64 0, .int .i64 0] 27 (0, 0)) := by
    have := World.alloc_heap_new (w.alloc (.cells #[.int .i64 no, .int .i64 rc, .int .i64 cl, .int .i64 dr, .int .i64 si, t] 24)) (.cells #[.int .i64 0, .int .i64 0] 27)
    simpa using this
  go_enter Try.func17, Try.ntmps17
  go_wp2_with fail
  refine (rcheck_any no rc cl dr si t pts _ hS0).mono ?_; rintro e w1 ⟨rfl, hB1⟩
  have hG := (hB1.block w.heap.size (by simp <;> omega)).trans hG0
  have hZ := (hB1.block (w.heap.size + 1) (by simp <;> omega)).trans hZ0
  have hsz : w.heap.size + 2 ≤ w1.heap.size := by have := hB1.size; simp at this; omega
  have hBw := thenB hB0 hB1
  clear hB1 hG0 hZ0 hB0 hS0
  have g0 := cellEq (i := 0) hG; have g1 := cellEq (i := 1) hG; have g2 := cellEq (i := 2) hG; have g3 := cellEq (i := 3) hG; have g4 := cellEq (i := 4) hG; have g5 := cellEq (i := 5) hG
  have z0 := cellEq (i := 0) hZ; have z1 := cellEq (i := 1) hZ; have f0 := frozenEq (i := 0) hZ; have f1 := frozenEq (i := 1) hZ
  simp only [List.getElem?_toArray, List.getElem?_cons_zero, List.getElem?_cons_succ] at g0 g1 g2 g3 g4 g5 z0 z1
  rw [hc]
  go_wp2_with fail
  refine (rwithin_any lt 1073741824 _).mono ?_; rintro e w' ⟨rfl, rfl⟩; rw [hlt]
  go_wp2_with fail
  refine bodyPost_ret (v := (.tuple #[.agg #[.int .i64 0, .int .i64 0], .bool false, .int .i64 1])) (by simp [results, Try.results17, go_sem, z0, z1, f0, f1]) rfl ?_
  exact ⟨rfl, by repeat' (first | exact hBw | refine belowAl ?_ _ | refine belowDr ?_ | refine belowDn ?_ _ | refine Below.setCell ?_ (by simp <;> omega) _)⟩
set_option maxRecDepth 100000 in
set_option maxHeartbeats 2000000 in
theorem RStage_ok (no rc cl dr si lt : Int) (t : Value) (pts : List (Int × Int)) (hc : chk no rc cl dr si pts = 0) (hlt : inB lt 1073741824 = true) (k m : Nat) (hk : Fst (pHi pts lt) 1048577 k) (hm : Fst (pLo pts lt) 1048577 m) (w : World) (hs : PtSl w t pts) :
    Calls Try.prog 17 #[gv no rc cl dr si t, .int .i64 lt] w fun e w' => e = .returned (stE k m) ∧ Below w.heap.size w w' := by
  have hT := (chk_tab hc).1
  have HT := Lib.hid hT
  have HK := Lib.hid hk
  have HM := Lib.hid hm
  clear hT hk hm
  have hs' := Lib.hid hs
  have hS0 : PtSl ((w.alloc (.cells #[.int .i64 no, .int .i64 rc, .int .i64 cl, .int .i64 dr, .int .i64 si, t] 24)).alloc (.cells #[.int .i64 0, .int .i64 0] 27)) t pts := hs.below (belowAl (belowAl (Below.refl _ _) _) _)
  have hB0 : Below w.heap.size w ((w.alloc (.cells #[.int .i64 no, .int .i64 rc, .int .i64 cl, .int .i64 dr, .int .i64 si, t] 24)).alloc (.cells #[.int .i64 0, .int .i64 0] 27)) := belowAl (belowAl (Below.refl _ _) _) _
  have hG0 : ((w.alloc (.cells #[.int .i64 no, .int .i64 rc, .int .i64 cl, .int .i64 dr, .int .i64 si, t] 24)).alloc (.cells #[.int .i64 0, .int .i64 0] 27)).heap[w.heap.size]? = some (.cells #[.int .i64 no, .int .i64 rc, .int .i64 cl, .int .i64 dr, .int .i64 si, t] 24 (0, 0)) := alFar _ (World.alloc_heap_new w _)
  have hZ0 : ((w.alloc (.cells #[.int .i64 no, .int .i64 rc, .int .i64 cl, .int .i64 dr, .int .i64 si, t] 24)).alloc (.cells #[.int .i64 0, .int .i64 0] 27)).heap[w.heap.size + 1]? = some (.cells #[.int .i64 0, .int .i64 0] 27 (0, 0)) := by
    have := World.alloc_heap_new (w.alloc (.cells #[.int .i64 no, .int .i64 rc, .int .i64 cl, .int .i64 dr, .int .i64 si, t] 24)) (.cells #[.int .i64 0, .int .i64 0] 27)
    simpa using this
  go_enter Try.func17, Try.ntmps17
  go_wp2_with fail
  refine (rcheck_any no rc cl dr si t pts _ hS0).mono ?_; rintro e w1 ⟨rfl, hB1⟩
  have hG := (hB1.block w.heap.size (by simp <;> omega)).trans hG0
  have hZ := (hB1.block (w.heap.size + 1) (by simp <;> omega)).trans hZ0
  have hsz : w.heap.size + 2 ≤ w1.heap.size := by have := hB1.size; simp at this; omega
  have hBw := thenB hB0 hB1
  clear hB1 hG0 hZ0 hB0 hS0
  have g0 := cellEq (i := 0) hG; have g1 := cellEq (i := 1) hG; have g2 := cellEq (i := 2) hG; have g3 := cellEq (i := 3) hG; have g4 := cellEq (i := 4) hG; have g5 := cellEq (i := 5) hG
  have z0 := cellEq (i := 0) hZ; have z1 := cellEq (i := 1) hZ; have f0 := frozenEq (i := 0) hZ; have f1 := frozenEq (i := 1) hZ
  simp only [List.getElem?_toArray, List.getElem?_cons_zero, List.getElem?_cons_succ] at g0 g1 g2 g3 g4 g5 z0 z1
  rw [hc]
  go_wp2_with fail
  refine (rwithin_any lt 1073741824 _).mono ?_; rintro e w' ⟨rfl, rfl⟩; rw [hlt]
  go_wp2_with fail
  refine (rfirst_false no rc cl dr si lt t pts HT.out _ (hs'.out.below hBw)).mono ?_; rintro e w2 ⟨k', hk, rfl, hB2⟩
  obtain rfl : k = k' := Fst.uniq (pHi_mono HT.out lt) HK.out hk
  have hkb := hk.1
  clear f0 f1 z0 z1 g0 g1 g2 g3 g4 g5 hk
  have hZ2 := (hB2.block (w.heap.size + 1) (by omega)).trans hZ
  have hG2 := (hB2.block w.heap.size (by omega)).trans hG
  have hBw2 := thenB hBw hB2
  have hsz2 : w.heap.size + 2 ≤ w2.heap.size := by have := hB2.size; omega
  clear hBw hZ hG hB2
  have g0 := cellEq (i := 0) hG2; have g1 := cellEq (i := 1) hG2; have g2 := cellEq (i := 2) hG2; have g3 := cellEq (i := 3) hG2; have g4 := cellEq (i := 4) hG2; have g5 := cellEq (i := 5) hG2
  simp only [List.getElem?_toArray, List.getElem?_cons_zero, List.getElem?_cons_succ] at g0 g1 g2 g3 g4 g5
  go_wp2_with fail
  refine (rfirst_true no rc cl dr si lt t pts HT.out _ (hs'.out.below hBw2)).mono ?_; rintro e w3 ⟨m', hm, rfl, hB3⟩
  obtain rfl : m = m' := Fst.uniq (pLo_mono HT.out lt) HM.out hm
  have hmb := hm.1
  have hZ3 := (hB3.block (w.heap.size + 1) (by omega)).trans hZ2
  have hBw3 := thenB hBw2 hB3
  clear g0 g1 g2 g3 g4 g5 hm hB3 hZ2 hG2 hBw2
  have z0 := cellEq (i := 0) hZ3; have z1 := cellEq (i := 1) hZ3; have f0 := frozenEq (i := 0) hZ3; have f1 := frozenEq (i := 1) hZ3
  simp only [List.getElem?_toArray, List.getElem?_cons_zero, List.getElem?_cons_succ] at z0 z1
  by_cases hkm : k < m
  · have hgt : decide (((m : Int) - 1) < (k : Int)) = false := by simp; omega
    have HR := Lib.hid (show stE k m = .tuple #[.agg #[.int .i64 k, .int .i64 ((m : Int) - 1)], .bool true, .int .i64 0] by simp [stE, hkm])
    clear hkm
    go_wp2_with fail
    refine bodyPost_ret (v := .tuple #[.agg #[.int .i64 k, .int .i64 ((m : Int) - 1)], .bool true, .int .i64 0]) (by simp [results, Try.results17, go_sem, z0, z1, f0, f1]) rfl ?_
    exact ⟨by rw [HR.out], by repeat' (first | exact hBw3 | refine belowAl ?_ _ | refine belowDr ?_ | refine belowDn ?_ _ | refine Below.setCell ?_ (by simp <;> omega) _)⟩
  · have hgt : decide (((m : Int) - 1) < (k : Int)) = true := by simp; omega
    have HR := Lib.hid (show stE k m = .tuple #[.agg #[.int .i64 0, .int .i64 0], .bool false, .int .i64 0] by simp [stE, hkm])
    clear hkm
    go_wp2_with fail
    refine bodyPost_ret (v := .tuple #[.agg #[.int .i64 0, .int .i64 0], .bool false, .int .i64 0]) (by simp [results, Try.results17, go_sem, z0, z1, f0, f1]) rfl ?_
    exact ⟨by rw [HR.out], by repeat' (first | exact hBw3 | refine belowAl ?_ _ | refine belowDr ?_ | refine belowDn ?_ _ | refine Below.setCell ?_ (by simp <;> omega) _)⟩
end Go.Proofs.Ytmmoenbdlfmgeab
