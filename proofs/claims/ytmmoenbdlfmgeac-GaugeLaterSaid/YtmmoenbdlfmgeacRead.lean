/- DERIVED. Gauges: the contract of Read. -/
import Derived.Test.YtmmoenbdlfmgeacEnds
namespace Go.Proofs.Ytmmoenbdlfmgeac
open Go.RowKit Go.Shelf
set_option linter.unusedVariables false
set_option linter.unusedSimpArgs false
attribute [local go_sem] Oper.semAt_some
/-- By how much a reading can be off. -/
def offV (cl dr si hour : Int) : Int := cl + dr * (max 0 (hour - si) / 24)
theorem offV_bd {cl dr si hour : Int} (h1 : 0 ≤ cl ∧ cl ≤ 1000) (h2 : 0 ≤ dr ∧ dr ≤ 1000) (h3 : 0 ≤ si) (h4 : hour ≤ 4096) : 0 ≤ dr * (max 0 (hour - si) / 24) ∧ dr * (max 0 (hour - si) / 24) ≤ 171000 := by
  have a : 0 ≤ max 0 (hour - si) / 24 := by omega
  have b : max 0 (hour - si) / 24 ≤ 171 := by omega
  refine ⟨Int.mul_nonneg h2.1 a, ?_⟩
  have : dr * (max 0 (hour - si) / 24) ≤ 1000 * 171 := Int.mul_le_mul h2.2 b a (by omega)
  omega
def rLo (pts : List (Int × Int)) (st : Int) (l : List Int) : Int := l.foldl (fun a e => min a (lo pts e)) (lo pts st)
def rHi (pts : List (Int × Int)) (st : Int) (l : List Int) : Int := l.foldl (fun a e => max a (hi pts e)) (hi pts st)
theorem rLo_snoc (pts : List (Int × Int)) (st : Int) (l : List Int) (x : Int) : rLo pts st (l ++ [x]) = min (rLo pts st l) (lo pts x) := by simp [rLo]
theorem rHi_snoc (pts : List (Int × Int)) (st : Int) (l : List Int) (x : Int) : rHi pts st (l ++ [x]) = max (rHi pts st l) (hi pts x) := by simp [rHi]
theorem cells_own {β : Type} (B : Nat) (ty : TypeId) (f : β → Array Value) : Own (fun s W => W.heap[B]? = some (.cells (f s) ty (0, 0))) := fun s X Y row hs hg hrow => (grownBy_keeps_cells hg hrow hs rfl).trans hs
theorem setIn0 {W : World} {B : Nat} {a b : Value} {ty : TypeId} (x : Value) (h : W.heap[B]? = some (.cells #[a, b] ty (0, 0))) : (W.setCell ⟨B, 0, none⟩ x).heap[B]? = some (.cells #[x, b] ty (0, 0)) := by
  obtain ⟨hlt, hk⟩ := Array.getElem?_eq_some_iff.1 h
  show (W.heap.modify B _)[B]? = _
  rw [Array.getElem?_eq_getElem (by rw [Array.size_modify]; exact hlt), Array.getElem_modify_self, hk]; rfl
theorem setIn1 {W : World} {B : Nat} {a b : Value} {ty : TypeId} (x : Value) (h : W.heap[B]? = some (.cells #[a, b] ty (0, 0))) : (W.setCell ⟨B, 1, none⟩ x).heap[B]? = some (.cells #[a, x] ty (0, 0)) := by
  obtain ⟨hlt, hk⟩ := Array.getElem?_eq_some_iff.1 h
  show (W.heap.modify B _)[B]? = _
  rw [Array.getElem?_eq_getElem (by rw [Array.size_modify]; exact hlt), Array.getElem_modify_self, hk]; rfl
theorem setPair {W : World} {B : Nat} {a b : Value} {ty : TypeId} (x y : Value) (h : W.heap[B]? = some (.cells #[a, b] ty (0, 0))) : ((W.setCell ⟨B, 0, none⟩ x).setCell ⟨B, 1, none⟩ y).heap[B]? = some (.cells #[x, y] ty (0, 0)) := setIn1 y (setIn0 x h)
theorem setFar {W : World} {B B' i : Nat} {o : Obj} (x : Value) (h : W.heap[B]? = some o) (hne : B ≠ B') : (W.setCell ⟨B', i, none⟩ x).heap[B]? = some o := (Below.heap_setCell _ _ _ _ hne).trans h
theorem alFar {W : World} {B : Nat} {o : Obj} (o' : Obj) (h : W.heap[B]? = some o) : (W.alloc o').heap[B]? = some o := (Below.heap_alloc _ _ _ (Array.getElem?_eq_some_iff.1 h).1).trans h
theorem keeps_of_below {B : Nat} {W W' : World} (h : Below W.heap.size W W') : KeepsFrom B W W' := ⟨h.size, fun k o _ hk _ => (h.block k (Array.getElem?_eq_some_iff.1 hk).1).trans hk⟩
set_option maxRecDepth 100000 in
set_option maxHeartbeats 2000000 in
theorem Read_bad (no rc cl dr si st hour : Int) (t : Value) (pts : List (Int × Int)) (hc : chk no rc cl dr si pts ≠ 0) (w : World) (hs : PtSl w t pts) :
    Calls Try.prog 5 #[gv no rc cl dr si t, .int .i64 st, .int .i64 hour] w fun e w' => e = .returned (.tuple #[.agg #[.int .i64 0, .int .i64 0], .int .i64 (chk no rc cl dr si pts)]) ∧ Below w.heap.size w w' := by
  have hS0 : PtSl ((w.alloc (.cells #[.int .i64 no, .int .i64 rc, .int .i64 cl, .int .i64 dr, .int .i64 si, t] 24)).alloc (.cells #[.int .i64 0, .int .i64 0] 28)) t pts := hs.below (belowAl (belowAl (Below.refl _ _) _) _)
  have hB0 : Below w.heap.size w ((w.alloc (.cells #[.int .i64 no, .int .i64 rc, .int .i64 cl, .int .i64 dr, .int .i64 si, t] 24)).alloc (.cells #[.int .i64 0, .int .i64 0] 28)) := belowAl (belowAl (Below.refl _ _) _) _
  have hG0 : ((w.alloc (.cells #[.int .i64 no, .int .i64 rc, .int .i64 cl, .int .i64 dr, .int .i64 si, t] 24)).alloc (.cells #[.int .i64 0, .int .i64 0] 28)).heap[w.heap.size]? = some (.cells #[.int .i64 no, .int .i64 rc, .int .i64 cl, .int .i64 dr, .int .i64 si, t] 24 (0, 0)) :=
    (Below.heap_alloc _ _ _ (by simp)).trans (World.alloc_heap_new w _)
  have hZ0 : ((w.alloc (.cells #[.int .i64 no, .int .i64 rc, .int .i64 cl, .int .i64 dr, .int .i64 si, t] 24)).alloc (.cells #[.int .i64 0, .int .i64 0] 28)).heap[w.heap.size + 1]? = some (.cells #[.int .i64 0, .int .i64 0] 28 (0, 0)) := by
    have := World.alloc_heap_new (w.alloc (.cells #[.int .i64 no, .int .i64 rc, .int .i64 cl, .int .i64 dr, .int .i64 si, t] 24)) (.cells #[.int .i64 0, .int .i64 0] 28)
    simpa using this
  go_enter Try.func5, Try.ntmps5
  go_wp2_with fail
  refine (check_any no rc cl dr si t pts _ hS0).mono ?_; rintro e w1 ⟨rfl, hB1⟩
  have hG := (hB1.block w.heap.size (by simp <;> omega)).trans hG0
  have hZ := (hB1.block (w.heap.size + 1) (by simp)).trans hZ0
  have hsz : w.heap.size + 2 ≤ w1.heap.size := by have := hB1.size; simp at this; omega
  have hBw := thenB hB0 hB1
  have hS1 := Lib.hid (hS0.below hB1)
  clear hB1 hG0 hZ0 hB0 hS0
  have g0 := cellEq (i := 0) hG; have g1 := cellEq (i := 1) hG; have g2 := cellEq (i := 2) hG; have g3 := cellEq (i := 3) hG; have g4 := cellEq (i := 4) hG; have g5 := cellEq (i := 5) hG
  have z0 := cellEq (i := 0) hZ; have z1 := cellEq (i := 1) hZ; have f0 := frozenEq (i := 0) hZ; have f1 := frozenEq (i := 1) hZ
  simp only [List.getElem?_toArray, List.getElem?_cons_zero, List.getElem?_cons_succ] at g0 g1 g2 g3 g4 g5 z0 z1
  have hne : (chk no rc cl dr si pts != 0) = true := by simpa using hc
  obtain ⟨c, hcc⟩ : ∃ c, c = chk no rc cl dr si pts := ⟨_, rfl⟩
  rw [← hcc] at hne ⊢
  have HC := Lib.hid hcc
  clear hcc hc
  go_wp2_with fail
  refine bodyPost_ret (v := .tuple #[.agg #[.int .i64 0, .int .i64 0], .int .i64 c]) (by simp [results, Try.results5, go_sem, z0, z1, f0, f1]) rfl ?_
  exact ⟨by rw [HC.out], by repeat' (first | exact hBw | refine belowAl ?_ _ | refine belowDr ?_ | refine belowDn ?_ _ | refine Below.setCell ?_ (by simp <;> omega) _)⟩
set_option maxRecDepth 100000 in
set_option maxHeartbeats 2000000 in
theorem Read_arg1 (no rc cl dr si st hour : Int) (t : Value) (pts : List (Int × Int)) (hc : chk no rc cl dr si pts = 0) (hst : inB st 1048576 = false) (w : World) (hs : PtSl w t pts) :
    Calls Try.prog 5 #[gv no rc cl dr si t, .int .i64 st, .int .i64 hour] w fun e w' => e = .returned (.tuple #[.agg #[.int .i64 0, .int .i64 0], .int .i64 1]) ∧ Below w.heap.size w w' := by
  have hS0 : PtSl ((w.alloc (.cells #[.int .i64 no, .int .i64 rc, .int .i64 cl, .int .i64 dr, .int .i64 si, t] 24)).alloc (.cells #[.int .i64 0, .int .i64 0] 28)) t pts := hs.below (belowAl (belowAl (Below.refl _ _) _) _)
  have hB0 : Below w.heap.size w ((w.alloc (.cells #[.int .i64 no, .int .i64 rc, .int .i64 cl, .int .i64 dr, .int .i64 si, t] 24)).alloc (.cells #[.int .i64 0, .int .i64 0] 28)) := belowAl (belowAl (Below.refl _ _) _) _
  have hG0 : ((w.alloc (.cells #[.int .i64 no, .int .i64 rc, .int .i64 cl, .int .i64 dr, .int .i64 si, t] 24)).alloc (.cells #[.int .i64 0, .int .i64 0] 28)).heap[w.heap.size]? = some (.cells #[.int .i64 no, .int .i64 rc, .int .i64 cl, .int .i64 dr, .int .i64 si, t] 24 (0, 0)) :=
    (Below.heap_alloc _ _ _ (by simp)).trans (World.alloc_heap_new w _)
  have hZ0 : ((w.alloc (.cells #[.int .i64 no, .int .i64 rc, .int .i64 cl, .int .i64 dr, .int .i64 si, t] 24)).alloc (.cells #[.int .i64 0, .int .i64 0] 28)).heap[w.heap.size + 1]? = some (.cells #[.int .i64 0, .int .i64 0] 28 (0, 0)) := by
    have := World.alloc_heap_new (w.alloc (.cells #[.int .i64 no, .int .i64 rc, .int .i64 cl, .int .i64 dr, .int .i64 si, t] 24)) (.cells #[.int .i64 0, .int .i64 0] 28)
    simpa using this
  go_enter Try.func5, Try.ntmps5
  go_wp2_with fail
  refine (check_any no rc cl dr si t pts _ hS0).mono ?_; rintro e w1 ⟨rfl, hB1⟩
  have hG := (hB1.block w.heap.size (by simp <;> omega)).trans hG0
  have hZ := (hB1.block (w.heap.size + 1) (by simp)).trans hZ0
  have hsz : w.heap.size + 2 ≤ w1.heap.size := by have := hB1.size; simp at this; omega
  have hBw := thenB hB0 hB1
  have hS1 := Lib.hid (hS0.below hB1)
  clear hB1 hG0 hZ0 hB0 hS0
  have hGx := alFar (.cells #[.int .i64 st] 3) hG
  have hZx := alFar (.cells #[.int .i64 st] 3) hZ
  have g0 := cellEq (i := 0) hG; have g1 := cellEq (i := 1) hG; have g2 := cellEq (i := 2) hG; have g3 := cellEq (i := 3) hG; have g4 := cellEq (i := 4) hG; have g5 := cellEq (i := 5) hG
  have z0 := cellEq (i := 0) hZ; have z1 := cellEq (i := 1) hZ; have f0 := frozenEq (i := 0) hZ; have f1 := frozenEq (i := 1) hZ
  simp only [List.getElem?_toArray, List.getElem?_cons_zero, List.getElem?_cons_succ] at g0 g1 g2 g3 g4 g5 z0 z1
  have xg0 := cellEq (i := 0) hGx; have xg1 := cellEq (i := 1) hGx; have xg2 := cellEq (i := 2) hGx; have xg3 := cellEq (i := 3) hGx; have xg4 := cellEq (i := 4) hGx; have xg5 := cellEq (i := 5) hGx
  have xz0 := cellEq (i := 0) hZx; have xz1 := cellEq (i := 1) hZx; have xf0 := frozenEq (i := 0) hZx; have xf1 := frozenEq (i := 1) hZx
  simp only [List.getElem?_toArray, List.getElem?_cons_zero, List.getElem?_cons_succ] at xg0 xg1 xg2 xg3 xg4 xg5 xz0 xz1
  rw [hc]
  go_wp2_with fail
  refine (within1 1048576 st _ _ (by go_simp)).mono ?_; rintro e w' ⟨rfl, rfl⟩; rw [hst]
  go_wp2_with fail
  refine bodyPost_ret (v := .tuple #[.agg #[.int .i64 0, .int .i64 0], .int .i64 1]) (by simp [results, Try.results5, go_sem, xz0, xz1, xf0, xf1]) rfl ?_
  exact ⟨rfl, by repeat' (first | exact hBw | refine belowAl ?_ _ | refine belowDr ?_ | refine belowDn ?_ _ | refine Below.setCell ?_ (by simp <;> omega) _)⟩
set_option maxRecDepth 100000 in
set_option maxHeartbeats 2000000 in
theorem Read_arg2 (no rc cl dr si st hour : Int) (t : Value) (pts : List (Int × Int)) (hc : chk no rc cl dr si pts = 0) (hst : inB st 1048576 = true) (hho : inB hour 4096 = false) (w : World) (hs : PtSl w t pts) :
    Calls Try.prog 5 #[gv no rc cl dr si t, .int .i64 st, .int .i64 hour] w fun e w' => e = .returned (.tuple #[.agg #[.int .i64 0, .int .i64 0], .int .i64 1]) ∧ Below w.heap.size w w' := by
  have hS0 : PtSl ((w.alloc (.cells #[.int .i64 no, .int .i64 rc, .int .i64 cl, .int .i64 dr, .int .i64 si, t] 24)).alloc (.cells #[.int .i64 0, .int .i64 0] 28)) t pts := hs.below (belowAl (belowAl (Below.refl _ _) _) _)
  have hB0 : Below w.heap.size w ((w.alloc (.cells #[.int .i64 no, .int .i64 rc, .int .i64 cl, .int .i64 dr, .int .i64 si, t] 24)).alloc (.cells #[.int .i64 0, .int .i64 0] 28)) := belowAl (belowAl (Below.refl _ _) _) _
  have hG0 : ((w.alloc (.cells #[.int .i64 no, .int .i64 rc, .int .i64 cl, .int .i64 dr, .int .i64 si, t] 24)).alloc (.cells #[.int .i64 0, .int .i64 0] 28)).heap[w.heap.size]? = some (.cells #[.int .i64 no, .int .i64 rc, .int .i64 cl, .int .i64 dr, .int .i64 si, t] 24 (0, 0)) :=
    (Below.heap_alloc _ _ _ (by simp)).trans (World.alloc_heap_new w _)
  have hZ0 : ((w.alloc (.cells #[.int .i64 no, .int .i64 rc, .int .i64 cl, .int .i64 dr, .int .i64 si, t] 24)).alloc (.cells #[.int .i64 0, .int .i64 0] 28)).heap[w.heap.size + 1]? = some (.cells #[.int .i64 0, .int .i64 0] 28 (0, 0)) := by
    have := World.alloc_heap_new (w.alloc (.cells #[.int .i64 no, .int .i64 rc, .int .i64 cl, .int .i64 dr, .int .i64 si, t] 24)) (.cells #[.int .i64 0, .int .i64 0] 28)
    simpa using this
  go_enter Try.func5, Try.ntmps5
  go_wp2_with fail
  refine (check_any no rc cl dr si t pts _ hS0).mono ?_; rintro e w1 ⟨rfl, hB1⟩
  have hG := (hB1.block w.heap.size (by simp <;> omega)).trans hG0
  have hZ := (hB1.block (w.heap.size + 1) (by simp)).trans hZ0
  have hsz : w.heap.size + 2 ≤ w1.heap.size := by have := hB1.size; simp at this; omega
  have hBw := thenB hB0 hB1
  have hS1 := Lib.hid (hS0.below hB1)
  clear hB1 hG0 hZ0 hB0 hS0
  have hGx := alFar (.cells #[.int .i64 hour] 3) (alFar (.cells #[.int .i64 st] 3) hG)
  have hZx := alFar (.cells #[.int .i64 hour] 3) (alFar (.cells #[.int .i64 st] 3) hZ)
  have g0 := cellEq (i := 0) hG; have g1 := cellEq (i := 1) hG; have g2 := cellEq (i := 2) hG; have g3 := cellEq (i := 3) hG; have g4 := cellEq (i := 4) hG; have g5 := cellEq (i := 5) hG
  have z0 := cellEq (i := 0) hZ; have z1 := cellEq (i := 1) hZ; have f0 := frozenEq (i := 0) hZ; have f1 := frozenEq (i := 1) hZ
  simp only [List.getElem?_toArray, List.getElem?_cons_zero, List.getElem?_cons_succ] at g0 g1 g2 g3 g4 g5 z0 z1
  have xg0 := cellEq (i := 0) hGx; have xg1 := cellEq (i := 1) hGx; have xg2 := cellEq (i := 2) hGx; have xg3 := cellEq (i := 3) hGx; have xg4 := cellEq (i := 4) hGx; have xg5 := cellEq (i := 5) hGx
  have xz0 := cellEq (i := 0) hZx; have xz1 := cellEq (i := 1) hZx; have xf0 := frozenEq (i := 0) hZx; have xf1 := frozenEq (i := 1) hZx
  simp only [List.getElem?_toArray, List.getElem?_cons_zero, List.getElem?_cons_succ] at xg0 xg1 xg2 xg3 xg4 xg5 xz0 xz1
  rw [hc]
  go_wp2_with fail
  refine (within1 1048576 st _ _ (by go_simp)).mono ?_; rintro e w' ⟨rfl, rfl⟩; rw [hst]
  go_wp2_with fail
  refine (within1 4096 hour _ _ (by go_simp)).mono ?_; rintro e w' ⟨rfl, rfl⟩; rw [hho]
  go_wp2_with fail
  refine bodyPost_ret (v := .tuple #[.agg #[.int .i64 0, .int .i64 0], .int .i64 1]) (by simp [results, Try.results5, go_sem, xz0, xz1, xf0, xf1]) rfl ?_
  exact ⟨rfl, by repeat' (first | exact hBw | refine belowAl ?_ _ | refine belowDr ?_ | refine belowDn ?_ _ | refine Below.setCell ?_ (by simp <;> omega) _)⟩
set_option maxRecDepth 100000 in
set_option maxHeartbeats 2000000 in
theorem Read_ok (no rc cl dr si st hour : Int) (t : Value) (pts : List (Int × Int)) (hc : chk no rc cl dr si pts = 0) (hst : inB st 1048576 = true) (hho : inB hour 4096 = true) (w : World) (hs : PtSl w t pts) :
    Calls Try.prog 5 #[gv no rc cl dr si t, .int .i64 st, .int .i64 hour] w fun e w' => e = .returned (.tuple #[.agg #[.int .i64 (rLo pts st [end0 st (offV cl dr si hour), end1 st (offV cl dr si hour)]), .int .i64 (rHi pts st [end0 st (offV cl dr si hour), end1 st (offV cl dr si hour)])], .int .i64 0]) ∧ Below w.heap.size w w' := by
  have hTt := chk_tab hc
  have hst' := inB_t hst
  have hho' := inB_t hho
  have ⟨ob0, ob1⟩ := offV_bd (cl := cl) (dr := dr) (si := si) (hour := hour) ⟨hTt.2.1, hTt.2.2.1⟩ ⟨hTt.2.2.2.1, hTt.2.2.2.2.1⟩ hTt.2.2.2.2.2.1 hho'.2
  have hS0 : PtSl ((w.alloc (.cells #[.int .i64 no, .int .i64 rc, .int .i64 cl, .int .i64 dr, .int .i64 si, t] 24)).alloc (.cells #[.int .i64 0, .int .i64 0] 28)) t pts := hs.below (belowAl (belowAl (Below.refl _ _) _) _)
  have hB0 : Below w.heap.size w ((w.alloc (.cells #[.int .i64 no, .int .i64 rc, .int .i64 cl, .int .i64 dr, .int .i64 si, t] 24)).alloc (.cells #[.int .i64 0, .int .i64 0] 28)) := belowAl (belowAl (Below.refl _ _) _) _
  have hG0 : ((w.alloc (.cells #[.int .i64 no, .int .i64 rc, .int .i64 cl, .int .i64 dr, .int .i64 si, t] 24)).alloc (.cells #[.int .i64 0, .int .i64 0] 28)).heap[w.heap.size]? = some (.cells #[.int .i64 no, .int .i64 rc, .int .i64 cl, .int .i64 dr, .int .i64 si, t] 24 (0, 0)) :=
    (Below.heap_alloc _ _ _ (by simp)).trans (World.alloc_heap_new w _)
  have hZ0 : ((w.alloc (.cells #[.int .i64 no, .int .i64 rc, .int .i64 cl, .int .i64 dr, .int .i64 si, t] 24)).alloc (.cells #[.int .i64 0, .int .i64 0] 28)).heap[w.heap.size + 1]? = some (.cells #[.int .i64 0, .int .i64 0] 28 (0, 0)) := by
    have := World.alloc_heap_new (w.alloc (.cells #[.int .i64 no, .int .i64 rc, .int .i64 cl, .int .i64 dr, .int .i64 si, t] 24)) (.cells #[.int .i64 0, .int .i64 0] 28)
    simpa using this
  have hw : Fence.wide.round = none := rfl
  refine (callsIn_wide (n := 6)).1 ?_
  refine callsIn_of_wp_marks Try.func5 rfl trivial ?_ hw
  simp only [Try.ntmps5, List.size_toArray, List.length_cons, List.length_nil, Nat.reduceAdd, Nat.reduceSub, Array.replicate_succ, Array.replicate_zero, List.push_toArray, List.append_toArray, List.nil_append, List.cons_append]
  gi_wp2_with fail
  refine ⟨trivial, ?_⟩; gi_at_call 8; refine (callsIn_wide.2 (check_any no rc cl dr si t pts _ hS0)).mono ?_; rintro e w1 ⟨rfl, hB1⟩
  have hG := (hB1.block w.heap.size (by simp <;> omega)).trans hG0
  have hZ := (hB1.block (w.heap.size + 1) (by simp)).trans hZ0
  have hsz : w.heap.size + 2 ≤ w1.heap.size := by have := hB1.size; simp at this; omega
  have hBw := thenB hB0 hB1
  have hS1 := Lib.hid (hS0.below hB1)
  clear hB1 hG0 hZ0 hB0 hS0
  have hGx := alFar (.cells #[.int .i64 hour] 3) (alFar (.cells #[.int .i64 st] 3) hG)
  have hZx := alFar (.cells #[.int .i64 hour] 3) (alFar (.cells #[.int .i64 st] 3) hZ)
  have g0 := cellEq (i := 0) hG; have g1 := cellEq (i := 1) hG; have g2 := cellEq (i := 2) hG; have g3 := cellEq (i := 3) hG; have g4 := cellEq (i := 4) hG; have g5 := cellEq (i := 5) hG
  have z0 := cellEq (i := 0) hZ; have z1 := cellEq (i := 1) hZ; have f0 := frozenEq (i := 0) hZ; have f1 := frozenEq (i := 1) hZ
  simp only [List.getElem?_toArray, List.getElem?_cons_zero, List.getElem?_cons_succ] at g0 g1 g2 g3 g4 g5 z0 z1
  have xg0 := cellEq (i := 0) hGx; have xg1 := cellEq (i := 1) hGx; have xg2 := cellEq (i := 2) hGx; have xg3 := cellEq (i := 3) hGx; have xg4 := cellEq (i := 4) hGx; have xg5 := cellEq (i := 5) hGx
  have xz0 := cellEq (i := 0) hZx; have xz1 := cellEq (i := 1) hZx; have xf0 := frozenEq (i := 0) hZx; have xf1 := frozenEq (i := 1) hZx
  simp only [List.getElem?_toArray, List.getElem?_cons_zero, List.getElem?_cons_succ] at xg0 xg1 xg2 xg3 xg4 xg5 xz0 xz1
  obtain ⟨q, hqq⟩ : ∃ q, q = max 0 (hour - si) / 24 := ⟨_, rfl⟩
  have q0 : 0 ≤ q ∧ q ≤ 171 := by omega
  rw [← hqq] at ob0 ob1
  obtain ⟨p, hp⟩ : ∃ p, dr * q = p := ⟨_, rfl⟩
  obtain ⟨of, hof⟩ : ∃ of, cl + p = of := ⟨_, rfl⟩
  rw [hp] at ob0 ob1
  have hcl := hTt.2.1
  have ofb : 0 ≤ of ∧ of ≤ 172000 := by have := hTt.2.2.1; omega
  have HO := Lib.hid (show offV cl dr si hour = of by rw [← hof, ← hp, hqq]; rfl)
  have Wq : wrap64 q = q := by unfold wrap64; omega
  have Wp : wrap64 p = p := by unfold wrap64; omega
  have Wo : wrap64 of = of := by unfold wrap64; omega
  by_cases ha : si < hour
  · have hq : (hour - si).tdiv 24 = q := by rw [hqq, Int.tdiv_eq_ediv_of_nonneg (by omega)]; congr 1; omega
    clear hqq
    rw [hc]
    gi_wp2_with fail
    refine ⟨trivial, ?_⟩; gi_at_call 9; refine (callsIn_wide.2 (within1 1048576 st _ _ (by go_simp))).mono ?_; rintro e w' ⟨rfl, rfl⟩; rw [hst]
    gi_wp2_with fail
    refine ⟨trivial, ?_⟩; gi_at_call 9; refine (callsIn_wide.2 (within1 4096 hour _ _ (by go_simp))).mono ?_; rintro e w' ⟨rfl, rfl⟩; rw [hho]
    have hBx : Below w1.heap.size w1 ((w1.alloc (.cells #[.int .i64 st] 3)).alloc (.cells #[.int .i64 hour] 3)) := belowAl (belowAl (Below.refl _ _) _) _
    have hBxw := thenB hBw hBx
    have hSx := Lib.hid (hS1.out.below hBx)
    gi_wp2_with fail
    refine ⟨trivial, ?_⟩; gi_at_call 10; refine (callsIn_wide.2 (flow_any no rc cl dr si st t pts hTt.1 hst' _ hSx.out)).mono ?_; rintro e w2 ⟨rfl, hB2⟩
    have hG2 := (hB2.block w.heap.size (Array.getElem?_eq_some_iff.1 hGx).1).trans hGx
    have hZ2 := (hB2.block (w.heap.size + 1) (Array.getElem?_eq_some_iff.1 hZx).1).trans hZx
    have hBw2 := thenB hBxw hB2
    have hS2 := Lib.hid (hSx.out.below hB2)
    have hs2 : w.heap.size + 2 ≤ w2.heap.size := by have := hB2.size; simp at this; omega
    have yg0 := cellEq (i := 0) hG2; have yg1 := cellEq (i := 1) hG2; have yg2 := cellEq (i := 2) hG2; have yg3 := cellEq (i := 3) hG2; have yg4 := cellEq (i := 4) hG2; have yg5 := cellEq (i := 5) hG2
    have yz0 := cellEq (i := 0) hZ2; have yz1 := cellEq (i := 1) hZ2; have yf0 := frozenEq (i := 0) hZ2; have yf1 := frozenEq (i := 1) hZ2
    simp only [List.getElem?_toArray, List.getElem?_cons_zero, List.getElem?_cons_succ] at yg0 yg1 yg2 yg3 yg4 yg5 yz0 yz1
    clear g0 g1 g2 g3 g4 g5 z0 z1 f0 f1 xg0 xg1 xg2 xg3 xg4 xg5 xz0 xz1 xf0 xf1 hB2 hSx hBxw hBx
    gi_wp2_with fail
    refine ⟨trivial, ?_⟩; gi_at_call 11; refine (ends_in _ _ trivial hw _ _ _).mono ?_; rintro e w' ⟨rfl, rfl⟩
    gi_wp2_with fail
    have bG : ((((w2.setCell ⟨w.heap.size + 1, 0, none⟩ (.int .i64 (lo pts st))).setCell ⟨w.heap.size + 1, 1, none⟩ (.int .i64 (hi pts st))).alloc (.cells #[.int .i64 st] 3)).alloc (.cells #[.int .i64 (of)] 3)).heap[w.heap.size]? = some (.cells #[.int .i64 no, .int .i64 rc, .int .i64 cl, .int .i64 dr, .int .i64 si, t] 24 (0, 0)) := alFar _ (alFar _ (setFar _ (setFar _ hG2 (by omega)) (by omega)))
    have bZ : ((((w2.setCell ⟨w.heap.size + 1, 0, none⟩ (.int .i64 (lo pts st))).setCell ⟨w.heap.size + 1, 1, none⟩ (.int .i64 (hi pts st))).alloc (.cells #[.int .i64 st] 3)).alloc (.cells #[.int .i64 (of)] 3)).heap[w.heap.size + 1]? = some (.cells #[.int .i64 (rLo pts st []), .int .i64 (rHi pts st [])] 28 (0, 0)) := alFar _ (alFar _ (setPair _ _ hZ2))
    have bS : Boxed ((((w2.setCell ⟨w.heap.size + 1, 0, none⟩ (.int .i64 (lo pts st))).setCell ⟨w.heap.size + 1, 1, none⟩ (.int .i64 (hi pts st))).alloc (.cells #[.int .i64 st] 3)).alloc (.cells #[.int .i64 (of)] 3)) w2.heap.size 3 (.int .i64 st) := by
      have := (Boxed.new ((w2.setCell ⟨w.heap.size + 1, 0, none⟩ (.int .i64 (lo pts st))).setCell ⟨w.heap.size + 1, 1, none⟩ (.int .i64 (hi pts st))) 3 (.int .i64 st)).alloc (.cells #[.int .i64 (of)] 3)
      simpa using this
    have bO : Boxed ((((w2.setCell ⟨w.heap.size + 1, 0, none⟩ (.int .i64 (lo pts st))).setCell ⟨w.heap.size + 1, 1, none⟩ (.int .i64 (hi pts st))).alloc (.cells #[.int .i64 st] 3)).alloc (.cells #[.int .i64 (of)] 3)) (w2.heap.size + 1) 3 (.int .i64 (of)) := by
      have := Boxed.new (((w2.setCell ⟨w.heap.size + 1, 0, none⟩ (.int .i64 (lo pts st))).setCell ⟨w.heap.size + 1, 1, none⟩ (.int .i64 (hi pts st))).alloc (.cells #[.int .i64 st] 3)) 3 (.int .i64 (of))
      simpa using this
    have hB7 : Below w.heap.size w ((((w2.setCell ⟨w.heap.size + 1, 0, none⟩ (.int .i64 (lo pts st))).setCell ⟨w.heap.size + 1, 1, none⟩ (.int .i64 (hi pts st))).alloc (.cells #[.int .i64 st] 3)).alloc (.cells #[.int .i64 (of)] 3)) := by repeat' (first | exact hBw2 | refine belowAl ?_ _ | refine belowDr ?_ | refine belowDn ?_ _ | refine Below.setCell ?_ (by simp <;> omega) _)
    have hsz : ((((w2.setCell ⟨w.heap.size + 1, 0, none⟩ (.int .i64 (lo pts st))).setCell ⟨w.heap.size + 1, 1, none⟩ (.int .i64 (hi pts st))).alloc (.cells #[.int .i64 st] 3)).alloc (.cells #[.int .i64 (of)] 3)).heap.size = w2.heap.size + 2 := by simp
    obtain ⟨W0, hW0⟩ : ∃ W0, ((((w2.setCell ⟨w.heap.size + 1, 0, none⟩ (.int .i64 (lo pts st))).setCell ⟨w.heap.size + 1, 1, none⟩ (.int .i64 (hi pts st))).alloc (.cells #[.int .i64 st] 3)).alloc (.cells #[.int .i64 (of)] 3)) = W0 := ⟨_, rfl⟩
    rw [hW0] at bG bZ bS bO hB7 hsz ⊢
    clear hW0 yg0 yg1 yg2 yg3 yg4 yg5 yz0 yz1 yf0 yf1 hG2 hZ2 hG hZ hGx hZx
    obtain ⟨s2, hs2'⟩ : ∃ s2, w2.heap.size = s2 := ⟨_, rfl⟩
    rw [hs2'] at hs2 bS bO hsz ⊢
    refine wpIn_rangeFunc_ownH hw (by omega) (gf := 16) (lb := #[.pointer (some ⟨s2, 0, none⟩), .pointer (some ⟨s2 + 1, 0, none⟩)]) rfl trivial (enters_of Try.func16 (by kernel_rfl) rfl)
      (ends_stops Fence.wide 5 trivial hw (by omega) s2 (s2 + 1) w.heap.size st (of) hst' ⟨by omega, by omega⟩ W0 (by omega) bS bO) KpE_t (KpE_b (by omega)) (Below.refl _ _) (fun _ => rfl)
      (fun (pre : List Rg) W => (W.heap[w.heap.size]? = some (.cells #[.int .i64 no, .int .i64 rc, .int .i64 cl, .int .i64 dr, .int .i64 si, t] 24 (0, 0)) ∧ W.heap[w.heap.size + 1]? = some (.cells #[.int .i64 (rLo pts st (List.map (fun y : Rg => y.1) pre)), .int .i64 (rHi pts st (List.map (fun y : Rg => y.1) pre))] 28 (0, 0))) ∧ Below w.heap.size w W)
      (fun _ _ _ => False)
      (OwnFrom.and (OwnFrom.and (Own.from (cells_own _ _ (fun _ => _)) _) (Own.from (cells_own _ _ (fun (pre : List Rg) => #[.int .i64 (rLo pts st (List.map (fun y : Rg => y.1) pre)), .int .i64 (rHi pts st (List.map (fun y : Rg => y.1) pre))])) _)) (ownFrom_below (by omega) (by omega)))
      (fun _ _ _ _ _ hs _ _ => hs)
      ⟨⟨bG, bZ⟩, hB7⟩
      (fun (x : Rg) a' W => a' = { tmps := #[gv no rc cl dr si t, Value.int IntKind.i64 st, Value.int IntKind.i64 hour, Value.pointer (some { block := w.heap.size, off := 0 }), undef, undef, Value.pointer (some { block := w.heap.size + 1, off := 0 }), Value.int IntKind.i64 0, Value.int IntKind.i64 (of), Value.int IntKind.i64 x.1, undef, gv no rc cl dr si t, Value.int IntKind.i64 0, Value.int IntKind.i64 0, Value.bool false, undef, undef, Value.int IntKind.i64 st, Value.slice (some { block := w1.heap.size, off := 0 }) 1 1, Value.bool true, Value.bool false, Value.bool false, Value.int IntKind.i64 hour, Value.slice (some { block := w1.heap.size + 1, off := 0 }) 1 1, Value.bool true, Value.bool false, Value.bool false, undef, Value.pointer (some { block := w.heap.size, off := 2 }), Value.int IntKind.i64 cl, Value.pointer (some { block := w.heap.size, off := 3 }), Value.int IntKind.i64 dr, Value.int IntKind.i64 hour, Value.pointer (some { block := w.heap.size, off := 4 }), Value.int IntKind.i64 si, Value.int IntKind.i64 (hour - si), Value.int IntKind.i64 (hour - si), Value.int IntKind.i64 (q), Value.int IntKind.i64 (p), Value.int IntKind.i64 (of), gv no rc cl dr si t, Value.int IntKind.i64 st, Value.agg #[Value.int IntKind.i64 (lo pts st), Value.int IntKind.i64 (hi pts st)], Value.int IntKind.i64 st, Value.int IntKind.i64 (of), Value.func (Fn.func 16) #[] #[.pointer (some ⟨s2, 0, none⟩), .pointer (some ⟨s2 + 1, 0, none⟩)], Value.int IntKind.i64 x.1, undef, undef, undef, undef, undef, undef, undef, undef, undef, undef, undef, undef, undef, undef, undef, undef], defers := [] })
      (fun x a' _ A B row hs hg hr => hs)
      ?assign ?body ?done ?stop
    case assign =>
      rintro l pre x W K hI hK
      dsimp only [encI]
      gi_wp2
      exact hK _ _ (KeepsFrom.refl _ _) ⟨Below.refl _ _, id, id⟩ hI rfl
    case body =>
      rintro l pre x a' W hl ⟨r, hr⟩ ⟨⟨c1, c2⟩, cB⟩ rfl hlt
      have g0 := cellEq (i := 0) c1; have g1 := cellEq (i := 1) c1; have g2 := cellEq (i := 2) c1; have g3 := cellEq (i := 3) c1; have g4 := cellEq (i := 4) c1; have g5 := cellEq (i := 5) c1
      simp only [List.getElem?_toArray, List.getElem?_cons_zero, List.getElem?_cons_succ] at g0 g1 g2 g3 g4 g5
      gi_wp2_with fail
      refine ⟨trivial, ?_⟩; gi_at_call 10
      refine (CallsIn.inRound l (callsIn_wide.2 (flow_any no rc cl dr si x.1 t pts hTt.1 x.2 _ (hs.below cB)))).mono ?_; rintro e w3 ⟨rfl, hB3⟩
      have e1 := (hB3.block _ (Array.getElem?_eq_some_iff.1 c1).1).trans c1
      have e2 := (hB3.block _ (Array.getElem?_eq_some_iff.1 c2).1).trans c2
      have hX3 : PtSl w3 t pts := (hs.below cB).below hB3
      have hk3 : KeepsFrom W0.heap.size W w3 := keeps_of_below hB3
      have hwW := cB.size
      have hB3' : Below w.heap.size W w3 := hB3.mono hwW
      have hb3 : ∀ B v, Boxed W B 3 v → Boxed w3 B 3 v := fun B v hx => (hB3.block B hx.lt).trans hx
      have HRL := Lib.hid (rLo_snoc pts st (List.map (fun y : Rg => y.1) pre) x.1); have HRH := Lib.hid (rHi_snoc pts st (List.map (fun y : Rg => y.1) pre) x.1)
      obtain ⟨a0, ha0⟩ : ∃ a, a = rLo pts st (List.map (fun y : Rg => y.1) pre) := ⟨_, rfl⟩
      obtain ⟨a1, ha1⟩ : ∃ a, a = rHi pts st (List.map (fun y : Rg => y.1) pre) := ⟨_, rfl⟩
      obtain ⟨y0, hy0⟩ : ∃ a, a = lo pts x.1 := ⟨_, rfl⟩
      obtain ⟨y1, hy1⟩ : ∃ a, a = hi pts x.1 := ⟨_, rfl⟩
      rw [← ha0, ← ha1] at e2
      rw [← hy0, ← hy1]
      have HA := Lib.hid (And.intro ha0 ha1); have HY := Lib.hid (And.intro hy0 hy1)
      have hs3 : w.heap.size + 2 ≤ w3.heap.size := by have := (Array.getElem?_eq_some_iff.1 e2).1; omega
      have hw33 := hB3.size
      clear hB3 g0 g1 g2 g3 g4 g5 ha0 ha1 hy0 hy1 hX3
      have d1 : (w3.alloc (.cells #[.int .i64 y0, .int .i64 y1] 28)).drew.heap[w.heap.size]? = some (.cells #[.int .i64 no, .int .i64 rc, .int .i64 cl, .int .i64 dr, .int .i64 si, t] 24 (0, 0)) := alFar _ e1
      have d2 : (w3.alloc (.cells #[.int .i64 y0, .int .i64 y1] 28)).drew.heap[w.heap.size + 1]? = some (.cells #[.int .i64 a0, .int .i64 a1] 28 (0, 0)) := alFar _ e2
      have dY : (w3.alloc (.cells #[.int .i64 y0, .int .i64 y1] 28)).drew.heap[w3.heap.size]? = some (.cells #[.int .i64 y0, .int .i64 y1] 28 (0, 0)) := World.alloc_heap_new w3 _
      have dk : KeepsFrom W0.heap.size W (w3.alloc (.cells #[.int .i64 y0, .int .i64 y1] 28)).drew := (hk3.trans ((KeepsOthers.alloc w3 _).from _)).trans ((KeepsOthers.drew _).from _)
      have dB : Below w.heap.size W (w3.alloc (.cells #[.int .i64 y0, .int .i64 y1] 28)).drew := (hB3'.alloc (by omega) _).drew
      have db : ∀ B v, Boxed W B 3 v → Boxed (w3.alloc (.cells #[.int .i64 y0, .int .i64 y1] 28)).drew B 3 v := fun B v hx => (hb3 B v hx).alloc _
      gi_wp2_with fail
      clear e1 e2 hk3 hB3' hb3
      refine region_round (fun w' => w'.cell? ⟨w3.heap.size, 0, none⟩ = some (.int .i64 y0) ∧ w'.cell? ⟨w3.heap.size, 1, none⟩ = some (.int .i64 y1)) (by kernel_rfl) (by kernel_rfl) ⟨cellEq dY, cellEq dY⟩ ?_
      generalize (w3.alloc (.cells #[.int .i64 y0, .int .i64 y1] 28)).drew = W3 at *
      intro hX0
      have k0 := cellEq (i := 0) d2; have k1 := cellEq (i := 1) d2; have f0 := frozenEq (i := 0) d2; have f1 := frozenEq (i := 1) d2
      simp only [List.getElem?_toArray, List.getElem?_cons_zero, List.getElem?_cons_succ] at k0 k1
      have hn2 := setPair (.int .i64 (min a0 y0)) (.int .i64 (max a1 y1)) d2
      have hn1 := setFar (B' := w.heap.size + 1) (i := 1) (.int .i64 (max a1 y1)) (setFar (B' := w.heap.size + 1) (i := 0) (.int .i64 (min a0 y0)) d1 (by omega)) (by omega)
      have hn3 : ((W3.setCell ⟨w.heap.size + 1, 0, none⟩ (.int .i64 (min a0 y0))).setCell ⟨w.heap.size + 1, 1, none⟩ (.int .i64 (max a1 y1))).heap[w.heap.size + 1]? = some (Obj.cells #[.int .i64 (rLo pts st (List.map (fun y : Rg => y.1) (pre ++ [x]))), .int .i64 (rHi pts st (List.map (fun y : Rg => y.1) (pre ++ [x])))] 28 (0, 0)) := by rw [List.map_append, show List.map (fun y : Rg => y.1) [x] = [x.1] from rfl, HRL.out, HRH.out, ← HA.out.1, ← HA.out.2, ← HY.out.1, ← HY.out.2]; exact hn2
      have HEND := Lib.hid (show KeepsFrom W0.heap.size W ((W3.setCell ⟨w.heap.size + 1, 0, none⟩ (.int .i64 (min a0 y0))).setCell ⟨w.heap.size + 1, 1, none⟩ (.int .i64 (max a1 y1))) ∧ KpE w.heap.size s2 (s2 + 1) st (of) W ((W3.setCell ⟨w.heap.size + 1, 0, none⟩ (.int .i64 (min a0 y0))).setCell ⟨w.heap.size + 1, 1, none⟩ (.int .i64 (max a1 y1))) ∧ ((((W3.setCell ⟨w.heap.size + 1, 0, none⟩ (.int .i64 (min a0 y0))).setCell ⟨w.heap.size + 1, 1, none⟩ (.int .i64 (max a1 y1))).heap[w.heap.size]? = some (.cells #[.int .i64 no, .int .i64 rc, .int .i64 cl, .int .i64 dr, .int .i64 si, t] 24 (0, 0)) ∧ ((W3.setCell ⟨w.heap.size + 1, 0, none⟩ (.int .i64 (min a0 y0))).setCell ⟨w.heap.size + 1, 1, none⟩ (.int .i64 (max a1 y1))).heap[w.heap.size + 1]? = some (.cells #[.int .i64 (rLo pts st (List.map (fun y : Rg => y.1) (pre ++ [x]))), .int .i64 (rHi pts st (List.map (fun y : Rg => y.1) (pre ++ [x])))] 28 (0, 0))) ∧ Below w.heap.size w ((W3.setCell ⟨w.heap.size + 1, 0, none⟩ (.int .i64 (min a0 y0))).setCell ⟨w.heap.size + 1, 1, none⟩ (.int .i64 (max a1 y1)))) from ⟨(dk.trans ((KeepsOthers.setCell _ _ _).from _)).trans ((KeepsOthers.setCell _ _ _).from _), ⟨(dB.setCell (by simp) _).setCell (by simp) _, fun hx => setFar _ (setFar _ (db _ _ hx) (by omega)) (by omega), fun hx => setFar _ (setFar _ (db _ _ hx) (by omega)) (by omega)⟩, ⟨⟨hn1, hn3⟩, ((cB.trans dB).setCell (by simp) _).setCell (by simp) _⟩⟩)
      clear hn1 hn2 hn3 dk dB db d1 d2
      refine wpAnyH_take (i := 0) (oi := ⟨some 50, _, _, _, _, _⟩) (v := ?_) rfl (by kernel_rfl) (by kernel_rfl) (by kernel_rfl) (fun _ _ _ h => h) (Or.inl ⟨by kernel_rfl, ?_⟩) hX0 ?_
      rotate_left 1
      · (intro w1 hSw; (try dsimp only at hSw); obtain ⟨s1, s2⟩ := hSw; go_simp; (try with_reducible rfl))
      try simp only [Act.put, List.setIfInBounds_toArray, List.set_cons_zero, List.set_cons_succ]
      refine wpAnyH_take (i := 2) (oi := ⟨some 52, _, _, _, _, _⟩) (v := ?_) rfl (by kernel_rfl) (by kernel_rfl) (by kernel_rfl) (fun _ _ _ h => h) (Or.inl ⟨by kernel_rfl, ?_⟩) hX0 ?_
      rotate_left 1
      · (intro w1 hSw; (try dsimp only at hSw); obtain ⟨s1, s2⟩ := hSw; go_simp; (try with_reducible rfl))
      try simp only [Act.put, List.setIfInBounds_toArray, List.set_cons_zero, List.set_cons_succ]
      refine wpAnyH_take (i := 5) (oi := ⟨some 55, _, _, _, _, _⟩) (v := ?_) rfl (by kernel_rfl) (by kernel_rfl) (by kernel_rfl) (fun _ _ _ h => h) (Or.inl ⟨by kernel_rfl, ?_⟩) hX0 ?_
      rotate_left 1
      · (intro w1 hSw; (try dsimp only at hSw); obtain ⟨s1, s2⟩ := hSw; go_simp; (try with_reducible rfl))
      try simp only [Act.put, List.setIfInBounds_toArray, List.set_cons_zero, List.set_cons_succ]
      refine wpAnyH_take (i := 7) (oi := ⟨some 57, _, _, _, _, _⟩) (v := ?_) rfl (by kernel_rfl) (by kernel_rfl) (by kernel_rfl) (fun _ _ _ h => h) (Or.inl ⟨by kernel_rfl, ?_⟩) hX0 ?_
      rotate_left 1
      · (intro w1 hSw; (try dsimp only at hSw); obtain ⟨s1, s2⟩ := hSw; go_simp; (try with_reducible rfl))
      try simp only [Act.put, List.setIfInBounds_toArray, List.set_cons_zero, List.set_cons_succ]
      refine wpAnyH_take (i := 3) (oi := ⟨some 53, _, _, _, _, _⟩) (v := ?_) rfl (by kernel_rfl) (by kernel_rfl) (by kernel_rfl) (fun _ _ _ h => h) (Or.inl ⟨by kernel_rfl, ?_⟩) hX0 ?_
      rotate_left 1
      · (intro w1 hSw; (try dsimp only at hSw); obtain ⟨s1, s2⟩ := hSw; go_simp; (try with_reducible rfl))
      try simp only [Act.put, List.setIfInBounds_toArray, List.set_cons_zero, List.set_cons_succ]
      refine wpAnyH_take (i := 8) (oi := ⟨some 58, _, _, _, _, _⟩) (v := ?_) rfl (by kernel_rfl) (by kernel_rfl) (by kernel_rfl) (fun _ _ _ h => h) (Or.inl ⟨by kernel_rfl, ?_⟩) hX0 ?_
      rotate_left 1
      · (intro w1 hSw; (try dsimp only at hSw); obtain ⟨s1, s2⟩ := hSw; go_simp; (try with_reducible rfl))
      try simp only [Act.put, List.setIfInBounds_toArray, List.set_cons_zero, List.set_cons_succ]
      refine wpAnyH_ready (rs := [1, 6]) (by kernel_rfl) (by simp) ?_
      refine AllReadyH.cons (o := ⟨some 51, _, _, _, _, _⟩) rfl (fun K' hK' => ?_) (AllReadyH.cons (o := ⟨some 56, _, _, _, _, _⟩) rfl (fun K' hK' => ?_) AllReadyH.nil)
      · go_simp
        refine hK'.out _ _ hX0 (fun hX1 => ?_)
        clear hK' K'
        try simp only [Act.put, List.setIfInBounds_toArray, List.set_cons_zero, List.set_cons_succ]
        refine wpAnyH_take (i := 4) (oi := ⟨some 54, _, _, _, _, _⟩) (v := .int .i64 (min a0 y0)) rfl (by kernel_rfl) (by kernel_rfl) (by kernel_rfl) (fun _ _ _ h => h) (Or.inl ⟨by kernel_rfl, (fun w1 hSw => if hh : y0 < a0 then (by rw [show min a0 y0 = y0 from by omega]; go_simp) else (by rw [show min a0 y0 = a0 from by omega]; go_simp))⟩) hX1 ?_
        try simp only [Act.put, List.setIfInBounds_toArray, List.set_cons_zero, List.set_cons_succ]
        refine wpAnyH_ready (rs := [6]) (by kernel_rfl) (by simp) ?_
        refine AllReadyH.cons (o := ⟨some 56, _, _, _, _, _⟩) rfl (fun K' hK' => ?_) AllReadyH.nil
        go_simp
        refine hK'.out _ _ (hX1) (fun hX2 => ?_)
        clear hK' K'
        try simp only [Act.put, List.setIfInBounds_toArray, List.set_cons_zero, List.set_cons_succ]
        refine wpAnyH_take (i := 9) (oi := ⟨some 59, _, _, _, _, _⟩) (v := .int .i64 (max a1 y1)) rfl (by kernel_rfl) (by kernel_rfl) (by kernel_rfl) (fun _ _ _ h => h) (Or.inl ⟨by kernel_rfl, (fun w1 hSw => if hh : a1 < y1 then (by rw [show max a1 y1 = y1 from by omega]; go_simp) else (by rw [show max a1 y1 = a1 from by omega]; go_simp))⟩) hX2 ?_
        try simp only [Act.put, List.setIfInBounds_toArray, List.set_cons_zero, List.set_cons_succ]
        refine wpAnyH_take (i := 10) (oi := ⟨some 60, _, _, _, _, _⟩) (v := ?_) rfl (by kernel_rfl) (by kernel_rfl) (by kernel_rfl) (fun _ _ _ h => h) (Or.inl ⟨by kernel_rfl, ?_⟩) hX2 ?_
        rotate_left 1
        · (intro w1 hSw; (try dsimp only at hSw); obtain ⟨s1, s2⟩ := hSw; go_simp; (try with_reducible rfl))
        try simp only [Act.put, List.setIfInBounds_toArray, List.set_cons_zero, List.set_cons_succ]
        refine wpAnyH_ready (rs := [11]) (by kernel_rfl) (by simp) ?_
        refine AllReadyH.cons (o := ⟨none, _, _, _, _, _⟩) rfl (fun K' hK' => ?_) AllReadyH.nil
        go_simp
        refine hK'.out _ _ (⟨(World.cell?_setCell_far _ _ _ _ (by simp; omega)).trans hX2.1, (World.cell?_setCell_far _ _ _ _ (by simp; omega)).trans hX2.2⟩) (fun hX3 => ?_)
        clear hK' K'
        try simp only [Act.put, List.setIfInBounds_toArray, List.set_cons_zero, List.set_cons_succ]
        refine wpAnyH_take (i := 12) (oi := ⟨some 61, _, _, _, _, _⟩) (v := ?_) rfl (by kernel_rfl) (by kernel_rfl) (by kernel_rfl) (fun _ _ _ h => h) (Or.inl ⟨by kernel_rfl, ?_⟩) hX3 ?_
        rotate_left 1
        · (intro w1 hSw; (try dsimp only at hSw); obtain ⟨s1, s2⟩ := hSw; go_simp; (try with_reducible rfl))
        try simp only [Act.put, List.setIfInBounds_toArray, List.set_cons_zero, List.set_cons_succ]
        refine wpAnyH_ready (rs := [13]) (by kernel_rfl) (by simp) ?_
        refine AllReadyH.cons (o := ⟨none, _, _, _, _, _⟩) rfl (fun K' hK' => ?_) AllReadyH.nil
        go_simp
        refine hK'.out _ _ (⟨(World.cell?_setCell_far _ _ _ _ (by simp; omega)).trans hX3.1, (World.cell?_setCell_far _ _ _ _ (by simp; omega)).trans hX3.2⟩) (fun hX4 => ?_)
        clear hK' K'
        try simp only [Act.put, List.setIfInBounds_toArray, List.set_cons_zero, List.set_cons_succ]
        refine wpAnyH_done (by kernel_rfl) ?_ _
        exact HEND.out
      · go_simp
        refine hK'.out _ _ hX0 (fun hX1 => ?_)
        clear hK' K'
        try simp only [Act.put, List.setIfInBounds_toArray, List.set_cons_zero, List.set_cons_succ]
        refine wpAnyH_take (i := 9) (oi := ⟨some 59, _, _, _, _, _⟩) (v := .int .i64 (max a1 y1)) rfl (by kernel_rfl) (by kernel_rfl) (by kernel_rfl) (fun _ _ _ h => h) (Or.inl ⟨by kernel_rfl, (fun w1 hSw => if hh : a1 < y1 then (by rw [show max a1 y1 = y1 from by omega]; go_simp) else (by rw [show max a1 y1 = a1 from by omega]; go_simp))⟩) hX1 ?_
        try simp only [Act.put, List.setIfInBounds_toArray, List.set_cons_zero, List.set_cons_succ]
        refine wpAnyH_ready (rs := [1]) (by kernel_rfl) (by simp) ?_
        refine AllReadyH.cons (o := ⟨some 51, _, _, _, _, _⟩) rfl (fun K' hK' => ?_) AllReadyH.nil
        go_simp
        refine hK'.out _ _ (hX1) (fun hX2 => ?_)
        clear hK' K'
        try simp only [Act.put, List.setIfInBounds_toArray, List.set_cons_zero, List.set_cons_succ]
        refine wpAnyH_take (i := 4) (oi := ⟨some 54, _, _, _, _, _⟩) (v := .int .i64 (min a0 y0)) rfl (by kernel_rfl) (by kernel_rfl) (by kernel_rfl) (fun _ _ _ h => h) (Or.inl ⟨by kernel_rfl, (fun w1 hSw => if hh : y0 < a0 then (by rw [show min a0 y0 = y0 from by omega]; go_simp) else (by rw [show min a0 y0 = a0 from by omega]; go_simp))⟩) hX2 ?_
        try simp only [Act.put, List.setIfInBounds_toArray, List.set_cons_zero, List.set_cons_succ]
        refine wpAnyH_take (i := 10) (oi := ⟨some 60, _, _, _, _, _⟩) (v := ?_) rfl (by kernel_rfl) (by kernel_rfl) (by kernel_rfl) (fun _ _ _ h => h) (Or.inl ⟨by kernel_rfl, ?_⟩) hX2 ?_
        rotate_left 1
        · (intro w1 hSw; (try dsimp only at hSw); obtain ⟨s1, s2⟩ := hSw; go_simp; (try with_reducible rfl))
        try simp only [Act.put, List.setIfInBounds_toArray, List.set_cons_zero, List.set_cons_succ]
        refine wpAnyH_ready (rs := [11]) (by kernel_rfl) (by simp) ?_
        refine AllReadyH.cons (o := ⟨none, _, _, _, _, _⟩) rfl (fun K' hK' => ?_) AllReadyH.nil
        go_simp
        refine hK'.out _ _ (⟨(World.cell?_setCell_far _ _ _ _ (by simp; omega)).trans hX2.1, (World.cell?_setCell_far _ _ _ _ (by simp; omega)).trans hX2.2⟩) (fun hX3 => ?_)
        clear hK' K'
        try simp only [Act.put, List.setIfInBounds_toArray, List.set_cons_zero, List.set_cons_succ]
        refine wpAnyH_take (i := 12) (oi := ⟨some 61, _, _, _, _, _⟩) (v := ?_) rfl (by kernel_rfl) (by kernel_rfl) (by kernel_rfl) (fun _ _ _ h => h) (Or.inl ⟨by kernel_rfl, ?_⟩) hX3 ?_
        rotate_left 1
        · (intro w1 hSw; (try dsimp only at hSw); obtain ⟨s1, s2⟩ := hSw; go_simp; (try with_reducible rfl))
        try simp only [Act.put, List.setIfInBounds_toArray, List.set_cons_zero, List.set_cons_succ]
        refine wpAnyH_ready (rs := [13]) (by kernel_rfl) (by simp) ?_
        refine AllReadyH.cons (o := ⟨none, _, _, _, _, _⟩) rfl (fun K' hK' => ?_) AllReadyH.nil
        go_simp
        refine hK'.out _ _ (⟨(World.cell?_setCell_far _ _ _ _ (by simp; omega)).trans hX3.1, (World.cell?_setCell_far _ _ _ _ (by simp; omega)).trans hX3.2⟩) (fun hX4 => ?_)
        clear hK' K'
        try simp only [Act.put, List.setIfInBounds_toArray, List.set_cons_zero, List.set_cons_succ]
        refine wpAnyH_done (by kernel_rfl) ?_ _
        exact HEND.out
    case done =>
      rintro D zs W hD hzs ⟨⟨c1, c2⟩, cB⟩ hK
      rw [hzs] at c2
      have z0 := cellEq (i := 0) c2; have z1 := cellEq (i := 1) c2; have f0 := frozenEq (i := 0) c2; have f1 := frozenEq (i := 1) c2
      simp only [List.getElem?_toArray, List.getElem?_cons_zero, List.getElem?_cons_succ] at z0 z1
      have hzz : w.heap.size + 2 ≤ D := by omega
      have hK' := setFar (B' := w.heap.size + 1) (i := 1) (.int .i64 (rHi pts st [end0 st (of), end1 st (of)])) (setFar (B' := w.heap.size + 1) (i := 0) (.int .i64 (rLo pts st [end0 st (of), end1 st (of)])) hK (by omega)) (by omega)
      have hPut := belowK_b (w := W0) (n₀ := W0.heap.size) (Nat.le_refl _) _ D _ (Obj.deferred none) hD hK' rfl rfl
      have cE := (hPut.block (w.heap.size + 1) (by omega)).trans (setPair (.int .i64 (rLo pts st [end0 st (of), end1 st (of)])) (.int .i64 (rHi pts st [end0 st (of), end1 st (of)])) c2)
      have hfin : Below w.heap.size w _ := ((cB.setCell (p := ⟨w.heap.size + 1, 0, none⟩) (by simp) (.int .i64 (rLo pts st [end0 st (of), end1 st (of)]))).setCell (p := ⟨w.heap.size + 1, 1, none⟩) (by simp) (.int .i64 (rHi pts st [end0 st (of), end1 st (of)]))).trans (hPut.mono (by omega))
      gi_wp2
      refine ⟨by simp, .inl ⟨_, _, rfl, run_takeDeferred hK', ?_⟩⟩
      have zE0 := cellEq (i := 0) cE; have zE1 := cellEq (i := 1) cE
      simp only [List.getElem?_toArray, List.getElem?_cons_zero, List.getElem?_cons_succ] at zE0 zE1
      exact ⟨.tuple #[.agg #[.int .i64 (rLo pts st [end0 st (of), end1 st (of)]), .int .i64 (rHi pts st [end0 st (of), end1 st (of)])], .int .i64 0], by simp [results, Try.results5, go_sem, zE0, zE1], by rw [HO.out], hfin⟩
    case stop =>
      rintro D c pre W _ _ h _
      exact h.elim
  · have hq0 : q = 0 := by omega
    subst hq0
    have hp0 : p = 0 := by rw [← hp]; simp
    subst hp0
    have hof0 : cl = of := by omega
    subst hof0
    clear hqq hp hof
    rw [hc]
    gi_wp2_with fail
    refine ⟨trivial, ?_⟩; gi_at_call 9; refine (callsIn_wide.2 (within1 1048576 st _ _ (by go_simp))).mono ?_; rintro e w' ⟨rfl, rfl⟩; rw [hst]
    gi_wp2_with fail
    refine ⟨trivial, ?_⟩; gi_at_call 9; refine (callsIn_wide.2 (within1 4096 hour _ _ (by go_simp))).mono ?_; rintro e w' ⟨rfl, rfl⟩; rw [hho]
    have hBx : Below w1.heap.size w1 ((w1.alloc (.cells #[.int .i64 st] 3)).alloc (.cells #[.int .i64 hour] 3)) := belowAl (belowAl (Below.refl _ _) _) _
    have hBxw := thenB hBw hBx
    have hSx := Lib.hid (hS1.out.below hBx)
    gi_wp2_with fail
    refine ⟨trivial, ?_⟩; gi_at_call 10; refine (callsIn_wide.2 (flow_any no rc cl dr si st t pts hTt.1 hst' _ hSx.out)).mono ?_; rintro e w2 ⟨rfl, hB2⟩
    have hG2 := (hB2.block w.heap.size (Array.getElem?_eq_some_iff.1 hGx).1).trans hGx
    have hZ2 := (hB2.block (w.heap.size + 1) (Array.getElem?_eq_some_iff.1 hZx).1).trans hZx
    have hBw2 := thenB hBxw hB2
    have hS2 := Lib.hid (hSx.out.below hB2)
    have hs2 : w.heap.size + 2 ≤ w2.heap.size := by have := hB2.size; simp at this; omega
    have yg0 := cellEq (i := 0) hG2; have yg1 := cellEq (i := 1) hG2; have yg2 := cellEq (i := 2) hG2; have yg3 := cellEq (i := 3) hG2; have yg4 := cellEq (i := 4) hG2; have yg5 := cellEq (i := 5) hG2
    have yz0 := cellEq (i := 0) hZ2; have yz1 := cellEq (i := 1) hZ2; have yf0 := frozenEq (i := 0) hZ2; have yf1 := frozenEq (i := 1) hZ2
    simp only [List.getElem?_toArray, List.getElem?_cons_zero, List.getElem?_cons_succ] at yg0 yg1 yg2 yg3 yg4 yg5 yz0 yz1
    clear g0 g1 g2 g3 g4 g5 z0 z1 f0 f1 xg0 xg1 xg2 xg3 xg4 xg5 xz0 xz1 xf0 xf1 hB2 hSx hBxw hBx
    gi_wp2_with fail
    refine ⟨trivial, ?_⟩; gi_at_call 11; refine (ends_in _ _ trivial hw _ _ _).mono ?_; rintro e w' ⟨rfl, rfl⟩
    gi_wp2_with fail
    have bG : ((((w2.setCell ⟨w.heap.size + 1, 0, none⟩ (.int .i64 (lo pts st))).setCell ⟨w.heap.size + 1, 1, none⟩ (.int .i64 (hi pts st))).alloc (.cells #[.int .i64 st] 3)).alloc (.cells #[.int .i64 (cl)] 3)).heap[w.heap.size]? = some (.cells #[.int .i64 no, .int .i64 rc, .int .i64 cl, .int .i64 dr, .int .i64 si, t] 24 (0, 0)) := alFar _ (alFar _ (setFar _ (setFar _ hG2 (by omega)) (by omega)))
    have bZ : ((((w2.setCell ⟨w.heap.size + 1, 0, none⟩ (.int .i64 (lo pts st))).setCell ⟨w.heap.size + 1, 1, none⟩ (.int .i64 (hi pts st))).alloc (.cells #[.int .i64 st] 3)).alloc (.cells #[.int .i64 (cl)] 3)).heap[w.heap.size + 1]? = some (.cells #[.int .i64 (rLo pts st []), .int .i64 (rHi pts st [])] 28 (0, 0)) := alFar _ (alFar _ (setPair _ _ hZ2))
    have bS : Boxed ((((w2.setCell ⟨w.heap.size + 1, 0, none⟩ (.int .i64 (lo pts st))).setCell ⟨w.heap.size + 1, 1, none⟩ (.int .i64 (hi pts st))).alloc (.cells #[.int .i64 st] 3)).alloc (.cells #[.int .i64 (cl)] 3)) w2.heap.size 3 (.int .i64 st) := by
      have := (Boxed.new ((w2.setCell ⟨w.heap.size + 1, 0, none⟩ (.int .i64 (lo pts st))).setCell ⟨w.heap.size + 1, 1, none⟩ (.int .i64 (hi pts st))) 3 (.int .i64 st)).alloc (.cells #[.int .i64 (cl)] 3)
      simpa using this
    have bO : Boxed ((((w2.setCell ⟨w.heap.size + 1, 0, none⟩ (.int .i64 (lo pts st))).setCell ⟨w.heap.size + 1, 1, none⟩ (.int .i64 (hi pts st))).alloc (.cells #[.int .i64 st] 3)).alloc (.cells #[.int .i64 (cl)] 3)) (w2.heap.size + 1) 3 (.int .i64 (cl)) := by
      have := Boxed.new (((w2.setCell ⟨w.heap.size + 1, 0, none⟩ (.int .i64 (lo pts st))).setCell ⟨w.heap.size + 1, 1, none⟩ (.int .i64 (hi pts st))).alloc (.cells #[.int .i64 st] 3)) 3 (.int .i64 (cl))
      simpa using this
    have hB7 : Below w.heap.size w ((((w2.setCell ⟨w.heap.size + 1, 0, none⟩ (.int .i64 (lo pts st))).setCell ⟨w.heap.size + 1, 1, none⟩ (.int .i64 (hi pts st))).alloc (.cells #[.int .i64 st] 3)).alloc (.cells #[.int .i64 (cl)] 3)) := by repeat' (first | exact hBw2 | refine belowAl ?_ _ | refine belowDr ?_ | refine belowDn ?_ _ | refine Below.setCell ?_ (by simp <;> omega) _)
    have hsz : ((((w2.setCell ⟨w.heap.size + 1, 0, none⟩ (.int .i64 (lo pts st))).setCell ⟨w.heap.size + 1, 1, none⟩ (.int .i64 (hi pts st))).alloc (.cells #[.int .i64 st] 3)).alloc (.cells #[.int .i64 (cl)] 3)).heap.size = w2.heap.size + 2 := by simp
    obtain ⟨W0, hW0⟩ : ∃ W0, ((((w2.setCell ⟨w.heap.size + 1, 0, none⟩ (.int .i64 (lo pts st))).setCell ⟨w.heap.size + 1, 1, none⟩ (.int .i64 (hi pts st))).alloc (.cells #[.int .i64 st] 3)).alloc (.cells #[.int .i64 (cl)] 3)) = W0 := ⟨_, rfl⟩
    rw [hW0] at bG bZ bS bO hB7 hsz ⊢
    clear hW0 yg0 yg1 yg2 yg3 yg4 yg5 yz0 yz1 yf0 yf1 hG2 hZ2 hG hZ hGx hZx
    obtain ⟨s2, hs2'⟩ : ∃ s2, w2.heap.size = s2 := ⟨_, rfl⟩
    rw [hs2'] at hs2 bS bO hsz ⊢
    refine wpIn_rangeFunc_ownH hw (by omega) (gf := 16) (lb := #[.pointer (some ⟨s2, 0, none⟩), .pointer (some ⟨s2 + 1, 0, none⟩)]) rfl trivial (enters_of Try.func16 (by kernel_rfl) rfl)
      (ends_stops Fence.wide 5 trivial hw (by omega) s2 (s2 + 1) w.heap.size st (cl) hst' ⟨by omega, by omega⟩ W0 (by omega) bS bO) KpE_t (KpE_b (by omega)) (Below.refl _ _) (fun _ => rfl)
      (fun (pre : List Rg) W => (W.heap[w.heap.size]? = some (.cells #[.int .i64 no, .int .i64 rc, .int .i64 cl, .int .i64 dr, .int .i64 si, t] 24 (0, 0)) ∧ W.heap[w.heap.size + 1]? = some (.cells #[.int .i64 (rLo pts st (List.map (fun y : Rg => y.1) pre)), .int .i64 (rHi pts st (List.map (fun y : Rg => y.1) pre))] 28 (0, 0))) ∧ Below w.heap.size w W)
      (fun _ _ _ => False)
      (OwnFrom.and (OwnFrom.and (Own.from (cells_own _ _ (fun _ => _)) _) (Own.from (cells_own _ _ (fun (pre : List Rg) => #[.int .i64 (rLo pts st (List.map (fun y : Rg => y.1) pre)), .int .i64 (rHi pts st (List.map (fun y : Rg => y.1) pre))])) _)) (ownFrom_below (by omega) (by omega)))
      (fun _ _ _ _ _ hs _ _ => hs)
      ⟨⟨bG, bZ⟩, hB7⟩
      (fun (x : Rg) a' W => a' = { tmps := #[gv no rc cl dr si t, Value.int IntKind.i64 st, Value.int IntKind.i64 hour, Value.pointer (some { block := w.heap.size, off := 0 }), undef, undef, Value.pointer (some { block := w.heap.size + 1, off := 0 }), Value.int IntKind.i64 0, Value.int IntKind.i64 (cl), Value.int IntKind.i64 x.1, undef, gv no rc cl dr si t, Value.int IntKind.i64 0, Value.int IntKind.i64 0, Value.bool false, undef, undef, Value.int IntKind.i64 st, Value.slice (some { block := w1.heap.size, off := 0 }) 1 1, Value.bool true, Value.bool false, Value.bool false, Value.int IntKind.i64 hour, Value.slice (some { block := w1.heap.size + 1, off := 0 }) 1 1, Value.bool true, Value.bool false, Value.bool false, undef, Value.pointer (some { block := w.heap.size, off := 2 }), Value.int IntKind.i64 cl, Value.pointer (some { block := w.heap.size, off := 3 }), Value.int IntKind.i64 dr, Value.int IntKind.i64 hour, Value.pointer (some { block := w.heap.size, off := 4 }), Value.int IntKind.i64 si, Value.int IntKind.i64 (hour - si), Value.int IntKind.i64 (0), Value.int IntKind.i64 (0), Value.int IntKind.i64 (0), Value.int IntKind.i64 (cl), gv no rc cl dr si t, Value.int IntKind.i64 st, Value.agg #[Value.int IntKind.i64 (lo pts st), Value.int IntKind.i64 (hi pts st)], Value.int IntKind.i64 st, Value.int IntKind.i64 (cl), Value.func (Fn.func 16) #[] #[.pointer (some ⟨s2, 0, none⟩), .pointer (some ⟨s2 + 1, 0, none⟩)], Value.int IntKind.i64 x.1, undef, undef, undef, undef, undef, undef, undef, undef, undef, undef, undef, undef, undef, undef, undef, undef], defers := [] })
      (fun x a' _ A B row hs hg hr => hs)
      ?assign ?body ?done ?stop
    case assign =>
      rintro l pre x W K hI hK
      dsimp only [encI]
      gi_wp2
      exact hK _ _ (KeepsFrom.refl _ _) ⟨Below.refl _ _, id, id⟩ hI rfl
    case body =>
      rintro l pre x a' W hl ⟨r, hr⟩ ⟨⟨c1, c2⟩, cB⟩ rfl hlt
      have g0 := cellEq (i := 0) c1; have g1 := cellEq (i := 1) c1; have g2 := cellEq (i := 2) c1; have g3 := cellEq (i := 3) c1; have g4 := cellEq (i := 4) c1; have g5 := cellEq (i := 5) c1
      simp only [List.getElem?_toArray, List.getElem?_cons_zero, List.getElem?_cons_succ] at g0 g1 g2 g3 g4 g5
      gi_wp2_with fail
      refine ⟨trivial, ?_⟩; gi_at_call 10
      refine (CallsIn.inRound l (callsIn_wide.2 (flow_any no rc cl dr si x.1 t pts hTt.1 x.2 _ (hs.below cB)))).mono ?_; rintro e w3 ⟨rfl, hB3⟩
      have e1 := (hB3.block _ (Array.getElem?_eq_some_iff.1 c1).1).trans c1
      have e2 := (hB3.block _ (Array.getElem?_eq_some_iff.1 c2).1).trans c2
      have hX3 : PtSl w3 t pts := (hs.below cB).below hB3
      have hk3 : KeepsFrom W0.heap.size W w3 := keeps_of_below hB3
      have hwW := cB.size
      have hB3' : Below w.heap.size W w3 := hB3.mono hwW
      have hb3 : ∀ B v, Boxed W B 3 v → Boxed w3 B 3 v := fun B v hx => (hB3.block B hx.lt).trans hx
      have HRL := Lib.hid (rLo_snoc pts st (List.map (fun y : Rg => y.1) pre) x.1); have HRH := Lib.hid (rHi_snoc pts st (List.map (fun y : Rg => y.1) pre) x.1)
      obtain ⟨a0, ha0⟩ : ∃ a, a = rLo pts st (List.map (fun y : Rg => y.1) pre) := ⟨_, rfl⟩
      obtain ⟨a1, ha1⟩ : ∃ a, a = rHi pts st (List.map (fun y : Rg => y.1) pre) := ⟨_, rfl⟩
      obtain ⟨y0, hy0⟩ : ∃ a, a = lo pts x.1 := ⟨_, rfl⟩
      obtain ⟨y1, hy1⟩ : ∃ a, a = hi pts x.1 := ⟨_, rfl⟩
      rw [← ha0, ← ha1] at e2
      rw [← hy0, ← hy1]
      have HA := Lib.hid (And.intro ha0 ha1); have HY := Lib.hid (And.intro hy0 hy1)
      have hs3 : w.heap.size + 2 ≤ w3.heap.size := by have := (Array.getElem?_eq_some_iff.1 e2).1; omega
      have hw33 := hB3.size
      clear hB3 g0 g1 g2 g3 g4 g5 ha0 ha1 hy0 hy1 hX3
      have d1 : (w3.alloc (.cells #[.int .i64 y0, .int .i64 y1] 28)).drew.heap[w.heap.size]? = some (.cells #[.int .i64 no, .int .i64 rc, .int .i64 cl, .int .i64 dr, .int .i64 si, t] 24 (0, 0)) := alFar _ e1
      have d2 : (w3.alloc (.cells #[.int .i64 y0, .int .i64 y1] 28)).drew.heap[w.heap.size + 1]? = some (.cells #[.int .i64 a0, .int .i64 a1] 28 (0, 0)) := alFar _ e2
      have dY : (w3.alloc (.cells #[.int .i64 y0, .int .i64 y1] 28)).drew.heap[w3.heap.size]? = some (.cells #[.int .i64 y0, .int .i64 y1] 28 (0, 0)) := World.alloc_heap_new w3 _
      have dk : KeepsFrom W0.heap.size W (w3.alloc (.cells #[.int .i64 y0, .int .i64 y1] 28)).drew := (hk3.trans ((KeepsOthers.alloc w3 _).from _)).trans ((KeepsOthers.drew _).from _)
      have dB : Below w.heap.size W (w3.alloc (.cells #[.int .i64 y0, .int .i64 y1] 28)).drew := (hB3'.alloc (by omega) _).drew
      have db : ∀ B v, Boxed W B 3 v → Boxed (w3.alloc (.cells #[.int .i64 y0, .int .i64 y1] 28)).drew B 3 v := fun B v hx => (hb3 B v hx).alloc _
      gi_wp2_with fail
      clear e1 e2 hk3 hB3' hb3
      refine region_round (fun w' => w'.cell? ⟨w3.heap.size, 0, none⟩ = some (.int .i64 y0) ∧ w'.cell? ⟨w3.heap.size, 1, none⟩ = some (.int .i64 y1)) (by kernel_rfl) (by kernel_rfl) ⟨cellEq dY, cellEq dY⟩ ?_
      generalize (w3.alloc (.cells #[.int .i64 y0, .int .i64 y1] 28)).drew = W3 at *
      intro hX0
      have k0 := cellEq (i := 0) d2; have k1 := cellEq (i := 1) d2; have f0 := frozenEq (i := 0) d2; have f1 := frozenEq (i := 1) d2
      simp only [List.getElem?_toArray, List.getElem?_cons_zero, List.getElem?_cons_succ] at k0 k1
      have hn2 := setPair (.int .i64 (min a0 y0)) (.int .i64 (max a1 y1)) d2
      have hn1 := setFar (B' := w.heap.size + 1) (i := 1) (.int .i64 (max a1 y1)) (setFar (B' := w.heap.size + 1) (i := 0) (.int .i64 (min a0 y0)) d1 (by omega)) (by omega)
      have hn3 : ((W3.setCell ⟨w.heap.size + 1, 0, none⟩ (.int .i64 (min a0 y0))).setCell ⟨w.heap.size + 1, 1, none⟩ (.int .i64 (max a1 y1))).heap[w.heap.size + 1]? = some (Obj.cells #[.int .i64 (rLo pts st (List.map (fun y : Rg => y.1) (pre ++ [x]))), .int .i64 (rHi pts st (List.map (fun y : Rg => y.1) (pre ++ [x])))] 28 (0, 0)) := by rw [List.map_append, show List.map (fun y : Rg => y.1) [x] = [x.1] from rfl, HRL.out, HRH.out, ← HA.out.1, ← HA.out.2, ← HY.out.1, ← HY.out.2]; exact hn2
      have HEND := Lib.hid (show KeepsFrom W0.heap.size W ((W3.setCell ⟨w.heap.size + 1, 0, none⟩ (.int .i64 (min a0 y0))).setCell ⟨w.heap.size + 1, 1, none⟩ (.int .i64 (max a1 y1))) ∧ KpE w.heap.size s2 (s2 + 1) st (cl) W ((W3.setCell ⟨w.heap.size + 1, 0, none⟩ (.int .i64 (min a0 y0))).setCell ⟨w.heap.size + 1, 1, none⟩ (.int .i64 (max a1 y1))) ∧ ((((W3.setCell ⟨w.heap.size + 1, 0, none⟩ (.int .i64 (min a0 y0))).setCell ⟨w.heap.size + 1, 1, none⟩ (.int .i64 (max a1 y1))).heap[w.heap.size]? = some (.cells #[.int .i64 no, .int .i64 rc, .int .i64 cl, .int .i64 dr, .int .i64 si, t] 24 (0, 0)) ∧ ((W3.setCell ⟨w.heap.size + 1, 0, none⟩ (.int .i64 (min a0 y0))).setCell ⟨w.heap.size + 1, 1, none⟩ (.int .i64 (max a1 y1))).heap[w.heap.size + 1]? = some (.cells #[.int .i64 (rLo pts st (List.map (fun y : Rg => y.1) (pre ++ [x]))), .int .i64 (rHi pts st (List.map (fun y : Rg => y.1) (pre ++ [x])))] 28 (0, 0))) ∧ Below w.heap.size w ((W3.setCell ⟨w.heap.size + 1, 0, none⟩ (.int .i64 (min a0 y0))).setCell ⟨w.heap.size + 1, 1, none⟩ (.int .i64 (max a1 y1)))) from ⟨(dk.trans ((KeepsOthers.setCell _ _ _).from _)).trans ((KeepsOthers.setCell _ _ _).from _), ⟨(dB.setCell (by simp) _).setCell (by simp) _, fun hx => setFar _ (setFar _ (db _ _ hx) (by omega)) (by omega), fun hx => setFar _ (setFar _ (db _ _ hx) (by omega)) (by omega)⟩, ⟨⟨hn1, hn3⟩, ((cB.trans dB).setCell (by simp) _).setCell (by simp) _⟩⟩)
      clear hn1 hn2 hn3 dk dB db d1 d2
      refine wpAnyH_take (i := 0) (oi := ⟨some 50, _, _, _, _, _⟩) (v := ?_) rfl (by kernel_rfl) (by kernel_rfl) (by kernel_rfl) (fun _ _ _ h => h) (Or.inl ⟨by kernel_rfl, ?_⟩) hX0 ?_
      rotate_left 1
      · (intro w1 hSw; (try dsimp only at hSw); obtain ⟨s1, s2⟩ := hSw; go_simp; (try with_reducible rfl))
      try simp only [Act.put, List.setIfInBounds_toArray, List.set_cons_zero, List.set_cons_succ]
      refine wpAnyH_take (i := 2) (oi := ⟨some 52, _, _, _, _, _⟩) (v := ?_) rfl (by kernel_rfl) (by kernel_rfl) (by kernel_rfl) (fun _ _ _ h => h) (Or.inl ⟨by kernel_rfl, ?_⟩) hX0 ?_
      rotate_left 1
      · (intro w1 hSw; (try dsimp only at hSw); obtain ⟨s1, s2⟩ := hSw; go_simp; (try with_reducible rfl))
      try simp only [Act.put, List.setIfInBounds_toArray, List.set_cons_zero, List.set_cons_succ]
      refine wpAnyH_take (i := 5) (oi := ⟨some 55, _, _, _, _, _⟩) (v := ?_) rfl (by kernel_rfl) (by kernel_rfl) (by kernel_rfl) (fun _ _ _ h => h) (Or.inl ⟨by kernel_rfl, ?_⟩) hX0 ?_
      rotate_left 1
      · (intro w1 hSw; (try dsimp only at hSw); obtain ⟨s1, s2⟩ := hSw; go_simp; (try with_reducible rfl))
      try simp only [Act.put, List.setIfInBounds_toArray, List.set_cons_zero, List.set_cons_succ]
      refine wpAnyH_take (i := 7) (oi := ⟨some 57, _, _, _, _, _⟩) (v := ?_) rfl (by kernel_rfl) (by kernel_rfl) (by kernel_rfl) (fun _ _ _ h => h) (Or.inl ⟨by kernel_rfl, ?_⟩) hX0 ?_
      rotate_left 1
      · (intro w1 hSw; (try dsimp only at hSw); obtain ⟨s1, s2⟩ := hSw; go_simp; (try with_reducible rfl))
      try simp only [Act.put, List.setIfInBounds_toArray, List.set_cons_zero, List.set_cons_succ]
      refine wpAnyH_take (i := 3) (oi := ⟨some 53, _, _, _, _, _⟩) (v := ?_) rfl (by kernel_rfl) (by kernel_rfl) (by kernel_rfl) (fun _ _ _ h => h) (Or.inl ⟨by kernel_rfl, ?_⟩) hX0 ?_
      rotate_left 1
      · (intro w1 hSw; (try dsimp only at hSw); obtain ⟨s1, s2⟩ := hSw; go_simp; (try with_reducible rfl))
      try simp only [Act.put, List.setIfInBounds_toArray, List.set_cons_zero, List.set_cons_succ]
      refine wpAnyH_take (i := 8) (oi := ⟨some 58, _, _, _, _, _⟩) (v := ?_) rfl (by kernel_rfl) (by kernel_rfl) (by kernel_rfl) (fun _ _ _ h => h) (Or.inl ⟨by kernel_rfl, ?_⟩) hX0 ?_
      rotate_left 1
      · (intro w1 hSw; (try dsimp only at hSw); obtain ⟨s1, s2⟩ := hSw; go_simp; (try with_reducible rfl))
      try simp only [Act.put, List.setIfInBounds_toArray, List.set_cons_zero, List.set_cons_succ]
      refine wpAnyH_ready (rs := [1, 6]) (by kernel_rfl) (by simp) ?_
      refine AllReadyH.cons (o := ⟨some 51, _, _, _, _, _⟩) rfl (fun K' hK' => ?_) (AllReadyH.cons (o := ⟨some 56, _, _, _, _, _⟩) rfl (fun K' hK' => ?_) AllReadyH.nil)
      · go_simp
        refine hK'.out _ _ hX0 (fun hX1 => ?_)
        clear hK' K'
        try simp only [Act.put, List.setIfInBounds_toArray, List.set_cons_zero, List.set_cons_succ]
        refine wpAnyH_take (i := 4) (oi := ⟨some 54, _, _, _, _, _⟩) (v := .int .i64 (min a0 y0)) rfl (by kernel_rfl) (by kernel_rfl) (by kernel_rfl) (fun _ _ _ h => h) (Or.inl ⟨by kernel_rfl, (fun w1 hSw => if hh : y0 < a0 then (by rw [show min a0 y0 = y0 from by omega]; go_simp) else (by rw [show min a0 y0 = a0 from by omega]; go_simp))⟩) hX1 ?_
        try simp only [Act.put, List.setIfInBounds_toArray, List.set_cons_zero, List.set_cons_succ]
        refine wpAnyH_ready (rs := [6]) (by kernel_rfl) (by simp) ?_
        refine AllReadyH.cons (o := ⟨some 56, _, _, _, _, _⟩) rfl (fun K' hK' => ?_) AllReadyH.nil
        go_simp
        refine hK'.out _ _ (hX1) (fun hX2 => ?_)
        clear hK' K'
        try simp only [Act.put, List.setIfInBounds_toArray, List.set_cons_zero, List.set_cons_succ]
        refine wpAnyH_take (i := 9) (oi := ⟨some 59, _, _, _, _, _⟩) (v := .int .i64 (max a1 y1)) rfl (by kernel_rfl) (by kernel_rfl) (by kernel_rfl) (fun _ _ _ h => h) (Or.inl ⟨by kernel_rfl, (fun w1 hSw => if hh : a1 < y1 then (by rw [show max a1 y1 = y1 from by omega]; go_simp) else (by rw [show max a1 y1 = a1 from by omega]; go_simp))⟩) hX2 ?_
        try simp only [Act.put, List.setIfInBounds_toArray, List.set_cons_zero, List.set_cons_succ]
        refine wpAnyH_take (i := 10) (oi := ⟨some 60, _, _, _, _, _⟩) (v := ?_) rfl (by kernel_rfl) (by kernel_rfl) (by kernel_rfl) (fun _ _ _ h => h) (Or.inl ⟨by kernel_rfl, ?_⟩) hX2 ?_
        rotate_left 1
        · (intro w1 hSw; (try dsimp only at hSw); obtain ⟨s1, s2⟩ := hSw; go_simp; (try with_reducible rfl))
        try simp only [Act.put, List.setIfInBounds_toArray, List.set_cons_zero, List.set_cons_succ]
        refine wpAnyH_ready (rs := [11]) (by kernel_rfl) (by simp) ?_
        refine AllReadyH.cons (o := ⟨none, _, _, _, _, _⟩) rfl (fun K' hK' => ?_) AllReadyH.nil
        go_simp
        refine hK'.out _ _ (⟨(World.cell?_setCell_far _ _ _ _ (by simp; omega)).trans hX2.1, (World.cell?_setCell_far _ _ _ _ (by simp; omega)).trans hX2.2⟩) (fun hX3 => ?_)
        clear hK' K'
        try simp only [Act.put, List.setIfInBounds_toArray, List.set_cons_zero, List.set_cons_succ]
        refine wpAnyH_take (i := 12) (oi := ⟨some 61, _, _, _, _, _⟩) (v := ?_) rfl (by kernel_rfl) (by kernel_rfl) (by kernel_rfl) (fun _ _ _ h => h) (Or.inl ⟨by kernel_rfl, ?_⟩) hX3 ?_
        rotate_left 1
        · (intro w1 hSw; (try dsimp only at hSw); obtain ⟨s1, s2⟩ := hSw; go_simp; (try with_reducible rfl))
        try simp only [Act.put, List.setIfInBounds_toArray, List.set_cons_zero, List.set_cons_succ]
        refine wpAnyH_ready (rs := [13]) (by kernel_rfl) (by simp) ?_
        refine AllReadyH.cons (o := ⟨none, _, _, _, _, _⟩) rfl (fun K' hK' => ?_) AllReadyH.nil
        go_simp
        refine hK'.out _ _ (⟨(World.cell?_setCell_far _ _ _ _ (by simp; omega)).trans hX3.1, (World.cell?_setCell_far _ _ _ _ (by simp; omega)).trans hX3.2⟩) (fun hX4 => ?_)
        clear hK' K'
        try simp only [Act.put, List.setIfInBounds_toArray, List.set_cons_zero, List.set_cons_succ]
        refine wpAnyH_done (by kernel_rfl) ?_ _
        exact HEND.out
      · go_simp
        refine hK'.out _ _ hX0 (fun hX1 => ?_)
        clear hK' K'
        try simp only [Act.put, List.setIfInBounds_toArray, List.set_cons_zero, List.set_cons_succ]
        refine wpAnyH_take (i := 9) (oi := ⟨some 59, _, _, _, _, _⟩) (v := .int .i64 (max a1 y1)) rfl (by kernel_rfl) (by kernel_rfl) (by kernel_rfl) (fun _ _ _ h => h) (Or.inl ⟨by kernel_rfl, (fun w1 hSw => if hh : a1 < y1 then (by rw [show max a1 y1 = y1 from by omega]; go_simp) else (by rw [show max a1 y1 = a1 from by omega]; go_simp))⟩) hX1 ?_
        try simp only [Act.put, List.setIfInBounds_toArray, List.set_cons_zero, List.set_cons_succ]
        refine wpAnyH_ready (rs := [1]) (by kernel_rfl) (by simp) ?_
        refine AllReadyH.cons (o := ⟨some 51, _, _, _, _, _⟩) rfl (fun K' hK' => ?_) AllReadyH.nil
        go_simp
        refine hK'.out _ _ (hX1) (fun hX2 => ?_)
        clear hK' K'
        try simp only [Act.put, List.setIfInBounds_toArray, List.set_cons_zero, List.set_cons_succ]
        refine wpAnyH_take (i := 4) (oi := ⟨some 54, _, _, _, _, _⟩) (v := .int .i64 (min a0 y0)) rfl (by kernel_rfl) (by kernel_rfl) (by kernel_rfl) (fun _ _ _ h => h) (Or.inl ⟨by kernel_rfl, (fun w1 hSw => if hh : y0 < a0 then (by rw [show min a0 y0 = y0 from by omega]; go_simp) else (by rw [show min a0 y0 = a0 from by omega]; go_simp))⟩) hX2 ?_
        try simp only [Act.put, List.setIfInBounds_toArray, List.set_cons_zero, List.set_cons_succ]
        refine wpAnyH_take (i := 10) (oi := ⟨some 60, _, _, _, _, _⟩) (v := ?_) rfl (by kernel_rfl) (by kernel_rfl) (by kernel_rfl) (fun _ _ _ h => h) (Or.inl ⟨by kernel_rfl, ?_⟩) hX2 ?_
        rotate_left 1
        · (intro w1 hSw; (try dsimp only at hSw); obtain ⟨s1, s2⟩ := hSw; go_simp; (try with_reducible rfl))
        try simp only [Act.put, List.setIfInBounds_toArray, List.set_cons_zero, List.set_cons_succ]
        refine wpAnyH_ready (rs := [11]) (by kernel_rfl) (by simp) ?_
        refine AllReadyH.cons (o := ⟨none, _, _, _, _, _⟩) rfl (fun K' hK' => ?_) AllReadyH.nil
        go_simp
        refine hK'.out _ _ (⟨(World.cell?_setCell_far _ _ _ _ (by simp; omega)).trans hX2.1, (World.cell?_setCell_far _ _ _ _ (by simp; omega)).trans hX2.2⟩) (fun hX3 => ?_)
        clear hK' K'
        try simp only [Act.put, List.setIfInBounds_toArray, List.set_cons_zero, List.set_cons_succ]
        refine wpAnyH_take (i := 12) (oi := ⟨some 61, _, _, _, _, _⟩) (v := ?_) rfl (by kernel_rfl) (by kernel_rfl) (by kernel_rfl) (fun _ _ _ h => h) (Or.inl ⟨by kernel_rfl, ?_⟩) hX3 ?_
        rotate_left 1
        · (intro w1 hSw; (try dsimp only at hSw); obtain ⟨s1, s2⟩ := hSw; go_simp; (try with_reducible rfl))
        try simp only [Act.put, List.setIfInBounds_toArray, List.set_cons_zero, List.set_cons_succ]
        refine wpAnyH_ready (rs := [13]) (by kernel_rfl) (by simp) ?_
        refine AllReadyH.cons (o := ⟨none, _, _, _, _, _⟩) rfl (fun K' hK' => ?_) AllReadyH.nil
        go_simp
        refine hK'.out _ _ (⟨(World.cell?_setCell_far _ _ _ _ (by simp; omega)).trans hX3.1, (World.cell?_setCell_far _ _ _ _ (by simp; omega)).trans hX3.2⟩) (fun hX4 => ?_)
        clear hK' K'
        try simp only [Act.put, List.setIfInBounds_toArray, List.set_cons_zero, List.set_cons_succ]
        refine wpAnyH_done (by kernel_rfl) ?_ _
        exact HEND.out
    case done =>
      rintro D zs W hD hzs ⟨⟨c1, c2⟩, cB⟩ hK
      rw [hzs] at c2
      have z0 := cellEq (i := 0) c2; have z1 := cellEq (i := 1) c2; have f0 := frozenEq (i := 0) c2; have f1 := frozenEq (i := 1) c2
      simp only [List.getElem?_toArray, List.getElem?_cons_zero, List.getElem?_cons_succ] at z0 z1
      have hzz : w.heap.size + 2 ≤ D := by omega
      have hK' := setFar (B' := w.heap.size + 1) (i := 1) (.int .i64 (rHi pts st [end0 st (cl), end1 st (cl)])) (setFar (B' := w.heap.size + 1) (i := 0) (.int .i64 (rLo pts st [end0 st (cl), end1 st (cl)])) hK (by omega)) (by omega)
      have hPut := belowK_b (w := W0) (n₀ := W0.heap.size) (Nat.le_refl _) _ D _ (Obj.deferred none) hD hK' rfl rfl
      have cE := (hPut.block (w.heap.size + 1) (by omega)).trans (setPair (.int .i64 (rLo pts st [end0 st (cl), end1 st (cl)])) (.int .i64 (rHi pts st [end0 st (cl), end1 st (cl)])) c2)
      have hfin : Below w.heap.size w _ := ((cB.setCell (p := ⟨w.heap.size + 1, 0, none⟩) (by simp) (.int .i64 (rLo pts st [end0 st (cl), end1 st (cl)]))).setCell (p := ⟨w.heap.size + 1, 1, none⟩) (by simp) (.int .i64 (rHi pts st [end0 st (cl), end1 st (cl)]))).trans (hPut.mono (by omega))
      gi_wp2
      refine ⟨by simp, .inl ⟨_, _, rfl, run_takeDeferred hK', ?_⟩⟩
      have zE0 := cellEq (i := 0) cE; have zE1 := cellEq (i := 1) cE
      simp only [List.getElem?_toArray, List.getElem?_cons_zero, List.getElem?_cons_succ] at zE0 zE1
      exact ⟨.tuple #[.agg #[.int .i64 (rLo pts st [end0 st (cl), end1 st (cl)]), .int .i64 (rHi pts st [end0 st (cl), end1 st (cl)])], .int .i64 0], by simp [results, Try.results5, go_sem, zE0, zE1], by rw [HO.out], hfin⟩
    case stop =>
      rintro D c pre W _ _ h _
      exact h.elim
end Go.Proofs.Ytmmoenbdlfmgeac
