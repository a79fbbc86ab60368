/- DERIVED. Gauges: the contract of Stage. -/
import Derived.Test.YtmmoenbdlfmgeacRead
namespace Go.Proofs.Ytmmoenbdlfmgeac
open Go.RowKit
set_option linter.unusedVariables false
set_option linter.unusedSimpArgs false
/-- k is where p begins to hold, among the numbers below n. -/
def Fst (p : Nat → Bool) (n k : Nat) : Prop := k ≤ n ∧ (k = 0 ∨ p (k - 1) = false) ∧ (k = n ∨ p k = true)
theorem Fst.ex (p : Nat → Bool) : ∀ n, ∃ k, Fst p n k
  | 0 => ⟨0, Nat.le_refl _, .inl rfl, .inl rfl⟩
  | n + 1 => by
    obtain ⟨k, h1, h2, h3⟩ := Fst.ex p n
    rcases h3 with h3 | h3
    · subst h3
      cases hp : p k with
      | true => exact ⟨k, by omega, h2, .inr hp⟩
      | false => exact ⟨k + 1, by omega, .inr hp, .inl rfl⟩
    · exact ⟨k, by omega, h2, .inr h3⟩
theorem Fst.uniq {p : Nat → Bool} (hm : ∀ i j, i ≤ j → p i = true → p j = true) {n a b : Nat} (ha : Fst p n a) (hb : Fst p n b) : a = b := by
  obtain ⟨a1, a2, a3⟩ := ha
  obtain ⟨b1, b2, b3⟩ := hb
  rcases Nat.lt_trichotomy a b with h | h | h
  · rcases a3 with a3 | a3
    · omega
    · rcases b2 with b2 | b2
      · omega
      · rw [hm a (b - 1) (by omega) a3] at b2; cases b2
  · exact h
  · rcases b3 with b3 | b3
    · omega
    · rcases a2 with a2 | a2
      · omega
      · rw [hm b (a - 1) (by omega) b3] at a2; cases a2
def pHi (pts : List (Int × Int)) (lt : Int) (i : Nat) : Bool := decide (lt ≤ hi pts i)
def pLo (pts : List (Int × Int)) (lt : Int) (i : Nat) : Bool := decide (lt < lo pts i)
theorem pHi_mono {pts : List (Int × Int)} (hT : Tab pts) (lt : Int) : ∀ i j : Nat, i ≤ j → pHi pts lt i = true → pHi pts lt j = true := by
  intro i j hij h
  cases pts with
  | nil => exact absurd rfl hT.ne
  | cons a r =>
    have := (lo_mono a r hT.srt i j (by omega)).2
    simp [pHi] at h ⊢; omega
theorem pLo_mono {pts : List (Int × Int)} (hT : Tab pts) (lt : Int) : ∀ i j : Nat, i ≤ j → pLo pts lt i = true → pLo pts lt j = true := by
  intro i j hij h
  cases pts with
  | nil => exact absurd rfl hT.ne
  | cons a r =>
    have := (lo_mono a r hT.srt i j (by omega)).1
    simp [pLo] at h ⊢; omega
/-- What the functions that Stage hands on see. -/
def KG (G L : Nat) (no rc cl dr si lt : Int) (t : Value) (pts : List (Int × Int)) (n : Nat) (w : World) : Prop :=
  n ≤ w.heap.size ∧ G < n ∧ L < n ∧ w.heap[G]? = some (.cells #[.int .i64 no, .int .i64 rc, .int .i64 cl, .int .i64 dr, .int .i64 si, t] 24 (0, 0)) ∧ w.heap[L]? = some (.cells #[.int .i64 lt] 3 (0, 0)) ∧ PtSl w t pts
theorem KG.below {G L : Nat} {no rc cl dr si lt : Int} {t : Value} {pts : List (Int × Int)} {n : Nat} {a w : World} (h : KG G L no rc cl dr si lt t pts n a) (hB : Below a.heap.size a w) : KG G L no rc cl dr si lt t pts n w := by
  obtain ⟨h0, h1, h2, h3, h4, h5⟩ := h
  exact ⟨Nat.le_trans h0 hB.size, h1, h2, (hB.block G (by omega)).trans h3, (hB.block L (by omega)).trans h4, h5.below hB⟩
theorem fldLo (a b : Int) (w : World) : Sem.run Try.prog (Instr.field 28 (.agg #[.int .i64 a, .int .i64 b]) 0) w = .ok (.int .i64 a) w := by kernel_rfl
theorem fldHi (a b : Int) (w : World) : Sem.run Try.prog (Instr.field 28 (.agg #[.int .i64 a, .int .i64 b]) 1) w = .ok (.int .i64 b) w := by kernel_rfl
set_option maxRecDepth 100000 in
set_option maxHeartbeats 1000000 in
theorem stage1_any (G L : Nat) (no rc cl dr si lt : Int) (t : Value) (pts : List (Int × Int)) (hT : Tab pts) (n i : Nat) (hin : i < 1048577) (w : World) (hk : KG G L no rc cl dr si lt t pts n w) :
    Calls Try.prog 13 (#[.int .i64 i] ++ #[.pointer (some ⟨G, 0, none⟩), .pointer (some ⟨L, 0, none⟩)]) w fun e w' => e = .returned (.bool (pHi pts lt i)) ∧ Below w.heap.size w w' := by
  obtain ⟨h0, h1, h2, h3, h4, h5⟩ := hk
  have hT' := Lib.hid hT
  have hS := Lib.hid h5
  have HR := Lib.hid (show pHi pts lt i = decide (lt ≤ hi pts i) from rfl)
  have g0 := cellEq (i := 0) h3; have g1 := cellEq (i := 1) h3; have g2 := cellEq (i := 2) h3; have g3 := cellEq (i := 3) h3; have g4 := cellEq (i := 4) h3; have g5 := cellEq (i := 5) h3
  have l0 := cellEq (i := 0) h4
  simp only [List.getElem?_toArray, List.getElem?_cons_zero, List.getElem?_cons_succ] at g0 g1 g2 g3 g4 g5 l0
  clear h5 hT
  go_enter Try.func13, Try.ntmps13
  go_wp2_with fail
  have hfl := fldHi
  have hGn : G < w.heap.size := by omega
  have hLn : L < w.heap.size := by omega
  go_region_held3 (fun w' => w'.cell? ⟨G, 0, none⟩ = some (.int .i64 no) ∧ w'.cell? ⟨G, 1, none⟩ = some (.int .i64 rc) ∧ w'.cell? ⟨G, 2, none⟩ = some (.int .i64 cl) ∧ w'.cell? ⟨G, 3, none⟩ = some (.int .i64 dr) ∧ w'.cell? ⟨G, 4, none⟩ = some (.int .i64 si) ∧ w'.cell? ⟨G, 5, none⟩ = some t ∧ w'.cell? ⟨L, 0, none⟩ = some (.int .i64 lt)) (first | exact ⟨g0, g1, g2, g3, g4, g5, l0⟩ | exact ⟨(hB1.cell (p := ⟨G, 0, none⟩) hGn).trans g0, (hB1.cell (p := ⟨G, 1, none⟩) hGn).trans g1, (hB1.cell (p := ⟨G, 2, none⟩) hGn).trans g2, (hB1.cell (p := ⟨G, 3, none⟩) hGn).trans g3, (hB1.cell (p := ⟨G, 4, none⟩) hGn).trans g4, (hB1.cell (p := ⟨G, 5, none⟩) hGn).trans g5, (hB1.cell (p := ⟨L, 0, none⟩) hLn).trans l0⟩ | go_keep) ((go_at_call 10; refine (flow_any no rc cl dr si i t pts hT'.out ⟨by omega, by omega⟩ _ (hS.out.below (belowDr (Below.refl _ _)))).mono ?_; rintro e w1 ⟨rfl, hB1⟩))
  all_goals go_wp2_with fail
  all_goals go_ret
  all_goals exact ⟨by rw [HR.out]; rfl, thenB (belowDr (Below.refl _ _)) hB1⟩
set_option maxRecDepth 100000 in
set_option maxHeartbeats 1000000 in
theorem stage2_any (G L : Nat) (no rc cl dr si lt : Int) (t : Value) (pts : List (Int × Int)) (hT : Tab pts) (n i : Nat) (hin : i < 1048577) (w : World) (hk : KG G L no rc cl dr si lt t pts n w) :
    Calls Try.prog 14 (#[.int .i64 i] ++ #[.pointer (some ⟨G, 0, none⟩), .pointer (some ⟨L, 0, none⟩)]) w fun e w' => e = .returned (.bool (pLo pts lt i)) ∧ Below w.heap.size w w' := by
  obtain ⟨h0, h1, h2, h3, h4, h5⟩ := hk
  have hT' := Lib.hid hT
  have hS := Lib.hid h5
  have HR := Lib.hid (show pLo pts lt i = decide (lt < lo pts i) from rfl)
  have g0 := cellEq (i := 0) h3; have g1 := cellEq (i := 1) h3; have g2 := cellEq (i := 2) h3; have g3 := cellEq (i := 3) h3; have g4 := cellEq (i := 4) h3; have g5 := cellEq (i := 5) h3
  have l0 := cellEq (i := 0) h4
  simp only [List.getElem?_toArray, List.getElem?_cons_zero, List.getElem?_cons_succ] at g0 g1 g2 g3 g4 g5 l0
  clear h5 hT
  go_enter Try.func14, Try.ntmps14
  go_wp2_with fail
  have hfl := fldLo
  have hGn : G < w.heap.size := by omega
  have hLn : L < w.heap.size := by omega
  go_region_held3 (fun w' => w'.cell? ⟨G, 0, none⟩ = some (.int .i64 no) ∧ w'.cell? ⟨G, 1, none⟩ = some (.int .i64 rc) ∧ w'.cell? ⟨G, 2, none⟩ = some (.int .i64 cl) ∧ w'.cell? ⟨G, 3, none⟩ = some (.int .i64 dr) ∧ w'.cell? ⟨G, 4, none⟩ = some (.int .i64 si) ∧ w'.cell? ⟨G, 5, none⟩ = some t ∧ w'.cell? ⟨L, 0, none⟩ = some (.int .i64 lt)) (first | exact ⟨g0, g1, g2, g3, g4, g5, l0⟩ | exact ⟨(hB1.cell (p := ⟨G, 0, none⟩) hGn).trans g0, (hB1.cell (p := ⟨G, 1, none⟩) hGn).trans g1, (hB1.cell (p := ⟨G, 2, none⟩) hGn).trans g2, (hB1.cell (p := ⟨G, 3, none⟩) hGn).trans g3, (hB1.cell (p := ⟨G, 4, none⟩) hGn).trans g4, (hB1.cell (p := ⟨G, 5, none⟩) hGn).trans g5, (hB1.cell (p := ⟨L, 0, none⟩) hLn).trans l0⟩ | go_keep) ((go_at_call 10; refine (flow_any no rc cl dr si i t pts hT'.out ⟨by omega, by omega⟩ _ (hS.out.below (belowDr (Below.refl _ _)))).mono ?_; rintro e w1 ⟨rfl, hB1⟩))
  all_goals go_wp2_with fail
  all_goals go_ret
  all_goals exact ⟨by rw [HR.out]; rfl, thenB (belowDr (Below.refl _ _)) hB1⟩
theorem call25 (args : Array Value) (w : World) : Sem.run Try.prog (callFunc 13 args) w = .ok (.enter 13 args) w := by
  go_simp
theorem call26 (args : Array Value) (w : World) : Sem.run Try.prog (callFunc 14 args) w = .ok (.enter 14 args) w := by
  go_simp
/-- What Stage answers. -/
def stE (k m : Nat) : Value := if k < m then .tuple #[.agg #[.int .i64 k, .int .i64 ((m : Int) - 1)], .bool true, .int .i64 0] else .tuple #[.agg #[.int .i64 0, .int .i64 0], .bool false, .int .i64 0]
set_option maxRecDepth 100000 in
set_option maxHeartbeats 2000000 in
theorem Stage_bad (no rc cl dr si lt : Int) (t : Value) (pts : List (Int × Int)) (hc : chk no rc cl dr si pts ≠ 0) (w : World) (hs : PtSl w t pts) :
    Calls Try.prog 7 #[gv no rc cl dr si t, .int .i64 lt] w fun e w' => e = .returned (.tuple #[.agg #[.int .i64 0, .int .i64 0], .bool false, .int .i64 (chk no rc cl dr si pts)]) ∧ Below w.heap.size w w' := by
  have hs' := Lib.hid hs
  have hS0 : PtSl (((w.alloc (.cells #[.int .i64 no, .int .i64 rc, .int .i64 cl, .int .i64 dr, .int .i64 si, t] 24)).alloc (.cells #[.int .i64 lt] 3)).alloc (.cells #[.int .i64 0, .int .i64 0] 28)) t pts := hs.below (belowAl (belowAl (belowAl (Below.refl _ _) _) _) _)
  have hB0 : Below w.heap.size w (((w.alloc (.cells #[.int .i64 no, .int .i64 rc, .int .i64 cl, .int .i64 dr, .int .i64 si, t] 24)).alloc (.cells #[.int .i64 lt] 3)).alloc (.cells #[.int .i64 0, .int .i64 0] 28)) := belowAl (belowAl (belowAl (Below.refl _ _) _) _) _
  have hG0 : (((w.alloc (.cells #[.int .i64 no, .int .i64 rc, .int .i64 cl, .int .i64 dr, .int .i64 si, t] 24)).alloc (.cells #[.int .i64 lt] 3)).alloc (.cells #[.int .i64 0, .int .i64 0] 28)).heap[w.heap.size]? = some (.cells #[.int .i64 no, .int .i64 rc, .int .i64 cl, .int .i64 dr, .int .i64 si, t] 24 (0, 0)) := alFar _ (alFar _ (World.alloc_heap_new w _))
  have hL0 : (((w.alloc (.cells #[.int .i64 no, .int .i64 rc, .int .i64 cl, .int .i64 dr, .int .i64 si, t] 24)).alloc (.cells #[.int .i64 lt] 3)).alloc (.cells #[.int .i64 0, .int .i64 0] 28)).heap[w.heap.size + 1]? = some (.cells #[.int .i64 lt] 3 (0, 0)) := by
    have := alFar (.cells #[.int .i64 0, .int .i64 0] 28) (World.alloc_heap_new (w.alloc (.cells #[.int .i64 no, .int .i64 rc, .int .i64 cl, .int .i64 dr, .int .i64 si, t] 24)) (.cells #[.int .i64 lt] 3))
    simpa using this
  have hZ0 : (((w.alloc (.cells #[.int .i64 no, .int .i64 rc, .int .i64 cl, .int .i64 dr, .int .i64 si, t] 24)).alloc (.cells #[.int .i64 lt] 3)).alloc (.cells #[.int .i64 0, .int .i64 0] 28)).heap[w.heap.size + 1 + 1]? = some (.cells #[.int .i64 0, .int .i64 0] 28 (0, 0)) := by
    have := World.alloc_heap_new ((w.alloc (.cells #[.int .i64 no, .int .i64 rc, .int .i64 cl, .int .i64 dr, .int .i64 si, t] 24)).alloc (.cells #[.int .i64 lt] 3)) (.cells #[.int .i64 0, .int .i64 0] 28)
    simpa using this
  go_enter Try.func7, Try.ntmps7
  go_wp2_with fail
  refine (check_any no rc cl dr si t pts _ hS0).mono ?_; rintro e w1 ⟨rfl, hB1⟩
  have hG := (hB1.block w.heap.size (by simp <;> omega)).trans hG0
  have hL := (hB1.block (w.heap.size + 1) (by simp <;> omega)).trans hL0
  have hZ := (hB1.block (w.heap.size + 1 + 1) (by simp)).trans hZ0
  have hsz : w.heap.size + 3 ≤ w1.heap.size := by have := hB1.size; simp at this; omega
  have hBw := thenB hB0 hB1
  have hS1 := Lib.hid (hS0.below hB1)
  clear hB1 hG0 hL0 hZ0 hB0 hS0
  have l0 := cellEq (i := 0) hL
  have z0 := cellEq (i := 0) hZ; have z1 := cellEq (i := 1) hZ; have f0 := frozenEq (i := 0) hZ; have f1 := frozenEq (i := 1) hZ
  simp only [List.getElem?_toArray, List.getElem?_cons_zero, List.getElem?_cons_succ] at l0 z0 z1
  have hne : (chk no rc cl dr si pts != 0) = true := by simpa using hc
  obtain ⟨c, hcc⟩ : ∃ c, c = chk no rc cl dr si pts := ⟨_, rfl⟩
  rw [← hcc] at hne ⊢
  have HC := Lib.hid hcc
  clear hcc hc
  go_wp2_with fail
  refine bodyPost_ret (v := .tuple #[.agg #[.int .i64 0, .int .i64 0], .bool false, .int .i64 c]) (by simp [results, Try.results7, go_sem, z0, z1, f0, f1]) rfl ?_
  exact ⟨by rw [HC.out], by repeat' (first | exact hBw | refine belowAl ?_ _ | refine belowDr ?_ | refine belowDn ?_ _ | refine Below.setCell ?_ (by simp <;> omega) _)⟩
set_option maxRecDepth 100000 in
set_option maxHeartbeats 2000000 in
theorem Stage_arg (no rc cl dr si lt : Int) (t : Value) (pts : List (Int × Int)) (hc : chk no rc cl dr si pts = 0) (hlt : inB lt 1073741824 = false) (w : World) (hs : PtSl w t pts) :
    Calls Try.prog 7 #[gv no rc cl dr si t, .int .i64 lt] w fun e w' => e = .returned (.tuple #[.agg #[.int .i64 0, .int .i64 0], .bool false, .int .i64 1]) ∧ Below w.heap.size w w' := by
  have hs' := Lib.hid hs
  have hS0 : PtSl (((w.alloc (.cells #[.int .i64 no, .int .i64 rc, .int .i64 cl, .int .i64 dr, .int .i64 si, t] 24)).alloc (.cells #[.int .i64 lt] 3)).alloc (.cells #[.int .i64 0, .int .i64 0] 28)) t pts := hs.below (belowAl (belowAl (belowAl (Below.refl _ _) _) _) _)
  have hB0 : Below w.heap.size w (((w.alloc (.cells #[.int .i64 no, .int .i64 rc, .int .i64 cl, .int .i64 dr, .int .i64 si, t] 24)).alloc (.cells #[.int .i64 lt] 3)).alloc (.cells #[.int .i64 0, .int .i64 0] 28)) := belowAl (belowAl (belowAl (Below.refl _ _) _) _) _
  have hG0 : (((w.alloc (.cells #[.int .i64 no, .int .i64 rc, .int .i64 cl, .int .i64 dr, .int .i64 si, t] 24)).alloc (.cells #[.int .i64 lt] 3)).alloc (.cells #[.int .i64 0, .int .i64 0] 28)).heap[w.heap.size]? = some (.cells #[.int .i64 no, .int .i64 rc, .int .i64 cl, .int .i64 dr, .int .i64 si, t] 24 (0, 0)) := alFar _ (alFar _ (World.alloc_heap_new w _))
  have hL0 : (((w.alloc (.cells #[.int .i64 no, .int .i64 rc, .int .i64 cl, .int .i64 dr, .int .i64 si, t] 24)).alloc (.cells #[.int .i64 lt] 3)).alloc (.cells #[.int .i64 0, .int .i64 0] 28)).heap[w.heap.size + 1]? = some (.cells #[.int .i64 lt] 3 (0, 0)) := by
    have := alFar (.cells #[.int .i64 0, .int .i64 0] 28) (World.alloc_heap_new (w.alloc (.cells #[.int .i64 no, .int .i64 rc, .int .i64 cl, .int .i64 dr, .int .i64 si, t] 24)) (.cells #[.int .i64 lt] 3))
    simpa using this
  have hZ0 : (((w.alloc (.cells #[.int .i64 no, .int .i64 rc, .int .i64 cl, .int .i64 dr, .int .i64 si, t] 24)).alloc (.cells #[.int .i64 lt] 3)).alloc (.cells #[.int .i64 0, .int .i64 0] 28)).heap[w.heap.size + 1 + 1]? = some (.cells #[.int .i64 0, .int .i64 0] 28 (0, 0)) := by
    have := World.alloc_heap_new ((w.alloc (.cells #[.int .i64 no, .int .i64 rc, .int .i64 cl, .int .i64 dr, .int .i64 si, t] 24)).alloc (.cells #[.int .i64 lt] 3)) (.cells #[.int .i64 0, .int .i64 0] 28)
    simpa using this
  go_enter Try.func7, Try.ntmps7
  go_wp2_with fail
  refine (check_any no rc cl dr si t pts _ hS0).mono ?_; rintro e w1 ⟨rfl, hB1⟩
  have hG := (hB1.block w.heap.size (by simp <;> omega)).trans hG0
  have hL := (hB1.block (w.heap.size + 1) (by simp <;> omega)).trans hL0
  have hZ := (hB1.block (w.heap.size + 1 + 1) (by simp)).trans hZ0
  have hsz : w.heap.size + 3 ≤ w1.heap.size := by have := hB1.size; simp at this; omega
  have hBw := thenB hB0 hB1
  have hS1 := Lib.hid (hS0.below hB1)
  clear hB1 hG0 hL0 hZ0 hB0 hS0
  have l0 := cellEq (i := 0) hL
  have z0 := cellEq (i := 0) hZ; have z1 := cellEq (i := 1) hZ; have f0 := frozenEq (i := 0) hZ; have f1 := frozenEq (i := 1) hZ
  simp only [List.getElem?_toArray, List.getElem?_cons_zero, List.getElem?_cons_succ] at l0 z0 z1
  have hBx : Below w1.heap.size w1 (w1.alloc (.cells #[.int .i64 lt] 3)) := (Below.refl _ _).alloc (Nat.le_refl _) _
  have hZx := (hBx.block (w.heap.size + 1 + 1) (by omega)).trans hZ
  have xz0 := cellEq (i := 0) hZx; have xz1 := cellEq (i := 1) hZx; have xf0 := frozenEq (i := 0) hZx; have xf1 := frozenEq (i := 1) hZx
  simp only [List.getElem?_toArray, List.getElem?_cons_zero, List.getElem?_cons_succ] at xz0 xz1
  rw [hc]
  go_wp2_with fail
  refine (within1 1073741824 lt _ _ (by go_simp)).mono ?_; rintro e w' ⟨rfl, rfl⟩; rw [hlt]
  go_wp2_with fail
  refine bodyPost_ret (v := .tuple #[.agg #[.int .i64 0, .int .i64 0], .bool false, .int .i64 1]) (by simp [results, Try.results7, go_sem, xz0, xz1, xf0, xf1]) rfl ?_
  exact ⟨rfl, by repeat' (first | exact hBw | refine belowAl ?_ _ | refine belowDr ?_ | refine belowDn ?_ _ | refine Below.setCell ?_ (by simp <;> omega) _)⟩
set_option maxRecDepth 100000 in
set_option maxHeartbeats 2000000 in
theorem Stage_ok (no rc cl dr si lt : Int) (t : Value) (pts : List (Int × Int)) (hc : chk no rc cl dr si pts = 0) (hlt : inB lt 1073741824 = true) (k m : Nat) (hk : Fst (pHi pts lt) 1048577 k) (hm : Fst (pLo pts lt) 1048577 m) (w : World) (hs : PtSl w t pts) :
    Calls Try.prog 7 #[gv no rc cl dr si t, .int .i64 lt] w fun e w' => e = .returned (stE k m) ∧ Below w.heap.size w w' := by
  have hT := (chk_tab hc).1
  have hs' := Lib.hid hs
  have hS0 : PtSl (((w.alloc (.cells #[.int .i64 no, .int .i64 rc, .int .i64 cl, .int .i64 dr, .int .i64 si, t] 24)).alloc (.cells #[.int .i64 lt] 3)).alloc (.cells #[.int .i64 0, .int .i64 0] 28)) t pts := hs.below (belowAl (belowAl (belowAl (Below.refl _ _) _) _) _)
  have hB0 : Below w.heap.size w (((w.alloc (.cells #[.int .i64 no, .int .i64 rc, .int .i64 cl, .int .i64 dr, .int .i64 si, t] 24)).alloc (.cells #[.int .i64 lt] 3)).alloc (.cells #[.int .i64 0, .int .i64 0] 28)) := belowAl (belowAl (belowAl (Below.refl _ _) _) _) _
  have hG0 : (((w.alloc (.cells #[.int .i64 no, .int .i64 rc, .int .i64 cl, .int .i64 dr, .int .i64 si, t] 24)).alloc (.cells #[.int .i64 lt] 3)).alloc (.cells #[.int .i64 0, .int .i64 0] 28)).heap[w.heap.size]? = some (.cells #[.int .i64 no, .int .i64 rc, .int .i64 cl, .int .i64 dr, .int .i64 si, t] 24 (0, 0)) := alFar _ (alFar _ (World.alloc_heap_new w _))
  have hL0 : (((w.alloc (.cells #[.int .i64 no, .int .i64 rc, .int .i64 cl, .int .i64 dr, .int .i64 si, t] 24)).alloc (.cells #[.int .i64 lt] 3)).alloc (.cells #[.int .i64 0, .int .i64 0] 28)).heap[w.heap.size + 1]? = some (.cells #[.int .i64 lt] 3 (0, 0)) := by
    have := alFar (.cells #[.int .i64 0, .int .i64 0] 28) (World.alloc_heap_new (w.alloc (.cells #[.int .i64 no, .int .i64 rc, .int .i64 cl, .int .i64 dr, .int .i64 si, t] 24)) (.cells #[.int .i64 lt] 3))
    simpa using this
  have hZ0 : (((w.alloc (.cells #[.int .i64 no, .int .i64 rc, .int .i64 cl, .int .i64 dr, .int .i64 si, t] 24)).alloc (.cells #[.int .i64 lt] 3)).alloc (.cells #[.int .i64 0, .int .i64 0] 28)).heap[w.heap.size + 1 + 1]? = some (.cells #[.int .i64 0, .int .i64 0] 28 (0, 0)) := by
    have := World.alloc_heap_new ((w.alloc (.cells #[.int .i64 no, .int .i64 rc, .int .i64 cl, .int .i64 dr, .int .i64 si, t] 24)).alloc (.cells #[.int .i64 lt] 3)) (.cells #[.int .i64 0, .int .i64 0] 28)
    simpa using this
  have HT := Lib.hid hT
  have HK := Lib.hid hk
  have HM := Lib.hid hm
  clear hT hk hm
  go_enter Try.func7, Try.ntmps7
  go_wp2_with fail
  refine (check_any no rc cl dr si t pts _ hS0).mono ?_; rintro e w1 ⟨rfl, hB1⟩
  have hG := (hB1.block w.heap.size (by simp <;> omega)).trans hG0
  have hL := (hB1.block (w.heap.size + 1) (by simp <;> omega)).trans hL0
  have hZ := (hB1.block (w.heap.size + 1 + 1) (by simp)).trans hZ0
  have hsz : w.heap.size + 3 ≤ w1.heap.size := by have := hB1.size; simp at this; omega
  have hBw := thenB hB0 hB1
  have hS1 := Lib.hid (hS0.below hB1)
  clear hB1 hG0 hL0 hZ0 hB0 hS0
  have l0 := cellEq (i := 0) hL
  have z0 := cellEq (i := 0) hZ; have z1 := cellEq (i := 1) hZ; have f0 := frozenEq (i := 0) hZ; have f1 := frozenEq (i := 1) hZ
  simp only [List.getElem?_toArray, List.getElem?_cons_zero, List.getElem?_cons_succ] at l0 z0 z1
  have hBx : Below w1.heap.size w1 (w1.alloc (.cells #[.int .i64 lt] 3)) := (Below.refl _ _).alloc (Nat.le_refl _) _
  have hZx := (hBx.block (w.heap.size + 1 + 1) (by omega)).trans hZ
  have xz0 := cellEq (i := 0) hZx; have xz1 := cellEq (i := 1) hZx; have xf0 := frozenEq (i := 0) hZx; have xf1 := frozenEq (i := 1) hZx
  simp only [List.getElem?_toArray, List.getElem?_cons_zero, List.getElem?_cons_succ] at xz0 xz1
  rw [hc]
  go_wp2_with fail
  refine (within1 1073741824 lt _ _ (by go_simp)).mono ?_; rintro e w' ⟨rfl, rfl⟩; rw [hlt]
  go_wp2_with fail
  have hKG : KG w.heap.size (w.heap.size + 1) no rc cl dr si lt t pts (w.heap.size + 3) (w1.alloc (.cells #[.int .i64 lt] 3)) := ⟨by simp; omega, by omega, by omega, alFar _ hG, alFar _ hL, hS1.out.below hBx⟩
  refine (first_any 1048577 (by omega) 13 #[.pointer (some ⟨w.heap.size, 0, none⟩), .pointer (some ⟨w.heap.size + 1, 0, none⟩)] (pHi pts lt) (KG w.heap.size (w.heap.size + 1) no rc cl dr si lt t pts (w.heap.size + 3)) _ call25 (fun a b h hB => h.below hB) (fun i a hi ha => stage1_any _ _ _ _ _ _ _ _ _ _ HT.out _ i hi a ha) hKG).mono ?_
  rintro e w2 ⟨k', hk1, hk2, hk3, rfl, hB2⟩
  obtain rfl : k = k' := Fst.uniq (pHi_mono HT.out lt) HK.out ⟨hk1, hk2, hk3⟩
  clear hk2 hk3
  have hZ2 := (hB2.block (w.heap.size + 1 + 1) (by simp; omega)).trans hZx
  have hG2 := (hB2.block w.heap.size (by simp; omega)).trans (alFar (.cells #[.int .i64 lt] 3) hG)
  have hL2 := (hB2.block (w.heap.size + 1) (by simp; omega)).trans (alFar (.cells #[.int .i64 lt] 3) hL)
  have hsz2 : w.heap.size + 3 ≤ w2.heap.size := by have := hB2.size; simp at this; omega
  have hBw2 : Below w.heap.size w (w2.setCell ⟨w.heap.size + 1 + 1, 0, none⟩ (.int .i64 k)) := (thenB (thenB hBw hBx) hB2).setCell (by simp; omega) _
  have hKG2 : KG w.heap.size (w.heap.size + 1) no rc cl dr si lt t pts (w.heap.size + 3) (w2.setCell ⟨w.heap.size + 1 + 1, 0, none⟩ (.int .i64 k)) := ⟨by simpa using hsz2, by omega, by omega, setFar _ hG2 (by omega), setFar _ hL2 (by omega), hs'.out.below hBw2⟩
  have hZ3 := setIn0 (.int .i64 k) hZ2
  clear f0 f1 l0 z0 z1 xf0 xf1 xz0 xz1 hKG hG hL hZ hZx hBx hBw hG2 hL2
  have z0 := cellEq (i := 0) hZ2; have z1 := cellEq (i := 1) hZ2; have f0 := frozenEq (i := 0) hZ2; have f1 := frozenEq (i := 1) hZ2
  simp only [List.getElem?_toArray, List.getElem?_cons_zero, List.getElem?_cons_succ] at z0 z1
  go_wp2_with fail
  refine (first_any 1048577 (by omega) 14 #[.pointer (some ⟨w.heap.size, 0, none⟩), .pointer (some ⟨w.heap.size + 1, 0, none⟩)] (pLo pts lt) (KG w.heap.size (w.heap.size + 1) no rc cl dr si lt t pts (w.heap.size + 3)) _ call26 (fun a b h hB => h.below hB) (fun i a hi ha => stage2_any _ _ _ _ _ _ _ _ _ _ HT.out _ i hi a ha) hKG2).mono ?_
  rintro e w3 ⟨m', hm1, hm2, hm3, rfl, hB3⟩
  obtain rfl : m = m' := Fst.uniq (pLo_mono HT.out lt) HM.out ⟨hm1, hm2, hm3⟩
  clear hm2 hm3
  have hZ4 := (hB3.block (w.heap.size + 1 + 1) (by simp; omega)).trans hZ3
  have hBw3 := thenB hBw2 hB3
  have hsz3 : w.heap.size + 3 ≤ w3.heap.size := by have := hB3.size; simp at this; omega
  clear f0 f1 z0 z1 hZ2 hZ3 hB3 hBw2 hKG2 hB2
  have z0 := cellEq (i := 0) hZ4; have z1 := cellEq (i := 1) hZ4; have f0 := frozenEq (i := 0) hZ4; have f1 := frozenEq (i := 1) hZ4
  have hZ5 := setIn1 (.int .i64 ((m : Int) - 1)) hZ4
  have y0 := cellEq (i := 0) hZ5; have y1 := cellEq (i := 1) hZ5; have u0 := frozenEq (i := 0) hZ5; have u1 := frozenEq (i := 1) hZ5
  simp only [List.getElem?_toArray, List.getElem?_cons_zero, List.getElem?_cons_succ] at z0 z1 y0 y1
  clear hZ4 hZ5
  by_cases hkm : k < m
  · have hgt : decide (((m : Int) - 1) < (k : Int)) = false := by simp; omega
    have HR := Lib.hid (show stE k m = .tuple #[.agg #[.int .i64 k, .int .i64 ((m : Int) - 1)], .bool true, .int .i64 0] by simp [stE, hkm])
    clear hkm
    go_wp2_with fail
    refine bodyPost_ret (v := .tuple #[.agg #[.int .i64 k, .int .i64 ((m : Int) - 1)], .bool true, .int .i64 0]) (by simp [results, Try.results7, go_sem, y0, y1, u0, u1]) rfl ?_
    exact ⟨by rw [HR.out], by repeat' (first | exact hBw3 | refine belowAl ?_ _ | refine belowDr ?_ | refine belowDn ?_ _ | refine Below.setCell ?_ (by simp <;> omega) _)⟩
  · have hgt : decide (((m : Int) - 1) < (k : Int)) = true := by simp; omega
    have HR := Lib.hid (show stE k m = .tuple #[.agg #[.int .i64 0, .int .i64 0], .bool false, .int .i64 0] by simp [stE, hkm])
    clear hkm
    go_wp2_with fail
    refine bodyPost_ret (v := .tuple #[.agg #[.int .i64 0, .int .i64 0], .bool false, .int .i64 0]) (by simp [results, Try.results7, go_sem, y0, y1, u0, u1]) rfl ?_
    exact ⟨by rw [HR.out], by repeat' (first | exact hBw3 | refine belowAl ?_ _ | refine belowDr ?_ | refine belowDn ?_ _ | refine Below.setCell ?_ (by simp <;> omega) _)⟩
end Go.Proofs.Ytmmoenbdlfmgeac
