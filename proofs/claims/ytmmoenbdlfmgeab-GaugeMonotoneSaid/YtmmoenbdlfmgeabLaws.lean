/- DERIVED. Gauges: the walks of the laws. -/
import Derived.Test.YtmmoenbdlfmgeabOpen
namespace Go.Proofs.Ytmmoenbdlfmgeab
open Go.RowKit
set_option linter.unusedVariables false
set_option linter.unusedSimpArgs false
theorem has1 (w : World) (o : Obj) : Has (w.alloc o) [(w.heap.size, o)] := (Has.nil w).alloc o
set_option maxRecDepth 100000 in
set_option maxHeartbeats 4000000 in
theorem GaugeSpec_walk (no rc cl dr si st : Int) (t : Value) (pts : List (Int × Int)) (w : World) (hs : PtSl w t pts) :
    Calls Try.prog 3 #[gv no rc cl dr si t, .int .i64 st] w fun e w' => e = .returned (.bool true) ∧ Below w.heap.size w w' := by
  obtain ⟨a, b, c, hF, hR, _⟩ := flow_both no rc cl dr si st t pts
  replace hF := Lib.hid hF
  replace hR := Lib.hid hR
  have hs' := Lib.hid hs
  clear hs
  have H0 := Lib.hid (has1 w (Obj.cells #[.int .i64 no, .int .i64 rc, .int .i64 cl, .int .i64 dr, .int .i64 si, t] 24))
  have T0 := Lib.hid (belowAl (Below.refl w.heap.size w) (Obj.cells #[.int .i64 no, .int .i64 rc, .int .i64 cl, .int .i64 dr, .int .i64 si, t] 24))
  go_enter Try.func3, Try.ntmps3
  go_wp2_with fail
  refine (sane_any _).mono ?_; rintro e w1 ⟨rfl, hB⟩
  have H1 := Lib.hid (H0.out.below hB)
  have T1 := Lib.hid ((thenB T0.out hB))
  clear hB H0 T0
  have hC := (H1.out.get (w.heap.size) (Obj.cells #[.int .i64 no, .int .i64 rc, .int .i64 cl, .int .i64 dr, .int .i64 si, t] 24 (0, 0)) (by simp))
  have g0 := cellEq (i := 0) hC; have g1 := cellEq (i := 1) hC; have g2 := cellEq (i := 2) hC; have g3 := cellEq (i := 3) hC; have g4 := cellEq (i := 4) hC; have g5 := cellEq (i := 5) hC
  clear hC
  simp only [List.getElem?_toArray, List.getElem?_cons_zero, List.getElem?_cons_succ] at g0 g1 g2 g3 g4 g5
  go_wp2_with fail
  clear g0 g1 g2 g3 g4 g5
  refine (hF.out _ (hs'.out.below T1.out)).mono ?_; rintro e w2 ⟨rfl, hB⟩
  have H2 := Lib.hid ((H1.out.below hB).alloc (Obj.cells #[.int .i64 a, .int .i64 b] 27))
  have T2 := Lib.hid ((belowAl (thenB T1.out hB) (Obj.cells #[.int .i64 a, .int .i64 b] 27)))
  clear hB H1 T1
  have hC := (H2.out.get (w.heap.size) (Obj.cells #[.int .i64 no, .int .i64 rc, .int .i64 cl, .int .i64 dr, .int .i64 si, t] 24 (0, 0)) (by simp))
  have g0 := cellEq (i := 0) hC; have g1 := cellEq (i := 1) hC; have g2 := cellEq (i := 2) hC; have g3 := cellEq (i := 3) hC; have g4 := cellEq (i := 4) hC; have g5 := cellEq (i := 5) hC
  clear hC
  simp only [List.getElem?_toArray, List.getElem?_cons_zero, List.getElem?_cons_succ] at g0 g1 g2 g3 g4 g5
  go_wp2_with fail
  clear g0 g1 g2 g3 g4 g5
  refine (hR.out _ (hs'.out.below T2.out)).mono ?_; rintro e w3 ⟨rfl, hB⟩
  have H3 := Lib.hid ((H2.out.below hB).alloc (Obj.cells #[.int .i64 a, .int .i64 b] 27))
  have T3 := Lib.hid ((belowAl (thenB T2.out hB) (Obj.cells #[.int .i64 a, .int .i64 b] 27)))
  clear hB H2 T2
  have hC := (H3.out.get (w.heap.size) (Obj.cells #[.int .i64 no, .int .i64 rc, .int .i64 cl, .int .i64 dr, .int .i64 si, t] 24 (0, 0)) (by simp))
  have g0 := cellEq (i := 0) hC; have g1 := cellEq (i := 1) hC; have g2 := cellEq (i := 2) hC; have g3 := cellEq (i := 3) hC; have g4 := cellEq (i := 4) hC; have g5 := cellEq (i := 5) hC
  clear hC
  simp only [List.getElem?_toArray, List.getElem?_cons_zero, List.getElem?_cons_succ] at g0 g1 g2 g3 g4 g5
  have hC := (H3.out.get (w2.heap.size) (Obj.cells #[.int .i64 a, .int .i64 b] 27 (0, 0)) (by simp))
  have x0 := cellEq (i := 0) hC; have x1 := cellEq (i := 1) hC
  clear hC
  simp only [List.getElem?_toArray, List.getElem?_cons_zero, List.getElem?_cons_succ] at x0 x1
  have hC := (H3.out.get (w3.heap.size) (Obj.cells #[.int .i64 a, .int .i64 b] 27 (0, 0)) (by simp))
  have y0 := cellEq (i := 0) hC; have y1 := cellEq (i := 1) hC
  clear hC
  simp only [List.getElem?_toArray, List.getElem?_cons_zero, List.getElem?_cons_succ] at y0 y1
  go_wp2_with fail
  have sA := (Array.getElem?_eq_some_iff.1 (H3.out.get (w.heap.size) (Obj.cells #[.int .i64 no, .int .i64 rc, .int .i64 cl, .int .i64 dr, .int .i64 si, t] 24 (0, 0)) (by simp))).1; have sX := (Array.getElem?_eq_some_iff.1 (H3.out.get (w2.heap.size) (Obj.cells #[.int .i64 a, .int .i64 b] 27 (0, 0)) (by simp))).1; have sY := (Array.getElem?_eq_some_iff.1 (H3.out.get (w3.heap.size) (Obj.cells #[.int .i64 a, .int .i64 b] 27 (0, 0)) (by simp))).1
  go_region_held3 (fun w' => w'.cell? ⟨w.heap.size, 0, none⟩ = some (.int .i64 no) ∧ w'.cell? ⟨w.heap.size, 1, none⟩ = some (.int .i64 rc) ∧ w'.cell? ⟨w.heap.size, 2, none⟩ = some (.int .i64 cl) ∧ w'.cell? ⟨w.heap.size, 3, none⟩ = some (.int .i64 dr) ∧ w'.cell? ⟨w.heap.size, 4, none⟩ = some (.int .i64 si) ∧ w'.cell? ⟨w.heap.size, 5, none⟩ = some (t) ∧ w'.cell? ⟨w2.heap.size, 0, none⟩ = some (.int .i64 a) ∧ w'.cell? ⟨w2.heap.size, 1, none⟩ = some (.int .i64 b) ∧ w'.cell? ⟨w3.heap.size, 0, none⟩ = some (.int .i64 a) ∧ w'.cell? ⟨w3.heap.size, 1, none⟩ = some (.int .i64 b)) (first | exact ⟨g0, g1, g2, g3, g4, g5, x0, x1, y0, y1⟩ | exact ⟨(hB1.cell (p := ⟨w.heap.size, 0, none⟩) sA).trans g0, (hB1.cell (p := ⟨w.heap.size, 1, none⟩) sA).trans g1, (hB1.cell (p := ⟨w.heap.size, 2, none⟩) sA).trans g2, (hB1.cell (p := ⟨w.heap.size, 3, none⟩) sA).trans g3, (hB1.cell (p := ⟨w.heap.size, 4, none⟩) sA).trans g4, (hB1.cell (p := ⟨w.heap.size, 5, none⟩) sA).trans g5, (hB1.cell (p := ⟨w2.heap.size, 0, none⟩) sX).trans x0, (hB1.cell (p := ⟨w2.heap.size, 1, none⟩) sX).trans x1, (hB1.cell (p := ⟨w3.heap.size, 0, none⟩) sY).trans y0, (hB1.cell (p := ⟨w3.heap.size, 1, none⟩) sY).trans y1⟩ | exact ⟨(hB2.cell (p := ⟨w.heap.size, 0, none⟩) (Nat.lt_of_lt_of_le sA hB1.size)).trans ((hB1.cell (p := ⟨w.heap.size, 0, none⟩) sA).trans g0), (hB2.cell (p := ⟨w.heap.size, 1, none⟩) (Nat.lt_of_lt_of_le sA hB1.size)).trans ((hB1.cell (p := ⟨w.heap.size, 1, none⟩) sA).trans g1), (hB2.cell (p := ⟨w.heap.size, 2, none⟩) (Nat.lt_of_lt_of_le sA hB1.size)).trans ((hB1.cell (p := ⟨w.heap.size, 2, none⟩) sA).trans g2), (hB2.cell (p := ⟨w.heap.size, 3, none⟩) (Nat.lt_of_lt_of_le sA hB1.size)).trans ((hB1.cell (p := ⟨w.heap.size, 3, none⟩) sA).trans g3), (hB2.cell (p := ⟨w.heap.size, 4, none⟩) (Nat.lt_of_lt_of_le sA hB1.size)).trans ((hB1.cell (p := ⟨w.heap.size, 4, none⟩) sA).trans g4), (hB2.cell (p := ⟨w.heap.size, 5, none⟩) (Nat.lt_of_lt_of_le sA hB1.size)).trans ((hB1.cell (p := ⟨w.heap.size, 5, none⟩) sA).trans g5), (hB2.cell (p := ⟨w2.heap.size, 0, none⟩) (Nat.lt_of_lt_of_le sX hB1.size)).trans ((hB1.cell (p := ⟨w2.heap.size, 0, none⟩) sX).trans x0), (hB2.cell (p := ⟨w2.heap.size, 1, none⟩) (Nat.lt_of_lt_of_le sX hB1.size)).trans ((hB1.cell (p := ⟨w2.heap.size, 1, none⟩) sX).trans x1), (hB2.cell (p := ⟨w3.heap.size, 0, none⟩) (Nat.lt_of_lt_of_le sY hB1.size)).trans ((hB1.cell (p := ⟨w3.heap.size, 0, none⟩) sY).trans y0), (hB2.cell (p := ⟨w3.heap.size, 1, none⟩) (Nat.lt_of_lt_of_le sY hB1.size)).trans ((hB1.cell (p := ⟨w3.heap.size, 1, none⟩) sY).trans y1)⟩ | go_keep) ((first | (go_at_call 12; refine (check_any no rc cl dr si t pts _ (hs'.out.below (belowDr T3.out))).mono ?_; rintro e v1 ⟨rfl, hB1⟩) | (go_at_call 13; refine (rcheck_any no rc cl dr si t pts _ (hs'.out.below (thenB (belowDr T3.out) hB1))).mono ?_; rintro e v2 ⟨rfl, hB2⟩)))
  all_goals go_wp2_with fail
  all_goals go_ret
  all_goals exact ⟨by simp, thenB (thenB (belowDr T3.out) hB1) hB2⟩
set_option maxRecDepth 100000 in
set_option maxHeartbeats 4000000 in
theorem GaugeReadSpec_walk (no rc cl dr si st hour lt : Int) (t : Value) (pts : List (Int × Int)) (w : World) (hs : PtSl w t pts) :
    Calls Try.prog 4 #[gv no rc cl dr si t, .int .i64 st, .int .i64 hour, .int .i64 lt] w fun e w' => e = .returned (.bool true) ∧ Below w.heap.size w w' := by
  obtain ⟨a, b, c, hF, hR, _⟩ := read_both no rc cl dr si st hour t pts
  replace hF := Lib.hid hF
  replace hR := Lib.hid hR
  obtain ⟨a2, b2, c2, ok, hS, hV, _⟩ := stage_both no rc cl dr si lt t pts
  replace hS := Lib.hid hS
  replace hV := Lib.hid hV
  have hs' := Lib.hid hs
  clear hs
  have H0 := Lib.hid (has1 w (Obj.cells #[.int .i64 no, .int .i64 rc, .int .i64 cl, .int .i64 dr, .int .i64 si, t] 24))
  have T0 := Lib.hid (belowAl (Below.refl w.heap.size w) (Obj.cells #[.int .i64 no, .int .i64 rc, .int .i64 cl, .int .i64 dr, .int .i64 si, t] 24))
  go_enter Try.func4, Try.ntmps4
  go_wp2_with fail
  refine (sane_any _).mono ?_; rintro e w1 ⟨rfl, hB⟩
  have H1 := Lib.hid (H0.out.below hB)
  have T1 := Lib.hid ((thenB T0.out hB))
  clear hB H0 T0
  have hC := (H1.out.get (w.heap.size) (Obj.cells #[.int .i64 no, .int .i64 rc, .int .i64 cl, .int .i64 dr, .int .i64 si, t] 24 (0, 0)) (by simp))
  have g0 := cellEq (i := 0) hC; have g1 := cellEq (i := 1) hC; have g2 := cellEq (i := 2) hC; have g3 := cellEq (i := 3) hC; have g4 := cellEq (i := 4) hC; have g5 := cellEq (i := 5) hC
  clear hC
  simp only [List.getElem?_toArray, List.getElem?_cons_zero, List.getElem?_cons_succ] at g0 g1 g2 g3 g4 g5
  go_wp2_with fail
  clear g0 g1 g2 g3 g4 g5
  refine (hF.out _ (hs'.out.below T1.out)).mono ?_; rintro e w2 ⟨rfl, hB⟩
  have H2 := Lib.hid ((H1.out.below hB).alloc (Obj.cells #[.int .i64 a, .int .i64 b] 27))
  have T2 := Lib.hid ((belowAl (thenB T1.out hB) (Obj.cells #[.int .i64 a, .int .i64 b] 27)))
  clear hB H1 T1
  have hC := (H2.out.get (w.heap.size) (Obj.cells #[.int .i64 no, .int .i64 rc, .int .i64 cl, .int .i64 dr, .int .i64 si, t] 24 (0, 0)) (by simp))
  have g0 := cellEq (i := 0) hC; have g1 := cellEq (i := 1) hC; have g2 := cellEq (i := 2) hC; have g3 := cellEq (i := 3) hC; have g4 := cellEq (i := 4) hC; have g5 := cellEq (i := 5) hC
  clear hC
  simp only [List.getElem?_toArray, List.getElem?_cons_zero, List.getElem?_cons_succ] at g0 g1 g2 g3 g4 g5
  go_wp2_with fail
  clear g0 g1 g2 g3 g4 g5
  refine (hR.out _ (hs'.out.below T2.out)).mono ?_; rintro e w3 ⟨rfl, hB⟩
  have H3 := Lib.hid ((H2.out.below hB).alloc (Obj.cells #[.int .i64 a, .int .i64 b] 27))
  have T3 := Lib.hid ((belowAl (thenB T2.out hB) (Obj.cells #[.int .i64 a, .int .i64 b] 27)))
  clear hB H2 T2
  have hC := (H3.out.get (w.heap.size) (Obj.cells #[.int .i64 no, .int .i64 rc, .int .i64 cl, .int .i64 dr, .int .i64 si, t] 24 (0, 0)) (by simp))
  have g0 := cellEq (i := 0) hC; have g1 := cellEq (i := 1) hC; have g2 := cellEq (i := 2) hC; have g3 := cellEq (i := 3) hC; have g4 := cellEq (i := 4) hC; have g5 := cellEq (i := 5) hC
  clear hC
  simp only [List.getElem?_toArray, List.getElem?_cons_zero, List.getElem?_cons_succ] at g0 g1 g2 g3 g4 g5
  go_wp2_with fail
  clear g0 g1 g2 g3 g4 g5
  refine (hS.out _ (hs'.out.below T3.out)).mono ?_; rintro e w4 ⟨rfl, hB⟩
  have H4 := Lib.hid ((H3.out.below hB).alloc (Obj.cells #[.int .i64 a2, .int .i64 b2] 27))
  have T4 := Lib.hid ((belowAl (thenB T3.out hB) (Obj.cells #[.int .i64 a2, .int .i64 b2] 27)))
  clear hB H3 T3
  have hC := (H4.out.get (w.heap.size) (Obj.cells #[.int .i64 no, .int .i64 rc, .int .i64 cl, .int .i64 dr, .int .i64 si, t] 24 (0, 0)) (by simp))
  have g0 := cellEq (i := 0) hC; have g1 := cellEq (i := 1) hC; have g2 := cellEq (i := 2) hC; have g3 := cellEq (i := 3) hC; have g4 := cellEq (i := 4) hC; have g5 := cellEq (i := 5) hC
  clear hC
  simp only [List.getElem?_toArray, List.getElem?_cons_zero, List.getElem?_cons_succ] at g0 g1 g2 g3 g4 g5
  go_wp2_with fail
  clear g0 g1 g2 g3 g4 g5
  refine (hV.out _ (hs'.out.below T4.out)).mono ?_; rintro e w5 ⟨rfl, hB⟩
  have H5 := Lib.hid ((H4.out.below hB).alloc (Obj.cells #[.int .i64 a2, .int .i64 b2] 27))
  have T5 := Lib.hid ((belowAl (thenB T4.out hB) (Obj.cells #[.int .i64 a2, .int .i64 b2] 27)))
  clear hB H4 T4
  have hC := (H5.out.get (w2.heap.size) (Obj.cells #[.int .i64 a, .int .i64 b] 27 (0, 0)) (by simp))
  have x0 := cellEq (i := 0) hC; have x1 := cellEq (i := 1) hC
  clear hC
  simp only [List.getElem?_toArray, List.getElem?_cons_zero, List.getElem?_cons_succ] at x0 x1
  have hC := (H5.out.get (w3.heap.size) (Obj.cells #[.int .i64 a, .int .i64 b] 27 (0, 0)) (by simp))
  have y0 := cellEq (i := 0) hC; have y1 := cellEq (i := 1) hC
  clear hC
  simp only [List.getElem?_toArray, List.getElem?_cons_zero, List.getElem?_cons_succ] at y0 y1
  have hC := (H5.out.get (w4.heap.size) (Obj.cells #[.int .i64 a2, .int .i64 b2] 27 (0, 0)) (by simp))
  have u0 := cellEq (i := 0) hC; have u1 := cellEq (i := 1) hC
  clear hC
  simp only [List.getElem?_toArray, List.getElem?_cons_zero, List.getElem?_cons_succ] at u0 u1
  have hC := (H5.out.get (w5.heap.size) (Obj.cells #[.int .i64 a2, .int .i64 b2] 27 (0, 0)) (by simp))
  have v0 := cellEq (i := 0) hC; have v1 := cellEq (i := 1) hC
  clear hC
  simp only [List.getElem?_toArray, List.getElem?_cons_zero, List.getElem?_cons_succ] at v0 v1
  go_wp2_with fail
  go_ret
  exact ⟨by simp, T5.out⟩
theorem fst_iff {p : Nat → Bool} (hm : ∀ i j, i ≤ j → p i = true → p j = true) {n k : Nat} (hk : Fst p n k) (i : Nat) (hi : i < n) : p i = true ↔ k ≤ i := by
  obtain ⟨h1, h2, h3⟩ := hk
  constructor
  · intro h
    rcases Nat.lt_or_ge i k with hl | hl
    · rcases h2 with h2 | h2
      · omega
      · rw [hm i (k - 1) (by omega) h] at h2; cases h2
    · exact hl
  · intro h
    rcases h3 with h3 | h3
    · omega
    · exact hm k i h h3
set_option maxRecDepth 100000 in
set_option maxHeartbeats 4000000 in
theorem GaugeTruth_walk (no rc cl dr si rd tr hour : Int) (t : Value) (pts : List (Int × Int)) (w : World) (hs : PtSl w t pts) :
    Calls Try.prog 5 #[gv no rc cl dr si t, .int .i64 rd, .int .i64 tr, .int .i64 hour] w fun e w' => e = .returned (.bool true) ∧ Below w.heap.size w w' := by
  obtain ⟨a, b, c, hF, _, hc⟩ := read_both no rc cl dr si rd hour t pts
  obtain ⟨a2, b2, c2, hS, _, hc2, _⟩ := flow_both no rc cl dr si tr t pts
  replace hF := Lib.hid hF
  replace hS := Lib.hid hS
  skip
  by_cases h1 : c ≠ 0
  · have d1 : (c != 0) = true := by simpa using h1
    clear h1 hc hc2
    have hs' := Lib.hid hs
    clear hs
    have H0 := Lib.hid (has1 w (Obj.cells #[.int .i64 no, .int .i64 rc, .int .i64 cl, .int .i64 dr, .int .i64 si, t] 24))
    have T0 := Lib.hid (belowAl (Below.refl w.heap.size w) (Obj.cells #[.int .i64 no, .int .i64 rc, .int .i64 cl, .int .i64 dr, .int .i64 si, t] 24))
    go_enter Try.func5, Try.ntmps5
    go_wp2_with fail
    refine (sane_any _).mono ?_; rintro e w1 ⟨rfl, hB⟩
    have H1 := Lib.hid (H0.out.below hB)
    have T1 := Lib.hid ((thenB T0.out hB))
    clear hB H0 T0
    have hC := (H1.out.get (w.heap.size) (Obj.cells #[.int .i64 no, .int .i64 rc, .int .i64 cl, .int .i64 dr, .int .i64 si, t] 24 (0, 0)) (by simp))
    have g0 := cellEq (i := 0) hC; have g1 := cellEq (i := 1) hC; have g2 := cellEq (i := 2) hC; have g3 := cellEq (i := 3) hC; have g4 := cellEq (i := 4) hC; have g5 := cellEq (i := 5) hC
    clear hC
    simp only [List.getElem?_toArray, List.getElem?_cons_zero, List.getElem?_cons_succ] at g0 g1 g2 g3 g4 g5
    go_wp2_with fail
    clear g0 g1 g2 g3 g4 g5
    refine (hF.out _ (hs'.out.below T1.out)).mono ?_; rintro e w2 ⟨rfl, hB⟩
    have H2 := Lib.hid ((H1.out.below hB).alloc (Obj.cells #[.int .i64 a, .int .i64 b] 27))
    have T2 := Lib.hid ((belowAl (thenB T1.out hB) (Obj.cells #[.int .i64 a, .int .i64 b] 27)))
    clear hB H1 T1
    have hC := (H2.out.get (w.heap.size) (Obj.cells #[.int .i64 no, .int .i64 rc, .int .i64 cl, .int .i64 dr, .int .i64 si, t] 24 (0, 0)) (by simp))
    have g0 := cellEq (i := 0) hC; have g1 := cellEq (i := 1) hC; have g2 := cellEq (i := 2) hC; have g3 := cellEq (i := 3) hC; have g4 := cellEq (i := 4) hC; have g5 := cellEq (i := 5) hC
    clear hC
    simp only [List.getElem?_toArray, List.getElem?_cons_zero, List.getElem?_cons_succ] at g0 g1 g2 g3 g4 g5
    go_wp2_with fail
    clear g0 g1 g2 g3 g4 g5
    refine (hS.out _ (hs'.out.below T2.out)).mono ?_; rintro e w3 ⟨rfl, hB⟩
    have H3 := Lib.hid ((H2.out.below hB).alloc (Obj.cells #[.int .i64 a2, .int .i64 b2] 27))
    have T3 := Lib.hid ((belowAl (thenB T2.out hB) (Obj.cells #[.int .i64 a2, .int .i64 b2] 27)))
    clear hB H2 T2
    go_wp2_with fail
    go_ret
    exact ⟨rfl, T3.out⟩
  · have h1 : c = 0 := Classical.not_not.1 h1
    by_cases h2 : c2 ≠ 0
    · have d2 : (c2 != 0) = true := by simpa using h2
      clear h2 hc hc2
      have hs' := Lib.hid hs
      clear hs
      have H0 := Lib.hid (has1 w (Obj.cells #[.int .i64 no, .int .i64 rc, .int .i64 cl, .int .i64 dr, .int .i64 si, t] 24))
      have T0 := Lib.hid (belowAl (Below.refl w.heap.size w) (Obj.cells #[.int .i64 no, .int .i64 rc, .int .i64 cl, .int .i64 dr, .int .i64 si, t] 24))
      go_enter Try.func5, Try.ntmps5
      go_wp2_with fail
      refine (sane_any _).mono ?_; rintro e w1 ⟨rfl, hB⟩
      have H1 := Lib.hid (H0.out.below hB)
      have T1 := Lib.hid ((thenB T0.out hB))
      clear hB H0 T0
      have hC := (H1.out.get (w.heap.size) (Obj.cells #[.int .i64 no, .int .i64 rc, .int .i64 cl, .int .i64 dr, .int .i64 si, t] 24 (0, 0)) (by simp))
      have g0 := cellEq (i := 0) hC; have g1 := cellEq (i := 1) hC; have g2 := cellEq (i := 2) hC; have g3 := cellEq (i := 3) hC; have g4 := cellEq (i := 4) hC; have g5 := cellEq (i := 5) hC
      clear hC
      simp only [List.getElem?_toArray, List.getElem?_cons_zero, List.getElem?_cons_succ] at g0 g1 g2 g3 g4 g5
      go_wp2_with fail
      clear g0 g1 g2 g3 g4 g5
      refine (hF.out _ (hs'.out.below T1.out)).mono ?_; rintro e w2 ⟨rfl, hB⟩
      have H2 := Lib.hid ((H1.out.below hB).alloc (Obj.cells #[.int .i64 a, .int .i64 b] 27))
      have T2 := Lib.hid ((belowAl (thenB T1.out hB) (Obj.cells #[.int .i64 a, .int .i64 b] 27)))
      clear hB H1 T1
      have hC := (H2.out.get (w.heap.size) (Obj.cells #[.int .i64 no, .int .i64 rc, .int .i64 cl, .int .i64 dr, .int .i64 si, t] 24 (0, 0)) (by simp))
      have g0 := cellEq (i := 0) hC; have g1 := cellEq (i := 1) hC; have g2 := cellEq (i := 2) hC; have g3 := cellEq (i := 3) hC; have g4 := cellEq (i := 4) hC; have g5 := cellEq (i := 5) hC
      clear hC
      simp only [List.getElem?_toArray, List.getElem?_cons_zero, List.getElem?_cons_succ] at g0 g1 g2 g3 g4 g5
      go_wp2_with fail
      clear g0 g1 g2 g3 g4 g5
      refine (hS.out _ (hs'.out.below T2.out)).mono ?_; rintro e w3 ⟨rfl, hB⟩
      have H3 := Lib.hid ((H2.out.below hB).alloc (Obj.cells #[.int .i64 a2, .int .i64 b2] 27))
      have T3 := Lib.hid ((belowAl (thenB T2.out hB) (Obj.cells #[.int .i64 a2, .int .i64 b2] 27)))
      clear hB H2 T2
      go_wp2_with fail
      go_ret
      exact ⟨rfl, T3.out⟩
    · have h2 : c2 = 0 := Classical.not_not.1 h2
      obtain ⟨hk, r0, r1, q0, q1, ea, eb⟩ := hc h1
      obtain ⟨_, s0, s1, ea2, eb2⟩ := hc2 h2
      subst h1; subst h2
      have hTt := chk_tab hk
      have hcl := hTt.2.1; have hcl1 := hTt.2.2.1; have hdr := hTt.2.2.2.1; have hdr1 := hTt.2.2.2.2.1; have hsi := hTt.2.2.2.2.2.1; have hsi1 := hTt.2.2.2.2.2.2
      have HB := offV_bd (cl := cl) (dr := dr) (si := si) (hour := hour) ⟨hcl, hcl1⟩ ⟨hdr, hdr1⟩ hsi q1
      have mono : ∀ x y : Int, x ≤ y → lo pts x ≤ lo pts y ∧ hi pts x ≤ hi pts y := fun x y hxy => by
        cases pts with
        | nil => exact absurd rfl hTt.1.ne
        | cons u r => exact lo_mono u r hTt.1.srt x y hxy
      have hle : (max rd tr - min rd tr ≤ offV cl dr si hour) → a ≤ a2 ∧ b2 ≤ b := fun h => by
        rw [ea, eb, ea2, eb2]
        exact ⟨(mono _ _ (by unfold end0; omega)).1, (mono _ _ (by unfold end1; omega)).2⟩
      have hO : offV cl dr si hour = cl + dr * (max 0 (hour - si) / 24) := rfl
      rw [hO] at hle
      replace hle := Lib.hid hle
      clear mono ea eb ea2 eb2 hc hc2 hO hTt hk
      by_cases hl : si < hour
      · skip
        rw [show max 0 (hour - si) = hour - si from by omega] at HB
        rw [show max 0 (hour - si) = hour - si from by omega] at hle
        by_cases hu : tr ≤ rd
        · have hu' : tr ≤ rd := by omega
          clear hu
          by_cases he : cl + dr * ((hour - si) / 24) < rd - tr
          · have he' : (cl + dr * ((hour - si) / 24) < rd - tr) := he
            clear he'
            clear hle
            have hs' := Lib.hid hs
            clear hs
            have H0 := Lib.hid (has1 w (Obj.cells #[.int .i64 no, .int .i64 rc, .int .i64 cl, .int .i64 dr, .int .i64 si, t] 24))
            have T0 := Lib.hid (belowAl (Below.refl w.heap.size w) (Obj.cells #[.int .i64 no, .int .i64 rc, .int .i64 cl, .int .i64 dr, .int .i64 si, t] 24))
            go_enter Try.func5, Try.ntmps5
            go_wp2_with fail
            refine (sane_any _).mono ?_; rintro e w1 ⟨rfl, hB⟩
            have H1 := Lib.hid (H0.out.below hB)
            have T1 := Lib.hid ((thenB T0.out hB))
            clear hB H0 T0
            have hC := (H1.out.get (w.heap.size) (Obj.cells #[.int .i64 no, .int .i64 rc, .int .i64 cl, .int .i64 dr, .int .i64 si, t] 24 (0, 0)) (by simp))
            have g0 := cellEq (i := 0) hC; have g1 := cellEq (i := 1) hC; have g2 := cellEq (i := 2) hC; have g3 := cellEq (i := 3) hC; have g4 := cellEq (i := 4) hC; have g5 := cellEq (i := 5) hC
            clear hC
            simp only [List.getElem?_toArray, List.getElem?_cons_zero, List.getElem?_cons_succ] at g0 g1 g2 g3 g4 g5
            go_wp2_with fail
            clear g0 g1 g2 g3 g4 g5
            refine (hF.out _ (hs'.out.below T1.out)).mono ?_; rintro e w2 ⟨rfl, hB⟩
            have H2 := Lib.hid ((H1.out.below hB).alloc (Obj.cells #[.int .i64 a, .int .i64 b] 27))
            have T2 := Lib.hid ((belowAl (thenB T1.out hB) (Obj.cells #[.int .i64 a, .int .i64 b] 27)))
            clear hB H1 T1
            have hC := (H2.out.get (w.heap.size) (Obj.cells #[.int .i64 no, .int .i64 rc, .int .i64 cl, .int .i64 dr, .int .i64 si, t] 24 (0, 0)) (by simp))
            have g0 := cellEq (i := 0) hC; have g1 := cellEq (i := 1) hC; have g2 := cellEq (i := 2) hC; have g3 := cellEq (i := 3) hC; have g4 := cellEq (i := 4) hC; have g5 := cellEq (i := 5) hC
            clear hC
            simp only [List.getElem?_toArray, List.getElem?_cons_zero, List.getElem?_cons_succ] at g0 g1 g2 g3 g4 g5
            go_wp2_with fail
            clear g0 g1 g2 g3 g4 g5
            refine (hS.out _ (hs'.out.below T2.out)).mono ?_; rintro e w3 ⟨rfl, hB⟩
            have H3 := Lib.hid ((H2.out.below hB).alloc (Obj.cells #[.int .i64 a2, .int .i64 b2] 27))
            have T3 := Lib.hid ((belowAl (thenB T2.out hB) (Obj.cells #[.int .i64 a2, .int .i64 b2] 27)))
            clear hB H2 T2
            have hC := (H3.out.get (w.heap.size) (Obj.cells #[.int .i64 no, .int .i64 rc, .int .i64 cl, .int .i64 dr, .int .i64 si, t] 24 (0, 0)) (by simp))
            have g0 := cellEq (i := 0) hC; have g1 := cellEq (i := 1) hC; have g2 := cellEq (i := 2) hC; have g3 := cellEq (i := 3) hC; have g4 := cellEq (i := 4) hC; have g5 := cellEq (i := 5) hC
            clear hC
            simp only [List.getElem?_toArray, List.getElem?_cons_zero, List.getElem?_cons_succ] at g0 g1 g2 g3 g4 g5
            have hC := (H3.out.get (w2.heap.size) (Obj.cells #[.int .i64 a, .int .i64 b] 27 (0, 0)) (by simp))
            have x0 := cellEq (i := 0) hC; have x1 := cellEq (i := 1) hC
            clear hC
            simp only [List.getElem?_toArray, List.getElem?_cons_zero, List.getElem?_cons_succ] at x0 x1
            have hC := (H3.out.get (w3.heap.size) (Obj.cells #[.int .i64 a2, .int .i64 b2] 27 (0, 0)) (by simp))
            have y0 := cellEq (i := 0) hC; have y1 := cellEq (i := 1) hC
            clear hC
            simp only [List.getElem?_toArray, List.getElem?_cons_zero, List.getElem?_cons_succ] at y0 y1
            go_wp2_with fail
            all_goals (go_ret; exact ⟨by first | (simp; done) | (simp; omega), T3.out⟩)
          · have he' : ¬ (cl + dr * ((hour - si) / 24) < rd - tr) := he
            have he2 : rd - tr ≤ cl + dr * ((hour - si) / 24) := by omega
            clear he he'
            have ⟨l1, l2⟩ := hle.out (by rw [show max rd tr = rd from by omega, show min rd tr = tr from by omega]; omega)
            clear hle
            have hs' := Lib.hid hs
            clear hs
            have H0 := Lib.hid (has1 w (Obj.cells #[.int .i64 no, .int .i64 rc, .int .i64 cl, .int .i64 dr, .int .i64 si, t] 24))
            have T0 := Lib.hid (belowAl (Below.refl w.heap.size w) (Obj.cells #[.int .i64 no, .int .i64 rc, .int .i64 cl, .int .i64 dr, .int .i64 si, t] 24))
            go_enter Try.func5, Try.ntmps5
            go_wp2_with fail
            refine (sane_any _).mono ?_; rintro e w1 ⟨rfl, hB⟩
            have H1 := Lib.hid (H0.out.below hB)
            have T1 := Lib.hid ((thenB T0.out hB))
            clear hB H0 T0
            have hC := (H1.out.get (w.heap.size) (Obj.cells #[.int .i64 no, .int .i64 rc, .int .i64 cl, .int .i64 dr, .int .i64 si, t] 24 (0, 0)) (by simp))
            have g0 := cellEq (i := 0) hC; have g1 := cellEq (i := 1) hC; have g2 := cellEq (i := 2) hC; have g3 := cellEq (i := 3) hC; have g4 := cellEq (i := 4) hC; have g5 := cellEq (i := 5) hC
            clear hC
            simp only [List.getElem?_toArray, List.getElem?_cons_zero, List.getElem?_cons_succ] at g0 g1 g2 g3 g4 g5
            go_wp2_with fail
            clear g0 g1 g2 g3 g4 g5
            refine (hF.out _ (hs'.out.below T1.out)).mono ?_; rintro e w2 ⟨rfl, hB⟩
            have H2 := Lib.hid ((H1.out.below hB).alloc (Obj.cells #[.int .i64 a, .int .i64 b] 27))
            have T2 := Lib.hid ((belowAl (thenB T1.out hB) (Obj.cells #[.int .i64 a, .int .i64 b] 27)))
            clear hB H1 T1
            have hC := (H2.out.get (w.heap.size) (Obj.cells #[.int .i64 no, .int .i64 rc, .int .i64 cl, .int .i64 dr, .int .i64 si, t] 24 (0, 0)) (by simp))
            have g0 := cellEq (i := 0) hC; have g1 := cellEq (i := 1) hC; have g2 := cellEq (i := 2) hC; have g3 := cellEq (i := 3) hC; have g4 := cellEq (i := 4) hC; have g5 := cellEq (i := 5) hC
            clear hC
            simp only [List.getElem?_toArray, List.getElem?_cons_zero, List.getElem?_cons_succ] at g0 g1 g2 g3 g4 g5
            go_wp2_with fail
            clear g0 g1 g2 g3 g4 g5
            refine (hS.out _ (hs'.out.below T2.out)).mono ?_; rintro e w3 ⟨rfl, hB⟩
            have H3 := Lib.hid ((H2.out.below hB).alloc (Obj.cells #[.int .i64 a2, .int .i64 b2] 27))
            have T3 := Lib.hid ((belowAl (thenB T2.out hB) (Obj.cells #[.int .i64 a2, .int .i64 b2] 27)))
            clear hB H2 T2
            have hC := (H3.out.get (w.heap.size) (Obj.cells #[.int .i64 no, .int .i64 rc, .int .i64 cl, .int .i64 dr, .int .i64 si, t] 24 (0, 0)) (by simp))
            have g0 := cellEq (i := 0) hC; have g1 := cellEq (i := 1) hC; have g2 := cellEq (i := 2) hC; have g3 := cellEq (i := 3) hC; have g4 := cellEq (i := 4) hC; have g5 := cellEq (i := 5) hC
            clear hC
            simp only [List.getElem?_toArray, List.getElem?_cons_zero, List.getElem?_cons_succ] at g0 g1 g2 g3 g4 g5
            have hC := (H3.out.get (w2.heap.size) (Obj.cells #[.int .i64 a, .int .i64 b] 27 (0, 0)) (by simp))
            have x0 := cellEq (i := 0) hC; have x1 := cellEq (i := 1) hC
            clear hC
            simp only [List.getElem?_toArray, List.getElem?_cons_zero, List.getElem?_cons_succ] at x0 x1
            have hC := (H3.out.get (w3.heap.size) (Obj.cells #[.int .i64 a2, .int .i64 b2] 27 (0, 0)) (by simp))
            have y0 := cellEq (i := 0) hC; have y1 := cellEq (i := 1) hC
            clear hC
            simp only [List.getElem?_toArray, List.getElem?_cons_zero, List.getElem?_cons_succ] at y0 y1
            go_wp2_with fail
            all_goals (go_ret; exact ⟨by first | (simp; done) | (simp; omega), T3.out⟩)
        · have hu' : rd ≤ tr := by omega
          clear hu
          by_cases he : cl + dr * ((hour - si) / 24) < tr - rd
          · have he' : (cl + dr * ((hour - si) / 24) < tr - rd) := he
            clear he'
            clear hle
            have hs' := Lib.hid hs
            clear hs
            have H0 := Lib.hid (has1 w (Obj.cells #[.int .i64 no, .int .i64 rc, .int .i64 cl, .int .i64 dr, .int .i64 si, t] 24))
            have T0 := Lib.hid (belowAl (Below.refl w.heap.size w) (Obj.cells #[.int .i64 no, .int .i64 rc, .int .i64 cl, .int .i64 dr, .int .i64 si, t] 24))
            go_enter Try.func5, Try.ntmps5
            go_wp2_with fail
            refine (sane_any _).mono ?_; rintro e w1 ⟨rfl, hB⟩
            have H1 := Lib.hid (H0.out.below hB)
            have T1 := Lib.hid ((thenB T0.out hB))
            clear hB H0 T0
            have hC := (H1.out.get (w.heap.size) (Obj.cells #[.int .i64 no, .int .i64 rc, .int .i64 cl, .int .i64 dr, .int .i64 si, t] 24 (0, 0)) (by simp))
            have g0 := cellEq (i := 0) hC; have g1 := cellEq (i := 1) hC; have g2 := cellEq (i := 2) hC; have g3 := cellEq (i := 3) hC; have g4 := cellEq (i := 4) hC; have g5 := cellEq (i := 5) hC
            clear hC
            simp only [List.getElem?_toArray, List.getElem?_cons_zero, List.getElem?_cons_succ] at g0 g1 g2 g3 g4 g5
            go_wp2_with fail
            clear g0 g1 g2 g3 g4 g5
            refine (hF.out _ (hs'.out.below T1.out)).mono ?_; rintro e w2 ⟨rfl, hB⟩
            have H2 := Lib.hid ((H1.out.below hB).alloc (Obj.cells #[.int .i64 a, .int .i64 b] 27))
            have T2 := Lib.hid ((belowAl (thenB T1.out hB) (Obj.cells #[.int .i64 a, .int .i64 b] 27)))
            clear hB H1 T1
            have hC := (H2.out.get (w.heap.size) (Obj.cells #[.int .i64 no, .int .i64 rc, .int .i64 cl, .int .i64 dr, .int .i64 si, t] 24 (0, 0)) (by simp))
            have g0 := cellEq (i := 0) hC; have g1 := cellEq (i := 1) hC; have g2 := cellEq (i := 2) hC; have g3 := cellEq (i := 3) hC; have g4 := cellEq (i := 4) hC; have g5 := cellEq (i := 5) hC
            clear hC
            simp only [List.getElem?_toArray, List.getElem?_cons_zero, List.getElem?_cons_succ] at g0 g1 g2 g3 g4 g5
            go_wp2_with fail
            clear g0 g1 g2 g3 g4 g5
            refine (hS.out _ (hs'.out.below T2.out)).mono ?_; rintro e w3 ⟨rfl, hB⟩
            have H3 := Lib.hid ((H2.out.below hB).alloc (Obj.cells #[.int .i64 a2, .int .i64 b2] 27))
            have T3 := Lib.hid ((belowAl (thenB T2.out hB) (Obj.cells #[.int .i64 a2, .int .i64 b2] 27)))
            clear hB H2 T2
            have hC := (H3.out.get (w.heap.size) (Obj.cells #[.int .i64 no, .int .i64 rc, .int .i64 cl, .int .i64 dr, .int .i64 si, t] 24 (0, 0)) (by simp))
            have g0 := cellEq (i := 0) hC; have g1 := cellEq (i := 1) hC; have g2 := cellEq (i := 2) hC; have g3 := cellEq (i := 3) hC; have g4 := cellEq (i := 4) hC; have g5 := cellEq (i := 5) hC
            clear hC
            simp only [List.getElem?_toArray, List.getElem?_cons_zero, List.getElem?_cons_succ] at g0 g1 g2 g3 g4 g5
            have hC := (H3.out.get (w2.heap.size) (Obj.cells #[.int .i64 a, .int .i64 b] 27 (0, 0)) (by simp))
            have x0 := cellEq (i := 0) hC; have x1 := cellEq (i := 1) hC
            clear hC
            simp only [List.getElem?_toArray, List.getElem?_cons_zero, List.getElem?_cons_succ] at x0 x1
            have hC := (H3.out.get (w3.heap.size) (Obj.cells #[.int .i64 a2, .int .i64 b2] 27 (0, 0)) (by simp))
            have y0 := cellEq (i := 0) hC; have y1 := cellEq (i := 1) hC
            clear hC
            simp only [List.getElem?_toArray, List.getElem?_cons_zero, List.getElem?_cons_succ] at y0 y1
            go_wp2_with fail
            all_goals (go_ret; exact ⟨by first | (simp; done) | (simp; omega), T3.out⟩)
          · have he' : ¬ (cl + dr * ((hour - si) / 24) < tr - rd) := he
            have he2 : tr - rd ≤ cl + dr * ((hour - si) / 24) := by omega
            clear he he'
            have ⟨l1, l2⟩ := hle.out (by rw [show max rd tr = tr from by omega, show min rd tr = rd from by omega]; omega)
            clear hle
            have hs' := Lib.hid hs
            clear hs
            have H0 := Lib.hid (has1 w (Obj.cells #[.int .i64 no, .int .i64 rc, .int .i64 cl, .int .i64 dr, .int .i64 si, t] 24))
            have T0 := Lib.hid (belowAl (Below.refl w.heap.size w) (Obj.cells #[.int .i64 no, .int .i64 rc, .int .i64 cl, .int .i64 dr, .int .i64 si, t] 24))
            go_enter Try.func5, Try.ntmps5
            go_wp2_with fail
            refine (sane_any _).mono ?_; rintro e w1 ⟨rfl, hB⟩
            have H1 := Lib.hid (H0.out.below hB)
            have T1 := Lib.hid ((thenB T0.out hB))
            clear hB H0 T0
            have hC := (H1.out.get (w.heap.size) (Obj.cells #[.int .i64 no, .int .i64 rc, .int .i64 cl, .int .i64 dr, .int .i64 si, t] 24 (0, 0)) (by simp))
            have g0 := cellEq (i := 0) hC; have g1 := cellEq (i := 1) hC; have g2 := cellEq (i := 2) hC; have g3 := cellEq (i := 3) hC; have g4 := cellEq (i := 4) hC; have g5 := cellEq (i := 5) hC
            clear hC
            simp only [List.getElem?_toArray, List.getElem?_cons_zero, List.getElem?_cons_succ] at g0 g1 g2 g3 g4 g5
            go_wp2_with fail
            clear g0 g1 g2 g3 g4 g5
            refine (hF.out _ (hs'.out.below T1.out)).mono ?_; rintro e w2 ⟨rfl, hB⟩
            have H2 := Lib.hid ((H1.out.below hB).alloc (Obj.cells #[.int .i64 a, .int .i64 b] 27))
            have T2 := Lib.hid ((belowAl (thenB T1.out hB) (Obj.cells #[.int .i64 a, .int .i64 b] 27)))
            clear hB H1 T1
            have hC := (H2.out.get (w.heap.size) (Obj.cells #[.int .i64 no, .int .i64 rc, .int .i64 cl, .int .i64 dr, .int .i64 si, t] 24 (0, 0)) (by simp))
            have g0 := cellEq (i := 0) hC; have g1 := cellEq (i := 1) hC; have g2 := cellEq (i := 2) hC; have g3 := cellEq (i := 3) hC; have g4 := cellEq (i := 4) hC; have g5 := cellEq (i := 5) hC
            clear hC
            simp only [List.getElem?_toArray, List.getElem?_cons_zero, List.getElem?_cons_succ] at g0 g1 g2 g3 g4 g5
            go_wp2_with fail
            clear g0 g1 g2 g3 g4 g5
            refine (hS.out _ (hs'.out.below T2.out)).mono ?_; rintro e w3 ⟨rfl, hB⟩
            have H3 := Lib.hid ((H2.out.below hB).alloc (Obj.cells #[.int .i64 a2, .int .i64 b2] 27))
            have T3 := Lib.hid ((belowAl (thenB T2.out hB) (Obj.cells #[.int .i64 a2, .int .i64 b2] 27)))
            clear hB H2 T2
            have hC := (H3.out.get (w.heap.size) (Obj.cells #[.int .i64 no, .int .i64 rc, .int .i64 cl, .int .i64 dr, .int .i64 si, t] 24 (0, 0)) (by simp))
            have g0 := cellEq (i := 0) hC; have g1 := cellEq (i := 1) hC; have g2 := cellEq (i := 2) hC; have g3 := cellEq (i := 3) hC; have g4 := cellEq (i := 4) hC; have g5 := cellEq (i := 5) hC
            clear hC
            simp only [List.getElem?_toArray, List.getElem?_cons_zero, List.getElem?_cons_succ] at g0 g1 g2 g3 g4 g5
            have hC := (H3.out.get (w2.heap.size) (Obj.cells #[.int .i64 a, .int .i64 b] 27 (0, 0)) (by simp))
            have x0 := cellEq (i := 0) hC; have x1 := cellEq (i := 1) hC
            clear hC
            simp only [List.getElem?_toArray, List.getElem?_cons_zero, List.getElem?_cons_succ] at x0 x1
            have hC := (H3.out.get (w3.heap.size) (Obj.cells #[.int .i64 a2, .int .i64 b2] 27 (0, 0)) (by simp))
            have y0 := cellEq (i := 0) hC; have y1 := cellEq (i := 1) hC
            clear hC
            simp only [List.getElem?_toArray, List.getElem?_cons_zero, List.getElem?_cons_succ] at y0 y1
            go_wp2_with fail
            all_goals (go_ret; exact ⟨by first | (simp; done) | (simp; omega), T3.out⟩)
      · skip
        rw [show max 0 (hour - si) = 0 from by omega, show dr * (0 / 24) = 0 from by simp] at HB
        rw [show max 0 (hour - si) = 0 from by omega, show dr * (0 / 24) = 0 from by simp, Int.add_zero] at hle
        by_cases hu : tr ≤ rd
        · have hu' : tr ≤ rd := by omega
          clear hu
          by_cases he : cl < rd - tr
          · have he' : (cl < rd - tr) := he
            clear he'
            clear hle
            have hs' := Lib.hid hs
            clear hs
            have H0 := Lib.hid (has1 w (Obj.cells #[.int .i64 no, .int .i64 rc, .int .i64 cl, .int .i64 dr, .int .i64 si, t] 24))
            have T0 := Lib.hid (belowAl (Below.refl w.heap.size w) (Obj.cells #[.int .i64 no, .int .i64 rc, .int .i64 cl, .int .i64 dr, .int .i64 si, t] 24))
            go_enter Try.func5, Try.ntmps5
            go_wp2_with fail
            refine (sane_any _).mono ?_; rintro e w1 ⟨rfl, hB⟩
            have H1 := Lib.hid (H0.out.below hB)
            have T1 := Lib.hid ((thenB T0.out hB))
            clear hB H0 T0
            have hC := (H1.out.get (w.heap.size) (Obj.cells #[.int .i64 no, .int .i64 rc, .int .i64 cl, .int .i64 dr, .int .i64 si, t] 24 (0, 0)) (by simp))
            have g0 := cellEq (i := 0) hC; have g1 := cellEq (i := 1) hC; have g2 := cellEq (i := 2) hC; have g3 := cellEq (i := 3) hC; have g4 := cellEq (i := 4) hC; have g5 := cellEq (i := 5) hC
            clear hC
            simp only [List.getElem?_toArray, List.getElem?_cons_zero, List.getElem?_cons_succ] at g0 g1 g2 g3 g4 g5
            go_wp2_with fail
            clear g0 g1 g2 g3 g4 g5
            refine (hF.out _ (hs'.out.below T1.out)).mono ?_; rintro e w2 ⟨rfl, hB⟩
            have H2 := Lib.hid ((H1.out.below hB).alloc (Obj.cells #[.int .i64 a, .int .i64 b] 27))
            have T2 := Lib.hid ((belowAl (thenB T1.out hB) (Obj.cells #[.int .i64 a, .int .i64 b] 27)))
            clear hB H1 T1
            have hC := (H2.out.get (w.heap.size) (Obj.cells #[.int .i64 no, .int .i64 rc, .int .i64 cl, .int .i64 dr, .int .i64 si, t] 24 (0, 0)) (by simp))
            have g0 := cellEq (i := 0) hC; have g1 := cellEq (i := 1) hC; have g2 := cellEq (i := 2) hC; have g3 := cellEq (i := 3) hC; have g4 := cellEq (i := 4) hC; have g5 := cellEq (i := 5) hC
            clear hC
            simp only [List.getElem?_toArray, List.getElem?_cons_zero, List.getElem?_cons_succ] at g0 g1 g2 g3 g4 g5
            go_wp2_with fail
            clear g0 g1 g2 g3 g4 g5
            refine (hS.out _ (hs'.out.below T2.out)).mono ?_; rintro e w3 ⟨rfl, hB⟩
            have H3 := Lib.hid ((H2.out.below hB).alloc (Obj.cells #[.int .i64 a2, .int .i64 b2] 27))
            have T3 := Lib.hid ((belowAl (thenB T2.out hB) (Obj.cells #[.int .i64 a2, .int .i64 b2] 27)))
            clear hB H2 T2
            have hC := (H3.out.get (w.heap.size) (Obj.cells #[.int .i64 no, .int .i64 rc, .int .i64 cl, .int .i64 dr, .int .i64 si, t] 24 (0, 0)) (by simp))
            have g0 := cellEq (i := 0) hC; have g1 := cellEq (i := 1) hC; have g2 := cellEq (i := 2) hC; have g3 := cellEq (i := 3) hC; have g4 := cellEq (i := 4) hC; have g5 := cellEq (i := 5) hC
            clear hC
            simp only [List.getElem?_toArray, List.getElem?_cons_zero, List.getElem?_cons_succ] at g0 g1 g2 g3 g4 g5
            have hC := (H3.out.get (w2.heap.size) (Obj.cells #[.int .i64 a, .int .i64 b] 27 (0, 0)) (by simp))
            have x0 := cellEq (i := 0) hC; have x1 := cellEq (i := 1) hC
            clear hC
            simp only [List.getElem?_toArray, List.getElem?_cons_zero, List.getElem?_cons_succ] at x0 x1
            have hC := (H3.out.get (w3.heap.size) (Obj.cells #[.int .i64 a2, .int .i64 b2] 27 (0, 0)) (by simp))
            have y0 := cellEq (i := 0) hC; have y1 := cellEq (i := 1) hC
            clear hC
            simp only [List.getElem?_toArray, List.getElem?_cons_zero, List.getElem?_cons_succ] at y0 y1
            go_wp2_with fail
            all_goals (go_ret; exact ⟨by first | (simp; done) | (simp; omega), T3.out⟩)
          · have he' : ¬ (cl < rd - tr) := he
            have he2 : rd - tr ≤ cl := by omega
            clear he he'
            have ⟨l1, l2⟩ := hle.out (by rw [show max rd tr = rd from by omega, show min rd tr = tr from by omega]; omega)
            clear hle
            have hs' := Lib.hid hs
            clear hs
            have H0 := Lib.hid (has1 w (Obj.cells #[.int .i64 no, .int .i64 rc, .int .i64 cl, .int .i64 dr, .int .i64 si, t] 24))
            have T0 := Lib.hid (belowAl (Below.refl w.heap.size w) (Obj.cells #[.int .i64 no, .int .i64 rc, .int .i64 cl, .int .i64 dr, .int .i64 si, t] 24))
            go_enter Try.func5, Try.ntmps5
            go_wp2_with fail
            refine (sane_any _).mono ?_; rintro e w1 ⟨rfl, hB⟩
            have H1 := Lib.hid (H0.out.below hB)
            have T1 := Lib.hid ((thenB T0.out hB))
            clear hB H0 T0
            have hC := (H1.out.get (w.heap.size) (Obj.cells #[.int .i64 no, .int .i64 rc, .int .i64 cl, .int .i64 dr, .int .i64 si, t] 24 (0, 0)) (by simp))
            have g0 := cellEq (i := 0) hC; have g1 := cellEq (i := 1) hC; have g2 := cellEq (i := 2) hC; have g3 := cellEq (i := 3) hC; have g4 := cellEq (i := 4) hC; have g5 := cellEq (i := 5) hC
            clear hC
            simp only [List.getElem?_toArray, List.getElem?_cons_zero, List.getElem?_cons_succ] at g0 g1 g2 g3 g4 g5
            go_wp2_with fail
            clear g0 g1 g2 g3 g4 g5
            refine (hF.out _ (hs'.out.below T1.out)).mono ?_; rintro e w2 ⟨rfl, hB⟩
            have H2 := Lib.hid ((H1.out.below hB).alloc (Obj.cells #[.int .i64 a, .int .i64 b] 27))
            have T2 := Lib.hid ((belowAl (thenB T1.out hB) (Obj.cells #[.int .i64 a, .int .i64 b] 27)))
            clear hB H1 T1
            have hC := (H2.out.get (w.heap.size) (Obj.cells #[.int .i64 no, .int .i64 rc, .int .i64 cl, .int .i64 dr, .int .i64 si, t] 24 (0, 0)) (by simp))
            have g0 := cellEq (i := 0) hC; have g1 := cellEq (i := 1) hC; have g2 := cellEq (i := 2) hC; have g3 := cellEq (i := 3) hC; have g4 := cellEq (i := 4) hC; have g5 := cellEq (i := 5) hC
            clear hC
            simp only [List.getElem?_toArray, List.getElem?_cons_zero, List.getElem?_cons_succ] at g0 g1 g2 g3 g4 g5
            go_wp2_with fail
            clear g0 g1 g2 g3 g4 g5
            refine (hS.out _ (hs'.out.below T2.out)).mono ?_; rintro e w3 ⟨rfl, hB⟩
            have H3 := Lib.hid ((H2.out.below hB).alloc (Obj.cells #[.int .i64 a2, .int .i64 b2] 27))
            have T3 := Lib.hid ((belowAl (thenB T2.out hB) (Obj.cells #[.int .i64 a2, .int .i64 b2] 27)))
            clear hB H2 T2
            have hC := (H3.out.get (w.heap.size) (Obj.cells #[.int .i64 no, .int .i64 rc, .int .i64 cl, .int .i64 dr, .int .i64 si, t] 24 (0, 0)) (by simp))
            have g0 := cellEq (i := 0) hC; have g1 := cellEq (i := 1) hC; have g2 := cellEq (i := 2) hC; have g3 := cellEq (i := 3) hC; have g4 := cellEq (i := 4) hC; have g5 := cellEq (i := 5) hC
            clear hC
            simp only [List.getElem?_toArray, List.getElem?_cons_zero, List.getElem?_cons_succ] at g0 g1 g2 g3 g4 g5
            have hC := (H3.out.get (w2.heap.size) (Obj.cells #[.int .i64 a, .int .i64 b] 27 (0, 0)) (by simp))
            have x0 := cellEq (i := 0) hC; have x1 := cellEq (i := 1) hC
            clear hC
            simp only [List.getElem?_toArray, List.getElem?_cons_zero, List.getElem?_cons_succ] at x0 x1
            have hC := (H3.out.get (w3.heap.size) (Obj.cells #[.int .i64 a2, .int .i64 b2] 27 (0, 0)) (by simp))
            have y0 := cellEq (i := 0) hC; have y1 := cellEq (i := 1) hC
            clear hC
            simp only [List.getElem?_toArray, List.getElem?_cons_zero, List.getElem?_cons_succ] at y0 y1
            go_wp2_with fail
            all_goals (go_ret; exact ⟨by first | (simp; done) | (simp; omega), T3.out⟩)
        · have hu' : rd ≤ tr := by omega
          clear hu
          by_cases he : cl < tr - rd
          · have he' : (cl < tr - rd) := he
            clear he'
            clear hle
            have hs' := Lib.hid hs
            clear hs
            have H0 := Lib.hid (has1 w (Obj.cells #[.int .i64 no, .int .i64 rc, .int .i64 cl, .int .i64 dr, .int .i64 si, t] 24))
            have T0 := Lib.hid (belowAl (Below.refl w.heap.size w) (Obj.cells #[.int .i64 no, .int .i64 rc, .int .i64 cl, .int .i64 dr, .int .i64 si, t] 24))
            go_enter Try.func5, Try.ntmps5
            go_wp2_with fail
            refine (sane_any _).mono ?_; rintro e w1 ⟨rfl, hB⟩
            have H1 := Lib.hid (H0.out.below hB)
            have T1 := Lib.hid ((thenB T0.out hB))
            clear hB H0 T0
            have hC := (H1.out.get (w.heap.size) (Obj.cells #[.int .i64 no, .int .i64 rc, .int .i64 cl, .int .i64 dr, .int .i64 si, t] 24 (0, 0)) (by simp))
            have g0 := cellEq (i := 0) hC; have g1 := cellEq (i := 1) hC; have g2 := cellEq (i := 2) hC; have g3 := cellEq (i := 3) hC; have g4 := cellEq (i := 4) hC; have g5 := cellEq (i := 5) hC
            clear hC
            simp only [List.getElem?_toArray, List.getElem?_cons_zero, List.getElem?_cons_succ] at g0 g1 g2 g3 g4 g5
            go_wp2_with fail
            clear g0 g1 g2 g3 g4 g5
            refine (hF.out _ (hs'.out.below T1.out)).mono ?_; rintro e w2 ⟨rfl, hB⟩
            have H2 := Lib.hid ((H1.out.below hB).alloc (Obj.cells #[.int .i64 a, .int .i64 b] 27))
            have T2 := Lib.hid ((belowAl (thenB T1.out hB) (Obj.cells #[.int .i64 a, .int .i64 b] 27)))
            clear hB H1 T1
            have hC := (H2.out.get (w.heap.size) (Obj.cells #[.int .i64 no, .int .i64 rc, .int .i64 cl, .int .i64 dr, .int .i64 si, t] 24 (0, 0)) (by simp))
            have g0 := cellEq (i := 0) hC; have g1 := cellEq (i := 1) hC; have g2 := cellEq (i := 2) hC; have g3 := cellEq (i := 3) hC; have g4 := cellEq (i := 4) hC; have g5 := cellEq (i := 5) hC
            clear hC
            simp only [List.getElem?_toArray, List.getElem?_cons_zero, List.getElem?_cons_succ] at g0 g1 g2 g3 g4 g5
            go_wp2_with fail
            clear g0 g1 g2 g3 g4 g5
            refine (hS.out _ (hs'.out.below T2.out)).mono ?_; rintro e w3 ⟨rfl, hB⟩
            have H3 := Lib.hid ((H2.out.below hB).alloc (Obj.cells #[.int .i64 a2, .int .i64 b2] 27))
            have T3 := Lib.hid ((belowAl (thenB T2.out hB) (Obj.cells #[.int .i64 a2, .int .i64 b2] 27)))
            clear hB H2 T2
            have hC := (H3.out.get (w.heap.size) (Obj.cells #[.int .i64 no, .int .i64 rc, .int .i64 cl, .int .i64 dr, .int .i64 si, t] 24 (0, 0)) (by simp))
            have g0 := cellEq (i := 0) hC; have g1 := cellEq (i := 1) hC; have g2 := cellEq (i := 2) hC; have g3 := cellEq (i := 3) hC; have g4 := cellEq (i := 4) hC; have g5 := cellEq (i := 5) hC
            clear hC
            simp only [List.getElem?_toArray, List.getElem?_cons_zero, List.getElem?_cons_succ] at g0 g1 g2 g3 g4 g5
            have hC := (H3.out.get (w2.heap.size) (Obj.cells #[.int .i64 a, .int .i64 b] 27 (0, 0)) (by simp))
            have x0 := cellEq (i := 0) hC; have x1 := cellEq (i := 1) hC
            clear hC
            simp only [List.getElem?_toArray, List.getElem?_cons_zero, List.getElem?_cons_succ] at x0 x1
            have hC := (H3.out.get (w3.heap.size) (Obj.cells #[.int .i64 a2, .int .i64 b2] 27 (0, 0)) (by simp))
            have y0 := cellEq (i := 0) hC; have y1 := cellEq (i := 1) hC
            clear hC
            simp only [List.getElem?_toArray, List.getElem?_cons_zero, List.getElem?_cons_succ] at y0 y1
            go_wp2_with fail
            all_goals (go_ret; exact ⟨by first | (simp; done) | (simp; omega), T3.out⟩)
          · have he' : ¬ (cl < tr - rd) := he
            have he2 : tr - rd ≤ cl := by omega
            clear he he'
            have ⟨l1, l2⟩ := hle.out (by rw [show max rd tr = tr from by omega, show min rd tr = rd from by omega]; omega)
            clear hle
            have hs' := Lib.hid hs
            clear hs
            have H0 := Lib.hid (has1 w (Obj.cells #[.int .i64 no, .int .i64 rc, .int .i64 cl, .int .i64 dr, .int .i64 si, t] 24))
            have T0 := Lib.hid (belowAl (Below.refl w.heap.size w) (Obj.cells #[.int .i64 no, .int .i64 rc, .int .i64 cl, .int .i64 dr, .int .i64 si, t] 24))
            go_enter Try.func5, Try.ntmps5
            go_wp2_with fail
            refine (sane_any _).mono ?_; rintro e w1 ⟨rfl, hB⟩
            have H1 := Lib.hid (H0.out.below hB)
            have T1 := Lib.hid ((thenB T0.out hB))
            clear hB H0 T0
            have hC := (H1.out.get (w.heap.size) (Obj.cells #[.int .i64 no, .int .i64 rc, .int .i64 cl, .int .i64 dr, .int .i64 si, t] 24 (0, 0)) (by simp))
            have g0 := cellEq (i := 0) hC; have g1 := cellEq (i := 1) hC; have g2 := cellEq (i := 2) hC; have g3 := cellEq (i := 3) hC; have g4 := cellEq (i := 4) hC; have g5 := cellEq (i := 5) hC
            clear hC
            simp only [List.getElem?_toArray, List.getElem?_cons_zero, List.getElem?_cons_succ] at g0 g1 g2 g3 g4 g5
            go_wp2_with fail
            clear g0 g1 g2 g3 g4 g5
            refine (hF.out _ (hs'.out.below T1.out)).mono ?_; rintro e w2 ⟨rfl, hB⟩
            have H2 := Lib.hid ((H1.out.below hB).alloc (Obj.cells #[.int .i64 a, .int .i64 b] 27))
            have T2 := Lib.hid ((belowAl (thenB T1.out hB) (Obj.cells #[.int .i64 a, .int .i64 b] 27)))
            clear hB H1 T1
            have hC := (H2.out.get (w.heap.size) (Obj.cells #[.int .i64 no, .int .i64 rc, .int .i64 cl, .int .i64 dr, .int .i64 si, t] 24 (0, 0)) (by simp))
            have g0 := cellEq (i := 0) hC; have g1 := cellEq (i := 1) hC; have g2 := cellEq (i := 2) hC; have g3 := cellEq (i := 3) hC; have g4 := cellEq (i := 4) hC; have g5 := cellEq (i := 5) hC
            clear hC
            simp only [List.getElem?_toArray, List.getElem?_cons_zero, List.getElem?_cons_succ] at g0 g1 g2 g3 g4 g5
            go_wp2_with fail
            clear g0 g1 g2 g3 g4 g5
            refine (hS.out _ (hs'.out.below T2.out)).mono ?_; rintro e w3 ⟨rfl, hB⟩
            have H3 := Lib.hid ((H2.out.below hB).alloc (Obj.cells #[.int .i64 a2, .int .i64 b2] 27))
            have T3 := Lib.hid ((belowAl (thenB T2.out hB) (Obj.cells #[.int .i64 a2, .int .i64 b2] 27)))
            clear hB H2 T2
            have hC := (H3.out.get (w.heap.size) (Obj.cells #[.int .i64 no, .int .i64 rc, .int .i64 cl, .int .i64 dr, .int .i64 si, t] 24 (0, 0)) (by simp))
            have g0 := cellEq (i := 0) hC; have g1 := cellEq (i := 1) hC; have g2 := cellEq (i := 2) hC; have g3 := cellEq (i := 3) hC; have g4 := cellEq (i := 4) hC; have g5 := cellEq (i := 5) hC
            clear hC
            simp only [List.getElem?_toArray, List.getElem?_cons_zero, List.getElem?_cons_succ] at g0 g1 g2 g3 g4 g5
            have hC := (H3.out.get (w2.heap.size) (Obj.cells #[.int .i64 a, .int .i64 b] 27 (0, 0)) (by simp))
            have x0 := cellEq (i := 0) hC; have x1 := cellEq (i := 1) hC
            clear hC
            simp only [List.getElem?_toArray, List.getElem?_cons_zero, List.getElem?_cons_succ] at x0 x1
            have hC := (H3.out.get (w3.heap.size) (Obj.cells #[.int .i64 a2, .int .i64 b2] 27 (0, 0)) (by simp))
            have y0 := cellEq (i := 0) hC; have y1 := cellEq (i := 1) hC
            clear hC
            simp only [List.getElem?_toArray, List.getElem?_cons_zero, List.getElem?_cons_succ] at y0 y1
            go_wp2_with fail
            all_goals (go_ret; exact ⟨by first | (simp; done) | (simp; omega), T3.out⟩)
set_option maxRecDepth 100000 in
set_option maxHeartbeats 4000000 in
theorem GaugeInverse_walk (no rc cl dr si st lt : Int) (t : Value) (pts : List (Int × Int)) (w : World) (hs : PtSl w t pts) :
    Calls Try.prog 6 #[gv no rc cl dr si t, .int .i64 st, .int .i64 lt] w fun e w' => e = .returned (.bool true) ∧ Below w.heap.size w w' := by
  obtain ⟨a, b, c, hF, _, hc, _⟩ := flow_both no rc cl dr si st t pts
  obtain ⟨a2, b2, c2, ok, hS, _, hc2⟩ := stage_both no rc cl dr si lt t pts
  replace hF := Lib.hid hF
  replace hS := Lib.hid hS
  by_cases h1 : c ≠ 0
  · have d1 : (c != 0) = true := by simpa using h1
    clear h1 hc hc2
    have hs' := Lib.hid hs
    clear hs
    have H0 := Lib.hid (has1 w (Obj.cells #[.int .i64 no, .int .i64 rc, .int .i64 cl, .int .i64 dr, .int .i64 si, t] 24))
    have T0 := Lib.hid (belowAl (Below.refl w.heap.size w) (Obj.cells #[.int .i64 no, .int .i64 rc, .int .i64 cl, .int .i64 dr, .int .i64 si, t] 24))
    go_enter Try.func6, Try.ntmps6
    go_wp2_with fail
    refine (sane_any _).mono ?_; rintro e w1 ⟨rfl, hB⟩
    have H1 := Lib.hid (H0.out.below hB)
    have T1 := Lib.hid ((thenB T0.out hB))
    clear hB H0 T0
    have hC := (H1.out.get (w.heap.size) (Obj.cells #[.int .i64 no, .int .i64 rc, .int .i64 cl, .int .i64 dr, .int .i64 si, t] 24 (0, 0)) (by simp))
    have g0 := cellEq (i := 0) hC; have g1 := cellEq (i := 1) hC; have g2 := cellEq (i := 2) hC; have g3 := cellEq (i := 3) hC; have g4 := cellEq (i := 4) hC; have g5 := cellEq (i := 5) hC
    clear hC
    simp only [List.getElem?_toArray, List.getElem?_cons_zero, List.getElem?_cons_succ] at g0 g1 g2 g3 g4 g5
    go_wp2_with fail
    clear g0 g1 g2 g3 g4 g5
    refine (hF.out _ (hs'.out.below T1.out)).mono ?_; rintro e w2 ⟨rfl, hB⟩
    have H2 := Lib.hid ((H1.out.below hB).alloc (Obj.cells #[.int .i64 a, .int .i64 b] 27))
    have T2 := Lib.hid ((belowAl (thenB T1.out hB) (Obj.cells #[.int .i64 a, .int .i64 b] 27)))
    clear hB H1 T1
    have hC := (H2.out.get (w.heap.size) (Obj.cells #[.int .i64 no, .int .i64 rc, .int .i64 cl, .int .i64 dr, .int .i64 si, t] 24 (0, 0)) (by simp))
    have g0 := cellEq (i := 0) hC; have g1 := cellEq (i := 1) hC; have g2 := cellEq (i := 2) hC; have g3 := cellEq (i := 3) hC; have g4 := cellEq (i := 4) hC; have g5 := cellEq (i := 5) hC
    clear hC
    simp only [List.getElem?_toArray, List.getElem?_cons_zero, List.getElem?_cons_succ] at g0 g1 g2 g3 g4 g5
    go_wp2_with fail
    clear g0 g1 g2 g3 g4 g5
    refine (hS.out _ (hs'.out.below T2.out)).mono ?_; rintro e w3 ⟨rfl, hB⟩
    have H3 := Lib.hid ((H2.out.below hB).alloc (Obj.cells #[.int .i64 a2, .int .i64 b2] 27))
    have T3 := Lib.hid ((belowAl (thenB T2.out hB) (Obj.cells #[.int .i64 a2, .int .i64 b2] 27)))
    clear hB H2 T2
    go_wp2_with fail
    go_ret
    exact ⟨rfl, T3.out⟩
  · have h1 : c = 0 := Classical.not_not.1 h1
    by_cases h2 : c2 ≠ 0
    · have d2 : (c2 != 0) = true := by simpa using h2
      clear h2 hc hc2
      have hs' := Lib.hid hs
      clear hs
      have H0 := Lib.hid (has1 w (Obj.cells #[.int .i64 no, .int .i64 rc, .int .i64 cl, .int .i64 dr, .int .i64 si, t] 24))
      have T0 := Lib.hid (belowAl (Below.refl w.heap.size w) (Obj.cells #[.int .i64 no, .int .i64 rc, .int .i64 cl, .int .i64 dr, .int .i64 si, t] 24))
      go_enter Try.func6, Try.ntmps6
      go_wp2_with fail
      refine (sane_any _).mono ?_; rintro e w1 ⟨rfl, hB⟩
      have H1 := Lib.hid (H0.out.below hB)
      have T1 := Lib.hid ((thenB T0.out hB))
      clear hB H0 T0
      have hC := (H1.out.get (w.heap.size) (Obj.cells #[.int .i64 no, .int .i64 rc, .int .i64 cl, .int .i64 dr, .int .i64 si, t] 24 (0, 0)) (by simp))
      have g0 := cellEq (i := 0) hC; have g1 := cellEq (i := 1) hC; have g2 := cellEq (i := 2) hC; have g3 := cellEq (i := 3) hC; have g4 := cellEq (i := 4) hC; have g5 := cellEq (i := 5) hC
      clear hC
      simp only [List.getElem?_toArray, List.getElem?_cons_zero, List.getElem?_cons_succ] at g0 g1 g2 g3 g4 g5
      go_wp2_with fail
      clear g0 g1 g2 g3 g4 g5
      refine (hF.out _ (hs'.out.below T1.out)).mono ?_; rintro e w2 ⟨rfl, hB⟩
      have H2 := Lib.hid ((H1.out.below hB).alloc (Obj.cells #[.int .i64 a, .int .i64 b] 27))
      have T2 := Lib.hid ((belowAl (thenB T1.out hB) (Obj.cells #[.int .i64 a, .int .i64 b] 27)))
      clear hB H1 T1
      have hC := (H2.out.get (w.heap.size) (Obj.cells #[.int .i64 no, .int .i64 rc, .int .i64 cl, .int .i64 dr, .int .i64 si, t] 24 (0, 0)) (by simp))
      have g0 := cellEq (i := 0) hC; have g1 := cellEq (i := 1) hC; have g2 := cellEq (i := 2) hC; have g3 := cellEq (i := 3) hC; have g4 := cellEq (i := 4) hC; have g5 := cellEq (i := 5) hC
      clear hC
      simp only [List.getElem?_toArray, List.getElem?_cons_zero, List.getElem?_cons_succ] at g0 g1 g2 g3 g4 g5
      go_wp2_with fail
      clear g0 g1 g2 g3 g4 g5
      refine (hS.out _ (hs'.out.below T2.out)).mono ?_; rintro e w3 ⟨rfl, hB⟩
      have H3 := Lib.hid ((H2.out.below hB).alloc (Obj.cells #[.int .i64 a2, .int .i64 b2] 27))
      have T3 := Lib.hid ((belowAl (thenB T2.out hB) (Obj.cells #[.int .i64 a2, .int .i64 b2] 27)))
      clear hB H2 T2
      go_wp2_with fail
      go_ret
      exact ⟨rfl, T3.out⟩
    · have h2 : c2 = 0 := Classical.not_not.1 h2
      obtain ⟨hk, s0, s1, ea, eb⟩ := hc h1
      obtain ⟨_, k, m, hK, hM, hok, hab⟩ := hc2 h2
      subst h1; subst h2
      have hT := (chk_tab hk).1
      obtain ⟨n, rfl⟩ := Int.eq_ofNat_of_zero_le s0
      have iK := fst_iff (pHi_mono hT lt) hK n (by omega)
      have iM := fst_iff (pLo_mono hT lt) hM n (by omega)
      simp only [pHi, pLo, decide_eq_true_eq] at iK iM
      rw [← eb] at iK
      rw [← ea] at iM
      clear hT hK hM hk ea eb hc hc2
      by_cases hkm : k < m
      · obtain ⟨rfl, rfl⟩ := hab hkm
        obtain rfl : ok = true := by simp [hok, hkm]
        clear hab hok
        by_cases p1 : a ≤ lt
        · have p1' : n < m := by omega
          by_cases p2 : lt ≤ b
          · have p2' : k ≤ n := by omega
            clear iK iM hkm
            have hs' := Lib.hid hs
            clear hs
            have H0 := Lib.hid (has1 w (Obj.cells #[.int .i64 no, .int .i64 rc, .int .i64 cl, .int .i64 dr, .int .i64 si, t] 24))
            have T0 := Lib.hid (belowAl (Below.refl w.heap.size w) (Obj.cells #[.int .i64 no, .int .i64 rc, .int .i64 cl, .int .i64 dr, .int .i64 si, t] 24))
            go_enter Try.func6, Try.ntmps6
            go_wp2_with fail
            refine (sane_any _).mono ?_; rintro e w1 ⟨rfl, hB⟩
            have H1 := Lib.hid (H0.out.below hB)
            have T1 := Lib.hid ((thenB T0.out hB))
            clear hB H0 T0
            have hC := (H1.out.get (w.heap.size) (Obj.cells #[.int .i64 no, .int .i64 rc, .int .i64 cl, .int .i64 dr, .int .i64 si, t] 24 (0, 0)) (by simp))
            have g0 := cellEq (i := 0) hC; have g1 := cellEq (i := 1) hC; have g2 := cellEq (i := 2) hC; have g3 := cellEq (i := 3) hC; have g4 := cellEq (i := 4) hC; have g5 := cellEq (i := 5) hC
            clear hC
            simp only [List.getElem?_toArray, List.getElem?_cons_zero, List.getElem?_cons_succ] at g0 g1 g2 g3 g4 g5
            go_wp2_with fail
            clear g0 g1 g2 g3 g4 g5
            refine (hF.out _ (hs'.out.below T1.out)).mono ?_; rintro e w2 ⟨rfl, hB⟩
            have H2 := Lib.hid ((H1.out.below hB).alloc (Obj.cells #[.int .i64 a, .int .i64 b] 27))
            have T2 := Lib.hid ((belowAl (thenB T1.out hB) (Obj.cells #[.int .i64 a, .int .i64 b] 27)))
            clear hB H1 T1
            have hC := (H2.out.get (w.heap.size) (Obj.cells #[.int .i64 no, .int .i64 rc, .int .i64 cl, .int .i64 dr, .int .i64 si, t] 24 (0, 0)) (by simp))
            have g0 := cellEq (i := 0) hC; have g1 := cellEq (i := 1) hC; have g2 := cellEq (i := 2) hC; have g3 := cellEq (i := 3) hC; have g4 := cellEq (i := 4) hC; have g5 := cellEq (i := 5) hC
            clear hC
            simp only [List.getElem?_toArray, List.getElem?_cons_zero, List.getElem?_cons_succ] at g0 g1 g2 g3 g4 g5
            go_wp2_with fail
            clear g0 g1 g2 g3 g4 g5
            refine (hS.out _ (hs'.out.below T2.out)).mono ?_; rintro e w3 ⟨rfl, hB⟩
            have H3 := Lib.hid ((H2.out.below hB).alloc (Obj.cells #[.int .i64 k, .int .i64 ((m : Int) - 1)] 27))
            have T3 := Lib.hid ((belowAl (thenB T2.out hB) (Obj.cells #[.int .i64 k, .int .i64 ((m : Int) - 1)] 27)))
            clear hB H2 T2
            have hC := (H3.out.get (w2.heap.size) (Obj.cells #[.int .i64 a, .int .i64 b] 27 (0, 0)) (by simp))
            have x0 := cellEq (i := 0) hC; have x1 := cellEq (i := 1) hC
            clear hC
            simp only [List.getElem?_toArray, List.getElem?_cons_zero, List.getElem?_cons_succ] at x0 x1
            have hC := (H3.out.get (w3.heap.size) (Obj.cells #[.int .i64 k, .int .i64 ((m : Int) - 1)] 27 (0, 0)) (by simp))
            have y0 := cellEq (i := 0) hC; have y1 := cellEq (i := 1) hC
            clear hC
            simp only [List.getElem?_toArray, List.getElem?_cons_zero, List.getElem?_cons_succ] at y0 y1
            go_wp2_with fail
            all_goals (go_ret; exact ⟨by first | (simp; done) | (simp; omega), T3.out⟩)
          · have p2' : ¬ k ≤ n := by omega
            clear iK iM hkm
            have hs' := Lib.hid hs
            clear hs
            have H0 := Lib.hid (has1 w (Obj.cells #[.int .i64 no, .int .i64 rc, .int .i64 cl, .int .i64 dr, .int .i64 si, t] 24))
            have T0 := Lib.hid (belowAl (Below.refl w.heap.size w) (Obj.cells #[.int .i64 no, .int .i64 rc, .int .i64 cl, .int .i64 dr, .int .i64 si, t] 24))
            go_enter Try.func6, Try.ntmps6
            go_wp2_with fail
            refine (sane_any _).mono ?_; rintro e w1 ⟨rfl, hB⟩
            have H1 := Lib.hid (H0.out.below hB)
            have T1 := Lib.hid ((thenB T0.out hB))
            clear hB H0 T0
            have hC := (H1.out.get (w.heap.size) (Obj.cells #[.int .i64 no, .int .i64 rc, .int .i64 cl, .int .i64 dr, .int .i64 si, t] 24 (0, 0)) (by simp))
            have g0 := cellEq (i := 0) hC; have g1 := cellEq (i := 1) hC; have g2 := cellEq (i := 2) hC; have g3 := cellEq (i := 3) hC; have g4 := cellEq (i := 4) hC; have g5 := cellEq (i := 5) hC
            clear hC
            simp only [List.getElem?_toArray, List.getElem?_cons_zero, List.getElem?_cons_succ] at g0 g1 g2 g3 g4 g5
            go_wp2_with fail
            clear g0 g1 g2 g3 g4 g5
            refine (hF.out _ (hs'.out.below T1.out)).mono ?_; rintro e w2 ⟨rfl, hB⟩
            have H2 := Lib.hid ((H1.out.below hB).alloc (Obj.cells #[.int .i64 a, .int .i64 b] 27))
            have T2 := Lib.hid ((belowAl (thenB T1.out hB) (Obj.cells #[.int .i64 a, .int .i64 b] 27)))
            clear hB H1 T1
            have hC := (H2.out.get (w.heap.size) (Obj.cells #[.int .i64 no, .int .i64 rc, .int .i64 cl, .int .i64 dr, .int .i64 si, t] 24 (0, 0)) (by simp))
            have g0 := cellEq (i := 0) hC; have g1 := cellEq (i := 1) hC; have g2 := cellEq (i := 2) hC; have g3 := cellEq (i := 3) hC; have g4 := cellEq (i := 4) hC; have g5 := cellEq (i := 5) hC
            clear hC
            simp only [List.getElem?_toArray, List.getElem?_cons_zero, List.getElem?_cons_succ] at g0 g1 g2 g3 g4 g5
            go_wp2_with fail
            clear g0 g1 g2 g3 g4 g5
            refine (hS.out _ (hs'.out.below T2.out)).mono ?_; rintro e w3 ⟨rfl, hB⟩
            have H3 := Lib.hid ((H2.out.below hB).alloc (Obj.cells #[.int .i64 k, .int .i64 ((m : Int) - 1)] 27))
            have T3 := Lib.hid ((belowAl (thenB T2.out hB) (Obj.cells #[.int .i64 k, .int .i64 ((m : Int) - 1)] 27)))
            clear hB H2 T2
            have hC := (H3.out.get (w2.heap.size) (Obj.cells #[.int .i64 a, .int .i64 b] 27 (0, 0)) (by simp))
            have x0 := cellEq (i := 0) hC; have x1 := cellEq (i := 1) hC
            clear hC
            simp only [List.getElem?_toArray, List.getElem?_cons_zero, List.getElem?_cons_succ] at x0 x1
            have hC := (H3.out.get (w3.heap.size) (Obj.cells #[.int .i64 k, .int .i64 ((m : Int) - 1)] 27 (0, 0)) (by simp))
            have y0 := cellEq (i := 0) hC; have y1 := cellEq (i := 1) hC
            clear hC
            simp only [List.getElem?_toArray, List.getElem?_cons_zero, List.getElem?_cons_succ] at y0 y1
            go_wp2_with fail
            all_goals (go_ret; exact ⟨by first | (simp; done) | (simp; omega), T3.out⟩)
        · have p1' : ¬ n < m := by omega
          have p3 : k ≤ n := by omega
          clear iK iM hkm
          have hs' := Lib.hid hs
          clear hs
          have H0 := Lib.hid (has1 w (Obj.cells #[.int .i64 no, .int .i64 rc, .int .i64 cl, .int .i64 dr, .int .i64 si, t] 24))
          have T0 := Lib.hid (belowAl (Below.refl w.heap.size w) (Obj.cells #[.int .i64 no, .int .i64 rc, .int .i64 cl, .int .i64 dr, .int .i64 si, t] 24))
          go_enter Try.func6, Try.ntmps6
          go_wp2_with fail
          refine (sane_any _).mono ?_; rintro e w1 ⟨rfl, hB⟩
          have H1 := Lib.hid (H0.out.below hB)
          have T1 := Lib.hid ((thenB T0.out hB))
          clear hB H0 T0
          have hC := (H1.out.get (w.heap.size) (Obj.cells #[.int .i64 no, .int .i64 rc, .int .i64 cl, .int .i64 dr, .int .i64 si, t] 24 (0, 0)) (by simp))
          have g0 := cellEq (i := 0) hC; have g1 := cellEq (i := 1) hC; have g2 := cellEq (i := 2) hC; have g3 := cellEq (i := 3) hC; have g4 := cellEq (i := 4) hC; have g5 := cellEq (i := 5) hC
          clear hC
          simp only [List.getElem?_toArray, List.getElem?_cons_zero, List.getElem?_cons_succ] at g0 g1 g2 g3 g4 g5
          go_wp2_with fail
          clear g0 g1 g2 g3 g4 g5
          refine (hF.out _ (hs'.out.below T1.out)).mono ?_; rintro e w2 ⟨rfl, hB⟩
          have H2 := Lib.hid ((H1.out.below hB).alloc (Obj.cells #[.int .i64 a, .int .i64 b] 27))
          have T2 := Lib.hid ((belowAl (thenB T1.out hB) (Obj.cells #[.int .i64 a, .int .i64 b] 27)))
          clear hB H1 T1
          have hC := (H2.out.get (w.heap.size) (Obj.cells #[.int .i64 no, .int .i64 rc, .int .i64 cl, .int .i64 dr, .int .i64 si, t] 24 (0, 0)) (by simp))
          have g0 := cellEq (i := 0) hC; have g1 := cellEq (i := 1) hC; have g2 := cellEq (i := 2) hC; have g3 := cellEq (i := 3) hC; have g4 := cellEq (i := 4) hC; have g5 := cellEq (i := 5) hC
          clear hC
          simp only [List.getElem?_toArray, List.getElem?_cons_zero, List.getElem?_cons_succ] at g0 g1 g2 g3 g4 g5
          go_wp2_with fail
          clear g0 g1 g2 g3 g4 g5
          refine (hS.out _ (hs'.out.below T2.out)).mono ?_; rintro e w3 ⟨rfl, hB⟩
          have H3 := Lib.hid ((H2.out.below hB).alloc (Obj.cells #[.int .i64 k, .int .i64 ((m : Int) - 1)] 27))
          have T3 := Lib.hid ((belowAl (thenB T2.out hB) (Obj.cells #[.int .i64 k, .int .i64 ((m : Int) - 1)] 27)))
          clear hB H2 T2
          have hC := (H3.out.get (w2.heap.size) (Obj.cells #[.int .i64 a, .int .i64 b] 27 (0, 0)) (by simp))
          have x0 := cellEq (i := 0) hC; have x1 := cellEq (i := 1) hC
          clear hC
          simp only [List.getElem?_toArray, List.getElem?_cons_zero, List.getElem?_cons_succ] at x0 x1
          have hC := (H3.out.get (w3.heap.size) (Obj.cells #[.int .i64 k, .int .i64 ((m : Int) - 1)] 27 (0, 0)) (by simp))
          have y0 := cellEq (i := 0) hC; have y1 := cellEq (i := 1) hC
          clear hC
          simp only [List.getElem?_toArray, List.getElem?_cons_zero, List.getElem?_cons_succ] at y0 y1
          go_wp2_with fail
          all_goals (go_ret; exact ⟨by first | (simp; done) | (simp; omega), T3.out⟩)
      · obtain rfl : ok = false := by simp [hok, hkm]
        clear hab hok
        by_cases p1 : a ≤ lt
        · have p2 : ¬ lt ≤ b := by omega
          clear iK iM hkm
          have hs' := Lib.hid hs
          clear hs
          have H0 := Lib.hid (has1 w (Obj.cells #[.int .i64 no, .int .i64 rc, .int .i64 cl, .int .i64 dr, .int .i64 si, t] 24))
          have T0 := Lib.hid (belowAl (Below.refl w.heap.size w) (Obj.cells #[.int .i64 no, .int .i64 rc, .int .i64 cl, .int .i64 dr, .int .i64 si, t] 24))
          go_enter Try.func6, Try.ntmps6
          go_wp2_with fail
          refine (sane_any _).mono ?_; rintro e w1 ⟨rfl, hB⟩
          have H1 := Lib.hid (H0.out.below hB)
          have T1 := Lib.hid ((thenB T0.out hB))
          clear hB H0 T0
          have hC := (H1.out.get (w.heap.size) (Obj.cells #[.int .i64 no, .int .i64 rc, .int .i64 cl, .int .i64 dr, .int .i64 si, t] 24 (0, 0)) (by simp))
          have g0 := cellEq (i := 0) hC; have g1 := cellEq (i := 1) hC; have g2 := cellEq (i := 2) hC; have g3 := cellEq (i := 3) hC; have g4 := cellEq (i := 4) hC; have g5 := cellEq (i := 5) hC
          clear hC
          simp only [List.getElem?_toArray, List.getElem?_cons_zero, List.getElem?_cons_succ] at g0 g1 g2 g3 g4 g5
          go_wp2_with fail
          clear g0 g1 g2 g3 g4 g5
          refine (hF.out _ (hs'.out.below T1.out)).mono ?_; rintro e w2 ⟨rfl, hB⟩
          have H2 := Lib.hid ((H1.out.below hB).alloc (Obj.cells #[.int .i64 a, .int .i64 b] 27))
          have T2 := Lib.hid ((belowAl (thenB T1.out hB) (Obj.cells #[.int .i64 a, .int .i64 b] 27)))
          clear hB H1 T1
          have hC := (H2.out.get (w.heap.size) (Obj.cells #[.int .i64 no, .int .i64 rc, .int .i64 cl, .int .i64 dr, .int .i64 si, t] 24 (0, 0)) (by simp))
          have g0 := cellEq (i := 0) hC; have g1 := cellEq (i := 1) hC; have g2 := cellEq (i := 2) hC; have g3 := cellEq (i := 3) hC; have g4 := cellEq (i := 4) hC; have g5 := cellEq (i := 5) hC
          clear hC
          simp only [List.getElem?_toArray, List.getElem?_cons_zero, List.getElem?_cons_succ] at g0 g1 g2 g3 g4 g5
          go_wp2_with fail
          clear g0 g1 g2 g3 g4 g5
          refine (hS.out _ (hs'.out.below T2.out)).mono ?_; rintro e w3 ⟨rfl, hB⟩
          have H3 := Lib.hid ((H2.out.below hB).alloc (Obj.cells #[.int .i64 a2, .int .i64 b2] 27))
          have T3 := Lib.hid ((belowAl (thenB T2.out hB) (Obj.cells #[.int .i64 a2, .int .i64 b2] 27)))
          clear hB H2 T2
          have hC := (H3.out.get (w2.heap.size) (Obj.cells #[.int .i64 a, .int .i64 b] 27 (0, 0)) (by simp))
          have x0 := cellEq (i := 0) hC; have x1 := cellEq (i := 1) hC
          clear hC
          simp only [List.getElem?_toArray, List.getElem?_cons_zero, List.getElem?_cons_succ] at x0 x1
          have hC := (H3.out.get (w3.heap.size) (Obj.cells #[.int .i64 a2, .int .i64 b2] 27 (0, 0)) (by simp))
          have y0 := cellEq (i := 0) hC; have y1 := cellEq (i := 1) hC
          clear hC
          simp only [List.getElem?_toArray, List.getElem?_cons_zero, List.getElem?_cons_succ] at y0 y1
          go_wp2_with fail
          all_goals (go_ret; exact ⟨by first | (simp; done) | (simp; omega), T3.out⟩)
        · clear iK iM hkm
          have hs' := Lib.hid hs
          clear hs
          have H0 := Lib.hid (has1 w (Obj.cells #[.int .i64 no, .int .i64 rc, .int .i64 cl, .int .i64 dr, .int .i64 si, t] 24))
          have T0 := Lib.hid (belowAl (Below.refl w.heap.size w) (Obj.cells #[.int .i64 no, .int .i64 rc, .int .i64 cl, .int .i64 dr, .int .i64 si, t] 24))
          go_enter Try.func6, Try.ntmps6
          go_wp2_with fail
          refine (sane_any _).mono ?_; rintro e w1 ⟨rfl, hB⟩
          have H1 := Lib.hid (H0.out.below hB)
          have T1 := Lib.hid ((thenB T0.out hB))
          clear hB H0 T0
          have hC := (H1.out.get (w.heap.size) (Obj.cells #[.int .i64 no, .int .i64 rc, .int .i64 cl, .int .i64 dr, .int .i64 si, t] 24 (0, 0)) (by simp))
          have g0 := cellEq (i := 0) hC; have g1 := cellEq (i := 1) hC; have g2 := cellEq (i := 2) hC; have g3 := cellEq (i := 3) hC; have g4 := cellEq (i := 4) hC; have g5 := cellEq (i := 5) hC
          clear hC
          simp only [List.getElem?_toArray, List.getElem?_cons_zero, List.getElem?_cons_succ] at g0 g1 g2 g3 g4 g5
          go_wp2_with fail
          clear g0 g1 g2 g3 g4 g5
          refine (hF.out _ (hs'.out.below T1.out)).mono ?_; rintro e w2 ⟨rfl, hB⟩
          have H2 := Lib.hid ((H1.out.below hB).alloc (Obj.cells #[.int .i64 a, .int .i64 b] 27))
          have T2 := Lib.hid ((belowAl (thenB T1.out hB) (Obj.cells #[.int .i64 a, .int .i64 b] 27)))
          clear hB H1 T1
          have hC := (H2.out.get (w.heap.size) (Obj.cells #[.int .i64 no, .int .i64 rc, .int .i64 cl, .int .i64 dr, .int .i64 si, t] 24 (0, 0)) (by simp))
          have g0 := cellEq (i := 0) hC; have g1 := cellEq (i := 1) hC; have g2 := cellEq (i := 2) hC; have g3 := cellEq (i := 3) hC; have g4 := cellEq (i := 4) hC; have g5 := cellEq (i := 5) hC
          clear hC
          simp only [List.getElem?_toArray, List.getElem?_cons_zero, List.getElem?_cons_succ] at g0 g1 g2 g3 g4 g5
          go_wp2_with fail
          clear g0 g1 g2 g3 g4 g5
          refine (hS.out _ (hs'.out.below T2.out)).mono ?_; rintro e w3 ⟨rfl, hB⟩
          have H3 := Lib.hid ((H2.out.below hB).alloc (Obj.cells #[.int .i64 a2, .int .i64 b2] 27))
          have T3 := Lib.hid ((belowAl (thenB T2.out hB) (Obj.cells #[.int .i64 a2, .int .i64 b2] 27)))
          clear hB H2 T2
          have hC := (H3.out.get (w2.heap.size) (Obj.cells #[.int .i64 a, .int .i64 b] 27 (0, 0)) (by simp))
          have x0 := cellEq (i := 0) hC; have x1 := cellEq (i := 1) hC
          clear hC
          simp only [List.getElem?_toArray, List.getElem?_cons_zero, List.getElem?_cons_succ] at x0 x1
          have hC := (H3.out.get (w3.heap.size) (Obj.cells #[.int .i64 a2, .int .i64 b2] 27 (0, 0)) (by simp))
          have y0 := cellEq (i := 0) hC; have y1 := cellEq (i := 1) hC
          clear hC
          simp only [List.getElem?_toArray, List.getElem?_cons_zero, List.getElem?_cons_succ] at y0 y1
          go_wp2_with fail
          all_goals (go_ret; exact ⟨by first | (simp; done) | (simp; omega), T3.out⟩)

theorem GaugeSpec_any (v : Value) (st : Int) (w : World) (h : ∃ (no rc cl dr si : Int) (t : Value) (pts : List (Int × Int)), v = gv no rc cl dr si t ∧ PtSl w t pts) :
    Calls Try.prog 3 #[v, .int .i64 st] w fun e w' => e = .returned (.bool true) ∧ Below w.heap.size w w' := by
  obtain ⟨no, rc, cl, dr, si, t, pts, rfl, hs⟩ := h
  exact GaugeSpec_walk no rc cl dr si st t pts w hs
theorem GaugeReadSpec_any (v : Value) (st hour lt : Int) (w : World) (h : ∃ (no rc cl dr si : Int) (t : Value) (pts : List (Int × Int)), v = gv no rc cl dr si t ∧ PtSl w t pts) :
    Calls Try.prog 4 #[v, .int .i64 st, .int .i64 hour, .int .i64 lt] w fun e w' => e = .returned (.bool true) ∧ Below w.heap.size w w' := by
  obtain ⟨no, rc, cl, dr, si, t, pts, rfl, hs⟩ := h
  exact GaugeReadSpec_walk no rc cl dr si st hour lt t pts w hs
theorem GaugeTruth_any (v : Value) (rd tr hour : Int) (w : World) (h : ∃ (no rc cl dr si : Int) (t : Value) (pts : List (Int × Int)), v = gv no rc cl dr si t ∧ PtSl w t pts) :
    Calls Try.prog 5 #[v, .int .i64 rd, .int .i64 tr, .int .i64 hour] w fun e w' => e = .returned (.bool true) ∧ Below w.heap.size w w' := by
  obtain ⟨no, rc, cl, dr, si, t, pts, rfl, hs⟩ := h
  exact GaugeTruth_walk no rc cl dr si rd tr hour t pts w hs
theorem GaugeInverse_any (v : Value) (st lt : Int) (w : World) (h : ∃ (no rc cl dr si : Int) (t : Value) (pts : List (Int × Int)), v = gv no rc cl dr si t ∧ PtSl w t pts) :
    Calls Try.prog 6 #[v, .int .i64 st, .int .i64 lt] w fun e w' => e = .returned (.bool true) ∧ Below w.heap.size w w' := by
  obtain ⟨no, rc, cl, dr, si, t, pts, rfl, hs⟩ := h
  exact GaugeInverse_walk no rc cl dr si st lt t pts w hs
end Go.Proofs.Ytmmoenbdlfmgeab
