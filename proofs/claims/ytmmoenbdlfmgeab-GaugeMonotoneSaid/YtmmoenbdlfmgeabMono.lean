/- DERIVED. Gauges: the walk of GaugeMonotone. -/
import Derived.Test.YtmmoenbdlfmgeabLaws
namespace Go.Proofs.Ytmmoenbdlfmgeab
open Go.RowKit
set_option linter.unusedVariables false
set_option linter.unusedSimpArgs false
theorem Has.drew {W : World} {l : List (Nat × Obj)} (h : Has W l) : Has W.drew l := h
set_option maxRecDepth 100000 in
set_option maxHeartbeats 4000000 in
theorem mono_bad_lt (no rc cl dr si a b wh a1 b1 c1 a2 b2 c2 : Int) (t : Value) (pts : List (Int × Int)) (hF : (∀ w, PtSl w (t) pts → Calls Try.prog 10 #[gv no rc cl dr si (t), .int .i64 a] w fun e w' => e = .returned (.tuple #[.agg #[.int .i64 a1, .int .i64 b1], .int .i64 c1]) ∧ Below w.heap.size w w')) (hS : (∀ w, PtSl w (t) pts → Calls Try.prog 10 #[gv no rc cl dr si (t), .int .i64 b] w fun e w' => e = .returned (.tuple #[.agg #[.int .i64 a2, .int .i64 b2], .int .i64 c2]) ∧ Below w.heap.size w w')) (ho : a < b) (hk : chk no rc cl dr si pts ≠ 0) (h1 : c1 ≠ 0) (h2 : c2 ≠ 0) (w : World) (hs : PtSl w (t) pts) :
    Calls Try.prog 7 #[gv no rc cl dr si (t), .int .i64 a, .int .i64 b, .int .u8 wh] w fun e w' => e = .returned (.bool true) ∧ Below w.heap.size w w' := by
  have hs' := Lib.hid hs
  clear hs
  replace hF := Lib.hid hF
  replace hS := Lib.hid hS
  have d0 : (chk no rc cl dr si pts != 0) = true := by simpa using hk
  have d1 : (c1 != 0) = true := by simpa using h1
  have d2 : (c2 != 0) = true := by simpa using h2
  clear hk h1 h2
  have H0 := Lib.hid (has1 w (Obj.cells #[.int .i64 no, .int .i64 rc, .int .i64 cl, .int .i64 dr, .int .i64 si, t] 24))
  have T0 := Lib.hid (belowAl (Below.refl w.heap.size w) (Obj.cells #[.int .i64 no, .int .i64 rc, .int .i64 cl, .int .i64 dr, .int .i64 si, t] 24))
  go_enter Try.func7, Try.ntmps7
  go_wp2_with fail
  refine (sane_any _).mono ?_; rintro e w1 ⟨rfl, hB⟩
  have H1 := Lib.hid (H0.out.below hB)
  have T1 := Lib.hid ((thenB T0.out hB))
  clear hB H0 T0
  have hC := (H1.out.get (w.heap.size) (Obj.cells #[.int .i64 no, .int .i64 rc, .int .i64 cl, .int .i64 dr, .int .i64 si, t] 24 (0, 0)) (by simp))
  have g0 := cellEq (i := 0) hC; have g1 := cellEq (i := 1) hC; have g2 := cellEq (i := 2) hC; have g3 := cellEq (i := 3) hC; have g4 := cellEq (i := 4) hC; have g5 := cellEq (i := 5) hC
  clear hC
  simp only [List.getElem?_toArray, List.getElem?_cons_zero, List.getElem?_cons_succ] at g0 g1 g2 g3 g4 g5
  go_wp2_with fail
  clear g0 g1 g2 g3 g4 g5
  refine (hF.out _ (hs'.out.below T1.out)).mono ?_; rintro e w2 ⟨rfl, hB⟩
  have H2 := Lib.hid ((H1.out.below hB).alloc (Obj.cells #[.int .i64 a1, .int .i64 b1] 27))
  have T2 := Lib.hid ((belowAl (thenB T1.out hB) (Obj.cells #[.int .i64 a1, .int .i64 b1] 27)))
  clear hB H1 T1
  have hC := (H2.out.get (w.heap.size) (Obj.cells #[.int .i64 no, .int .i64 rc, .int .i64 cl, .int .i64 dr, .int .i64 si, t] 24 (0, 0)) (by simp))
  have g0 := cellEq (i := 0) hC; have g1 := cellEq (i := 1) hC; have g2 := cellEq (i := 2) hC; have g3 := cellEq (i := 3) hC; have g4 := cellEq (i := 4) hC; have g5 := cellEq (i := 5) hC
  clear hC
  simp only [List.getElem?_toArray, List.getElem?_cons_zero, List.getElem?_cons_succ] at g0 g1 g2 g3 g4 g5
  go_wp2_with fail
  clear g0 g1 g2 g3 g4 g5
  refine (hS.out _ (hs'.out.below T2.out)).mono ?_; rintro e w3 ⟨rfl, hB⟩
  have H3 := Lib.hid ((H2.out.below hB).alloc (Obj.cells #[.int .i64 a2, .int .i64 b2] 27))
  have T3 := Lib.hid ((belowAl (thenB T2.out hB) (Obj.cells #[.int .i64 a2, .int .i64 b2] 27)))
  clear hB H2 T2
  have hC := (H3.out.get (w.heap.size) (Obj.cells #[.int .i64 no, .int .i64 rc, .int .i64 cl, .int .i64 dr, .int .i64 si, t] 24 (0, 0)) (by simp))
  have g0 := cellEq (i := 0) hC; have g1 := cellEq (i := 1) hC; have g2 := cellEq (i := 2) hC; have g3 := cellEq (i := 3) hC; have g4 := cellEq (i := 4) hC; have g5 := cellEq (i := 5) hC
  clear hC
  simp only [List.getElem?_toArray, List.getElem?_cons_zero, List.getElem?_cons_succ] at g0 g1 g2 g3 g4 g5
  go_wp2_with fail
  clear g0 g1 g2 g3 g4 g5
  refine (check_any no rc cl dr si t pts _ (hs'.out.below T3.out)).mono ?_; rintro e w4 ⟨rfl, hB⟩
  have H4 := Lib.hid (H3.out.below hB)
  have T4 := Lib.hid ((thenB T3.out hB))
  clear hB H3 T3
  go_wp2_with fail
  go_ret
  exact ⟨by simp, T4.out⟩
set_option maxRecDepth 100000 in
set_option maxHeartbeats 4000000 in
theorem mono_e1_lt (no rc cl dr si a b wh a1 b1 c1 a2 b2 c2 : Int) (bb off cap : Nat) (pts : List (Int × Int)) (hF : (∀ w, PtSl w (.slice (some ⟨bb, off, none⟩) pts.length cap) pts → Calls Try.prog 10 #[gv no rc cl dr si (.slice (some ⟨bb, off, none⟩) pts.length cap), .int .i64 a] w fun e w' => e = .returned (.tuple #[.agg #[.int .i64 a1, .int .i64 b1], .int .i64 c1]) ∧ Below w.heap.size w w')) (hS : (∀ w, PtSl w (.slice (some ⟨bb, off, none⟩) pts.length cap) pts → Calls Try.prog 10 #[gv no rc cl dr si (.slice (some ⟨bb, off, none⟩) pts.length cap), .int .i64 b] w fun e w' => e = .returned (.tuple #[.agg #[.int .i64 a2, .int .i64 b2], .int .i64 c2]) ∧ Below w.heap.size w w')) (ho : a < b) (hk : chk no rc cl dr si pts = 0) (hw0 : 0 ≤ wh) (hw1 : wh ≤ 255) (h1 : c1 ≠ 0) (w : World) (hs : PtSl w (.slice (some ⟨bb, off, none⟩) pts.length cap) pts) :
    Calls Try.prog 7 #[gv no rc cl dr si (.slice (some ⟨bb, off, none⟩) pts.length cap), .int .i64 a, .int .i64 b, .int .u8 wh] w fun e w' => e = .returned (.bool true) ∧ Below w.heap.size w w' := by
  have hs' := Lib.hid hs
  clear hs
  replace hF := Lib.hid hF
  replace hS := Lib.hid hS
  have d1 : (c1 != 0) = true := by simpa using h1
  clear h1
  have hT := (chk_tab hk).1
  have hpos : 0 < pts.length := List.length_pos_iff.2 hT.ne
  obtain ⟨ao', cap', hv, hcc⟩ := hs'.out
  obtain ⟨bb', off', hao, hI⟩ := hcc hT.ne
  rw [hao] at hv
  obtain ⟨⟨rfl, rfl⟩, rfl⟩ : (bb = bb' ∧ off = off') ∧ cap = cap' := by simpa using hv
  clear hv hcc hao
  obtain ⟨k, hkk⟩ : ∃ k : Nat, wh % (pts.length : Int) = (k : Int) := ⟨(wh % (pts.length : Int)).toNat, (Int.toNat_of_nonneg (Int.emod_nonneg wh (by omega))).symm⟩
  have hkl : (k : Int) < (pts.length : Int) := by rw [← hkk]; exact Int.emod_lt_of_pos _ (by omega)
  have hkn : k < pts.length := by omega
  have hpt := lo_at pts hT.srt k hkn
  have hbd := hT.bd k hkn
  have hP := Flow_ok no rc cl dr si (at_ pts k).1 (.slice (some ⟨bb, off, none⟩) pts.length cap) pts hk (inB_mk ⟨hbd.1, hbd.2.1⟩)
  rw [hpt.1, hpt.2] at hP
  have hCk := Lib.hid hk
  have hat : at_ pts k = pts[k]?.getD (0, 0) := rfl
  have hcell := hI.2 k hkn
  rw [← hat] at hcell
  obtain ⟨p1, hp1⟩ : ∃ p1, p1 = (at_ pts k).1 := ⟨_, rfl⟩
  obtain ⟨p2, hp2⟩ : ∃ p2, p2 = (at_ pts k).2 := ⟨_, rfl⟩
  rw [← hp1, ← hp2] at hP hcell
  replace hP := Lib.hid hP
  have hlz : ((pts.length : Int) == 0) = false := beq_eq_false_iff_ne.2 (by omega)
  have hnil : pts ≠ [] := hT.ne
  have hl00 : (pts.length : Int) ≠ 0 := by omega
  have hwr : IntKind.i64.wrap wh = wh := by rw [IntKind.wrap_i64] <;> omega
  have hkk2 : wh.tmod (pts.length : Int) = (k : Int) := by rw [Int.tmod_eq_emod_of_nonneg hw0]; exact hkk
  have hl64 := hT.le
  have hwk : IntKind.i64.wrap (k : Int) = (k : Int) := by rw [IntKind.wrap_i64] <;> omega
  have hlp : (1 : Int) ≤ (pts.length : Int) := by omega
  have hk0 : (0 : Int) ≤ (k : Int) := by omega
  have hIb := hI.1
  clear hp1 hp2 hat hpt hbd hT hI hk
  have H0 := Lib.hid (has1 w (Obj.cells #[.int .i64 no, .int .i64 rc, .int .i64 cl, .int .i64 dr, .int .i64 si, .slice (some ⟨bb, off, none⟩) pts.length cap] 24))
  have T0 := Lib.hid (belowAl (Below.refl w.heap.size w) (Obj.cells #[.int .i64 no, .int .i64 rc, .int .i64 cl, .int .i64 dr, .int .i64 si, .slice (some ⟨bb, off, none⟩) pts.length cap] 24))
  go_enter Try.func7, Try.ntmps7
  go_wp2_with fail
  refine (sane_any _).mono ?_; rintro e w1 ⟨rfl, hB⟩
  have H1 := Lib.hid (H0.out.below hB)
  have T1 := Lib.hid ((thenB T0.out hB))
  clear hB H0 T0
  have hC := (H1.out.get (w.heap.size) (Obj.cells #[.int .i64 no, .int .i64 rc, .int .i64 cl, .int .i64 dr, .int .i64 si, .slice (some ⟨bb, off, none⟩) pts.length cap] 24 (0, 0)) (by simp))
  have g0 := cellEq (i := 0) hC; have g1 := cellEq (i := 1) hC; have g2 := cellEq (i := 2) hC; have g3 := cellEq (i := 3) hC; have g4 := cellEq (i := 4) hC; have g5 := cellEq (i := 5) hC
  clear hC
  simp only [List.getElem?_toArray, List.getElem?_cons_zero, List.getElem?_cons_succ] at g0 g1 g2 g3 g4 g5
  go_wp2_with fail
  clear g0 g1 g2 g3 g4 g5
  refine (hF.out _ (hs'.out.below T1.out)).mono ?_; rintro e w2 ⟨rfl, hB⟩
  have H2 := Lib.hid ((H1.out.below hB).alloc (Obj.cells #[.int .i64 a1, .int .i64 b1] 27))
  have T2 := Lib.hid ((belowAl (thenB T1.out hB) (Obj.cells #[.int .i64 a1, .int .i64 b1] 27)))
  clear hB H1 T1
  have hC := (H2.out.get (w.heap.size) (Obj.cells #[.int .i64 no, .int .i64 rc, .int .i64 cl, .int .i64 dr, .int .i64 si, .slice (some ⟨bb, off, none⟩) pts.length cap] 24 (0, 0)) (by simp))
  have g0 := cellEq (i := 0) hC; have g1 := cellEq (i := 1) hC; have g2 := cellEq (i := 2) hC; have g3 := cellEq (i := 3) hC; have g4 := cellEq (i := 4) hC; have g5 := cellEq (i := 5) hC
  clear hC
  simp only [List.getElem?_toArray, List.getElem?_cons_zero, List.getElem?_cons_succ] at g0 g1 g2 g3 g4 g5
  go_wp2_with fail
  clear g0 g1 g2 g3 g4 g5
  refine (hS.out _ (hs'.out.below T2.out)).mono ?_; rintro e w3 ⟨rfl, hB⟩
  have H3 := Lib.hid ((H2.out.below hB).alloc (Obj.cells #[.int .i64 a2, .int .i64 b2] 27))
  have T3 := Lib.hid ((belowAl (thenB T2.out hB) (Obj.cells #[.int .i64 a2, .int .i64 b2] 27)))
  clear hB H2 T2
  have hC := (H3.out.get (w.heap.size) (Obj.cells #[.int .i64 no, .int .i64 rc, .int .i64 cl, .int .i64 dr, .int .i64 si, .slice (some ⟨bb, off, none⟩) pts.length cap] 24 (0, 0)) (by simp))
  have g0 := cellEq (i := 0) hC; have g1 := cellEq (i := 1) hC; have g2 := cellEq (i := 2) hC; have g3 := cellEq (i := 3) hC; have g4 := cellEq (i := 4) hC; have g5 := cellEq (i := 5) hC
  clear hC
  simp only [List.getElem?_toArray, List.getElem?_cons_zero, List.getElem?_cons_succ] at g0 g1 g2 g3 g4 g5
  go_wp2_with fail
  clear g0 g1 g2 g3 g4 g5
  refine (check_any no rc cl dr si _ pts _ (hs'.out.below T3.out)).mono ?_; rintro e w4 ⟨rfl, hB⟩
  have H4 := Lib.hid (H3.out.below hB)
  have T4 := Lib.hid ((thenB T3.out hB))
  clear hB H3 T3
  rw [hCk.out]
  have hC := (H4.out.get (w.heap.size) (Obj.cells #[.int .i64 no, .int .i64 rc, .int .i64 cl, .int .i64 dr, .int .i64 si, .slice (some ⟨bb, off, none⟩) pts.length cap] 24 (0, 0)) (by simp))
  have g0 := cellEq (i := 0) hC; have g1 := cellEq (i := 1) hC; have g2 := cellEq (i := 2) hC; have g3 := cellEq (i := 3) hC; have g4 := cellEq (i := 4) hC; have g5 := cellEq (i := 5) hC
  clear hC
  simp only [List.getElem?_toArray, List.getElem?_cons_zero, List.getElem?_cons_succ] at g0 g1 g2 g3 g4 g5
  have q1 := (T4.out.cell (p := ⟨bb, off + k * 2, none⟩) hIb).trans hcell.1
  have q2 := (T4.out.cell (p := ⟨bb, off + k * 2 + 1, none⟩) hIb).trans hcell.2
  go_wp2_with fail
  go_region_held3 (fun w' => w'.cell? ⟨w.heap.size, 5, none⟩ = some (.slice (some ⟨bb, off, none⟩) pts.length cap) ∧ w'.cell? ⟨bb, off + k * 2, none⟩ = some (.int .i64 p1) ∧ w'.cell? ⟨bb, off + k * 2 + 1, none⟩ = some (.int .i64 p2)) (first | exact ⟨g5, q1, q2⟩ | go_keep) (fail)
  clear g0 g1 g2 g3 g4 g5 q1 q2
  have H9 := Lib.hid (Has.drew (Has.alloc H4.out (Obj.cells #[.int .i64 p1, .int .i64 p2] 39)))
  have T9 := Lib.hid (belowDr (belowAl T4.out (Obj.cells #[.int .i64 p1, .int .i64 p2] 39)))
  clear H4 T4
  have hC := (H9.out.get (w.heap.size) (Obj.cells #[.int .i64 no, .int .i64 rc, .int .i64 cl, .int .i64 dr, .int .i64 si, .slice (some ⟨bb, off, none⟩) pts.length cap] 24 (0, 0)) (by simp))
  have g0 := cellEq (i := 0) hC; have g1 := cellEq (i := 1) hC; have g2 := cellEq (i := 2) hC; have g3 := cellEq (i := 3) hC; have g4 := cellEq (i := 4) hC; have g5 := cellEq (i := 5) hC
  clear hC
  simp only [List.getElem?_toArray, List.getElem?_cons_zero, List.getElem?_cons_succ] at g0 g1 g2 g3 g4 g5
  go_wp2_with fail
  clear g0 g1 g2 g3 g4 g5
  refine (hP.out _ (hs'.out.below T9.out)).mono ?_; rintro e w10 ⟨rfl, hB⟩
  have H10 := Lib.hid ((H9.out.below hB).alloc (Obj.cells #[.int .i64 p2, .int .i64 p2] 27))
  have T10 := Lib.hid ((belowAl (thenB T9.out hB) (Obj.cells #[.int .i64 p2, .int .i64 p2] 27)))
  clear hB H9 T9
  have hC := (H10.out.get (w4.heap.size) (Obj.cells #[.int .i64 p1, .int .i64 p2] 39 (0, 0)) (by simp))
  have p0 := cellEq (i := 0) hC; have p1 := cellEq (i := 1) hC
  clear hC
  simp only [List.getElem?_toArray, List.getElem?_cons_zero, List.getElem?_cons_succ] at p0 p1
  have hC := (H10.out.get (w10.heap.size) (Obj.cells #[.int .i64 p2, .int .i64 p2] 27 (0, 0)) (by simp))
  have v0 := cellEq (i := 0) hC; have v1 := cellEq (i := 1) hC
  clear hC
  simp only [List.getElem?_toArray, List.getElem?_cons_zero, List.getElem?_cons_succ] at v0 v1
  have hC := (H10.out.get (w2.heap.size) (Obj.cells #[.int .i64 a1, .int .i64 b1] 27 (0, 0)) (by simp))
  have x0 := cellEq (i := 0) hC; have x1 := cellEq (i := 1) hC
  clear hC
  simp only [List.getElem?_toArray, List.getElem?_cons_zero, List.getElem?_cons_succ] at x0 x1
  have hC := (H10.out.get (w3.heap.size) (Obj.cells #[.int .i64 a2, .int .i64 b2] 27 (0, 0)) (by simp))
  have y0 := cellEq (i := 0) hC; have y1 := cellEq (i := 1) hC
  clear hC
  simp only [List.getElem?_toArray, List.getElem?_cons_zero, List.getElem?_cons_succ] at y0 y1
  go_wp2_with fail
  go_ret
  exact ⟨by first | (simp; done) | (simp; omega), T10.out⟩
set_option maxRecDepth 100000 in
set_option maxHeartbeats 4000000 in
theorem mono_e2_lt (no rc cl dr si a b wh a1 b1 c1 a2 b2 c2 : Int) (bb off cap : Nat) (pts : List (Int × Int)) (hF : (∀ w, PtSl w (.slice (some ⟨bb, off, none⟩) pts.length cap) pts → Calls Try.prog 10 #[gv no rc cl dr si (.slice (some ⟨bb, off, none⟩) pts.length cap), .int .i64 a] w fun e w' => e = .returned (.tuple #[.agg #[.int .i64 a1, .int .i64 b1], .int .i64 c1]) ∧ Below w.heap.size w w')) (hS : (∀ w, PtSl w (.slice (some ⟨bb, off, none⟩) pts.length cap) pts → Calls Try.prog 10 #[gv no rc cl dr si (.slice (some ⟨bb, off, none⟩) pts.length cap), .int .i64 b] w fun e w' => e = .returned (.tuple #[.agg #[.int .i64 a2, .int .i64 b2], .int .i64 c2]) ∧ Below w.heap.size w w')) (ho : a < b) (hk : chk no rc cl dr si pts = 0) (hw0 : 0 ≤ wh) (hw1 : wh ≤ 255) (h1 : c1 = 0) (h2 : c2 ≠ 0) (w : World) (hs : PtSl w (.slice (some ⟨bb, off, none⟩) pts.length cap) pts) :
    Calls Try.prog 7 #[gv no rc cl dr si (.slice (some ⟨bb, off, none⟩) pts.length cap), .int .i64 a, .int .i64 b, .int .u8 wh] w fun e w' => e = .returned (.bool true) ∧ Below w.heap.size w w' := by
  have hs' := Lib.hid hs
  clear hs
  replace hF := Lib.hid hF
  replace hS := Lib.hid hS
  subst h1
  have d2 : (c2 != 0) = true := by simpa using h2
  clear h2
  have hT := (chk_tab hk).1
  have hpos : 0 < pts.length := List.length_pos_iff.2 hT.ne
  obtain ⟨ao', cap', hv, hcc⟩ := hs'.out
  obtain ⟨bb', off', hao, hI⟩ := hcc hT.ne
  rw [hao] at hv
  obtain ⟨⟨rfl, rfl⟩, rfl⟩ : (bb = bb' ∧ off = off') ∧ cap = cap' := by simpa using hv
  clear hv hcc hao
  obtain ⟨k, hkk⟩ : ∃ k : Nat, wh % (pts.length : Int) = (k : Int) := ⟨(wh % (pts.length : Int)).toNat, (Int.toNat_of_nonneg (Int.emod_nonneg wh (by omega))).symm⟩
  have hkl : (k : Int) < (pts.length : Int) := by rw [← hkk]; exact Int.emod_lt_of_pos _ (by omega)
  have hkn : k < pts.length := by omega
  have hpt := lo_at pts hT.srt k hkn
  have hbd := hT.bd k hkn
  have hP := Flow_ok no rc cl dr si (at_ pts k).1 (.slice (some ⟨bb, off, none⟩) pts.length cap) pts hk (inB_mk ⟨hbd.1, hbd.2.1⟩)
  rw [hpt.1, hpt.2] at hP
  have hCk := Lib.hid hk
  have hat : at_ pts k = pts[k]?.getD (0, 0) := rfl
  have hcell := hI.2 k hkn
  rw [← hat] at hcell
  obtain ⟨p1, hp1⟩ : ∃ p1, p1 = (at_ pts k).1 := ⟨_, rfl⟩
  obtain ⟨p2, hp2⟩ : ∃ p2, p2 = (at_ pts k).2 := ⟨_, rfl⟩
  rw [← hp1, ← hp2] at hP hcell
  replace hP := Lib.hid hP
  have hlz : ((pts.length : Int) == 0) = false := beq_eq_false_iff_ne.2 (by omega)
  have hnil : pts ≠ [] := hT.ne
  have hl00 : (pts.length : Int) ≠ 0 := by omega
  have hwr : IntKind.i64.wrap wh = wh := by rw [IntKind.wrap_i64] <;> omega
  have hkk2 : wh.tmod (pts.length : Int) = (k : Int) := by rw [Int.tmod_eq_emod_of_nonneg hw0]; exact hkk
  have hl64 := hT.le
  have hwk : IntKind.i64.wrap (k : Int) = (k : Int) := by rw [IntKind.wrap_i64] <;> omega
  have hlp : (1 : Int) ≤ (pts.length : Int) := by omega
  have hk0 : (0 : Int) ≤ (k : Int) := by omega
  have hIb := hI.1
  clear hp1 hp2 hat hpt hbd hT hI hk
  have H0 := Lib.hid (has1 w (Obj.cells #[.int .i64 no, .int .i64 rc, .int .i64 cl, .int .i64 dr, .int .i64 si, .slice (some ⟨bb, off, none⟩) pts.length cap] 24))
  have T0 := Lib.hid (belowAl (Below.refl w.heap.size w) (Obj.cells #[.int .i64 no, .int .i64 rc, .int .i64 cl, .int .i64 dr, .int .i64 si, .slice (some ⟨bb, off, none⟩) pts.length cap] 24))
  go_enter Try.func7, Try.ntmps7
  go_wp2_with fail
  refine (sane_any _).mono ?_; rintro e w1 ⟨rfl, hB⟩
  have H1 := Lib.hid (H0.out.below hB)
  have T1 := Lib.hid ((thenB T0.out hB))
  clear hB H0 T0
  have hC := (H1.out.get (w.heap.size) (Obj.cells #[.int .i64 no, .int .i64 rc, .int .i64 cl, .int .i64 dr, .int .i64 si, .slice (some ⟨bb, off, none⟩) pts.length cap] 24 (0, 0)) (by simp))
  have g0 := cellEq (i := 0) hC; have g1 := cellEq (i := 1) hC; have g2 := cellEq (i := 2) hC; have g3 := cellEq (i := 3) hC; have g4 := cellEq (i := 4) hC; have g5 := cellEq (i := 5) hC
  clear hC
  simp only [List.getElem?_toArray, List.getElem?_cons_zero, List.getElem?_cons_succ] at g0 g1 g2 g3 g4 g5
  go_wp2_with fail
  clear g0 g1 g2 g3 g4 g5
  refine (hF.out _ (hs'.out.below T1.out)).mono ?_; rintro e w2 ⟨rfl, hB⟩
  have H2 := Lib.hid ((H1.out.below hB).alloc (Obj.cells #[.int .i64 a1, .int .i64 b1] 27))
  have T2 := Lib.hid ((belowAl (thenB T1.out hB) (Obj.cells #[.int .i64 a1, .int .i64 b1] 27)))
  clear hB H1 T1
  have hC := (H2.out.get (w.heap.size) (Obj.cells #[.int .i64 no, .int .i64 rc, .int .i64 cl, .int .i64 dr, .int .i64 si, .slice (some ⟨bb, off, none⟩) pts.length cap] 24 (0, 0)) (by simp))
  have g0 := cellEq (i := 0) hC; have g1 := cellEq (i := 1) hC; have g2 := cellEq (i := 2) hC; have g3 := cellEq (i := 3) hC; have g4 := cellEq (i := 4) hC; have g5 := cellEq (i := 5) hC
  clear hC
  simp only [List.getElem?_toArray, List.getElem?_cons_zero, List.getElem?_cons_succ] at g0 g1 g2 g3 g4 g5
  go_wp2_with fail
  clear g0 g1 g2 g3 g4 g5
  refine (hS.out _ (hs'.out.below T2.out)).mono ?_; rintro e w3 ⟨rfl, hB⟩
  have H3 := Lib.hid ((H2.out.below hB).alloc (Obj.cells #[.int .i64 a2, .int .i64 b2] 27))
  have T3 := Lib.hid ((belowAl (thenB T2.out hB) (Obj.cells #[.int .i64 a2, .int .i64 b2] 27)))
  clear hB H2 T2
  have hC := (H3.out.get (w.heap.size) (Obj.cells #[.int .i64 no, .int .i64 rc, .int .i64 cl, .int .i64 dr, .int .i64 si, .slice (some ⟨bb, off, none⟩) pts.length cap] 24 (0, 0)) (by simp))
  have g0 := cellEq (i := 0) hC; have g1 := cellEq (i := 1) hC; have g2 := cellEq (i := 2) hC; have g3 := cellEq (i := 3) hC; have g4 := cellEq (i := 4) hC; have g5 := cellEq (i := 5) hC
  clear hC
  simp only [List.getElem?_toArray, List.getElem?_cons_zero, List.getElem?_cons_succ] at g0 g1 g2 g3 g4 g5
  go_wp2_with fail
  clear g0 g1 g2 g3 g4 g5
  refine (check_any no rc cl dr si _ pts _ (hs'.out.below T3.out)).mono ?_; rintro e w4 ⟨rfl, hB⟩
  have H4 := Lib.hid (H3.out.below hB)
  have T4 := Lib.hid ((thenB T3.out hB))
  clear hB H3 T3
  rw [hCk.out]
  have hC := (H4.out.get (w.heap.size) (Obj.cells #[.int .i64 no, .int .i64 rc, .int .i64 cl, .int .i64 dr, .int .i64 si, .slice (some ⟨bb, off, none⟩) pts.length cap] 24 (0, 0)) (by simp))
  have g0 := cellEq (i := 0) hC; have g1 := cellEq (i := 1) hC; have g2 := cellEq (i := 2) hC; have g3 := cellEq (i := 3) hC; have g4 := cellEq (i := 4) hC; have g5 := cellEq (i := 5) hC
  clear hC
  simp only [List.getElem?_toArray, List.getElem?_cons_zero, List.getElem?_cons_succ] at g0 g1 g2 g3 g4 g5
  have q1 := (T4.out.cell (p := ⟨bb, off + k * 2, none⟩) hIb).trans hcell.1
  have q2 := (T4.out.cell (p := ⟨bb, off + k * 2 + 1, none⟩) hIb).trans hcell.2
  go_wp2_with fail
  go_region_held3 (fun w' => w'.cell? ⟨w.heap.size, 5, none⟩ = some (.slice (some ⟨bb, off, none⟩) pts.length cap) ∧ w'.cell? ⟨bb, off + k * 2, none⟩ = some (.int .i64 p1) ∧ w'.cell? ⟨bb, off + k * 2 + 1, none⟩ = some (.int .i64 p2)) (first | exact ⟨g5, q1, q2⟩ | go_keep) (fail)
  clear g0 g1 g2 g3 g4 g5 q1 q2
  have H9 := Lib.hid (Has.drew (Has.alloc H4.out (Obj.cells #[.int .i64 p1, .int .i64 p2] 39)))
  have T9 := Lib.hid (belowDr (belowAl T4.out (Obj.cells #[.int .i64 p1, .int .i64 p2] 39)))
  clear H4 T4
  have hC := (H9.out.get (w.heap.size) (Obj.cells #[.int .i64 no, .int .i64 rc, .int .i64 cl, .int .i64 dr, .int .i64 si, .slice (some ⟨bb, off, none⟩) pts.length cap] 24 (0, 0)) (by simp))
  have g0 := cellEq (i := 0) hC; have g1 := cellEq (i := 1) hC; have g2 := cellEq (i := 2) hC; have g3 := cellEq (i := 3) hC; have g4 := cellEq (i := 4) hC; have g5 := cellEq (i := 5) hC
  clear hC
  simp only [List.getElem?_toArray, List.getElem?_cons_zero, List.getElem?_cons_succ] at g0 g1 g2 g3 g4 g5
  go_wp2_with fail
  clear g0 g1 g2 g3 g4 g5
  refine (hP.out _ (hs'.out.below T9.out)).mono ?_; rintro e w10 ⟨rfl, hB⟩
  have H10 := Lib.hid ((H9.out.below hB).alloc (Obj.cells #[.int .i64 p2, .int .i64 p2] 27))
  have T10 := Lib.hid ((belowAl (thenB T9.out hB) (Obj.cells #[.int .i64 p2, .int .i64 p2] 27)))
  clear hB H9 T9
  have hC := (H10.out.get (w4.heap.size) (Obj.cells #[.int .i64 p1, .int .i64 p2] 39 (0, 0)) (by simp))
  have p0 := cellEq (i := 0) hC; have p1 := cellEq (i := 1) hC
  clear hC
  simp only [List.getElem?_toArray, List.getElem?_cons_zero, List.getElem?_cons_succ] at p0 p1
  have hC := (H10.out.get (w10.heap.size) (Obj.cells #[.int .i64 p2, .int .i64 p2] 27 (0, 0)) (by simp))
  have v0 := cellEq (i := 0) hC; have v1 := cellEq (i := 1) hC
  clear hC
  simp only [List.getElem?_toArray, List.getElem?_cons_zero, List.getElem?_cons_succ] at v0 v1
  have hC := (H10.out.get (w2.heap.size) (Obj.cells #[.int .i64 a1, .int .i64 b1] 27 (0, 0)) (by simp))
  have x0 := cellEq (i := 0) hC; have x1 := cellEq (i := 1) hC
  clear hC
  simp only [List.getElem?_toArray, List.getElem?_cons_zero, List.getElem?_cons_succ] at x0 x1
  have hC := (H10.out.get (w3.heap.size) (Obj.cells #[.int .i64 a2, .int .i64 b2] 27 (0, 0)) (by simp))
  have y0 := cellEq (i := 0) hC; have y1 := cellEq (i := 1) hC
  clear hC
  simp only [List.getElem?_toArray, List.getElem?_cons_zero, List.getElem?_cons_succ] at y0 y1
  go_wp2_with fail
  go_ret
  exact ⟨by first | (simp; done) | (simp; omega), T10.out⟩
set_option maxRecDepth 100000 in
set_option maxHeartbeats 4000000 in
theorem mono_ok_lt (no rc cl dr si a b wh a1 b1 c1 a2 b2 c2 : Int) (bb off cap : Nat) (pts : List (Int × Int)) (hF : (∀ w, PtSl w (.slice (some ⟨bb, off, none⟩) pts.length cap) pts → Calls Try.prog 10 #[gv no rc cl dr si (.slice (some ⟨bb, off, none⟩) pts.length cap), .int .i64 a] w fun e w' => e = .returned (.tuple #[.agg #[.int .i64 a1, .int .i64 b1], .int .i64 c1]) ∧ Below w.heap.size w w')) (hS : (∀ w, PtSl w (.slice (some ⟨bb, off, none⟩) pts.length cap) pts → Calls Try.prog 10 #[gv no rc cl dr si (.slice (some ⟨bb, off, none⟩) pts.length cap), .int .i64 b] w fun e w' => e = .returned (.tuple #[.agg #[.int .i64 a2, .int .i64 b2], .int .i64 c2]) ∧ Below w.heap.size w w')) (ho : a < b) (hk : chk no rc cl dr si pts = 0) (hw0 : 0 ≤ wh) (hw1 : wh ≤ 255) (h1 : c1 = 0) (h2 : c2 = 0) (l1 : a1 ≤ a2) (l2 : b1 ≤ b2) (l3 : a1 ≤ b1) (l4 : b1 - a1 ≤ 1) (l5 : 0 ≤ a1) (l6 : b1 ≤ 1073741824) (w : World) (hs : PtSl w (.slice (some ⟨bb, off, none⟩) pts.length cap) pts) :
    Calls Try.prog 7 #[gv no rc cl dr si (.slice (some ⟨bb, off, none⟩) pts.length cap), .int .i64 a, .int .i64 b, .int .u8 wh] w fun e w' => e = .returned (.bool true) ∧ Below w.heap.size w w' := by
  have hs' := Lib.hid hs
  clear hs
  replace hF := Lib.hid hF
  replace hS := Lib.hid hS
  subst h1; subst h2
  have hT := (chk_tab hk).1
  have hpos : 0 < pts.length := List.length_pos_iff.2 hT.ne
  obtain ⟨ao', cap', hv, hcc⟩ := hs'.out
  obtain ⟨bb', off', hao, hI⟩ := hcc hT.ne
  rw [hao] at hv
  obtain ⟨⟨rfl, rfl⟩, rfl⟩ : (bb = bb' ∧ off = off') ∧ cap = cap' := by simpa using hv
  clear hv hcc hao
  obtain ⟨k, hkk⟩ : ∃ k : Nat, wh % (pts.length : Int) = (k : Int) := ⟨(wh % (pts.length : Int)).toNat, (Int.toNat_of_nonneg (Int.emod_nonneg wh (by omega))).symm⟩
  have hkl : (k : Int) < (pts.length : Int) := by rw [← hkk]; exact Int.emod_lt_of_pos _ (by omega)
  have hkn : k < pts.length := by omega
  have hpt := lo_at pts hT.srt k hkn
  have hbd := hT.bd k hkn
  have hP := Flow_ok no rc cl dr si (at_ pts k).1 (.slice (some ⟨bb, off, none⟩) pts.length cap) pts hk (inB_mk ⟨hbd.1, hbd.2.1⟩)
  rw [hpt.1, hpt.2] at hP
  have hCk := Lib.hid hk
  have hat : at_ pts k = pts[k]?.getD (0, 0) := rfl
  have hcell := hI.2 k hkn
  rw [← hat] at hcell
  obtain ⟨p1, hp1⟩ : ∃ p1, p1 = (at_ pts k).1 := ⟨_, rfl⟩
  obtain ⟨p2, hp2⟩ : ∃ p2, p2 = (at_ pts k).2 := ⟨_, rfl⟩
  rw [← hp1, ← hp2] at hP hcell
  replace hP := Lib.hid hP
  have hlz : ((pts.length : Int) == 0) = false := beq_eq_false_iff_ne.2 (by omega)
  have hnil : pts ≠ [] := hT.ne
  have hl00 : (pts.length : Int) ≠ 0 := by omega
  have hwr : IntKind.i64.wrap wh = wh := by rw [IntKind.wrap_i64] <;> omega
  have hkk2 : wh.tmod (pts.length : Int) = (k : Int) := by rw [Int.tmod_eq_emod_of_nonneg hw0]; exact hkk
  have hl64 := hT.le
  have hwk : IntKind.i64.wrap (k : Int) = (k : Int) := by rw [IntKind.wrap_i64] <;> omega
  have hlp : (1 : Int) ≤ (pts.length : Int) := by omega
  have hk0 : (0 : Int) ≤ (k : Int) := by omega
  have hIb := hI.1
  clear hp1 hp2 hat hpt hbd hT hI hk
  have H0 := Lib.hid (has1 w (Obj.cells #[.int .i64 no, .int .i64 rc, .int .i64 cl, .int .i64 dr, .int .i64 si, .slice (some ⟨bb, off, none⟩) pts.length cap] 24))
  have T0 := Lib.hid (belowAl (Below.refl w.heap.size w) (Obj.cells #[.int .i64 no, .int .i64 rc, .int .i64 cl, .int .i64 dr, .int .i64 si, .slice (some ⟨bb, off, none⟩) pts.length cap] 24))
  go_enter Try.func7, Try.ntmps7
  go_wp2_with fail
  refine (sane_any _).mono ?_; rintro e w1 ⟨rfl, hB⟩
  have H1 := Lib.hid (H0.out.below hB)
  have T1 := Lib.hid ((thenB T0.out hB))
  clear hB H0 T0
  have hC := (H1.out.get (w.heap.size) (Obj.cells #[.int .i64 no, .int .i64 rc, .int .i64 cl, .int .i64 dr, .int .i64 si, .slice (some ⟨bb, off, none⟩) pts.length cap] 24 (0, 0)) (by simp))
  have g0 := cellEq (i := 0) hC; have g1 := cellEq (i := 1) hC; have g2 := cellEq (i := 2) hC; have g3 := cellEq (i := 3) hC; have g4 := cellEq (i := 4) hC; have g5 := cellEq (i := 5) hC
  clear hC
  simp only [List.getElem?_toArray, List.getElem?_cons_zero, List.getElem?_cons_succ] at g0 g1 g2 g3 g4 g5
  go_wp2_with fail
  clear g0 g1 g2 g3 g4 g5
  refine (hF.out _ (hs'.out.below T1.out)).mono ?_; rintro e w2 ⟨rfl, hB⟩
  have H2 := Lib.hid ((H1.out.below hB).alloc (Obj.cells #[.int .i64 a1, .int .i64 b1] 27))
  have T2 := Lib.hid ((belowAl (thenB T1.out hB) (Obj.cells #[.int .i64 a1, .int .i64 b1] 27)))
  clear hB H1 T1
  have hC := (H2.out.get (w.heap.size) (Obj.cells #[.int .i64 no, .int .i64 rc, .int .i64 cl, .int .i64 dr, .int .i64 si, .slice (some ⟨bb, off, none⟩) pts.length cap] 24 (0, 0)) (by simp))
  have g0 := cellEq (i := 0) hC; have g1 := cellEq (i := 1) hC; have g2 := cellEq (i := 2) hC; have g3 := cellEq (i := 3) hC; have g4 := cellEq (i := 4) hC; have g5 := cellEq (i := 5) hC
  clear hC
  simp only [List.getElem?_toArray, List.getElem?_cons_zero, List.getElem?_cons_succ] at g0 g1 g2 g3 g4 g5
  go_wp2_with fail
  clear g0 g1 g2 g3 g4 g5
  refine (hS.out _ (hs'.out.below T2.out)).mono ?_; rintro e w3 ⟨rfl, hB⟩
  have H3 := Lib.hid ((H2.out.below hB).alloc (Obj.cells #[.int .i64 a2, .int .i64 b2] 27))
  have T3 := Lib.hid ((belowAl (thenB T2.out hB) (Obj.cells #[.int .i64 a2, .int .i64 b2] 27)))
  clear hB H2 T2
  have hC := (H3.out.get (w.heap.size) (Obj.cells #[.int .i64 no, .int .i64 rc, .int .i64 cl, .int .i64 dr, .int .i64 si, .slice (some ⟨bb, off, none⟩) pts.length cap] 24 (0, 0)) (by simp))
  have g0 := cellEq (i := 0) hC; have g1 := cellEq (i := 1) hC; have g2 := cellEq (i := 2) hC; have g3 := cellEq (i := 3) hC; have g4 := cellEq (i := 4) hC; have g5 := cellEq (i := 5) hC
  clear hC
  simp only [List.getElem?_toArray, List.getElem?_cons_zero, List.getElem?_cons_succ] at g0 g1 g2 g3 g4 g5
  go_wp2_with fail
  clear g0 g1 g2 g3 g4 g5
  refine (check_any no rc cl dr si _ pts _ (hs'.out.below T3.out)).mono ?_; rintro e w4 ⟨rfl, hB⟩
  have H4 := Lib.hid (H3.out.below hB)
  have T4 := Lib.hid ((thenB T3.out hB))
  clear hB H3 T3
  rw [hCk.out]
  have hC := (H4.out.get (w.heap.size) (Obj.cells #[.int .i64 no, .int .i64 rc, .int .i64 cl, .int .i64 dr, .int .i64 si, .slice (some ⟨bb, off, none⟩) pts.length cap] 24 (0, 0)) (by simp))
  have g0 := cellEq (i := 0) hC; have g1 := cellEq (i := 1) hC; have g2 := cellEq (i := 2) hC; have g3 := cellEq (i := 3) hC; have g4 := cellEq (i := 4) hC; have g5 := cellEq (i := 5) hC
  clear hC
  simp only [List.getElem?_toArray, List.getElem?_cons_zero, List.getElem?_cons_succ] at g0 g1 g2 g3 g4 g5
  have q1 := (T4.out.cell (p := ⟨bb, off + k * 2, none⟩) hIb).trans hcell.1
  have q2 := (T4.out.cell (p := ⟨bb, off + k * 2 + 1, none⟩) hIb).trans hcell.2
  go_wp2_with fail
  go_region_held3 (fun w' => w'.cell? ⟨w.heap.size, 5, none⟩ = some (.slice (some ⟨bb, off, none⟩) pts.length cap) ∧ w'.cell? ⟨bb, off + k * 2, none⟩ = some (.int .i64 p1) ∧ w'.cell? ⟨bb, off + k * 2 + 1, none⟩ = some (.int .i64 p2)) (first | exact ⟨g5, q1, q2⟩ | go_keep) (fail)
  clear g0 g1 g2 g3 g4 g5 q1 q2
  have H9 := Lib.hid (Has.drew (Has.alloc H4.out (Obj.cells #[.int .i64 p1, .int .i64 p2] 39)))
  have T9 := Lib.hid (belowDr (belowAl T4.out (Obj.cells #[.int .i64 p1, .int .i64 p2] 39)))
  clear H4 T4
  have hC := (H9.out.get (w.heap.size) (Obj.cells #[.int .i64 no, .int .i64 rc, .int .i64 cl, .int .i64 dr, .int .i64 si, .slice (some ⟨bb, off, none⟩) pts.length cap] 24 (0, 0)) (by simp))
  have g0 := cellEq (i := 0) hC; have g1 := cellEq (i := 1) hC; have g2 := cellEq (i := 2) hC; have g3 := cellEq (i := 3) hC; have g4 := cellEq (i := 4) hC; have g5 := cellEq (i := 5) hC
  clear hC
  simp only [List.getElem?_toArray, List.getElem?_cons_zero, List.getElem?_cons_succ] at g0 g1 g2 g3 g4 g5
  go_wp2_with fail
  clear g0 g1 g2 g3 g4 g5
  refine (hP.out _ (hs'.out.below T9.out)).mono ?_; rintro e w10 ⟨rfl, hB⟩
  have H10 := Lib.hid ((H9.out.below hB).alloc (Obj.cells #[.int .i64 p2, .int .i64 p2] 27))
  have T10 := Lib.hid ((belowAl (thenB T9.out hB) (Obj.cells #[.int .i64 p2, .int .i64 p2] 27)))
  clear hB H9 T9
  have hC := (H10.out.get (w4.heap.size) (Obj.cells #[.int .i64 p1, .int .i64 p2] 39 (0, 0)) (by simp))
  have p0 := cellEq (i := 0) hC; have p1 := cellEq (i := 1) hC
  clear hC
  simp only [List.getElem?_toArray, List.getElem?_cons_zero, List.getElem?_cons_succ] at p0 p1
  have hC := (H10.out.get (w10.heap.size) (Obj.cells #[.int .i64 p2, .int .i64 p2] 27 (0, 0)) (by simp))
  have v0 := cellEq (i := 0) hC; have v1 := cellEq (i := 1) hC
  clear hC
  simp only [List.getElem?_toArray, List.getElem?_cons_zero, List.getElem?_cons_succ] at v0 v1
  have hC := (H10.out.get (w2.heap.size) (Obj.cells #[.int .i64 a1, .int .i64 b1] 27 (0, 0)) (by simp))
  have x0 := cellEq (i := 0) hC; have x1 := cellEq (i := 1) hC
  clear hC
  simp only [List.getElem?_toArray, List.getElem?_cons_zero, List.getElem?_cons_succ] at x0 x1
  have hC := (H10.out.get (w3.heap.size) (Obj.cells #[.int .i64 a2, .int .i64 b2] 27 (0, 0)) (by simp))
  have y0 := cellEq (i := 0) hC; have y1 := cellEq (i := 1) hC
  clear hC
  simp only [List.getElem?_toArray, List.getElem?_cons_zero, List.getElem?_cons_succ] at y0 y1
  go_wp2_with fail
  go_ret
  exact ⟨by first | (simp; done) | (simp; omega), T10.out⟩
set_option maxRecDepth 100000 in
set_option maxHeartbeats 4000000 in
theorem mono_bad_eq (no rc cl dr si a wh a1 b1 c1 a2 b2 c2 : Int) (t : Value) (pts : List (Int × Int)) (hF : (∀ w, PtSl w (t) pts → Calls Try.prog 10 #[gv no rc cl dr si (t), .int .i64 a] w fun e w' => e = .returned (.tuple #[.agg #[.int .i64 a1, .int .i64 b1], .int .i64 c1]) ∧ Below w.heap.size w w')) (hS : (∀ w, PtSl w (t) pts → Calls Try.prog 10 #[gv no rc cl dr si (t), .int .i64 a] w fun e w' => e = .returned (.tuple #[.agg #[.int .i64 a2, .int .i64 b2], .int .i64 c2]) ∧ Below w.heap.size w w')) (hk : chk no rc cl dr si pts ≠ 0) (h1 : c1 ≠ 0) (h2 : c2 ≠ 0) (w : World) (hs : PtSl w (t) pts) :
    Calls Try.prog 7 #[gv no rc cl dr si (t), .int .i64 a, .int .i64 a, .int .u8 wh] w fun e w' => e = .returned (.bool true) ∧ Below w.heap.size w w' := by
  have hs' := Lib.hid hs
  clear hs
  replace hF := Lib.hid hF
  replace hS := Lib.hid hS
  have d0 : (chk no rc cl dr si pts != 0) = true := by simpa using hk
  have d1 : (c1 != 0) = true := by simpa using h1
  have d2 : (c2 != 0) = true := by simpa using h2
  clear hk h1 h2
  have H0 := Lib.hid (has1 w (Obj.cells #[.int .i64 no, .int .i64 rc, .int .i64 cl, .int .i64 dr, .int .i64 si, t] 24))
  have T0 := Lib.hid (belowAl (Below.refl w.heap.size w) (Obj.cells #[.int .i64 no, .int .i64 rc, .int .i64 cl, .int .i64 dr, .int .i64 si, t] 24))
  go_enter Try.func7, Try.ntmps7
  go_wp2_with fail
  refine (sane_any _).mono ?_; rintro e w1 ⟨rfl, hB⟩
  have H1 := Lib.hid (H0.out.below hB)
  have T1 := Lib.hid ((thenB T0.out hB))
  clear hB H0 T0
  have hC := (H1.out.get (w.heap.size) (Obj.cells #[.int .i64 no, .int .i64 rc, .int .i64 cl, .int .i64 dr, .int .i64 si, t] 24 (0, 0)) (by simp))
  have g0 := cellEq (i := 0) hC; have g1 := cellEq (i := 1) hC; have g2 := cellEq (i := 2) hC; have g3 := cellEq (i := 3) hC; have g4 := cellEq (i := 4) hC; have g5 := cellEq (i := 5) hC
  clear hC
  simp only [List.getElem?_toArray, List.getElem?_cons_zero, List.getElem?_cons_succ] at g0 g1 g2 g3 g4 g5
  go_wp2_with fail
  clear g0 g1 g2 g3 g4 g5
  refine (hF.out _ (hs'.out.below T1.out)).mono ?_; rintro e w2 ⟨rfl, hB⟩
  have H2 := Lib.hid ((H1.out.below hB).alloc (Obj.cells #[.int .i64 a1, .int .i64 b1] 27))
  have T2 := Lib.hid ((belowAl (thenB T1.out hB) (Obj.cells #[.int .i64 a1, .int .i64 b1] 27)))
  clear hB H1 T1
  have hC := (H2.out.get (w.heap.size) (Obj.cells #[.int .i64 no, .int .i64 rc, .int .i64 cl, .int .i64 dr, .int .i64 si, t] 24 (0, 0)) (by simp))
  have g0 := cellEq (i := 0) hC; have g1 := cellEq (i := 1) hC; have g2 := cellEq (i := 2) hC; have g3 := cellEq (i := 3) hC; have g4 := cellEq (i := 4) hC; have g5 := cellEq (i := 5) hC
  clear hC
  simp only [List.getElem?_toArray, List.getElem?_cons_zero, List.getElem?_cons_succ] at g0 g1 g2 g3 g4 g5
  go_wp2_with fail
  clear g0 g1 g2 g3 g4 g5
  refine (hS.out _ (hs'.out.below T2.out)).mono ?_; rintro e w3 ⟨rfl, hB⟩
  have H3 := Lib.hid ((H2.out.below hB).alloc (Obj.cells #[.int .i64 a2, .int .i64 b2] 27))
  have T3 := Lib.hid ((belowAl (thenB T2.out hB) (Obj.cells #[.int .i64 a2, .int .i64 b2] 27)))
  clear hB H2 T2
  have hC := (H3.out.get (w.heap.size) (Obj.cells #[.int .i64 no, .int .i64 rc, .int .i64 cl, .int .i64 dr, .int .i64 si, t] 24 (0, 0)) (by simp))
  have g0 := cellEq (i := 0) hC; have g1 := cellEq (i := 1) hC; have g2 := cellEq (i := 2) hC; have g3 := cellEq (i := 3) hC; have g4 := cellEq (i := 4) hC; have g5 := cellEq (i := 5) hC
  clear hC
  simp only [List.getElem?_toArray, List.getElem?_cons_zero, List.getElem?_cons_succ] at g0 g1 g2 g3 g4 g5
  go_wp2_with fail
  clear g0 g1 g2 g3 g4 g5
  refine (check_any no rc cl dr si t pts _ (hs'.out.below T3.out)).mono ?_; rintro e w4 ⟨rfl, hB⟩
  have H4 := Lib.hid (H3.out.below hB)
  have T4 := Lib.hid ((thenB T3.out hB))
  clear hB H3 T3
  go_wp2_with fail
  go_ret
  exact ⟨by simp, T4.out⟩
set_option maxRecDepth 100000 in
set_option maxHeartbeats 4000000 in
theorem mono_e1_eq (no rc cl dr si a wh a1 b1 c1 a2 b2 c2 : Int) (bb off cap : Nat) (pts : List (Int × Int)) (hF : (∀ w, PtSl w (.slice (some ⟨bb, off, none⟩) pts.length cap) pts → Calls Try.prog 10 #[gv no rc cl dr si (.slice (some ⟨bb, off, none⟩) pts.length cap), .int .i64 a] w fun e w' => e = .returned (.tuple #[.agg #[.int .i64 a1, .int .i64 b1], .int .i64 c1]) ∧ Below w.heap.size w w')) (hS : (∀ w, PtSl w (.slice (some ⟨bb, off, none⟩) pts.length cap) pts → Calls Try.prog 10 #[gv no rc cl dr si (.slice (some ⟨bb, off, none⟩) pts.length cap), .int .i64 a] w fun e w' => e = .returned (.tuple #[.agg #[.int .i64 a2, .int .i64 b2], .int .i64 c2]) ∧ Below w.heap.size w w')) (hk : chk no rc cl dr si pts = 0) (hw0 : 0 ≤ wh) (hw1 : wh ≤ 255) (h1 : c1 ≠ 0) (w : World) (hs : PtSl w (.slice (some ⟨bb, off, none⟩) pts.length cap) pts) :
    Calls Try.prog 7 #[gv no rc cl dr si (.slice (some ⟨bb, off, none⟩) pts.length cap), .int .i64 a, .int .i64 a, .int .u8 wh] w fun e w' => e = .returned (.bool true) ∧ Below w.heap.size w w' := by
  have hs' := Lib.hid hs
  clear hs
  replace hF := Lib.hid hF
  replace hS := Lib.hid hS
  have d1 : (c1 != 0) = true := by simpa using h1
  clear h1
  have hT := (chk_tab hk).1
  have hpos : 0 < pts.length := List.length_pos_iff.2 hT.ne
  obtain ⟨ao', cap', hv, hcc⟩ := hs'.out
  obtain ⟨bb', off', hao, hI⟩ := hcc hT.ne
  rw [hao] at hv
  obtain ⟨⟨rfl, rfl⟩, rfl⟩ : (bb = bb' ∧ off = off') ∧ cap = cap' := by simpa using hv
  clear hv hcc hao
  obtain ⟨k, hkk⟩ : ∃ k : Nat, wh % (pts.length : Int) = (k : Int) := ⟨(wh % (pts.length : Int)).toNat, (Int.toNat_of_nonneg (Int.emod_nonneg wh (by omega))).symm⟩
  have hkl : (k : Int) < (pts.length : Int) := by rw [← hkk]; exact Int.emod_lt_of_pos _ (by omega)
  have hkn : k < pts.length := by omega
  have hpt := lo_at pts hT.srt k hkn
  have hbd := hT.bd k hkn
  have hP := Flow_ok no rc cl dr si (at_ pts k).1 (.slice (some ⟨bb, off, none⟩) pts.length cap) pts hk (inB_mk ⟨hbd.1, hbd.2.1⟩)
  rw [hpt.1, hpt.2] at hP
  have hCk := Lib.hid hk
  have hat : at_ pts k = pts[k]?.getD (0, 0) := rfl
  have hcell := hI.2 k hkn
  rw [← hat] at hcell
  obtain ⟨p1, hp1⟩ : ∃ p1, p1 = (at_ pts k).1 := ⟨_, rfl⟩
  obtain ⟨p2, hp2⟩ : ∃ p2, p2 = (at_ pts k).2 := ⟨_, rfl⟩
  rw [← hp1, ← hp2] at hP hcell
  replace hP := Lib.hid hP
  have hlz : ((pts.length : Int) == 0) = false := beq_eq_false_iff_ne.2 (by omega)
  have hnil : pts ≠ [] := hT.ne
  have hl00 : (pts.length : Int) ≠ 0 := by omega
  have hwr : IntKind.i64.wrap wh = wh := by rw [IntKind.wrap_i64] <;> omega
  have hkk2 : wh.tmod (pts.length : Int) = (k : Int) := by rw [Int.tmod_eq_emod_of_nonneg hw0]; exact hkk
  have hl64 := hT.le
  have hwk : IntKind.i64.wrap (k : Int) = (k : Int) := by rw [IntKind.wrap_i64] <;> omega
  have hlp : (1 : Int) ≤ (pts.length : Int) := by omega
  have hk0 : (0 : Int) ≤ (k : Int) := by omega
  have hIb := hI.1
  clear hp1 hp2 hat hpt hbd hT hI hk
  have H0 := Lib.hid (has1 w (Obj.cells #[.int .i64 no, .int .i64 rc, .int .i64 cl, .int .i64 dr, .int .i64 si, .slice (some ⟨bb, off, none⟩) pts.length cap] 24))
  have T0 := Lib.hid (belowAl (Below.refl w.heap.size w) (Obj.cells #[.int .i64 no, .int .i64 rc, .int .i64 cl, .int .i64 dr, .int .i64 si, .slice (some ⟨bb, off, none⟩) pts.length cap] 24))
  go_enter Try.func7, Try.ntmps7
  go_wp2_with fail
  refine (sane_any _).mono ?_; rintro e w1 ⟨rfl, hB⟩
  have H1 := Lib.hid (H0.out.below hB)
  have T1 := Lib.hid ((thenB T0.out hB))
  clear hB H0 T0
  have hC := (H1.out.get (w.heap.size) (Obj.cells #[.int .i64 no, .int .i64 rc, .int .i64 cl, .int .i64 dr, .int .i64 si, .slice (some ⟨bb, off, none⟩) pts.length cap] 24 (0, 0)) (by simp))
  have g0 := cellEq (i := 0) hC; have g1 := cellEq (i := 1) hC; have g2 := cellEq (i := 2) hC; have g3 := cellEq (i := 3) hC; have g4 := cellEq (i := 4) hC; have g5 := cellEq (i := 5) hC
  clear hC
  simp only [List.getElem?_toArray, List.getElem?_cons_zero, List.getElem?_cons_succ] at g0 g1 g2 g3 g4 g5
  go_wp2_with fail
  clear g0 g1 g2 g3 g4 g5
  refine (hF.out _ (hs'.out.below T1.out)).mono ?_; rintro e w2 ⟨rfl, hB⟩
  have H2 := Lib.hid ((H1.out.below hB).alloc (Obj.cells #[.int .i64 a1, .int .i64 b1] 27))
  have T2 := Lib.hid ((belowAl (thenB T1.out hB) (Obj.cells #[.int .i64 a1, .int .i64 b1] 27)))
  clear hB H1 T1
  have hC := (H2.out.get (w.heap.size) (Obj.cells #[.int .i64 no, .int .i64 rc, .int .i64 cl, .int .i64 dr, .int .i64 si, .slice (some ⟨bb, off, none⟩) pts.length cap] 24 (0, 0)) (by simp))
  have g0 := cellEq (i := 0) hC; have g1 := cellEq (i := 1) hC; have g2 := cellEq (i := 2) hC; have g3 := cellEq (i := 3) hC; have g4 := cellEq (i := 4) hC; have g5 := cellEq (i := 5) hC
  clear hC
  simp only [List.getElem?_toArray, List.getElem?_cons_zero, List.getElem?_cons_succ] at g0 g1 g2 g3 g4 g5
  go_wp2_with fail
  clear g0 g1 g2 g3 g4 g5
  refine (hS.out _ (hs'.out.below T2.out)).mono ?_; rintro e w3 ⟨rfl, hB⟩
  have H3 := Lib.hid ((H2.out.below hB).alloc (Obj.cells #[.int .i64 a2, .int .i64 b2] 27))
  have T3 := Lib.hid ((belowAl (thenB T2.out hB) (Obj.cells #[.int .i64 a2, .int .i64 b2] 27)))
  clear hB H2 T2
  have hC := (H3.out.get (w.heap.size) (Obj.cells #[.int .i64 no, .int .i64 rc, .int .i64 cl, .int .i64 dr, .int .i64 si, .slice (some ⟨bb, off, none⟩) pts.length cap] 24 (0, 0)) (by simp))
  have g0 := cellEq (i := 0) hC; have g1 := cellEq (i := 1) hC; have g2 := cellEq (i := 2) hC; have g3 := cellEq (i := 3) hC; have g4 := cellEq (i := 4) hC; have g5 := cellEq (i := 5) hC
  clear hC
  simp only [List.getElem?_toArray, List.getElem?_cons_zero, List.getElem?_cons_succ] at g0 g1 g2 g3 g4 g5
  go_wp2_with fail
  clear g0 g1 g2 g3 g4 g5
  refine (check_any no rc cl dr si _ pts _ (hs'.out.below T3.out)).mono ?_; rintro e w4 ⟨rfl, hB⟩
  have H4 := Lib.hid (H3.out.below hB)
  have T4 := Lib.hid ((thenB T3.out hB))
  clear hB H3 T3
  rw [hCk.out]
  have hC := (H4.out.get (w.heap.size) (Obj.cells #[.int .i64 no, .int .i64 rc, .int .i64 cl, .int .i64 dr, .int .i64 si, .slice (some ⟨bb, off, none⟩) pts.length cap] 24 (0, 0)) (by simp))
  have g0 := cellEq (i := 0) hC; have g1 := cellEq (i := 1) hC; have g2 := cellEq (i := 2) hC; have g3 := cellEq (i := 3) hC; have g4 := cellEq (i := 4) hC; have g5 := cellEq (i := 5) hC
  clear hC
  simp only [List.getElem?_toArray, List.getElem?_cons_zero, List.getElem?_cons_succ] at g0 g1 g2 g3 g4 g5
  have q1 := (T4.out.cell (p := ⟨bb, off + k * 2, none⟩) hIb).trans hcell.1
  have q2 := (T4.out.cell (p := ⟨bb, off + k * 2 + 1, none⟩) hIb).trans hcell.2
  go_wp2_with fail
  go_region_held3 (fun w' => w'.cell? ⟨w.heap.size, 5, none⟩ = some (.slice (some ⟨bb, off, none⟩) pts.length cap) ∧ w'.cell? ⟨bb, off + k * 2, none⟩ = some (.int .i64 p1) ∧ w'.cell? ⟨bb, off + k * 2 + 1, none⟩ = some (.int .i64 p2)) (first | exact ⟨g5, q1, q2⟩ | go_keep) (fail)
  clear g0 g1 g2 g3 g4 g5 q1 q2
  have H9 := Lib.hid (Has.drew (Has.alloc H4.out (Obj.cells #[.int .i64 p1, .int .i64 p2] 39)))
  have T9 := Lib.hid (belowDr (belowAl T4.out (Obj.cells #[.int .i64 p1, .int .i64 p2] 39)))
  clear H4 T4
  have hC := (H9.out.get (w.heap.size) (Obj.cells #[.int .i64 no, .int .i64 rc, .int .i64 cl, .int .i64 dr, .int .i64 si, .slice (some ⟨bb, off, none⟩) pts.length cap] 24 (0, 0)) (by simp))
  have g0 := cellEq (i := 0) hC; have g1 := cellEq (i := 1) hC; have g2 := cellEq (i := 2) hC; have g3 := cellEq (i := 3) hC; have g4 := cellEq (i := 4) hC; have g5 := cellEq (i := 5) hC
  clear hC
  simp only [List.getElem?_toArray, List.getElem?_cons_zero, List.getElem?_cons_succ] at g0 g1 g2 g3 g4 g5
  go_wp2_with fail
  clear g0 g1 g2 g3 g4 g5
  refine (hP.out _ (hs'.out.below T9.out)).mono ?_; rintro e w10 ⟨rfl, hB⟩
  have H10 := Lib.hid ((H9.out.below hB).alloc (Obj.cells #[.int .i64 p2, .int .i64 p2] 27))
  have T10 := Lib.hid ((belowAl (thenB T9.out hB) (Obj.cells #[.int .i64 p2, .int .i64 p2] 27)))
  clear hB H9 T9
  have hC := (H10.out.get (w4.heap.size) (Obj.cells #[.int .i64 p1, .int .i64 p2] 39 (0, 0)) (by simp))
  have p0 := cellEq (i := 0) hC; have p1 := cellEq (i := 1) hC
  clear hC
  simp only [List.getElem?_toArray, List.getElem?_cons_zero, List.getElem?_cons_succ] at p0 p1
  have hC := (H10.out.get (w10.heap.size) (Obj.cells #[.int .i64 p2, .int .i64 p2] 27 (0, 0)) (by simp))
  have v0 := cellEq (i := 0) hC; have v1 := cellEq (i := 1) hC
  clear hC
  simp only [List.getElem?_toArray, List.getElem?_cons_zero, List.getElem?_cons_succ] at v0 v1
  have hC := (H10.out.get (w2.heap.size) (Obj.cells #[.int .i64 a1, .int .i64 b1] 27 (0, 0)) (by simp))
  have x0 := cellEq (i := 0) hC; have x1 := cellEq (i := 1) hC
  clear hC
  simp only [List.getElem?_toArray, List.getElem?_cons_zero, List.getElem?_cons_succ] at x0 x1
  have hC := (H10.out.get (w3.heap.size) (Obj.cells #[.int .i64 a2, .int .i64 b2] 27 (0, 0)) (by simp))
  have y0 := cellEq (i := 0) hC; have y1 := cellEq (i := 1) hC
  clear hC
  simp only [List.getElem?_toArray, List.getElem?_cons_zero, List.getElem?_cons_succ] at y0 y1
  go_wp2_with fail
  go_ret
  exact ⟨by first | (simp; done) | (simp; omega), T10.out⟩
set_option maxRecDepth 100000 in
set_option maxHeartbeats 4000000 in
theorem mono_e2_eq (no rc cl dr si a wh a1 b1 c1 a2 b2 c2 : Int) (bb off cap : Nat) (pts : List (Int × Int)) (hF : (∀ w, PtSl w (.slice (some ⟨bb, off, none⟩) pts.length cap) pts → Calls Try.prog 10 #[gv no rc cl dr si (.slice (some ⟨bb, off, none⟩) pts.length cap), .int .i64 a] w fun e w' => e = .returned (.tuple #[.agg #[.int .i64 a1, .int .i64 b1], .int .i64 c1]) ∧ Below w.heap.size w w')) (hS : (∀ w, PtSl w (.slice (some ⟨bb, off, none⟩) pts.length cap) pts → Calls Try.prog 10 #[gv no rc cl dr si (.slice (some ⟨bb, off, none⟩) pts.length cap), .int .i64 a] w fun e w' => e = .returned (.tuple #[.agg #[.int .i64 a2, .int .i64 b2], .int .i64 c2]) ∧ Below w.heap.size w w')) (hk : chk no rc cl dr si pts = 0) (hw0 : 0 ≤ wh) (hw1 : wh ≤ 255) (h1 : c1 = 0) (h2 : c2 ≠ 0) (w : World) (hs : PtSl w (.slice (some ⟨bb, off, none⟩) pts.length cap) pts) :
    Calls Try.prog 7 #[gv no rc cl dr si (.slice (some ⟨bb, off, none⟩) pts.length cap), .int .i64 a, .int .i64 a, .int .u8 wh] w fun e w' => e = .returned (.bool true) ∧ Below w.heap.size w w' := by
  have hs' := Lib.hid hs
  clear hs
  replace hF := Lib.hid hF
  replace hS := Lib.hid hS
  subst h1
  have d2 : (c2 != 0) = true := by simpa using h2
  clear h2
  have hT := (chk_tab hk).1
  have hpos : 0 < pts.length := List.length_pos_iff.2 hT.ne
  obtain ⟨ao', cap', hv, hcc⟩ := hs'.out
  obtain ⟨bb', off', hao, hI⟩ := hcc hT.ne
  rw [hao] at hv
  obtain ⟨⟨rfl, rfl⟩, rfl⟩ : (bb = bb' ∧ off = off') ∧ cap = cap' := by simpa using hv
  clear hv hcc hao
  obtain ⟨k, hkk⟩ : ∃ k : Nat, wh % (pts.length : Int) = (k : Int) := ⟨(wh % (pts.length : Int)).toNat, (Int.toNat_of_nonneg (Int.emod_nonneg wh (by omega))).symm⟩
  have hkl : (k : Int) < (pts.length : Int) := by rw [← hkk]; exact Int.emod_lt_of_pos _ (by omega)
  have hkn : k < pts.length := by omega
  have hpt := lo_at pts hT.srt k hkn
  have hbd := hT.bd k hkn
  have hP := Flow_ok no rc cl dr si (at_ pts k).1 (.slice (some ⟨bb, off, none⟩) pts.length cap) pts hk (inB_mk ⟨hbd.1, hbd.2.1⟩)
  rw [hpt.1, hpt.2] at hP
  have hCk := Lib.hid hk
  have hat : at_ pts k = pts[k]?.getD (0, 0) := rfl
  have hcell := hI.2 k hkn
  rw [← hat] at hcell
  obtain ⟨p1, hp1⟩ : ∃ p1, p1 = (at_ pts k).1 := ⟨_, rfl⟩
  obtain ⟨p2, hp2⟩ : ∃ p2, p2 = (at_ pts k).2 := ⟨_, rfl⟩
  rw [← hp1, ← hp2] at hP hcell
  replace hP := Lib.hid hP
  have hlz : ((pts.length : Int) == 0) = false := beq_eq_false_iff_ne.2 (by omega)
  have hnil : pts ≠ [] := hT.ne
  have hl00 : (pts.length : Int) ≠ 0 := by omega
  have hwr : IntKind.i64.wrap wh = wh := by rw [IntKind.wrap_i64] <;> omega
  have hkk2 : wh.tmod (pts.length : Int) = (k : Int) := by rw [Int.tmod_eq_emod_of_nonneg hw0]; exact hkk
  have hl64 := hT.le
  have hwk : IntKind.i64.wrap (k : Int) = (k : Int) := by rw [IntKind.wrap_i64] <;> omega
  have hlp : (1 : Int) ≤ (pts.length : Int) := by omega
  have hk0 : (0 : Int) ≤ (k : Int) := by omega
  have hIb := hI.1
  clear hp1 hp2 hat hpt hbd hT hI hk
  have H0 := Lib.hid (has1 w (Obj.cells #[.int .i64 no, .int .i64 rc, .int .i64 cl, .int .i64 dr, .int .i64 si, .slice (some ⟨bb, off, none⟩) pts.length cap] 24))
  have T0 := Lib.hid (belowAl (Below.refl w.heap.size w) (Obj.cells #[.int .i64 no, .int .i64 rc, .int .i64 cl, .int .i64 dr, .int .i64 si, .slice (some ⟨bb, off, none⟩) pts.length cap] 24))
  go_enter Try.func7, Try.ntmps7
  go_wp2_with fail
  refine (sane_any _).mono ?_; rintro e w1 ⟨rfl, hB⟩
  have H1 := Lib.hid (H0.out.below hB)
  have T1 := Lib.hid ((thenB T0.out hB))
  clear hB H0 T0
  have hC := (H1.out.get (w.heap.size) (Obj.cells #[.int .i64 no, .int .i64 rc, .int .i64 cl, .int .i64 dr, .int .i64 si, .slice (some ⟨bb, off, none⟩) pts.length cap] 24 (0, 0)) (by simp))
  have g0 := cellEq (i := 0) hC; have g1 := cellEq (i := 1) hC; have g2 := cellEq (i := 2) hC; have g3 := cellEq (i := 3) hC; have g4 := cellEq (i := 4) hC; have g5 := cellEq (i := 5) hC
  clear hC
  simp only [List.getElem?_toArray, List.getElem?_cons_zero, List.getElem?_cons_succ] at g0 g1 g2 g3 g4 g5
  go_wp2_with fail
  clear g0 g1 g2 g3 g4 g5
  refine (hF.out _ (hs'.out.below T1.out)).mono ?_; rintro e w2 ⟨rfl, hB⟩
  have H2 := Lib.hid ((H1.out.below hB).alloc (Obj.cells #[.int .i64 a1, .int .i64 b1] 27))
  have T2 := Lib.hid ((belowAl (thenB T1.out hB) (Obj.cells #[.int .i64 a1, .int .i64 b1] 27)))
  clear hB H1 T1
  have hC := (H2.out.get (w.heap.size) (Obj.cells #[.int .i64 no, .int .i64 rc, .int .i64 cl, .int .i64 dr, .int .i64 si, .slice (some ⟨bb, off, none⟩) pts.length cap] 24 (0, 0)) (by simp))
  have g0 := cellEq (i := 0) hC; have g1 := cellEq (i := 1) hC; have g2 := cellEq (i := 2) hC; have g3 := cellEq (i := 3) hC; have g4 := cellEq (i := 4) hC; have g5 := cellEq (i := 5) hC
  clear hC
  simp only [List.getElem?_toArray, List.getElem?_cons_zero, List.getElem?_cons_succ] at g0 g1 g2 g3 g4 g5
  go_wp2_with fail
  clear g0 g1 g2 g3 g4 g5
  refine (hS.out _ (hs'.out.below T2.out)).mono ?_; rintro e w3 ⟨rfl, hB⟩
  have H3 := Lib.hid ((H2.out.below hB).alloc (Obj.cells #[.int .i64 a2, .int .i64 b2] 27))
  have T3 := Lib.hid ((belowAl (thenB T2.out hB) (Obj.cells #[.int .i64 a2, .int .i64 b2] 27)))
  clear hB H2 T2
  have hC := (H3.out.get (w.heap.size) (Obj.cells #[.int .i64 no, .int .i64 rc, .int .i64 cl, .int .i64 dr, .int .i64 si, .slice (some ⟨bb, off, none⟩) pts.length cap] 24 (0, 0)) (by simp))
  have g0 := cellEq (i := 0) hC; have g1 := cellEq (i := 1) hC; have g2 := cellEq (i := 2) hC; have g3 := cellEq (i := 3) hC; have g4 := cellEq (i := 4) hC; have g5 := cellEq (i := 5) hC
  clear hC
  simp only [List.getElem?_toArray, List.getElem?_cons_zero, List.getElem?_cons_succ] at g0 g1 g2 g3 g4 g5
  go_wp2_with fail
  clear g0 g1 g2 g3 g4 g5
  refine (check_any no rc cl dr si _ pts _ (hs'.out.below T3.out)).mono ?_; rintro e w4 ⟨rfl, hB⟩
  have H4 := Lib.hid (H3.out.below hB)
  have T4 := Lib.hid ((thenB T3.out hB))
  clear hB H3 T3
  rw [hCk.out]
  have hC := (H4.out.get (w.heap.size) (Obj.cells #[.int .i64 no, .int .i64 rc, .int .i64 cl, .int .i64 dr, .int .i64 si, .slice (some ⟨bb, off, none⟩) pts.length cap] 24 (0, 0)) (by simp))
  have g0 := cellEq (i := 0) hC; have g1 := cellEq (i := 1) hC; have g2 := cellEq (i := 2) hC; have g3 := cellEq (i := 3) hC; have g4 := cellEq (i := 4) hC; have g5 := cellEq (i := 5) hC
  clear hC
  simp only [List.getElem?_toArray, List.getElem?_cons_zero, List.getElem?_cons_succ] at g0 g1 g2 g3 g4 g5
  have q1 := (T4.out.cell (p := ⟨bb, off + k * 2, none⟩) hIb).trans hcell.1
  have q2 := (T4.out.cell (p := ⟨bb, off + k * 2 + 1, none⟩) hIb).trans hcell.2
  go_wp2_with fail
  go_region_held3 (fun w' => w'.cell? ⟨w.heap.size, 5, none⟩ = some (.slice (some ⟨bb, off, none⟩) pts.length cap) ∧ w'.cell? ⟨bb, off + k * 2, none⟩ = some (.int .i64 p1) ∧ w'.cell? ⟨bb, off + k * 2 + 1, none⟩ = some (.int .i64 p2)) (first | exact ⟨g5, q1, q2⟩ | go_keep) (fail)
  clear g0 g1 g2 g3 g4 g5 q1 q2
  have H9 := Lib.hid (Has.drew (Has.alloc H4.out (Obj.cells #[.int .i64 p1, .int .i64 p2] 39)))
  have T9 := Lib.hid (belowDr (belowAl T4.out (Obj.cells #[.int .i64 p1, .int .i64 p2] 39)))
  clear H4 T4
  have hC := (H9.out.get (w.heap.size) (Obj.cells #[.int .i64 no, .int .i64 rc, .int .i64 cl, .int .i64 dr, .int .i64 si, .slice (some ⟨bb, off, none⟩) pts.length cap] 24 (0, 0)) (by simp))
  have g0 := cellEq (i := 0) hC; have g1 := cellEq (i := 1) hC; have g2 := cellEq (i := 2) hC; have g3 := cellEq (i := 3) hC; have g4 := cellEq (i := 4) hC; have g5 := cellEq (i := 5) hC
  clear hC
  simp only [List.getElem?_toArray, List.getElem?_cons_zero, List.getElem?_cons_succ] at g0 g1 g2 g3 g4 g5
  go_wp2_with fail
  clear g0 g1 g2 g3 g4 g5
  refine (hP.out _ (hs'.out.below T9.out)).mono ?_; rintro e w10 ⟨rfl, hB⟩
  have H10 := Lib.hid ((H9.out.below hB).alloc (Obj.cells #[.int .i64 p2, .int .i64 p2] 27))
  have T10 := Lib.hid ((belowAl (thenB T9.out hB) (Obj.cells #[.int .i64 p2, .int .i64 p2] 27)))
  clear hB H9 T9
  have hC := (H10.out.get (w4.heap.size) (Obj.cells #[.int .i64 p1, .int .i64 p2] 39 (0, 0)) (by simp))
  have p0 := cellEq (i := 0) hC; have p1 := cellEq (i := 1) hC
  clear hC
  simp only [List.getElem?_toArray, List.getElem?_cons_zero, List.getElem?_cons_succ] at p0 p1
  have hC := (H10.out.get (w10.heap.size) (Obj.cells #[.int .i64 p2, .int .i64 p2] 27 (0, 0)) (by simp))
  have v0 := cellEq (i := 0) hC; have v1 := cellEq (i := 1) hC
  clear hC
  simp only [List.getElem?_toArray, List.getElem?_cons_zero, List.getElem?_cons_succ] at v0 v1
  have hC := (H10.out.get (w2.heap.size) (Obj.cells #[.int .i64 a1, .int .i64 b1] 27 (0, 0)) (by simp))
  have x0 := cellEq (i := 0) hC; have x1 := cellEq (i := 1) hC
  clear hC
  simp only [List.getElem?_toArray, List.getElem?_cons_zero, List.getElem?_cons_succ] at x0 x1
  have hC := (H10.out.get (w3.heap.size) (Obj.cells #[.int .i64 a2, .int .i64 b2] 27 (0, 0)) (by simp))
  have y0 := cellEq (i := 0) hC; have y1 := cellEq (i := 1) hC
  clear hC
  simp only [List.getElem?_toArray, List.getElem?_cons_zero, List.getElem?_cons_succ] at y0 y1
  go_wp2_with fail
  go_ret
  exact ⟨by first | (simp; done) | (simp; omega), T10.out⟩
set_option maxRecDepth 100000 in
set_option maxHeartbeats 4000000 in
theorem mono_ok_eq (no rc cl dr si a wh a1 b1 c1 a2 b2 c2 : Int) (bb off cap : Nat) (pts : List (Int × Int)) (hF : (∀ w, PtSl w (.slice (some ⟨bb, off, none⟩) pts.length cap) pts → Calls Try.prog 10 #[gv no rc cl dr si (.slice (some ⟨bb, off, none⟩) pts.length cap), .int .i64 a] w fun e w' => e = .returned (.tuple #[.agg #[.int .i64 a1, .int .i64 b1], .int .i64 c1]) ∧ Below w.heap.size w w')) (hS : (∀ w, PtSl w (.slice (some ⟨bb, off, none⟩) pts.length cap) pts → Calls Try.prog 10 #[gv no rc cl dr si (.slice (some ⟨bb, off, none⟩) pts.length cap), .int .i64 a] w fun e w' => e = .returned (.tuple #[.agg #[.int .i64 a2, .int .i64 b2], .int .i64 c2]) ∧ Below w.heap.size w w')) (hk : chk no rc cl dr si pts = 0) (hw0 : 0 ≤ wh) (hw1 : wh ≤ 255) (h1 : c1 = 0) (h2 : c2 = 0) (l1 : a1 ≤ a2) (l2 : b1 ≤ b2) (l3 : a1 ≤ b1) (l4 : b1 - a1 ≤ 1) (l5 : 0 ≤ a1) (l6 : b1 ≤ 1073741824) (w : World) (hs : PtSl w (.slice (some ⟨bb, off, none⟩) pts.length cap) pts) :
    Calls Try.prog 7 #[gv no rc cl dr si (.slice (some ⟨bb, off, none⟩) pts.length cap), .int .i64 a, .int .i64 a, .int .u8 wh] w fun e w' => e = .returned (.bool true) ∧ Below w.heap.size w w' := by
  have hs' := Lib.hid hs
  clear hs
  replace hF := Lib.hid hF
  replace hS := Lib.hid hS
  subst h1; subst h2
  have hT := (chk_tab hk).1
  have hpos : 0 < pts.length := List.length_pos_iff.2 hT.ne
  obtain ⟨ao', cap', hv, hcc⟩ := hs'.out
  obtain ⟨bb', off', hao, hI⟩ := hcc hT.ne
  rw [hao] at hv
  obtain ⟨⟨rfl, rfl⟩, rfl⟩ : (bb = bb' ∧ off = off') ∧ cap = cap' := by simpa using hv
  clear hv hcc hao
  obtain ⟨k, hkk⟩ : ∃ k : Nat, wh % (pts.length : Int) = (k : Int) := ⟨(wh % (pts.length : Int)).toNat, (Int.toNat_of_nonneg (Int.emod_nonneg wh (by omega))).symm⟩
  have hkl : (k : Int) < (pts.length : Int) := by rw [← hkk]; exact Int.emod_lt_of_pos _ (by omega)
  have hkn : k < pts.length := by omega
  have hpt := lo_at pts hT.srt k hkn
  have hbd := hT.bd k hkn
  have hP := Flow_ok no rc cl dr si (at_ pts k).1 (.slice (some ⟨bb, off, none⟩) pts.length cap) pts hk (inB_mk ⟨hbd.1, hbd.2.1⟩)
  rw [hpt.1, hpt.2] at hP
  have hCk := Lib.hid hk
  have hat : at_ pts k = pts[k]?.getD (0, 0) := rfl
  have hcell := hI.2 k hkn
  rw [← hat] at hcell
  obtain ⟨p1, hp1⟩ : ∃ p1, p1 = (at_ pts k).1 := ⟨_, rfl⟩
  obtain ⟨p2, hp2⟩ : ∃ p2, p2 = (at_ pts k).2 := ⟨_, rfl⟩
  rw [← hp1, ← hp2] at hP hcell
  replace hP := Lib.hid hP
  have hlz : ((pts.length : Int) == 0) = false := beq_eq_false_iff_ne.2 (by omega)
  have hnil : pts ≠ [] := hT.ne
  have hl00 : (pts.length : Int) ≠ 0 := by omega
  have hwr : IntKind.i64.wrap wh = wh := by rw [IntKind.wrap_i64] <;> omega
  have hkk2 : wh.tmod (pts.length : Int) = (k : Int) := by rw [Int.tmod_eq_emod_of_nonneg hw0]; exact hkk
  have hl64 := hT.le
  have hwk : IntKind.i64.wrap (k : Int) = (k : Int) := by rw [IntKind.wrap_i64] <;> omega
  have hlp : (1 : Int) ≤ (pts.length : Int) := by omega
  have hk0 : (0 : Int) ≤ (k : Int) := by omega
  have hIb := hI.1
  clear hp1 hp2 hat hpt hbd hT hI hk
  have H0 := Lib.hid (has1 w (Obj.cells #[.int .i64 no, .int .i64 rc, .int .i64 cl, .int .i64 dr, .int .i64 si, .slice (some ⟨bb, off, none⟩) pts.length cap] 24))
  have T0 := Lib.hid (belowAl (Below.refl w.heap.size w) (Obj.cells #[.int .i64 no, .int .i64 rc, .int .i64 cl, .int .i64 dr, .int .i64 si, .slice (some ⟨bb, off, none⟩) pts.length cap] 24))
  go_enter Try.func7, Try.ntmps7
  go_wp2_with fail
  refine (sane_any _).mono ?_; rintro e w1 ⟨rfl, hB⟩
  have H1 := Lib.hid (H0.out.below hB)
  have T1 := Lib.hid ((thenB T0.out hB))
  clear hB H0 T0
  have hC := (H1.out.get (w.heap.size) (Obj.cells #[.int .i64 no, .int .i64 rc, .int .i64 cl, .int .i64 dr, .int .i64 si, .slice (some ⟨bb, off, none⟩) pts.length cap] 24 (0, 0)) (by simp))
  have g0 := cellEq (i := 0) hC; have g1 := cellEq (i := 1) hC; have g2 := cellEq (i := 2) hC; have g3 := cellEq (i := 3) hC; have g4 := cellEq (i := 4) hC; have g5 := cellEq (i := 5) hC
  clear hC
  simp only [List.getElem?_toArray, List.getElem?_cons_zero, List.getElem?_cons_succ] at g0 g1 g2 g3 g4 g5
  go_wp2_with fail
  clear g0 g1 g2 g3 g4 g5
  refine (hF.out _ (hs'.out.below T1.out)).mono ?_; rintro e w2 ⟨rfl, hB⟩
  have H2 := Lib.hid ((H1.out.below hB).alloc (Obj.cells #[.int .i64 a1, .int .i64 b1] 27))
  have T2 := Lib.hid ((belowAl (thenB T1.out hB) (Obj.cells #[.int .i64 a1, .int .i64 b1] 27)))
  clear hB H1 T1
  have hC := (H2.out.get (w.heap.size) (Obj.cells #[.int .i64 no, .int .i64 rc, .int .i64 cl, .int .i64 dr, .int .i64 si, .slice (some ⟨bb, off, none⟩) pts.length cap] 24 (0, 0)) (by simp))
  have g0 := cellEq (i := 0) hC; have g1 := cellEq (i := 1) hC; have g2 := cellEq (i := 2) hC; have g3 := cellEq (i := 3) hC; have g4 := cellEq (i := 4) hC; have g5 := cellEq (i := 5) hC
  clear hC
  simp only [List.getElem?_toArray, List.getElem?_cons_zero, List.getElem?_cons_succ] at g0 g1 g2 g3 g4 g5
  go_wp2_with fail
  clear g0 g1 g2 g3 g4 g5
  refine (hS.out _ (hs'.out.below T2.out)).mono ?_; rintro e w3 ⟨rfl, hB⟩
  have H3 := Lib.hid ((H2.out.below hB).alloc (Obj.cells #[.int .i64 a2, .int .i64 b2] 27))
  have T3 := Lib.hid ((belowAl (thenB T2.out hB) (Obj.cells #[.int .i64 a2, .int .i64 b2] 27)))
  clear hB H2 T2
  have hC := (H3.out.get (w.heap.size) (Obj.cells #[.int .i64 no, .int .i64 rc, .int .i64 cl, .int .i64 dr, .int .i64 si, .slice (some ⟨bb, off, none⟩) pts.length cap] 24 (0, 0)) (by simp))
  have g0 := cellEq (i := 0) hC; have g1 := cellEq (i := 1) hC; have g2 := cellEq (i := 2) hC; have g3 := cellEq (i := 3) hC; have g4 := cellEq (i := 4) hC; have g5 := cellEq (i := 5) hC
  clear hC
  simp only [List.getElem?_toArray, List.getElem?_cons_zero, List.getElem?_cons_succ] at g0 g1 g2 g3 g4 g5
  go_wp2_with fail
  clear g0 g1 g2 g3 g4 g5
  refine (check_any no rc cl dr si _ pts _ (hs'.out.below T3.out)).mono ?_; rintro e w4 ⟨rfl, hB⟩
  have H4 := Lib.hid (H3.out.below hB)
  have T4 := Lib.hid ((thenB T3.out hB))
  clear hB H3 T3
  rw [hCk.out]
  have hC := (H4.out.get (w.heap.size) (Obj.cells #[.int .i64 no, .int .i64 rc, .int .i64 cl, .int .i64 dr, .int .i64 si, .slice (some ⟨bb, off, none⟩) pts.length cap] 24 (0, 0)) (by simp))
  have g0 := cellEq (i := 0) hC; have g1 := cellEq (i := 1) hC; have g2 := cellEq (i := 2) hC; have g3 := cellEq (i := 3) hC; have g4 := cellEq (i := 4) hC; have g5 := cellEq (i := 5) hC
  clear hC
  simp only [List.getElem?_toArray, List.getElem?_cons_zero, List.getElem?_cons_succ] at g0 g1 g2 g3 g4 g5
  have q1 := (T4.out.cell (p := ⟨bb, off + k * 2, none⟩) hIb).trans hcell.1
  have q2 := (T4.out.cell (p := ⟨bb, off + k * 2 + 1, none⟩) hIb).trans hcell.2
  go_wp2_with fail
  go_region_held3 (fun w' => w'.cell? ⟨w.heap.size, 5, none⟩ = some (.slice (some ⟨bb, off, none⟩) pts.length cap) ∧ w'.cell? ⟨bb, off + k * 2, none⟩ = some (.int .i64 p1) ∧ w'.cell? ⟨bb, off + k * 2 + 1, none⟩ = some (.int .i64 p2)) (first | exact ⟨g5, q1, q2⟩ | go_keep) (fail)
  clear g0 g1 g2 g3 g4 g5 q1 q2
  have H9 := Lib.hid (Has.drew (Has.alloc H4.out (Obj.cells #[.int .i64 p1, .int .i64 p2] 39)))
  have T9 := Lib.hid (belowDr (belowAl T4.out (Obj.cells #[.int .i64 p1, .int .i64 p2] 39)))
  clear H4 T4
  have hC := (H9.out.get (w.heap.size) (Obj.cells #[.int .i64 no, .int .i64 rc, .int .i64 cl, .int .i64 dr, .int .i64 si, .slice (some ⟨bb, off, none⟩) pts.length cap] 24 (0, 0)) (by simp))
  have g0 := cellEq (i := 0) hC; have g1 := cellEq (i := 1) hC; have g2 := cellEq (i := 2) hC; have g3 := cellEq (i := 3) hC; have g4 := cellEq (i := 4) hC; have g5 := cellEq (i := 5) hC
  clear hC
  simp only [List.getElem?_toArray, List.getElem?_cons_zero, List.getElem?_cons_succ] at g0 g1 g2 g3 g4 g5
  go_wp2_with fail
  clear g0 g1 g2 g3 g4 g5
  refine (hP.out _ (hs'.out.below T9.out)).mono ?_; rintro e w10 ⟨rfl, hB⟩
  have H10 := Lib.hid ((H9.out.below hB).alloc (Obj.cells #[.int .i64 p2, .int .i64 p2] 27))
  have T10 := Lib.hid ((belowAl (thenB T9.out hB) (Obj.cells #[.int .i64 p2, .int .i64 p2] 27)))
  clear hB H9 T9
  have hC := (H10.out.get (w4.heap.size) (Obj.cells #[.int .i64 p1, .int .i64 p2] 39 (0, 0)) (by simp))
  have p0 := cellEq (i := 0) hC; have p1 := cellEq (i := 1) hC
  clear hC
  simp only [List.getElem?_toArray, List.getElem?_cons_zero, List.getElem?_cons_succ] at p0 p1
  have hC := (H10.out.get (w10.heap.size) (Obj.cells #[.int .i64 p2, .int .i64 p2] 27 (0, 0)) (by simp))
  have v0 := cellEq (i := 0) hC; have v1 := cellEq (i := 1) hC
  clear hC
  simp only [List.getElem?_toArray, List.getElem?_cons_zero, List.getElem?_cons_succ] at v0 v1
  have hC := (H10.out.get (w2.heap.size) (Obj.cells #[.int .i64 a1, .int .i64 b1] 27 (0, 0)) (by simp))
  have x0 := cellEq (i := 0) hC; have x1 := cellEq (i := 1) hC
  clear hC
  simp only [List.getElem?_toArray, List.getElem?_cons_zero, List.getElem?_cons_succ] at x0 x1
  have hC := (H10.out.get (w3.heap.size) (Obj.cells #[.int .i64 a2, .int .i64 b2] 27 (0, 0)) (by simp))
  have y0 := cellEq (i := 0) hC; have y1 := cellEq (i := 1) hC
  clear hC
  simp only [List.getElem?_toArray, List.getElem?_cons_zero, List.getElem?_cons_succ] at y0 y1
  go_wp2_with fail
  go_ret
  exact ⟨by first | (simp; done) | (simp; omega), T10.out⟩
set_option maxRecDepth 100000 in
set_option maxHeartbeats 4000000 in
theorem mono_bad_gt (no rc cl dr si a b wh a1 b1 c1 a2 b2 c2 : Int) (t : Value) (pts : List (Int × Int)) (hF : (∀ w, PtSl w (t) pts → Calls Try.prog 10 #[gv no rc cl dr si (t), .int .i64 b] w fun e w' => e = .returned (.tuple #[.agg #[.int .i64 a1, .int .i64 b1], .int .i64 c1]) ∧ Below w.heap.size w w')) (hS : (∀ w, PtSl w (t) pts → Calls Try.prog 10 #[gv no rc cl dr si (t), .int .i64 a] w fun e w' => e = .returned (.tuple #[.agg #[.int .i64 a2, .int .i64 b2], .int .i64 c2]) ∧ Below w.heap.size w w')) (ho : b < a) (hk : chk no rc cl dr si pts ≠ 0) (h1 : c1 ≠ 0) (h2 : c2 ≠ 0) (w : World) (hs : PtSl w (t) pts) :
    Calls Try.prog 7 #[gv no rc cl dr si (t), .int .i64 a, .int .i64 b, .int .u8 wh] w fun e w' => e = .returned (.bool true) ∧ Below w.heap.size w w' := by
  have hs' := Lib.hid hs
  clear hs
  replace hF := Lib.hid hF
  replace hS := Lib.hid hS
  have d0 : (chk no rc cl dr si pts != 0) = true := by simpa using hk
  have d1 : (c1 != 0) = true := by simpa using h1
  have d2 : (c2 != 0) = true := by simpa using h2
  clear hk h1 h2
  have H0 := Lib.hid (has1 w (Obj.cells #[.int .i64 no, .int .i64 rc, .int .i64 cl, .int .i64 dr, .int .i64 si, t] 24))
  have T0 := Lib.hid (belowAl (Below.refl w.heap.size w) (Obj.cells #[.int .i64 no, .int .i64 rc, .int .i64 cl, .int .i64 dr, .int .i64 si, t] 24))
  go_enter Try.func7, Try.ntmps7
  go_wp2_with fail
  refine (sane_any _).mono ?_; rintro e w1 ⟨rfl, hB⟩
  have H1 := Lib.hid (H0.out.below hB)
  have T1 := Lib.hid ((thenB T0.out hB))
  clear hB H0 T0
  have hC := (H1.out.get (w.heap.size) (Obj.cells #[.int .i64 no, .int .i64 rc, .int .i64 cl, .int .i64 dr, .int .i64 si, t] 24 (0, 0)) (by simp))
  have g0 := cellEq (i := 0) hC; have g1 := cellEq (i := 1) hC; have g2 := cellEq (i := 2) hC; have g3 := cellEq (i := 3) hC; have g4 := cellEq (i := 4) hC; have g5 := cellEq (i := 5) hC
  clear hC
  simp only [List.getElem?_toArray, List.getElem?_cons_zero, List.getElem?_cons_succ] at g0 g1 g2 g3 g4 g5
  go_wp2_with fail
  clear g0 g1 g2 g3 g4 g5
  refine (hF.out _ (hs'.out.below T1.out)).mono ?_; rintro e w2 ⟨rfl, hB⟩
  have H2 := Lib.hid ((H1.out.below hB).alloc (Obj.cells #[.int .i64 a1, .int .i64 b1] 27))
  have T2 := Lib.hid ((belowAl (thenB T1.out hB) (Obj.cells #[.int .i64 a1, .int .i64 b1] 27)))
  clear hB H1 T1
  have hC := (H2.out.get (w.heap.size) (Obj.cells #[.int .i64 no, .int .i64 rc, .int .i64 cl, .int .i64 dr, .int .i64 si, t] 24 (0, 0)) (by simp))
  have g0 := cellEq (i := 0) hC; have g1 := cellEq (i := 1) hC; have g2 := cellEq (i := 2) hC; have g3 := cellEq (i := 3) hC; have g4 := cellEq (i := 4) hC; have g5 := cellEq (i := 5) hC
  clear hC
  simp only [List.getElem?_toArray, List.getElem?_cons_zero, List.getElem?_cons_succ] at g0 g1 g2 g3 g4 g5
  go_wp2_with fail
  clear g0 g1 g2 g3 g4 g5
  refine (hS.out _ (hs'.out.below T2.out)).mono ?_; rintro e w3 ⟨rfl, hB⟩
  have H3 := Lib.hid ((H2.out.below hB).alloc (Obj.cells #[.int .i64 a2, .int .i64 b2] 27))
  have T3 := Lib.hid ((belowAl (thenB T2.out hB) (Obj.cells #[.int .i64 a2, .int .i64 b2] 27)))
  clear hB H2 T2
  have hC := (H3.out.get (w.heap.size) (Obj.cells #[.int .i64 no, .int .i64 rc, .int .i64 cl, .int .i64 dr, .int .i64 si, t] 24 (0, 0)) (by simp))
  have g0 := cellEq (i := 0) hC; have g1 := cellEq (i := 1) hC; have g2 := cellEq (i := 2) hC; have g3 := cellEq (i := 3) hC; have g4 := cellEq (i := 4) hC; have g5 := cellEq (i := 5) hC
  clear hC
  simp only [List.getElem?_toArray, List.getElem?_cons_zero, List.getElem?_cons_succ] at g0 g1 g2 g3 g4 g5
  go_wp2_with fail
  clear g0 g1 g2 g3 g4 g5
  refine (check_any no rc cl dr si t pts _ (hs'.out.below T3.out)).mono ?_; rintro e w4 ⟨rfl, hB⟩
  have H4 := Lib.hid (H3.out.below hB)
  have T4 := Lib.hid ((thenB T3.out hB))
  clear hB H3 T3
  go_wp2_with fail
  go_ret
  exact ⟨by simp, T4.out⟩
set_option maxRecDepth 100000 in
set_option maxHeartbeats 4000000 in
theorem mono_e1_gt (no rc cl dr si a b wh a1 b1 c1 a2 b2 c2 : Int) (bb off cap : Nat) (pts : List (Int × Int)) (hF : (∀ w, PtSl w (.slice (some ⟨bb, off, none⟩) pts.length cap) pts → Calls Try.prog 10 #[gv no rc cl dr si (.slice (some ⟨bb, off, none⟩) pts.length cap), .int .i64 b] w fun e w' => e = .returned (.tuple #[.agg #[.int .i64 a1, .int .i64 b1], .int .i64 c1]) ∧ Below w.heap.size w w')) (hS : (∀ w, PtSl w (.slice (some ⟨bb, off, none⟩) pts.length cap) pts → Calls Try.prog 10 #[gv no rc cl dr si (.slice (some ⟨bb, off, none⟩) pts.length cap), .int .i64 a] w fun e w' => e = .returned (.tuple #[.agg #[.int .i64 a2, .int .i64 b2], .int .i64 c2]) ∧ Below w.heap.size w w')) (ho : b < a) (hk : chk no rc cl dr si pts = 0) (hw0 : 0 ≤ wh) (hw1 : wh ≤ 255) (h1 : c1 ≠ 0) (w : World) (hs : PtSl w (.slice (some ⟨bb, off, none⟩) pts.length cap) pts) :
    Calls Try.prog 7 #[gv no rc cl dr si (.slice (some ⟨bb, off, none⟩) pts.length cap), .int .i64 a, .int .i64 b, .int .u8 wh] w fun e w' => e = .returned (.bool true) ∧ Below w.heap.size w w' := by
  have hs' := Lib.hid hs
  clear hs
  replace hF := Lib.hid hF
  replace hS := Lib.hid hS
  have d1 : (c1 != 0) = true := by simpa using h1
  clear h1
  have hT := (chk_tab hk).1
  have hpos : 0 < pts.length := List.length_pos_iff.2 hT.ne
  obtain ⟨ao', cap', hv, hcc⟩ := hs'.out
  obtain ⟨bb', off', hao, hI⟩ := hcc hT.ne
  rw [hao] at hv
  obtain ⟨⟨rfl, rfl⟩, rfl⟩ : (bb = bb' ∧ off = off') ∧ cap = cap' := by simpa using hv
  clear hv hcc hao
  obtain ⟨k, hkk⟩ : ∃ k : Nat, wh % (pts.length : Int) = (k : Int) := ⟨(wh % (pts.length : Int)).toNat, (Int.toNat_of_nonneg (Int.emod_nonneg wh (by omega))).symm⟩
  have hkl : (k : Int) < (pts.length : Int) := by rw [← hkk]; exact Int.emod_lt_of_pos _ (by omega)
  have hkn : k < pts.length := by omega
  have hpt := lo_at pts hT.srt k hkn
  have hbd := hT.bd k hkn
  have hP := Flow_ok no rc cl dr si (at_ pts k).1 (.slice (some ⟨bb, off, none⟩) pts.length cap) pts hk (inB_mk ⟨hbd.1, hbd.2.1⟩)
  rw [hpt.1, hpt.2] at hP
  have hCk := Lib.hid hk
  have hat : at_ pts k = pts[k]?.getD (0, 0) := rfl
  have hcell := hI.2 k hkn
  rw [← hat] at hcell
  obtain ⟨p1, hp1⟩ : ∃ p1, p1 = (at_ pts k).1 := ⟨_, rfl⟩
  obtain ⟨p2, hp2⟩ : ∃ p2, p2 = (at_ pts k).2 := ⟨_, rfl⟩
  rw [← hp1, ← hp2] at hP hcell
  replace hP := Lib.hid hP
  have hlz : ((pts.length : Int) == 0) = false := beq_eq_false_iff_ne.2 (by omega)
  have hnil : pts ≠ [] := hT.ne
  have hl00 : (pts.length : Int) ≠ 0 := by omega
  have hwr : IntKind.i64.wrap wh = wh := by rw [IntKind.wrap_i64] <;> omega
  have hkk2 : wh.tmod (pts.length : Int) = (k : Int) := by rw [Int.tmod_eq_emod_of_nonneg hw0]; exact hkk
  have hl64 := hT.le
  have hwk : IntKind.i64.wrap (k : Int) = (k : Int) := by rw [IntKind.wrap_i64] <;> omega
  have hlp : (1 : Int) ≤ (pts.length : Int) := by omega
  have hk0 : (0 : Int) ≤ (k : Int) := by omega
  have hIb := hI.1
  clear hp1 hp2 hat hpt hbd hT hI hk
  have H0 := Lib.hid (has1 w (Obj.cells #[.int .i64 no, .int .i64 rc, .int .i64 cl, .int .i64 dr, .int .i64 si, .slice (some ⟨bb, off, none⟩) pts.length cap] 24))
  have T0 := Lib.hid (belowAl (Below.refl w.heap.size w) (Obj.cells #[.int .i64 no, .int .i64 rc, .int .i64 cl, .int .i64 dr, .int .i64 si, .slice (some ⟨bb, off, none⟩) pts.length cap] 24))
  go_enter Try.func7, Try.ntmps7
  go_wp2_with fail
  refine (sane_any _).mono ?_; rintro e w1 ⟨rfl, hB⟩
  have H1 := Lib.hid (H0.out.below hB)
  have T1 := Lib.hid ((thenB T0.out hB))
  clear hB H0 T0
  have hC := (H1.out.get (w.heap.size) (Obj.cells #[.int .i64 no, .int .i64 rc, .int .i64 cl, .int .i64 dr, .int .i64 si, .slice (some ⟨bb, off, none⟩) pts.length cap] 24 (0, 0)) (by simp))
  have g0 := cellEq (i := 0) hC; have g1 := cellEq (i := 1) hC; have g2 := cellEq (i := 2) hC; have g3 := cellEq (i := 3) hC; have g4 := cellEq (i := 4) hC; have g5 := cellEq (i := 5) hC
  clear hC
  simp only [List.getElem?_toArray, List.getElem?_cons_zero, List.getElem?_cons_succ] at g0 g1 g2 g3 g4 g5
  go_wp2_with fail
  clear g0 g1 g2 g3 g4 g5
  refine (hF.out _ (hs'.out.below T1.out)).mono ?_; rintro e w2 ⟨rfl, hB⟩
  have H2 := Lib.hid ((H1.out.below hB).alloc (Obj.cells #[.int .i64 a1, .int .i64 b1] 27))
  have T2 := Lib.hid ((belowAl (thenB T1.out hB) (Obj.cells #[.int .i64 a1, .int .i64 b1] 27)))
  clear hB H1 T1
  have hC := (H2.out.get (w.heap.size) (Obj.cells #[.int .i64 no, .int .i64 rc, .int .i64 cl, .int .i64 dr, .int .i64 si, .slice (some ⟨bb, off, none⟩) pts.length cap] 24 (0, 0)) (by simp))
  have g0 := cellEq (i := 0) hC; have g1 := cellEq (i := 1) hC; have g2 := cellEq (i := 2) hC; have g3 := cellEq (i := 3) hC; have g4 := cellEq (i := 4) hC; have g5 := cellEq (i := 5) hC
  clear hC
  simp only [List.getElem?_toArray, List.getElem?_cons_zero, List.getElem?_cons_succ] at g0 g1 g2 g3 g4 g5
  go_wp2_with fail
  clear g0 g1 g2 g3 g4 g5
  refine (hS.out _ (hs'.out.below T2.out)).mono ?_; rintro e w3 ⟨rfl, hB⟩
  have H3 := Lib.hid ((H2.out.below hB).alloc (Obj.cells #[.int .i64 a2, .int .i64 b2] 27))
  have T3 := Lib.hid ((belowAl (thenB T2.out hB) (Obj.cells #[.int .i64 a2, .int .i64 b2] 27)))
  clear hB H2 T2
  have hC := (H3.out.get (w.heap.size) (Obj.cells #[.int .i64 no, .int .i64 rc, .int .i64 cl, .int .i64 dr, .int .i64 si, .slice (some ⟨bb, off, none⟩) pts.length cap] 24 (0, 0)) (by simp))
  have g0 := cellEq (i := 0) hC; have g1 := cellEq (i := 1) hC; have g2 := cellEq (i := 2) hC; have g3 := cellEq (i := 3) hC; have g4 := cellEq (i := 4) hC; have g5 := cellEq (i := 5) hC
  clear hC
  simp only [List.getElem?_toArray, List.getElem?_cons_zero, List.getElem?_cons_succ] at g0 g1 g2 g3 g4 g5
  go_wp2_with fail
  clear g0 g1 g2 g3 g4 g5
  refine (check_any no rc cl dr si _ pts _ (hs'.out.below T3.out)).mono ?_; rintro e w4 ⟨rfl, hB⟩
  have H4 := Lib.hid (H3.out.below hB)
  have T4 := Lib.hid ((thenB T3.out hB))
  clear hB H3 T3
  rw [hCk.out]
  have hC := (H4.out.get (w.heap.size) (Obj.cells #[.int .i64 no, .int .i64 rc, .int .i64 cl, .int .i64 dr, .int .i64 si, .slice (some ⟨bb, off, none⟩) pts.length cap] 24 (0, 0)) (by simp))
  have g0 := cellEq (i := 0) hC; have g1 := cellEq (i := 1) hC; have g2 := cellEq (i := 2) hC; have g3 := cellEq (i := 3) hC; have g4 := cellEq (i := 4) hC; have g5 := cellEq (i := 5) hC
  clear hC
  simp only [List.getElem?_toArray, List.getElem?_cons_zero, List.getElem?_cons_succ] at g0 g1 g2 g3 g4 g5
  have q1 := (T4.out.cell (p := ⟨bb, off + k * 2, none⟩) hIb).trans hcell.1
  have q2 := (T4.out.cell (p := ⟨bb, off + k * 2 + 1, none⟩) hIb).trans hcell.2
  go_wp2_with fail
  go_region_held3 (fun w' => w'.cell? ⟨w.heap.size, 5, none⟩ = some (.slice (some ⟨bb, off, none⟩) pts.length cap) ∧ w'.cell? ⟨bb, off + k * 2, none⟩ = some (.int .i64 p1) ∧ w'.cell? ⟨bb, off + k * 2 + 1, none⟩ = some (.int .i64 p2)) (first | exact ⟨g5, q1, q2⟩ | go_keep) (fail)
  clear g0 g1 g2 g3 g4 g5 q1 q2
  have H9 := Lib.hid (Has.drew (Has.alloc H4.out (Obj.cells #[.int .i64 p1, .int .i64 p2] 39)))
  have T9 := Lib.hid (belowDr (belowAl T4.out (Obj.cells #[.int .i64 p1, .int .i64 p2] 39)))
  clear H4 T4
  have hC := (H9.out.get (w.heap.size) (Obj.cells #[.int .i64 no, .int .i64 rc, .int .i64 cl, .int .i64 dr, .int .i64 si, .slice (some ⟨bb, off, none⟩) pts.length cap] 24 (0, 0)) (by simp))
  have g0 := cellEq (i := 0) hC; have g1 := cellEq (i := 1) hC; have g2 := cellEq (i := 2) hC; have g3 := cellEq (i := 3) hC; have g4 := cellEq (i := 4) hC; have g5 := cellEq (i := 5) hC
  clear hC
  simp only [List.getElem?_toArray, List.getElem?_cons_zero, List.getElem?_cons_succ] at g0 g1 g2 g3 g4 g5
  go_wp2_with fail
  clear g0 g1 g2 g3 g4 g5
  refine (hP.out _ (hs'.out.below T9.out)).mono ?_; rintro e w10 ⟨rfl, hB⟩
  have H10 := Lib.hid ((H9.out.below hB).alloc (Obj.cells #[.int .i64 p2, .int .i64 p2] 27))
  have T10 := Lib.hid ((belowAl (thenB T9.out hB) (Obj.cells #[.int .i64 p2, .int .i64 p2] 27)))
  clear hB H9 T9
  have hC := (H10.out.get (w4.heap.size) (Obj.cells #[.int .i64 p1, .int .i64 p2] 39 (0, 0)) (by simp))
  have p0 := cellEq (i := 0) hC; have p1 := cellEq (i := 1) hC
  clear hC
  simp only [List.getElem?_toArray, List.getElem?_cons_zero, List.getElem?_cons_succ] at p0 p1
  have hC := (H10.out.get (w10.heap.size) (Obj.cells #[.int .i64 p2, .int .i64 p2] 27 (0, 0)) (by simp))
  have v0 := cellEq (i := 0) hC; have v1 := cellEq (i := 1) hC
  clear hC
  simp only [List.getElem?_toArray, List.getElem?_cons_zero, List.getElem?_cons_succ] at v0 v1
  have hC := (H10.out.get (w2.heap.size) (Obj.cells #[.int .i64 a1, .int .i64 b1] 27 (0, 0)) (by simp))
  have x0 := cellEq (i := 0) hC; have x1 := cellEq (i := 1) hC
  clear hC
  simp only [List.getElem?_toArray, List.getElem?_cons_zero, List.getElem?_cons_succ] at x0 x1
  have hC := (H10.out.get (w3.heap.size) (Obj.cells #[.int .i64 a2, .int .i64 b2] 27 (0, 0)) (by simp))
  have y0 := cellEq (i := 0) hC; have y1 := cellEq (i := 1) hC
  clear hC
  simp only [List.getElem?_toArray, List.getElem?_cons_zero, List.getElem?_cons_succ] at y0 y1
  go_wp2_with fail
  go_ret
  exact ⟨by first | (simp; done) | (simp; omega), T10.out⟩
set_option maxRecDepth 100000 in
set_option maxHeartbeats 4000000 in
theorem mono_e2_gt (no rc cl dr si a b wh a1 b1 c1 a2 b2 c2 : Int) (bb off cap : Nat) (pts : List (Int × Int)) (hF : (∀ w, PtSl w (.slice (some ⟨bb, off, none⟩) pts.length cap) pts → Calls Try.prog 10 #[gv no rc cl dr si (.slice (some ⟨bb, off, none⟩) pts.length cap), .int .i64 b] w fun e w' => e = .returned (.tuple #[.agg #[.int .i64 a1, .int .i64 b1], .int .i64 c1]) ∧ Below w.heap.size w w')) (hS : (∀ w, PtSl w (.slice (some ⟨bb, off, none⟩) pts.length cap) pts → Calls Try.prog 10 #[gv no rc cl dr si (.slice (some ⟨bb, off, none⟩) pts.length cap), .int .i64 a] w fun e w' => e = .returned (.tuple #[.agg #[.int .i64 a2, .int .i64 b2], .int .i64 c2]) ∧ Below w.heap.size w w')) (ho : b < a) (hk : chk no rc cl dr si pts = 0) (hw0 : 0 ≤ wh) (hw1 : wh ≤ 255) (h1 : c1 = 0) (h2 : c2 ≠ 0) (w : World) (hs : PtSl w (.slice (some ⟨bb, off, none⟩) pts.length cap) pts) :
    Calls Try.prog 7 #[gv no rc cl dr si (.slice (some ⟨bb, off, none⟩) pts.length cap), .int .i64 a, .int .i64 b, .int .u8 wh] w fun e w' => e = .returned (.bool true) ∧ Below w.heap.size w w' := by
  have hs' := Lib.hid hs
  clear hs
  replace hF := Lib.hid hF
  replace hS := Lib.hid hS
  subst h1
  have d2 : (c2 != 0) = true := by simpa using h2
  clear h2
  have hT := (chk_tab hk).1
  have hpos : 0 < pts.length := List.length_pos_iff.2 hT.ne
  obtain ⟨ao', cap', hv, hcc⟩ := hs'.out
  obtain ⟨bb', off', hao, hI⟩ := hcc hT.ne
  rw [hao] at hv
  obtain ⟨⟨rfl, rfl⟩, rfl⟩ : (bb = bb' ∧ off = off') ∧ cap = cap' := by simpa using hv
  clear hv hcc hao
  obtain ⟨k, hkk⟩ : ∃ k : Nat, wh % (pts.length : Int) = (k : Int) := ⟨(wh % (pts.length : Int)).toNat, (Int.toNat_of_nonneg (Int.emod_nonneg wh (by omega))).symm⟩
  have hkl : (k : Int) < (pts.length : Int) := by rw [← hkk]; exact Int.emod_lt_of_pos _ (by omega)
  have hkn : k < pts.length := by omega
  have hpt := lo_at pts hT.srt k hkn
  have hbd := hT.bd k hkn
  have hP := Flow_ok no rc cl dr si (at_ pts k).1 (.slice (some ⟨bb, off, none⟩) pts.length cap) pts hk (inB_mk ⟨hbd.1, hbd.2.1⟩)
  rw [hpt.1, hpt.2] at hP
  have hCk := Lib.hid hk
  have hat : at_ pts k = pts[k]?.getD (0, 0) := rfl
  have hcell := hI.2 k hkn
  rw [← hat] at hcell
  obtain ⟨p1, hp1⟩ : ∃ p1, p1 = (at_ pts k).1 := ⟨_, rfl⟩
  obtain ⟨p2, hp2⟩ : ∃ p2, p2 = (at_ pts k).2 := ⟨_, rfl⟩
  rw [← hp1, ← hp2] at hP hcell
  replace hP := Lib.hid hP
  have hlz : ((pts.length : Int) == 0) = false := beq_eq_false_iff_ne.2 (by omega)
  have hnil : pts ≠ [] := hT.ne
  have hl00 : (pts.length : Int) ≠ 0 := by omega
  have hwr : IntKind.i64.wrap wh = wh := by rw [IntKind.wrap_i64] <;> omega
  have hkk2 : wh.tmod (pts.length : Int) = (k : Int) := by rw [Int.tmod_eq_emod_of_nonneg hw0]; exact hkk
  have hl64 := hT.le
  have hwk : IntKind.i64.wrap (k : Int) = (k : Int) := by rw [IntKind.wrap_i64] <;> omega
  have hlp : (1 : Int) ≤ (pts.length : Int) := by omega
  have hk0 : (0 : Int) ≤ (k : Int) := by omega
  have hIb := hI.1
  clear hp1 hp2 hat hpt hbd hT hI hk
  have H0 := Lib.hid (has1 w (Obj.cells #[.int .i64 no, .int .i64 rc, .int .i64 cl, .int .i64 dr, .int .i64 si, .slice (some ⟨bb, off, none⟩) pts.length cap] 24))
  have T0 := Lib.hid (belowAl (Below.refl w.heap.size w) (Obj.cells #[.int .i64 no, .int .i64 rc, .int .i64 cl, .int .i64 dr, .int .i64 si, .slice (some ⟨bb, off, none⟩) pts.length cap] 24))
  go_enter Try.func7, Try.ntmps7
  go_wp2_with fail
  refine (sane_any _).mono ?_; rintro e w1 ⟨rfl, hB⟩
  have H1 := Lib.hid (H0.out.below hB)
  have T1 := Lib.hid ((thenB T0.out hB))
  clear hB H0 T0
  have hC := (H1.out.get (w.heap.size) (Obj.cells #[.int .i64 no, .int .i64 rc, .int .i64 cl, .int .i64 dr, .int .i64 si, .slice (some ⟨bb, off, none⟩) pts.length cap] 24 (0, 0)) (by simp))
  have g0 := cellEq (i := 0) hC; have g1 := cellEq (i := 1) hC; have g2 := cellEq (i := 2) hC; have g3 := cellEq (i := 3) hC; have g4 := cellEq (i := 4) hC; have g5 := cellEq (i := 5) hC
  clear hC
  simp only [List.getElem?_toArray, List.getElem?_cons_zero, List.getElem?_cons_succ] at g0 g1 g2 g3 g4 g5
  go_wp2_with fail
  clear g0 g1 g2 g3 g4 g5
  refine (hF.out _ (hs'.out.below T1.out)).mono ?_; rintro e w2 ⟨rfl, hB⟩
  have H2 := Lib.hid ((H1.out.below hB).alloc (Obj.cells #[.int .i64 a1, .int .i64 b1] 27))
  have T2 := Lib.hid ((belowAl (thenB T1.out hB) (Obj.cells #[.int .i64 a1, .int .i64 b1] 27)))
  clear hB H1 T1
  have hC := (H2.out.get (w.heap.size) (Obj.cells #[.int .i64 no, .int .i64 rc, .int .i64 cl, .int .i64 dr, .int .i64 si, .slice (some ⟨bb, off, none⟩) pts.length cap] 24 (0, 0)) (by simp))
  have g0 := cellEq (i := 0) hC; have g1 := cellEq (i := 1) hC; have g2 := cellEq (i := 2) hC; have g3 := cellEq (i := 3) hC; have g4 := cellEq (i := 4) hC; have g5 := cellEq (i := 5) hC
  clear hC
  simp only [List.getElem?_toArray, List.getElem?_cons_zero, List.getElem?_cons_succ] at g0 g1 g2 g3 g4 g5
  go_wp2_with fail
  clear g0 g1 g2 g3 g4 g5
  refine (hS.out _ (hs'.out.below T2.out)).mono ?_; rintro e w3 ⟨rfl, hB⟩
  have H3 := Lib.hid ((H2.out.below hB).alloc (Obj.cells #[.int .i64 a2, .int .i64 b2] 27))
  have T3 := Lib.hid ((belowAl (thenB T2.out hB) (Obj.cells #[.int .i64 a2, .int .i64 b2] 27)))
  clear hB H2 T2
  have hC := (H3.out.get (w.heap.size) (Obj.cells #[.int .i64 no, .int .i64 rc, .int .i64 cl, .int .i64 dr, .int .i64 si, .slice (some ⟨bb, off, none⟩) pts.length cap] 24 (0, 0)) (by simp))
  have g0 := cellEq (i := 0) hC; have g1 := cellEq (i := 1) hC; have g2 := cellEq (i := 2) hC; have g3 := cellEq (i := 3) hC; have g4 := cellEq (i := 4) hC; have g5 := cellEq (i := 5) hC
  clear hC
  simp only [List.getElem?_toArray, List.getElem?_cons_zero, List.getElem?_cons_succ] at g0 g1 g2 g3 g4 g5
  go_wp2_with fail
  clear g0 g1 g2 g3 g4 g5
  refine (check_any no rc cl dr si _ pts _ (hs'.out.below T3.out)).mono ?_; rintro e w4 ⟨rfl, hB⟩
  have H4 := Lib.hid (H3.out.below hB)
  have T4 := Lib.hid ((thenB T3.out hB))
  clear hB H3 T3
  rw [hCk.out]
  have hC := (H4.out.get (w.heap.size) (Obj.cells #[.int .i64 no, .int .i64 rc, .int .i64 cl, .int .i64 dr, .int .i64 si, .slice (some ⟨bb, off, none⟩) pts.length cap] 24 (0, 0)) (by simp))
  have g0 := cellEq (i := 0) hC; have g1 := cellEq (i := 1) hC; have g2 := cellEq (i := 2) hC; have g3 := cellEq (i := 3) hC; have g4 := cellEq (i := 4) hC; have g5 := cellEq (i := 5) hC
  clear hC
  simp only [List.getElem?_toArray, List.getElem?_cons_zero, List.getElem?_cons_succ] at g0 g1 g2 g3 g4 g5
  have q1 := (T4.out.cell (p := ⟨bb, off + k * 2, none⟩) hIb).trans hcell.1
  have q2 := (T4.out.cell (p := ⟨bb, off + k * 2 + 1, none⟩) hIb).trans hcell.2
  go_wp2_with fail
  go_region_held3 (fun w' => w'.cell? ⟨w.heap.size, 5, none⟩ = some (.slice (some ⟨bb, off, none⟩) pts.length cap) ∧ w'.cell? ⟨bb, off + k * 2, none⟩ = some (.int .i64 p1) ∧ w'.cell? ⟨bb, off + k * 2 + 1, none⟩ = some (.int .i64 p2)) (first | exact ⟨g5, q1, q2⟩ | go_keep) (fail)
  clear g0 g1 g2 g3 g4 g5 q1 q2
  have H9 := Lib.hid (Has.drew (Has.alloc H4.out (Obj.cells #[.int .i64 p1, .int .i64 p2] 39)))
  have T9 := Lib.hid (belowDr (belowAl T4.out (Obj.cells #[.int .i64 p1, .int .i64 p2] 39)))
  clear H4 T4
  have hC := (H9.out.get (w.heap.size) (Obj.cells #[.int .i64 no, .int .i64 rc, .int .i64 cl, .int .i64 dr, .int .i64 si, .slice (some ⟨bb, off, none⟩) pts.length cap] 24 (0, 0)) (by simp))
  have g0 := cellEq (i := 0) hC; have g1 := cellEq (i := 1) hC; have g2 := cellEq (i := 2) hC; have g3 := cellEq (i := 3) hC; have g4 := cellEq (i := 4) hC; have g5 := cellEq (i := 5) hC
  clear hC
  simp only [List.getElem?_toArray, List.getElem?_cons_zero, List.getElem?_cons_succ] at g0 g1 g2 g3 g4 g5
  go_wp2_with fail
  clear g0 g1 g2 g3 g4 g5
  refine (hP.out _ (hs'.out.below T9.out)).mono ?_; rintro e w10 ⟨rfl, hB⟩
  have H10 := Lib.hid ((H9.out.below hB).alloc (Obj.cells #[.int .i64 p2, .int .i64 p2] 27))
  have T10 := Lib.hid ((belowAl (thenB T9.out hB) (Obj.cells #[.int .i64 p2, .int .i64 p2] 27)))
  clear hB H9 T9
  have hC := (H10.out.get (w4.heap.size) (Obj.cells #[.int .i64 p1, .int .i64 p2] 39 (0, 0)) (by simp))
  have p0 := cellEq (i := 0) hC; have p1 := cellEq (i := 1) hC
  clear hC
  simp only [List.getElem?_toArray, List.getElem?_cons_zero, List.getElem?_cons_succ] at p0 p1
  have hC := (H10.out.get (w10.heap.size) (Obj.cells #[.int .i64 p2, .int .i64 p2] 27 (0, 0)) (by simp))
  have v0 := cellEq (i := 0) hC; have v1 := cellEq (i := 1) hC
  clear hC
  simp only [List.getElem?_toArray, List.getElem?_cons_zero, List.getElem?_cons_succ] at v0 v1
  have hC := (H10.out.get (w2.heap.size) (Obj.cells #[.int .i64 a1, .int .i64 b1] 27 (0, 0)) (by simp))
  have x0 := cellEq (i := 0) hC; have x1 := cellEq (i := 1) hC
  clear hC
  simp only [List.getElem?_toArray, List.getElem?_cons_zero, List.getElem?_cons_succ] at x0 x1
  have hC := (H10.out.get (w3.heap.size) (Obj.cells #[.int .i64 a2, .int .i64 b2] 27 (0, 0)) (by simp))
  have y0 := cellEq (i := 0) hC; have y1 := cellEq (i := 1) hC
  clear hC
  simp only [List.getElem?_toArray, List.getElem?_cons_zero, List.getElem?_cons_succ] at y0 y1
  go_wp2_with fail
  go_ret
  exact ⟨by first | (simp; done) | (simp; omega), T10.out⟩
set_option maxRecDepth 100000 in
set_option maxHeartbeats 4000000 in
theorem mono_ok_gt (no rc cl dr si a b wh a1 b1 c1 a2 b2 c2 : Int) (bb off cap : Nat) (pts : List (Int × Int)) (hF : (∀ w, PtSl w (.slice (some ⟨bb, off, none⟩) pts.length cap) pts → Calls Try.prog 10 #[gv no rc cl dr si (.slice (some ⟨bb, off, none⟩) pts.length cap), .int .i64 b] w fun e w' => e = .returned (.tuple #[.agg #[.int .i64 a1, .int .i64 b1], .int .i64 c1]) ∧ Below w.heap.size w w')) (hS : (∀ w, PtSl w (.slice (some ⟨bb, off, none⟩) pts.length cap) pts → Calls Try.prog 10 #[gv no rc cl dr si (.slice (some ⟨bb, off, none⟩) pts.length cap), .int .i64 a] w fun e w' => e = .returned (.tuple #[.agg #[.int .i64 a2, .int .i64 b2], .int .i64 c2]) ∧ Below w.heap.size w w')) (ho : b < a) (hk : chk no rc cl dr si pts = 0) (hw0 : 0 ≤ wh) (hw1 : wh ≤ 255) (h1 : c1 = 0) (h2 : c2 = 0) (l1 : a1 ≤ a2) (l2 : b1 ≤ b2) (l3 : a1 ≤ b1) (l4 : b1 - a1 ≤ 1) (l5 : 0 ≤ a1) (l6 : b1 ≤ 1073741824) (w : World) (hs : PtSl w (.slice (some ⟨bb, off, none⟩) pts.length cap) pts) :
    Calls Try.prog 7 #[gv no rc cl dr si (.slice (some ⟨bb, off, none⟩) pts.length cap), .int .i64 a, .int .i64 b, .int .u8 wh] w fun e w' => e = .returned (.bool true) ∧ Below w.heap.size w w' := by
  have hs' := Lib.hid hs
  clear hs
  replace hF := Lib.hid hF
  replace hS := Lib.hid hS
  subst h1; subst h2
  have hT := (chk_tab hk).1
  have hpos : 0 < pts.length := List.length_pos_iff.2 hT.ne
  obtain ⟨ao', cap', hv, hcc⟩ := hs'.out
  obtain ⟨bb', off', hao, hI⟩ := hcc hT.ne
  rw [hao] at hv
  obtain ⟨⟨rfl, rfl⟩, rfl⟩ : (bb = bb' ∧ off = off') ∧ cap = cap' := by simpa using hv
  clear hv hcc hao
  obtain ⟨k, hkk⟩ : ∃ k : Nat, wh % (pts.length : Int) = (k : Int) := ⟨(wh % (pts.length : Int)).toNat, (Int.toNat_of_nonneg (Int.emod_nonneg wh (by omega))).symm⟩
  have hkl : (k : Int) < (pts.length : Int) := by rw [← hkk]; exact Int.emod_lt_of_pos _ (by omega)
  have hkn : k < pts.length := by omega
  have hpt := lo_at pts hT.srt k hkn
  have hbd := hT.bd k hkn
  have hP := Flow_ok no rc cl dr si (at_ pts k).1 (.slice (some ⟨bb, off, none⟩) pts.length cap) pts hk (inB_mk ⟨hbd.1, hbd.2.1⟩)
  rw [hpt.1, hpt.2] at hP
  have hCk := Lib.hid hk
  have hat : at_ pts k = pts[k]?.getD (0, 0) := rfl
  have hcell := hI.2 k hkn
  rw [← hat] at hcell
  obtain ⟨p1, hp1⟩ : ∃ p1, p1 = (at_ pts k).1 := ⟨_, rfl⟩
  obtain ⟨p2, hp2⟩ : ∃ p2, p2 = (at_ pts k).2 := ⟨_, rfl⟩
  rw [← hp1, ← hp2] at hP hcell
  replace hP := Lib.hid hP
  have hlz : ((pts.length : Int) == 0) = false := beq_eq_false_iff_ne.2 (by omega)
  have hnil : pts ≠ [] := hT.ne
  have hl00 : (pts.length : Int) ≠ 0 := by omega
  have hwr : IntKind.i64.wrap wh = wh := by rw [IntKind.wrap_i64] <;> omega
  have hkk2 : wh.tmod (pts.length : Int) = (k : Int) := by rw [Int.tmod_eq_emod_of_nonneg hw0]; exact hkk
  have hl64 := hT.le
  have hwk : IntKind.i64.wrap (k : Int) = (k : Int) := by rw [IntKind.wrap_i64] <;> omega
  have hlp : (1 : Int) ≤ (pts.length : Int) := by omega
  have hk0 : (0 : Int) ≤ (k : Int) := by omega
  have hIb := hI.1
  clear hp1 hp2 hat hpt hbd hT hI hk
  have H0 := Lib.hid (has1 w (Obj.cells #[.int .i64 no, .int .i64 rc, .int .i64 cl, .int .i64 dr, .int .i64 si, .slice (some ⟨bb, off, none⟩) pts.length cap] 24))
  have T0 := Lib.hid (belowAl (Below.refl w.heap.size w) (Obj.cells #[.int .i64 no, .int .i64 rc, .int .i64 cl, .int .i64 dr, .int .i64 si, .slice (some ⟨bb, off, none⟩) pts.length cap] 24))
  go_enter Try.func7, Try.ntmps7
  go_wp2_with fail
  refine (sane_any _).mono ?_; rintro e w1 ⟨rfl, hB⟩
  have H1 := Lib.hid (H0.out.below hB)
  have T1 := Lib.hid ((thenB T0.out hB))
  clear hB H0 T0
  have hC := (H1.out.get (w.heap.size) (Obj.cells #[.int .i64 no, .int .i64 rc, .int .i64 cl, .int .i64 dr, .int .i64 si, .slice (some ⟨bb, off, none⟩) pts.length cap] 24 (0, 0)) (by simp))
  have g0 := cellEq (i := 0) hC; have g1 := cellEq (i := 1) hC; have g2 := cellEq (i := 2) hC; have g3 := cellEq (i := 3) hC; have g4 := cellEq (i := 4) hC; have g5 := cellEq (i := 5) hC
  clear hC
  simp only [List.getElem?_toArray, List.getElem?_cons_zero, List.getElem?_cons_succ] at g0 g1 g2 g3 g4 g5
  go_wp2_with fail
  clear g0 g1 g2 g3 g4 g5
  refine (hF.out _ (hs'.out.below T1.out)).mono ?_; rintro e w2 ⟨rfl, hB⟩
  have H2 := Lib.hid ((H1.out.below hB).alloc (Obj.cells #[.int .i64 a1, .int .i64 b1] 27))
  have T2 := Lib.hid ((belowAl (thenB T1.out hB) (Obj.cells #[.int .i64 a1, .int .i64 b1] 27)))
  clear hB H1 T1
  have hC := (H2.out.get (w.heap.size) (Obj.cells #[.int .i64 no, .int .i64 rc, .int .i64 cl, .int .i64 dr, .int .i64 si, .slice (some ⟨bb, off, none⟩) pts.length cap] 24 (0, 0)) (by simp))
  have g0 := cellEq (i := 0) hC; have g1 := cellEq (i := 1) hC; have g2 := cellEq (i := 2) hC; have g3 := cellEq (i := 3) hC; have g4 := cellEq (i := 4) hC; have g5 := cellEq (i := 5) hC
  clear hC
  simp only [List.getElem?_toArray, List.getElem?_cons_zero, List.getElem?_cons_succ] at g0 g1 g2 g3 g4 g5
  go_wp2_with fail
  clear g0 g1 g2 g3 g4 g5
  refine (hS.out _ (hs'.out.below T2.out)).mono ?_; rintro e w3 ⟨rfl, hB⟩
  have H3 := Lib.hid ((H2.out.below hB).alloc (Obj.cells #[.int .i64 a2, .int .i64 b2] 27))
  have T3 := Lib.hid ((belowAl (thenB T2.out hB) (Obj.cells #[.int .i64 a2, .int .i64 b2] 27)))
  clear hB H2 T2
  have hC := (H3.out.get (w.heap.size) (Obj.cells #[.int .i64 no, .int .i64 rc, .int .i64 cl, .int .i64 dr, .int .i64 si, .slice (some ⟨bb, off, none⟩) pts.length cap] 24 (0, 0)) (by simp))
  have g0 := cellEq (i := 0) hC; have g1 := cellEq (i := 1) hC; have g2 := cellEq (i := 2) hC; have g3 := cellEq (i := 3) hC; have g4 := cellEq (i := 4) hC; have g5 := cellEq (i := 5) hC
  clear hC
  simp only [List.getElem?_toArray, List.getElem?_cons_zero, List.getElem?_cons_succ] at g0 g1 g2 g3 g4 g5
  go_wp2_with fail
  clear g0 g1 g2 g3 g4 g5
  refine (check_any no rc cl dr si _ pts _ (hs'.out.below T3.out)).mono ?_; rintro e w4 ⟨rfl, hB⟩
  have H4 := Lib.hid (H3.out.below hB)
  have T4 := Lib.hid ((thenB T3.out hB))
  clear hB H3 T3
  rw [hCk.out]
  have hC := (H4.out.get (w.heap.size) (Obj.cells #[.int .i64 no, .int .i64 rc, .int .i64 cl, .int .i64 dr, .int .i64 si, .slice (some ⟨bb, off, none⟩) pts.length cap] 24 (0, 0)) (by simp))
  have g0 := cellEq (i := 0) hC; have g1 := cellEq (i := 1) hC; have g2 := cellEq (i := 2) hC; have g3 := cellEq (i := 3) hC; have g4 := cellEq (i := 4) hC; have g5 := cellEq (i := 5) hC
  clear hC
  simp only [List.getElem?_toArray, List.getElem?_cons_zero, List.getElem?_cons_succ] at g0 g1 g2 g3 g4 g5
  have q1 := (T4.out.cell (p := ⟨bb, off + k * 2, none⟩) hIb).trans hcell.1
  have q2 := (T4.out.cell (p := ⟨bb, off + k * 2 + 1, none⟩) hIb).trans hcell.2
  go_wp2_with fail
  go_region_held3 (fun w' => w'.cell? ⟨w.heap.size, 5, none⟩ = some (.slice (some ⟨bb, off, none⟩) pts.length cap) ∧ w'.cell? ⟨bb, off + k * 2, none⟩ = some (.int .i64 p1) ∧ w'.cell? ⟨bb, off + k * 2 + 1, none⟩ = some (.int .i64 p2)) (first | exact ⟨g5, q1, q2⟩ | go_keep) (fail)
  clear g0 g1 g2 g3 g4 g5 q1 q2
  have H9 := Lib.hid (Has.drew (Has.alloc H4.out (Obj.cells #[.int .i64 p1, .int .i64 p2] 39)))
  have T9 := Lib.hid (belowDr (belowAl T4.out (Obj.cells #[.int .i64 p1, .int .i64 p2] 39)))
  clear H4 T4
  have hC := (H9.out.get (w.heap.size) (Obj.cells #[.int .i64 no, .int .i64 rc, .int .i64 cl, .int .i64 dr, .int .i64 si, .slice (some ⟨bb, off, none⟩) pts.length cap] 24 (0, 0)) (by simp))
  have g0 := cellEq (i := 0) hC; have g1 := cellEq (i := 1) hC; have g2 := cellEq (i := 2) hC; have g3 := cellEq (i := 3) hC; have g4 := cellEq (i := 4) hC; have g5 := cellEq (i := 5) hC
  clear hC
  simp only [List.getElem?_toArray, List.getElem?_cons_zero, List.getElem?_cons_succ] at g0 g1 g2 g3 g4 g5
  go_wp2_with fail
  clear g0 g1 g2 g3 g4 g5
  refine (hP.out _ (hs'.out.below T9.out)).mono ?_; rintro e w10 ⟨rfl, hB⟩
  have H10 := Lib.hid ((H9.out.below hB).alloc (Obj.cells #[.int .i64 p2, .int .i64 p2] 27))
  have T10 := Lib.hid ((belowAl (thenB T9.out hB) (Obj.cells #[.int .i64 p2, .int .i64 p2] 27)))
  clear hB H9 T9
  have hC := (H10.out.get (w4.heap.size) (Obj.cells #[.int .i64 p1, .int .i64 p2] 39 (0, 0)) (by simp))
  have p0 := cellEq (i := 0) hC; have p1 := cellEq (i := 1) hC
  clear hC
  simp only [List.getElem?_toArray, List.getElem?_cons_zero, List.getElem?_cons_succ] at p0 p1
  have hC := (H10.out.get (w10.heap.size) (Obj.cells #[.int .i64 p2, .int .i64 p2] 27 (0, 0)) (by simp))
  have v0 := cellEq (i := 0) hC; have v1 := cellEq (i := 1) hC
  clear hC
  simp only [List.getElem?_toArray, List.getElem?_cons_zero, List.getElem?_cons_succ] at v0 v1
  have hC := (H10.out.get (w2.heap.size) (Obj.cells #[.int .i64 a1, .int .i64 b1] 27 (0, 0)) (by simp))
  have x0 := cellEq (i := 0) hC; have x1 := cellEq (i := 1) hC
  clear hC
  simp only [List.getElem?_toArray, List.getElem?_cons_zero, List.getElem?_cons_succ] at x0 x1
  have hC := (H10.out.get (w3.heap.size) (Obj.cells #[.int .i64 a2, .int .i64 b2] 27 (0, 0)) (by simp))
  have y0 := cellEq (i := 0) hC; have y1 := cellEq (i := 1) hC
  clear hC
  simp only [List.getElem?_toArray, List.getElem?_cons_zero, List.getElem?_cons_succ] at y0 y1
  go_wp2_with fail
  go_ret
  exact ⟨by first | (simp; done) | (simp; omega), T10.out⟩
theorem hi_le : ∀ (pts : List (Int × Int)) (hs : Srt pts) (M : Int) (hM : 0 ≤ M) (hb : ∀ k, k < pts.length → (at_ pts k).2 ≤ M) (st : Int), hi pts st ≤ M
  | [], _, M, hM, _, st => by simp [hi]; exact hM
  | [a], _, M, hM, hb, st => by have := hb 0 (by simp); simpa [hi, at_] using this
  | a :: b :: r, hs, M, hM, hb, st => by
    have ih := hi_le (b :: r) hs.tail M hM (fun k hk => by have := hb (k + 1) (by simpa using hk); rwa [at_succ] at this) st
    have h0 := hb 0 (by simp); rw [at_zero] at h0
    have h1 := hb 1 (by simp); rw [at_succ, at_zero] at h1
    simp only [hi]
    split
    · exact h0
    · split
      · have := sLo_bd a b st hs.1 hs.2.1 (by omega) (by omega); omega
      · exact ih
theorem lo_facts (pts : List (Int × Int)) (hT : Tab pts) (x y : Int) (hxy : x ≤ y) : lo pts x ≤ lo pts y ∧ hi pts x ≤ hi pts y ∧ lo pts x ≤ hi pts x ∧ hi pts x - lo pts x ≤ 1 ∧ 0 ≤ lo pts x ∧ hi pts x ≤ 1073741824 := by
  cases pts with
  | nil => exact absurd rfl hT.ne
  | cons a r =>
    have h1 := lo_mono a r hT.srt x y hxy
    have h2 := lo_ge a r hT.srt x
    have h3 := hi_le (a :: r) hT.srt 1073741824 (by omega) (fun k hk => (hT.bd k hk).2.2.2) x
    have h4 := (hT.bd 0 (by simp)).2.2.1
    rw [at_zero] at h4
    omega
theorem GaugeMonotone_any (v : Value) (a b wh : Int) (hw : (Lit.int .u8 wh).wf = true) (w : World) (h : ∃ (no rc cl dr si : Int) (t : Value) (pts : List (Int × Int)), v = gv no rc cl dr si t ∧ PtSl w t pts) :
    Calls Try.prog 7 #[v, .int .i64 a, .int .i64 b, .int .u8 wh] w fun e w' => e = .returned (.bool true) ∧ Below w.heap.size w w' := by
  obtain ⟨no, rc, cl, dr, si, t, pts, rfl, hs⟩ := h
  have hw' : 0 ≤ wh ∧ wh ≤ 255 := by simpa [Lit.wf, IntKind.min, IntKind.max, IntKind.signed, IntKind.bits] using hw
  obtain ⟨hw0, hw1⟩ := hw'
  rcases Int.lt_trichotomy a b with h | h | h
  · obtain ⟨a1, b1, c1, hF, _, hc1, hd1⟩ := flow_both no rc cl dr si a t pts
    obtain ⟨a2, b2, c2, hS, _, hc2, hd2⟩ := flow_both no rc cl dr si b t pts
    by_cases hk : chk no rc cl dr si pts ≠ 0
    · exact mono_bad_lt no rc cl dr si a b wh a1 b1 c1 a2 b2 c2 t pts hF hS h hk (hd1 hk) (hd2 hk) w hs
    · have hk : chk no rc cl dr si pts = 0 := Classical.not_not.1 hk
      have hT := (chk_tab hk).1
      obtain ⟨ao, cap, rfl, hcc⟩ := hs
      obtain ⟨bb, off, rfl, hI⟩ := hcc hT.ne
      have hs : PtSl w (.slice (some ⟨bb, off, none⟩) pts.length cap) pts := ⟨_, _, rfl, fun _ => ⟨bb, off, rfl, hI⟩⟩
      by_cases h1 : c1 ≠ 0
      · exact mono_e1_lt no rc cl dr si a b wh a1 b1 c1 a2 b2 c2 bb off cap pts hF hS h hk hw0 hw1 h1 w hs
      · have h1 : c1 = 0 := Classical.not_not.1 h1
        by_cases h2 : c2 ≠ 0
        · exact mono_e2_lt no rc cl dr si a b wh a1 b1 c1 a2 b2 c2 bb off cap pts hF hS h hk hw0 hw1 h1 h2 w hs
        · have h2 : c2 = 0 := Classical.not_not.1 h2
          obtain ⟨_, _, _, ea1, eb1⟩ := hc1 h1
          obtain ⟨_, _, _, ea2, eb2⟩ := hc2 h2
          have hf := lo_facts pts hT a b (by omega)
          subst ea1; subst eb1; subst ea2; subst eb2
          exact mono_ok_lt no rc cl dr si a b wh _ _ c1 _ _ c2 bb off cap pts hF hS h hk hw0 hw1 h1 h2 hf.1 hf.2.1 hf.2.2.1 hf.2.2.2.1 hf.2.2.2.2.1 hf.2.2.2.2.2 w hs

  · subst h
    obtain ⟨a1, b1, c1, hF, _, hc1, hd1⟩ := flow_both no rc cl dr si a t pts
    obtain ⟨a2, b2, c2, hS, _, hc2, hd2⟩ := flow_both no rc cl dr si a t pts
    by_cases hk : chk no rc cl dr si pts ≠ 0
    · exact mono_bad_eq no rc cl dr si a wh a1 b1 c1 a2 b2 c2 t pts hF hS hk (hd1 hk) (hd2 hk) w hs
    · have hk : chk no rc cl dr si pts = 0 := Classical.not_not.1 hk
      have hT := (chk_tab hk).1
      obtain ⟨ao, cap, rfl, hcc⟩ := hs
      obtain ⟨bb, off, rfl, hI⟩ := hcc hT.ne
      have hs : PtSl w (.slice (some ⟨bb, off, none⟩) pts.length cap) pts := ⟨_, _, rfl, fun _ => ⟨bb, off, rfl, hI⟩⟩
      by_cases h1 : c1 ≠ 0
      · exact mono_e1_eq no rc cl dr si a wh a1 b1 c1 a2 b2 c2 bb off cap pts hF hS hk hw0 hw1 h1 w hs
      · have h1 : c1 = 0 := Classical.not_not.1 h1
        by_cases h2 : c2 ≠ 0
        · exact mono_e2_eq no rc cl dr si a wh a1 b1 c1 a2 b2 c2 bb off cap pts hF hS hk hw0 hw1 h1 h2 w hs
        · have h2 : c2 = 0 := Classical.not_not.1 h2
          obtain ⟨_, _, _, ea1, eb1⟩ := hc1 h1
          obtain ⟨_, _, _, ea2, eb2⟩ := hc2 h2
          have hf := lo_facts pts hT a a (by omega)
          subst ea1; subst eb1; subst ea2; subst eb2
          exact mono_ok_eq no rc cl dr si a wh _ _ c1 _ _ c2 bb off cap pts hF hS hk hw0 hw1 h1 h2 hf.1 hf.2.1 hf.2.2.1 hf.2.2.2.1 hf.2.2.2.2.1 hf.2.2.2.2.2 w hs

  · obtain ⟨a1, b1, c1, hF, _, hc1, hd1⟩ := flow_both no rc cl dr si b t pts
    obtain ⟨a2, b2, c2, hS, _, hc2, hd2⟩ := flow_both no rc cl dr si a t pts
    by_cases hk : chk no rc cl dr si pts ≠ 0
    · exact mono_bad_gt no rc cl dr si a b wh a1 b1 c1 a2 b2 c2 t pts hF hS h hk (hd1 hk) (hd2 hk) w hs
    · have hk : chk no rc cl dr si pts = 0 := Classical.not_not.1 hk
      have hT := (chk_tab hk).1
      obtain ⟨ao, cap, rfl, hcc⟩ := hs
      obtain ⟨bb, off, rfl, hI⟩ := hcc hT.ne
      have hs : PtSl w (.slice (some ⟨bb, off, none⟩) pts.length cap) pts := ⟨_, _, rfl, fun _ => ⟨bb, off, rfl, hI⟩⟩
      by_cases h1 : c1 ≠ 0
      · exact mono_e1_gt no rc cl dr si a b wh a1 b1 c1 a2 b2 c2 bb off cap pts hF hS h hk hw0 hw1 h1 w hs
      · have h1 : c1 = 0 := Classical.not_not.1 h1
        by_cases h2 : c2 ≠ 0
        · exact mono_e2_gt no rc cl dr si a b wh a1 b1 c1 a2 b2 c2 bb off cap pts hF hS h hk hw0 hw1 h1 h2 w hs
        · have h2 : c2 = 0 := Classical.not_not.1 h2
          obtain ⟨_, _, _, ea1, eb1⟩ := hc1 h1
          obtain ⟨_, _, _, ea2, eb2⟩ := hc2 h2
          have hf := lo_facts pts hT b a (by omega)
          subst ea1; subst eb1; subst ea2; subst eb2
          exact mono_ok_gt no rc cl dr si a b wh _ _ c1 _ _ c2 bb off cap pts hF hS h hk hw0 hw1 h1 h2 hf.1 hf.2.1 hf.2.2.1 hf.2.2.2.1 hf.2.2.2.2.1 hf.2.2.2.2.2 w hs

end Go.Proofs.Ytmmoenbdlfmgeab
