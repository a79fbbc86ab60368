/- DERIVED. Gauges: the chapter's examples: sane returns true. -/
import Derived.Test.YtmmoenbdlfmgeacStage
namespace Go.Proofs.Ytmmoenbdlfmgeac
open Go.RowKit
set_option linter.unusedVariables false
set_option linter.unusedSimpArgs false
/-- The blocks that the list names lie in memory. -/
def Has (W : World) (l : List (Nat × Obj)) : Prop := ∀ x, x ∈ l → W.heap[x.1]? = some x.2
theorem Has.nil (W : World) : Has W [] := fun x h => by cases h
theorem Has.get {W : World} {l : List (Nat × Obj)} (h : Has W l) (b : Nat) (o : Obj) (hm : (b, o) ∈ l) : W.heap[b]? = some o := h (b, o) hm
theorem Has.below {W W' : World} {l : List (Nat × Obj)} (h : Has W l) (hB : Below W.heap.size W W') : Has W' l := fun x hx => (hB.block x.1 (Array.getElem?_eq_some_iff.1 (h x hx)).1).trans (h x hx)
theorem Has.alloc {W : World} {l : List (Nat × Obj)} (h : Has W l) (o : Obj) : Has (W.alloc o) ((W.heap.size, o) :: l) := fun x hx => by
  rcases List.mem_cons.1 hx with e | e
  · subst e; exact World.alloc_heap_new W o
  · exact alFar o (h x e)
theorem ptsl2 {W : World} {B : Nat} {a b c d : Int} (h : W.heap[B]? = some (.cells #[.int .i64 a, .int .i64 b, .int .i64 c, .int .i64 d] 34 (0, 0))) : PtSl W (.slice (some ⟨B, 0, none⟩) 2 2) [(a, b), (c, d)] := by
  refine ⟨_, _, rfl, fun _ => ⟨B, 0, rfl, (Array.getElem?_eq_some_iff.1 h).1, fun j hj => ?_⟩⟩
  have : j = 0 ∨ j = 1 := by simp at hj; omega
  rcases this with rfl | rfl <;> exact ⟨cellEq h, cellEq h⟩
theorem ptsl1 {W : World} {B : Nat} {a b : Int} (h : W.heap[B]? = some (.cells #[.int .i64 a, .int .i64 b] 34 (0, 0))) : PtSl W (.slice (some ⟨B, 0, none⟩) 1 1) [(a, b)] := by
  refine ⟨_, _, rfl, fun _ => ⟨B, 0, rfl, (Array.getElem?_eq_some_iff.1 h).1, fun j hj => ?_⟩⟩
  have : j = 0 := by simp at hj; omega
  subst this; exact ⟨cellEq h, cellEq h⟩
theorem ptsl0 (W : World) : PtSl W (.slice none 0 0) [] := ⟨_, _, rfl, fun h => absurd rfl h⟩
theorem ptslz (W : World) : PtSl (W.alloc (.cells (Array.replicate 130 (Value.int .i64 0)) 34)) (.slice (some ⟨W.heap.size, 0, none⟩) 65 65) (List.replicate 65 (0, 0)) := by
  have h := World.alloc_heap_new W (.cells (Array.replicate 130 (Value.int .i64 0)) 34)
  refine ⟨_, _, rfl, fun _ => ⟨W.heap.size, 0, rfl, by simp, fun j hj => ?_⟩⟩
  have hj : j < 65 := by simpa using hj
  have e : (List.replicate 65 ((0 : Int), (0 : Int)))[j]?.getD (0, 0) = (0, 0) := by rw [List.getElem?_replicate, if_pos hj]; rfl
  rw [e]
  refine ⟨(cellEq h).trans ?_, (cellEq h).trans ?_⟩ <;> (rw [Array.getElem?_replicate, if_pos (by omega)])
theorem chk_g : chk 0 0 1 1 10 [(0, 0), (10, 25)] = 0 := by decide
theorem chk_s : chk 0 0 0 0 0 [(0, 0), (1, 9)] = 0 := by decide
theorem chk_f : chk 0 0 0 0 0 [(5, 9)] = 0 := by decide
theorem chk_0 : chk 0 0 0 0 0 [] = 240 := by decide
theorem chk_z : chk 0 0 0 0 0 (List.replicate 65 (0, 0)) = 2 := by decide
theorem stE_34 : stE 3 4 = .tuple #[.agg #[.int .i64 3, .int .i64 3], .bool true, .int .i64 0] := by simp [stE]
theorem stE_11 : stE 1 1 = .tuple #[.agg #[.int .i64 0, .int .i64 0], .bool false, .int .i64 0] := by simp [stE]
theorem stE_01048577 : stE 0 1048577 = .tuple #[.agg #[.int .i64 0, .int .i64 1048576], .bool true, .int .i64 0] := by simp [stE]
theorem ex0 (B : Nat) (w : World) (hs : PtSl w (.slice (some ⟨B, 0, none⟩) 2 2) [(0, 0), (10, 25)]) :
    Calls Try.prog 6 #[gv 0 0 1 1 10 (.slice (some ⟨B, 0, none⟩) 2 2), .int .i64 3] w fun e w' => e = .returned (.tuple #[.agg #[.int .i64 7, .int .i64 8], .int .i64 0]) ∧ Below w.heap.size w w' :=
  (Flow_ok 0 0 1 1 10 3 _ [(0, 0), (10, 25)] chk_g (by decide) w hs).mono fun e w' ⟨he, hB⟩ => ⟨by rw [he, show lo [(0, 0), (10, 25)] 3 = 7 from by decide, show hi [(0, 0), (10, 25)] 3 = 8 from by decide], hB⟩
theorem ex1 (B : Nat) (w : World) (hs : PtSl w (.slice (some ⟨B, 0, none⟩) 2 2) [(0, 0), (10, 25)]) :
    Calls Try.prog 5 #[gv 0 0 1 1 10 (.slice (some ⟨B, 0, none⟩) 2 2), .int .i64 3, .int .i64 33] w fun e w' => e = .returned (.tuple #[.agg #[.int .i64 5, .int .i64 10], .int .i64 0]) ∧ Below w.heap.size w w' :=
  (Read_ok 0 0 1 1 10 3 33 _ [(0, 0), (10, 25)] chk_g (by decide) (by decide) w hs).mono fun e w' ⟨he, hB⟩ => ⟨by rw [he, show rLo [(0, 0), (10, 25)] 3 [end0 3 (offV 1 1 10 33), end1 3 (offV 1 1 10 33)] = 5 from by decide, show rHi [(0, 0), (10, 25)] 3 [end0 3 (offV 1 1 10 33), end1 3 (offV 1 1 10 33)] = 10 from by decide], hB⟩
theorem ex2 (B : Nat) (w : World) (hs : PtSl w (.slice (some ⟨B, 0, none⟩) 2 2) [(0, 0), (10, 25)]) :
    Calls Try.prog 5 #[gv 0 0 1 1 10 (.slice (some ⟨B, 0, none⟩) 2 2), .int .i64 3, .int .i64 34] w fun e w' => e = .returned (.tuple #[.agg #[.int .i64 2, .int .i64 13], .int .i64 0]) ∧ Below w.heap.size w w' :=
  (Read_ok 0 0 1 1 10 3 34 _ [(0, 0), (10, 25)] chk_g (by decide) (by decide) w hs).mono fun e w' ⟨he, hB⟩ => ⟨by rw [he, show rLo [(0, 0), (10, 25)] 3 [end0 3 (offV 1 1 10 34), end1 3 (offV 1 1 10 34)] = 2 from by decide, show rHi [(0, 0), (10, 25)] 3 [end0 3 (offV 1 1 10 34), end1 3 (offV 1 1 10 34)] = 13 from by decide], hB⟩
theorem ex3 (B : Nat) (w : World) (hs : PtSl w (.slice (some ⟨B, 0, none⟩) 2 2) [(0, 0), (10, 25)]) :
    Calls Try.prog 7 #[gv 0 0 1 1 10 (.slice (some ⟨B, 0, none⟩) 2 2), .int .i64 7] w fun e w' => e = .returned (.tuple #[.agg #[.int .i64 3, .int .i64 3], .bool true, .int .i64 0]) ∧ Below w.heap.size w w' :=
  (Stage_ok 0 0 1 1 10 7 _ [(0, 0), (10, 25)] chk_g (by decide) 3 4 ⟨by decide, by decide, by decide⟩ ⟨by decide, by decide, by decide⟩ w hs).mono fun e w' ⟨he, hB⟩ => ⟨by rw [he, stE_34], hB⟩
theorem ex4 (B : Nat) (w : World) (hs : PtSl w (.slice (some ⟨B, 0, none⟩) 2 2) [(0, 0), (1, 9)]) :
    Calls Try.prog 7 #[gv 0 0 0 0 0 (.slice (some ⟨B, 0, none⟩) 2 2), .int .i64 5] w fun e w' => e = .returned (.tuple #[.agg #[.int .i64 0, .int .i64 0], .bool false, .int .i64 0]) ∧ Below w.heap.size w w' :=
  (Stage_ok 0 0 0 0 0 5 _ [(0, 0), (1, 9)] chk_s (by decide) 1 1 ⟨by decide, by decide, by decide⟩ ⟨by decide, by decide, by decide⟩ w hs).mono fun e w' ⟨he, hB⟩ => ⟨by rw [he, stE_11], hB⟩
theorem ex5 (B : Nat) (w : World) (hs : PtSl w (.slice (some ⟨B, 0, none⟩) 1 1) [(5, 9)]) :
    Calls Try.prog 7 #[gv 0 0 0 0 0 (.slice (some ⟨B, 0, none⟩) 1 1), .int .i64 9] w fun e w' => e = .returned (.tuple #[.agg #[.int .i64 0, .int .i64 1048576], .bool true, .int .i64 0]) ∧ Below w.heap.size w w' :=
  (Stage_ok 0 0 0 0 0 9 _ [(5, 9)] chk_f (by decide) 0 1048577 ⟨by decide, by decide, by decide⟩ ⟨by decide, by decide, Or.inl rfl⟩ w hs).mono fun e w' ⟨he, hB⟩ => ⟨by rw [he, stE_01048577], hB⟩
theorem ex6 (B : Nat) (w : World) (hs : PtSl w (.slice (some ⟨B, 0, none⟩) 1 1) [(5, 9)]) :
    Calls Try.prog 6 #[gv 0 0 0 0 0 (.slice (some ⟨B, 0, none⟩) 1 1), .int .i64 0] w fun e w' => e = .returned (.tuple #[.agg #[.int .i64 9, .int .i64 9], .int .i64 0]) ∧ Below w.heap.size w w' :=
  (Flow_ok 0 0 0 0 0 0 _ [(5, 9)] chk_f (by decide) w hs).mono fun e w' ⟨he, hB⟩ => ⟨by rw [he, show lo [(5, 9)] 0 = 9 from by decide, show hi [(5, 9)] 0 = 9 from by decide], hB⟩
theorem ex7 (B : Nat) (w : World) (hs : PtSl w (.slice (some ⟨B, 0, none⟩) 2 2) [(0, 0), (10, 25)]) :
    Calls Try.prog 6 #[gv 0 0 1 1 10 (.slice (some ⟨B, 0, none⟩) 2 2), .int .i64 (-1)] w fun e w' => e = .returned (.tuple #[.agg #[.int .i64 0, .int .i64 0], .int .i64 1]) ∧ Below w.heap.size w w' :=
  (Flow_arg 0 0 1 1 10 (-1) _ [(0, 0), (10, 25)] chk_g (by decide) w hs).mono fun e w' ⟨he, hB⟩ => ⟨he, hB⟩
theorem exc0 (w : World) : Calls Try.prog 8 #[gv 0 0 0 0 0 (.slice none 0 0)] w fun e w' => e = .returned (.int .i64 240) ∧ Below w.heap.size w w' :=
  (check_any 0 0 0 0 0 _ [] w (ptsl0 w)).mono fun e w' ⟨he, hB⟩ => ⟨by rw [he, chk_0], hB⟩
theorem exc1 (B : Nat) (w : World) (hs : PtSl w (.slice (some ⟨B, 0, none⟩) 2 2) [(0, 0), (10, 25)]) : Calls Try.prog 8 #[gv 0 0 1 1 10 (.slice (some ⟨B, 0, none⟩) 2 2)] w fun e w' => e = .returned (.int .i64 0) ∧ Below w.heap.size w w' :=
  (check_any 0 0 1 1 10 _ _ w hs).mono fun e w' ⟨he, hB⟩ => ⟨by rw [he, chk_g], hB⟩
theorem exc2 (w : World) : Calls Try.prog 8 #[gv 0 0 0 0 0 (.slice (some ⟨w.heap.size, 0, none⟩) 65 65)] (w.alloc (.cells (Array.replicate 130 (Value.int .i64 0)) 34)) fun e w' => e = .returned (.int .i64 2) ∧ Below w.heap.size w w' :=
  (check_any 0 0 0 0 0 _ _ _ (ptslz w)).mono fun e w' ⟨he, hB⟩ => ⟨by rw [he, chk_z], thenB (belowAl (Below.refl _ _) _) hB⟩
set_option maxRecDepth 100000 in
set_option maxHeartbeats 4000000 in
theorem sane_any (w : World) : Calls Try.prog 4 #[] w fun e w' => e = .returned (.bool true) ∧ Below w.heap.size w w' := by
  have hmk : ∀ w : World, Sem.run Try.prog (Instr.makeSlice 22 (Value.int IntKind.i64 65) (Value.int IntKind.i64 65)) w = Result.ok (.slice (some ⟨w.heap.size, 0, none⟩) 65 65) (w.alloc (.cells (Array.replicate 130 (Value.int .i64 0)) 34)) := fun _ => by kernel_rfl
  have H0 : Has ((((((w.alloc (Obj.cells #[.int .i64 0, .int .i64 0, .int .i64 10, .int .i64 25] 34)).alloc (Obj.cells #[.int .i64 0, .int .i64 0, .int .i64 1, .int .i64 1, .int .i64 10, .slice (some ⟨w.heap.size, 0, none⟩) 2 2] 24)).alloc (Obj.cells #[.int .i64 0, .int .i64 0, .int .i64 1, .int .i64 9] 34)).alloc (Obj.cells #[.int .i64 0, .int .i64 0, .int .i64 0, .int .i64 0, .int .i64 0, .slice (some ⟨w.heap.size + 1 + 1, 0, none⟩) 2 2] 24)).alloc (Obj.cells #[.int .i64 5, .int .i64 9] 34)).alloc (Obj.cells #[.int .i64 0, .int .i64 0, .int .i64 0, .int .i64 0, .int .i64 0, .slice (some ⟨w.heap.size + 1 + 1 + 1 + 1, 0, none⟩) 1 1] 24)) ([(w.heap.size + 1 + 1 + 1 + 1 + 1, (Obj.cells #[.int .i64 0, .int .i64 0, .int .i64 0, .int .i64 0, .int .i64 0, .slice (some ⟨w.heap.size + 1 + 1 + 1 + 1, 0, none⟩) 1 1] 24 (0, 0))), (w.heap.size + 1 + 1 + 1 + 1, (Obj.cells #[.int .i64 5, .int .i64 9] 34 (0, 0))), (w.heap.size + 1 + 1 + 1, (Obj.cells #[.int .i64 0, .int .i64 0, .int .i64 0, .int .i64 0, .int .i64 0, .slice (some ⟨w.heap.size + 1 + 1, 0, none⟩) 2 2] 24 (0, 0))), (w.heap.size + 1 + 1, (Obj.cells #[.int .i64 0, .int .i64 0, .int .i64 1, .int .i64 9] 34 (0, 0))), (w.heap.size + 1, (Obj.cells #[.int .i64 0, .int .i64 0, .int .i64 1, .int .i64 1, .int .i64 10, .slice (some ⟨w.heap.size, 0, none⟩) 2 2] 24 (0, 0))), (w.heap.size, (Obj.cells #[.int .i64 0, .int .i64 0, .int .i64 10, .int .i64 25] 34 (0, 0)))] : List (Nat × Obj)) := by
    have := ((((((Has.nil w).alloc (Obj.cells #[.int .i64 0, .int .i64 0, .int .i64 10, .int .i64 25] 34)).alloc (Obj.cells #[.int .i64 0, .int .i64 0, .int .i64 1, .int .i64 1, .int .i64 10, .slice (some ⟨w.heap.size, 0, none⟩) 2 2] 24)).alloc (Obj.cells #[.int .i64 0, .int .i64 0, .int .i64 1, .int .i64 9] 34)).alloc (Obj.cells #[.int .i64 0, .int .i64 0, .int .i64 0, .int .i64 0, .int .i64 0, .slice (some ⟨w.heap.size + 1 + 1, 0, none⟩) 2 2] 24)).alloc (Obj.cells #[.int .i64 5, .int .i64 9] 34)).alloc (Obj.cells #[.int .i64 0, .int .i64 0, .int .i64 0, .int .i64 0, .int .i64 0, .slice (some ⟨w.heap.size + 1 + 1 + 1 + 1, 0, none⟩) 1 1] 24)
    simpa using this
  have T0 : Below w.heap.size w ((((((w.alloc (Obj.cells #[.int .i64 0, .int .i64 0, .int .i64 10, .int .i64 25] 34)).alloc (Obj.cells #[.int .i64 0, .int .i64 0, .int .i64 1, .int .i64 1, .int .i64 10, .slice (some ⟨w.heap.size, 0, none⟩) 2 2] 24)).alloc (Obj.cells #[.int .i64 0, .int .i64 0, .int .i64 1, .int .i64 9] 34)).alloc (Obj.cells #[.int .i64 0, .int .i64 0, .int .i64 0, .int .i64 0, .int .i64 0, .slice (some ⟨w.heap.size + 1 + 1, 0, none⟩) 2 2] 24)).alloc (Obj.cells #[.int .i64 5, .int .i64 9] 34)).alloc (Obj.cells #[.int .i64 0, .int .i64 0, .int .i64 0, .int .i64 0, .int .i64 0, .slice (some ⟨w.heap.size + 1 + 1 + 1 + 1, 0, none⟩) 1 1] 24)) := belowAl (belowAl (belowAl (belowAl (belowAl (belowAl (Below.refl _ _) _) _) _) _) _) _
  have z0 : w.heap.size + 6 ≤ ((((((w.alloc (Obj.cells #[.int .i64 0, .int .i64 0, .int .i64 10, .int .i64 25] 34)).alloc (Obj.cells #[.int .i64 0, .int .i64 0, .int .i64 1, .int .i64 1, .int .i64 10, .slice (some ⟨w.heap.size, 0, none⟩) 2 2] 24)).alloc (Obj.cells #[.int .i64 0, .int .i64 0, .int .i64 1, .int .i64 9] 34)).alloc (Obj.cells #[.int .i64 0, .int .i64 0, .int .i64 0, .int .i64 0, .int .i64 0, .slice (some ⟨w.heap.size + 1 + 1, 0, none⟩) 2 2] 24)).alloc (Obj.cells #[.int .i64 5, .int .i64 9] 34)).alloc (Obj.cells #[.int .i64 0, .int .i64 0, .int .i64 0, .int .i64 0, .int .i64 0, .slice (some ⟨w.heap.size + 1 + 1 + 1 + 1, 0, none⟩) 1 1] 24)).heap.size := by simp <;> omega
  obtain ⟨l0, hl0⟩ : ∃ l : List (Nat × Obj), l = ([(w.heap.size + 1 + 1 + 1 + 1 + 1, (Obj.cells #[.int .i64 0, .int .i64 0, .int .i64 0, .int .i64 0, .int .i64 0, .slice (some ⟨w.heap.size + 1 + 1 + 1 + 1, 0, none⟩) 1 1] 24 (0, 0))), (w.heap.size + 1 + 1 + 1 + 1, (Obj.cells #[.int .i64 5, .int .i64 9] 34 (0, 0))), (w.heap.size + 1 + 1 + 1, (Obj.cells #[.int .i64 0, .int .i64 0, .int .i64 0, .int .i64 0, .int .i64 0, .slice (some ⟨w.heap.size + 1 + 1, 0, none⟩) 2 2] 24 (0, 0))), (w.heap.size + 1 + 1, (Obj.cells #[.int .i64 0, .int .i64 0, .int .i64 1, .int .i64 9] 34 (0, 0))), (w.heap.size + 1, (Obj.cells #[.int .i64 0, .int .i64 0, .int .i64 1, .int .i64 1, .int .i64 10, .slice (some ⟨w.heap.size, 0, none⟩) 2 2] 24 (0, 0))), (w.heap.size, (Obj.cells #[.int .i64 0, .int .i64 0, .int .i64 10, .int .i64 25] 34 (0, 0)))] : List (Nat × Obj)) := ⟨_, rfl⟩
  have HL0 := Lib.hid hl0
  rw [← hl0] at H0
  replace H0 := Lib.hid H0
  replace T0 := Lib.hid T0
  clear hl0
  go_enter Try.func4, Try.ntmps4
  go_wp2_with fail
  refine (ex0 _ _ (ptsl2 (H0.out.get (w.heap.size) (Obj.cells #[.int .i64 0, .int .i64 0, .int .i64 10, .int .i64 25] 34 (0, 0)) (by rw [HL0.out]; simp)))).mono ?_; rintro e w1 ⟨rfl, hB⟩
  have C1 := Lib.hid ((H0.out.below hB).alloc (Obj.cells #[.int .i64 7, .int .i64 8] 28))
  have D1 := Lib.hid (belowAl (thenB T0.out hB) (Obj.cells #[.int .i64 7, .int .i64 8] 28))
  have z1 : w.heap.size + 6 ≤ w1.heap.size := Nat.le_trans z0 hB.size
  clear hB H0 T0
  obtain ⟨l1, hl1⟩ : ∃ l : List (Nat × Obj), l = (w1.heap.size, Obj.cells #[.int .i64 7, .int .i64 8] 28 (0, 0)) :: l0 := ⟨_, rfl⟩
  have HL1 := Lib.hid hl1
  have H1 : Hid (Has (w1.alloc (Obj.cells #[.int .i64 7, .int .i64 8] 28)) l1) := Lib.hid (by rw [hl1]; exact C1.out)
  have T1 := D1
  clear C1 D1 hl1
  have hG := (H1.out.get (w.heap.size + 1) (Obj.cells #[.int .i64 0, .int .i64 0, .int .i64 1, .int .i64 1, .int .i64 10, .slice (some ⟨w.heap.size, 0, none⟩) 2 2] 24 (0, 0)) (by rw [HL1.out, HL0.out]; simp))
  have g0 := cellEq (i := 0) hG; have g1 := cellEq (i := 1) hG; have g2 := cellEq (i := 2) hG; have g3 := cellEq (i := 3) hG; have g4 := cellEq (i := 4) hG; have g5 := cellEq (i := 5) hG
  clear hG
  simp only [List.getElem?_toArray, List.getElem?_cons_zero, List.getElem?_cons_succ] at g0 g1 g2 g3 g4 g5
  go_wp2_with fail
  clear g0 g1 g2 g3 g4 g5
  refine (ex1 _ _ (ptsl2 (H1.out.get (w.heap.size) (Obj.cells #[.int .i64 0, .int .i64 0, .int .i64 10, .int .i64 25] 34 (0, 0)) (by rw [HL1.out, HL0.out]; simp)))).mono ?_; rintro e w2 ⟨rfl, hB⟩
  have C2 := Lib.hid ((H1.out.below hB).alloc (Obj.cells #[.int .i64 5, .int .i64 10] 28))
  have D2 := Lib.hid (belowAl (thenB T1.out hB) (Obj.cells #[.int .i64 5, .int .i64 10] 28))
  have z2 : w1.heap.size + 1 ≤ w2.heap.size := by have := hB.size; simpa using this
  clear hB H1 T1
  obtain ⟨l2, hl2⟩ : ∃ l : List (Nat × Obj), l = (w2.heap.size, Obj.cells #[.int .i64 5, .int .i64 10] 28 (0, 0)) :: l1 := ⟨_, rfl⟩
  have HL2 := Lib.hid hl2
  have H2 : Hid (Has (w2.alloc (Obj.cells #[.int .i64 5, .int .i64 10] 28)) l2) := Lib.hid (by rw [hl2]; exact C2.out)
  have T2 := D2
  clear C2 D2 hl2
  have hG := (H2.out.get (w.heap.size + 1) (Obj.cells #[.int .i64 0, .int .i64 0, .int .i64 1, .int .i64 1, .int .i64 10, .slice (some ⟨w.heap.size, 0, none⟩) 2 2] 24 (0, 0)) (by rw [HL2.out, HL1.out, HL0.out]; simp))
  have g0 := cellEq (i := 0) hG; have g1 := cellEq (i := 1) hG; have g2 := cellEq (i := 2) hG; have g3 := cellEq (i := 3) hG; have g4 := cellEq (i := 4) hG; have g5 := cellEq (i := 5) hG
  clear hG
  simp only [List.getElem?_toArray, List.getElem?_cons_zero, List.getElem?_cons_succ] at g0 g1 g2 g3 g4 g5
  go_wp2_with fail
  clear g0 g1 g2 g3 g4 g5
  refine (ex2 _ _ (ptsl2 (H2.out.get (w.heap.size) (Obj.cells #[.int .i64 0, .int .i64 0, .int .i64 10, .int .i64 25] 34 (0, 0)) (by rw [HL2.out, HL1.out, HL0.out]; simp)))).mono ?_; rintro e w3 ⟨rfl, hB⟩
  have C3 := Lib.hid ((H2.out.below hB).alloc (Obj.cells #[.int .i64 2, .int .i64 13] 28))
  have D3 := Lib.hid (belowAl (thenB T2.out hB) (Obj.cells #[.int .i64 2, .int .i64 13] 28))
  have z3 : w2.heap.size + 1 ≤ w3.heap.size := by have := hB.size; simpa using this
  clear hB H2 T2
  obtain ⟨l3, hl3⟩ : ∃ l : List (Nat × Obj), l = (w3.heap.size, Obj.cells #[.int .i64 2, .int .i64 13] 28 (0, 0)) :: l2 := ⟨_, rfl⟩
  have HL3 := Lib.hid hl3
  have H3 : Hid (Has (w3.alloc (Obj.cells #[.int .i64 2, .int .i64 13] 28)) l3) := Lib.hid (by rw [hl3]; exact C3.out)
  have T3 := D3
  clear C3 D3 hl3
  have hG := (H3.out.get (w.heap.size + 1) (Obj.cells #[.int .i64 0, .int .i64 0, .int .i64 1, .int .i64 1, .int .i64 10, .slice (some ⟨w.heap.size, 0, none⟩) 2 2] 24 (0, 0)) (by rw [HL3.out, HL2.out, HL1.out, HL0.out]; simp))
  have g0 := cellEq (i := 0) hG; have g1 := cellEq (i := 1) hG; have g2 := cellEq (i := 2) hG; have g3 := cellEq (i := 3) hG; have g4 := cellEq (i := 4) hG; have g5 := cellEq (i := 5) hG
  clear hG
  simp only [List.getElem?_toArray, List.getElem?_cons_zero, List.getElem?_cons_succ] at g0 g1 g2 g3 g4 g5
  go_wp2_with fail
  clear g0 g1 g2 g3 g4 g5
  refine (ex3 _ _ (ptsl2 (H3.out.get (w.heap.size) (Obj.cells #[.int .i64 0, .int .i64 0, .int .i64 10, .int .i64 25] 34 (0, 0)) (by rw [HL3.out, HL2.out, HL1.out, HL0.out]; simp)))).mono ?_; rintro e w4 ⟨rfl, hB⟩
  have C4 := Lib.hid ((H3.out.below hB).alloc (Obj.cells #[.int .i64 3, .int .i64 3] 28))
  have D4 := Lib.hid (belowAl (thenB T3.out hB) (Obj.cells #[.int .i64 3, .int .i64 3] 28))
  have z4 : w3.heap.size + 1 ≤ w4.heap.size := by have := hB.size; simpa using this
  clear hB H3 T3
  obtain ⟨l4, hl4⟩ : ∃ l : List (Nat × Obj), l = (w4.heap.size, Obj.cells #[.int .i64 3, .int .i64 3] 28 (0, 0)) :: l3 := ⟨_, rfl⟩
  have HL4 := Lib.hid hl4
  have H4 : Hid (Has (w4.alloc (Obj.cells #[.int .i64 3, .int .i64 3] 28)) l4) := Lib.hid (by rw [hl4]; exact C4.out)
  have T4 := D4
  clear C4 D4 hl4
  have hG := (H4.out.get (w.heap.size + 1 + 1 + 1) (Obj.cells #[.int .i64 0, .int .i64 0, .int .i64 0, .int .i64 0, .int .i64 0, .slice (some ⟨w.heap.size + 1 + 1, 0, none⟩) 2 2] 24 (0, 0)) (by rw [HL4.out, HL3.out, HL2.out, HL1.out, HL0.out]; simp))
  have g0 := cellEq (i := 0) hG; have g1 := cellEq (i := 1) hG; have g2 := cellEq (i := 2) hG; have g3 := cellEq (i := 3) hG; have g4 := cellEq (i := 4) hG; have g5 := cellEq (i := 5) hG
  clear hG
  simp only [List.getElem?_toArray, List.getElem?_cons_zero, List.getElem?_cons_succ] at g0 g1 g2 g3 g4 g5
  go_wp2_with fail
  clear g0 g1 g2 g3 g4 g5
  refine (ex4 _ _ (ptsl2 (H4.out.get (w.heap.size + 1 + 1) (Obj.cells #[.int .i64 0, .int .i64 0, .int .i64 1, .int .i64 9] 34 (0, 0)) (by rw [HL4.out, HL3.out, HL2.out, HL1.out, HL0.out]; simp)))).mono ?_; rintro e w5 ⟨rfl, hB⟩
  have C5 := Lib.hid ((H4.out.below hB).alloc (Obj.cells #[.int .i64 0, .int .i64 0] 28))
  have D5 := Lib.hid (belowAl (thenB T4.out hB) (Obj.cells #[.int .i64 0, .int .i64 0] 28))
  have z5 : w4.heap.size + 1 ≤ w5.heap.size := by have := hB.size; simpa using this
  clear hB H4 T4
  obtain ⟨l5, hl5⟩ : ∃ l : List (Nat × Obj), l = (w5.heap.size, Obj.cells #[.int .i64 0, .int .i64 0] 28 (0, 0)) :: l4 := ⟨_, rfl⟩
  have HL5 := Lib.hid hl5
  have H5 : Hid (Has (w5.alloc (Obj.cells #[.int .i64 0, .int .i64 0] 28)) l5) := Lib.hid (by rw [hl5]; exact C5.out)
  have T5 := D5
  clear C5 D5 hl5
  have hG := (H5.out.get (w.heap.size + 1 + 1 + 1 + 1 + 1) (Obj.cells #[.int .i64 0, .int .i64 0, .int .i64 0, .int .i64 0, .int .i64 0, .slice (some ⟨w.heap.size + 1 + 1 + 1 + 1, 0, none⟩) 1 1] 24 (0, 0)) (by rw [HL5.out, HL4.out, HL3.out, HL2.out, HL1.out, HL0.out]; simp))
  have g0 := cellEq (i := 0) hG; have g1 := cellEq (i := 1) hG; have g2 := cellEq (i := 2) hG; have g3 := cellEq (i := 3) hG; have g4 := cellEq (i := 4) hG; have g5 := cellEq (i := 5) hG
  clear hG
  simp only [List.getElem?_toArray, List.getElem?_cons_zero, List.getElem?_cons_succ] at g0 g1 g2 g3 g4 g5
  go_wp2_with fail
  clear g0 g1 g2 g3 g4 g5
  refine (ex5 _ _ (ptsl1 (H5.out.get (w.heap.size + 1 + 1 + 1 + 1) (Obj.cells #[.int .i64 5, .int .i64 9] 34 (0, 0)) (by rw [HL5.out, HL4.out, HL3.out, HL2.out, HL1.out, HL0.out]; simp)))).mono ?_; rintro e w6 ⟨rfl, hB⟩
  have C6 := Lib.hid ((H5.out.below hB).alloc (Obj.cells #[.int .i64 0, .int .i64 1048576] 28))
  have D6 := Lib.hid (belowAl (thenB T5.out hB) (Obj.cells #[.int .i64 0, .int .i64 1048576] 28))
  have z6 : w5.heap.size + 1 ≤ w6.heap.size := by have := hB.size; simpa using this
  clear hB H5 T5
  obtain ⟨l6, hl6⟩ : ∃ l : List (Nat × Obj), l = (w6.heap.size, Obj.cells #[.int .i64 0, .int .i64 1048576] 28 (0, 0)) :: l5 := ⟨_, rfl⟩
  have HL6 := Lib.hid hl6
  have H6 : Hid (Has (w6.alloc (Obj.cells #[.int .i64 0, .int .i64 1048576] 28)) l6) := Lib.hid (by rw [hl6]; exact C6.out)
  have T6 := D6
  clear C6 D6 hl6
  have hG := (H6.out.get (w.heap.size + 1 + 1 + 1 + 1 + 1) (Obj.cells #[.int .i64 0, .int .i64 0, .int .i64 0, .int .i64 0, .int .i64 0, .slice (some ⟨w.heap.size + 1 + 1 + 1 + 1, 0, none⟩) 1 1] 24 (0, 0)) (by rw [HL6.out, HL5.out, HL4.out, HL3.out, HL2.out, HL1.out, HL0.out]; simp))
  have g0 := cellEq (i := 0) hG; have g1 := cellEq (i := 1) hG; have g2 := cellEq (i := 2) hG; have g3 := cellEq (i := 3) hG; have g4 := cellEq (i := 4) hG; have g5 := cellEq (i := 5) hG
  clear hG
  simp only [List.getElem?_toArray, List.getElem?_cons_zero, List.getElem?_cons_succ] at g0 g1 g2 g3 g4 g5
  go_wp2_with fail
  clear g0 g1 g2 g3 g4 g5
  refine (ex6 _ _ (ptsl1 (H6.out.get (w.heap.size + 1 + 1 + 1 + 1) (Obj.cells #[.int .i64 5, .int .i64 9] 34 (0, 0)) (by rw [HL6.out, HL5.out, HL4.out, HL3.out, HL2.out, HL1.out, HL0.out]; simp)))).mono ?_; rintro e w7 ⟨rfl, hB⟩
  have C7 := Lib.hid ((H6.out.below hB).alloc (Obj.cells #[.int .i64 9, .int .i64 9] 28))
  have D7 := Lib.hid (belowAl (thenB T6.out hB) (Obj.cells #[.int .i64 9, .int .i64 9] 28))
  have z7 : w6.heap.size + 1 ≤ w7.heap.size := by have := hB.size; simpa using this
  clear hB H6 T6
  obtain ⟨l7, hl7⟩ : ∃ l : List (Nat × Obj), l = (w7.heap.size, Obj.cells #[.int .i64 9, .int .i64 9] 28 (0, 0)) :: l6 := ⟨_, rfl⟩
  have HL7 := Lib.hid hl7
  have H7 : Hid (Has (w7.alloc (Obj.cells #[.int .i64 9, .int .i64 9] 28)) l7) := Lib.hid (by rw [hl7]; exact C7.out)
  have T7 := D7
  clear C7 D7 hl7
  have hG := (H7.out.get (w.heap.size + 1) (Obj.cells #[.int .i64 0, .int .i64 0, .int .i64 1, .int .i64 1, .int .i64 10, .slice (some ⟨w.heap.size, 0, none⟩) 2 2] 24 (0, 0)) (by rw [HL7.out, HL6.out, HL5.out, HL4.out, HL3.out, HL2.out, HL1.out, HL0.out]; simp))
  have g0 := cellEq (i := 0) hG; have g1 := cellEq (i := 1) hG; have g2 := cellEq (i := 2) hG; have g3 := cellEq (i := 3) hG; have g4 := cellEq (i := 4) hG; have g5 := cellEq (i := 5) hG
  clear hG
  simp only [List.getElem?_toArray, List.getElem?_cons_zero, List.getElem?_cons_succ] at g0 g1 g2 g3 g4 g5
  go_wp2_with fail
  clear g0 g1 g2 g3 g4 g5
  refine (ex7 _ _ (ptsl2 (H7.out.get (w.heap.size) (Obj.cells #[.int .i64 0, .int .i64 0, .int .i64 10, .int .i64 25] 34 (0, 0)) (by rw [HL7.out, HL6.out, HL5.out, HL4.out, HL3.out, HL2.out, HL1.out, HL0.out]; simp)))).mono ?_; rintro e w8 ⟨rfl, hB⟩
  have C8 := Lib.hid ((H7.out.below hB).alloc (Obj.cells #[.int .i64 0, .int .i64 0] 28))
  have D8 := Lib.hid (belowAl (thenB T7.out hB) (Obj.cells #[.int .i64 0, .int .i64 0] 28))
  have z8 : w7.heap.size + 1 ≤ w8.heap.size := by have := hB.size; simpa using this
  clear hB H7 T7
  obtain ⟨l8, hl8⟩ : ∃ l : List (Nat × Obj), l = (w8.heap.size, Obj.cells #[.int .i64 0, .int .i64 0] 28 (0, 0)) :: l7 := ⟨_, rfl⟩
  have HL8 := Lib.hid hl8
  have H8 : Hid (Has (w8.alloc (Obj.cells #[.int .i64 0, .int .i64 0] 28)) l8) := Lib.hid (by rw [hl8]; exact C8.out)
  have T8 := D8
  clear C8 D8 hl8
  go_wp2_with fail
  refine (exc0 _).mono ?_; rintro e v1 ⟨rfl, hB⟩
  have K1 := Lib.hid (H8.out.below hB)
  have U1 := Lib.hid (thenB T8.out hB)
  clear hB H8 T8
  have hG := (K1.out.get (w.heap.size + 1) (Obj.cells #[.int .i64 0, .int .i64 0, .int .i64 1, .int .i64 1, .int .i64 10, .slice (some ⟨w.heap.size, 0, none⟩) 2 2] 24 (0, 0)) (by rw [HL8.out, HL7.out, HL6.out, HL5.out, HL4.out, HL3.out, HL2.out, HL1.out, HL0.out]; simp))
  have g0 := cellEq (i := 0) hG; have g1 := cellEq (i := 1) hG; have g2 := cellEq (i := 2) hG; have g3 := cellEq (i := 3) hG; have g4 := cellEq (i := 4) hG; have g5 := cellEq (i := 5) hG
  clear hG
  simp only [List.getElem?_toArray, List.getElem?_cons_zero, List.getElem?_cons_succ] at g0 g1 g2 g3 g4 g5
  go_wp2_with fail
  clear g0 g1 g2 g3 g4 g5
  refine (exc1 _ _ (ptsl2 (K1.out.get (w.heap.size) (Obj.cells #[.int .i64 0, .int .i64 0, .int .i64 10, .int .i64 25] 34 (0, 0)) (by rw [HL8.out, HL7.out, HL6.out, HL5.out, HL4.out, HL3.out, HL2.out, HL1.out, HL0.out]; simp)))).mono ?_; rintro e v2 ⟨rfl, hB⟩
  have K2 := Lib.hid (K1.out.below hB)
  have U2 := Lib.hid (thenB U1.out hB)
  clear hB K1 U1
  go_wp2_with fail
  refine (exc2 _).mono ?_; rintro e v3 ⟨rfl, hB⟩
  have K3 := K2.out.below hB
  have U3 := Lib.hid (thenB U2.out hB)
  clear hB K2 U2
  have hX := K3.get w1.heap.size (Obj.cells #[.int .i64 7, .int .i64 8] 28 (0, 0)) (by rw [HL8.out, HL7.out, HL6.out, HL5.out, HL4.out, HL3.out, HL2.out, HL1.out, HL0.out]; simp)
  have x0 := cellEq (i := 0) hX; have y0 := cellEq (i := 1) hX
  clear hX
  have hX := K3.get w2.heap.size (Obj.cells #[.int .i64 5, .int .i64 10] 28 (0, 0)) (by rw [HL8.out, HL7.out, HL6.out, HL5.out, HL4.out, HL3.out, HL2.out, HL1.out, HL0.out]; simp)
  have x1 := cellEq (i := 0) hX; have y1 := cellEq (i := 1) hX
  clear hX
  have hX := K3.get w3.heap.size (Obj.cells #[.int .i64 2, .int .i64 13] 28 (0, 0)) (by rw [HL8.out, HL7.out, HL6.out, HL5.out, HL4.out, HL3.out, HL2.out, HL1.out, HL0.out]; simp)
  have x2 := cellEq (i := 0) hX; have y2 := cellEq (i := 1) hX
  clear hX
  have hX := K3.get w4.heap.size (Obj.cells #[.int .i64 3, .int .i64 3] 28 (0, 0)) (by rw [HL8.out, HL7.out, HL6.out, HL5.out, HL4.out, HL3.out, HL2.out, HL1.out, HL0.out]; simp)
  have x3 := cellEq (i := 0) hX; have y3 := cellEq (i := 1) hX
  clear hX
  have hX := K3.get w5.heap.size (Obj.cells #[.int .i64 0, .int .i64 0] 28 (0, 0)) (by rw [HL8.out, HL7.out, HL6.out, HL5.out, HL4.out, HL3.out, HL2.out, HL1.out, HL0.out]; simp)
  have x4 := cellEq (i := 0) hX; have y4 := cellEq (i := 1) hX
  clear hX
  have hX := K3.get w6.heap.size (Obj.cells #[.int .i64 0, .int .i64 1048576] 28 (0, 0)) (by rw [HL8.out, HL7.out, HL6.out, HL5.out, HL4.out, HL3.out, HL2.out, HL1.out, HL0.out]; simp)
  have x5 := cellEq (i := 0) hX; have y5 := cellEq (i := 1) hX
  clear hX
  have hX := K3.get w7.heap.size (Obj.cells #[.int .i64 9, .int .i64 9] 28 (0, 0)) (by rw [HL8.out, HL7.out, HL6.out, HL5.out, HL4.out, HL3.out, HL2.out, HL1.out, HL0.out]; simp)
  have x6 := cellEq (i := 0) hX; have y6 := cellEq (i := 1) hX
  clear hX
  simp only [List.getElem?_toArray, List.getElem?_cons_zero, List.getElem?_cons_succ] at x0 y0 x1 y1 x2 y2 x3 y3 x4 y4 x5 y5 x6 y6
  clear K3
  go_wp2_with fail
  go_ret
  exact ⟨rfl, U3.out⟩
end Go.Proofs.Ytmmoenbdlfmgeac
