/- DERIVED. Gauges: the walk of GaugeLater. -/
import Derived.Test.YtmmoenbdlfmgeacOpen
import Derived.Lib.MinMax
import Derived.Outline
namespace Go.Proofs.Ytmmoenbdlfmgeac
open Go.RowKit
set_option linter.unusedVariables false
set_option linter.unusedSimpArgs false
theorem has1 (w : World) (o : Obj) : Has (w.alloc o) [(w.heap.size, o)] := (Has.nil w).alloc o
theorem Has.drew {W : World} {l : List (Nat × Obj)} (h : Has W l) : Has W.drew l := h
theorem setAt {W : World} {B i : Nat} {cs : Array Value} {ty : TypeId} (x : Value) (h : W.heap[B]? = some (.cells cs ty (0, 0))) : (W.setCell ⟨B, i, none⟩ x).heap[B]? = some (.cells (cs.setIfInBounds i x) ty (0, 0)) := by
  obtain ⟨hlt, hk⟩ := Array.getElem?_eq_some_iff.1 h
  show (W.heap.modify B _)[B]? = _
  rw [Array.getElem?_eq_getElem (by rw [Array.size_modify]; exact hlt), Array.getElem_modify_self, hk]; rfl
/-- A block of cells is stored into that the list does not name. -/
theorem Has.far {W : World} {l : List (Nat × Obj)} (h : Has W l) (B i : Nat) (x : Value) (hn : ∀ y, y ∈ l → y.1 ≠ B) : Has (W.setCell ⟨B, i, none⟩ x) l := fun y hy => setFar x (h y hy) (hn y hy)
set_option maxRecDepth 100000 in
set_option maxHeartbeats 4000000 in
theorem later_bad (no rc cl dr si st hour la ka da a b c a2 b2 : Int) (t : Value) (pts : List (Int × Int)) (hF : ∀ w, PtSl w t pts → Calls Try.prog 5 #[gv no rc cl dr si t, .int .i64 st, .int .i64 hour] w fun e w' => e = .returned (.tuple #[.agg #[.int .i64 a, .int .i64 b], .int .i64 c]) ∧ Below w.heap.size w w') (h1 : c ≠ 0) (w : World) (hs : PtSl w t pts) :
    Calls Try.prog 3 #[gv no rc cl dr si t, .int .i64 st, .int .i64 hour, .int .u16 la, .int .u16 ka, .int .u16 da] w fun e w' => e = .returned (.bool true) ∧ Below w.heap.size w w' := by
  replace hF := Lib.hid hF
  have hs' := Lib.hid hs
  clear hs
  have d1 : (c != 0) = true := by simpa using h1
  clear h1
  have H0 := Lib.hid (has1 w (Obj.cells #[.int .i64 no, .int .i64 rc, .int .i64 cl, .int .i64 dr, .int .i64 si, t] 24))
  have T0 := Lib.hid (belowAl (Below.refl w.heap.size w) (Obj.cells #[.int .i64 no, .int .i64 rc, .int .i64 cl, .int .i64 dr, .int .i64 si, t] 24))
  go_enter Try.func3, Try.ntmps3
  go_wp2_with fail
  refine (sane_any _).mono ?_; rintro e w1 ⟨rfl, hB⟩
  have H1 := Lib.hid (H0.out.below hB)
  have T1 := Lib.hid ((thenB T0.out hB))
  clear hB H0 T0
  have hC := (H1.out.get (w.heap.size) (Obj.cells #[.int .i64 no, .int .i64 rc, .int .i64 cl, .int .i64 dr, .int .i64 si, t] 24 (0, 0)) (by simp))
  have g0 := cellEq (i := 0) hC; have g1 := cellEq (i := 1) hC; have g2 := cellEq (i := 2) hC; have g3 := cellEq (i := 3) hC; have g4 := cellEq (i := 4) hC; have g5 := cellEq (i := 5) hC
  clear hC
  simp only [List.getElem?_toArray, List.getElem?_cons_zero, List.getElem?_cons_succ] at g0 g1 g2 g3 g4 g5
  go_wp2_with fail
  clear g0 g1 g2 g3 g4 g5
  have hz1 := (Array.getElem?_eq_some_iff.1 (H1.out.get (w.heap.size) (Obj.cells #[.int .i64 no, .int .i64 rc, .int .i64 cl, .int .i64 dr, .int .i64 si, t] 24 (0, 0)) (by simp))).1
  refine (hF.out _ (hs'.out.below T1.out)).mono ?_; rintro e w2 ⟨rfl, hB⟩
  have H2 := Lib.hid ((H1.out.below hB).alloc (Obj.cells #[.int .i64 a, .int .i64 b] 28))
  have T2 := Lib.hid ((belowAl (thenB T1.out hB) (Obj.cells #[.int .i64 a, .int .i64 b] 28)))
  have zs2 := hB.size
  clear hB H1 T1
  go_wp2_with fail
  go_ret
  exact ⟨rfl, T2.out⟩
set_option maxRecDepth 100000 in
set_option maxHeartbeats 4000000 in
theorem later_ok (no rc cl dr si st hour la ka da a b c a2 b2 : Int) (t : Value) (pts : List (Int × Int)) (hF : ∀ w, PtSl w t pts → Calls Try.prog 5 #[gv no rc cl dr si t, .int .i64 st, .int .i64 hour] w fun e w' => e = .returned (.tuple #[.agg #[.int .i64 a, .int .i64 b], .int .i64 c]) ∧ Below w.heap.size w w') (h1 : c = 0) (hS : ∀ w, PtSl w t pts → Calls Try.prog 5 #[gv no rc (max 0 (cl - ka)) (max 0 (dr - da)) (max si (min hour (si + la))) t, .int .i64 st, .int .i64 hour] w fun e w' => e = .returned (.tuple #[.agg #[.int .i64 a2, .int .i64 b2], .int .i64 0]) ∧ Below w.heap.size w w') (l1 : a ≤ a2) (l2 : b2 ≤ b) (q0 : 0 ≤ cl ∧ cl ≤ 1000) (q1 : 0 ≤ dr ∧ dr ≤ 1000) (q2 : 0 ≤ si ∧ si ≤ 4096) (q3 : 0 ≤ hour ∧ hour ≤ 4096) (u0 : 0 ≤ la ∧ la ≤ 65535) (u1 : 0 ≤ ka ∧ ka ≤ 65535) (u2 : 0 ≤ da ∧ da ≤ 65535) (w : World) (hs : PtSl w t pts) :
    Calls Try.prog 3 #[gv no rc cl dr si t, .int .i64 st, .int .i64 hour, .int .u16 la, .int .u16 ka, .int .u16 da] w fun e w' => e = .returned (.bool true) ∧ Below w.heap.size w w' := by
  replace hF := Lib.hid hF
  have hs' := Lib.hid hs
  clear hs
  subst h1
  obtain ⟨ao, cap, rfl, _⟩ := hs'.out
  replace hS := Lib.hid hS
  have W1 : IntKind.i64.wrap (si + la) = si + la := by rw [IntKind.wrap_i64] <;> omega
  have W2 : IntKind.i64.wrap (cl - ka) = cl - ka := by rw [IntKind.wrap_i64] <;> omega
  have W3 : IntKind.i64.wrap (dr - da) = dr - da := by rw [IntKind.wrap_i64] <;> omega
  have W4 : IntKind.i64.wrap la = la := by rw [IntKind.wrap_i64] <;> omega
  have W5 : IntKind.i64.wrap ka = ka := by rw [IntKind.wrap_i64] <;> omega
  have W6 : IntKind.i64.wrap da = da := by rw [IntKind.wrap_i64] <;> omega
  have H0 := Lib.hid (has1 w (Obj.cells #[.int .i64 no, .int .i64 rc, .int .i64 cl, .int .i64 dr, .int .i64 si, .slice ao pts.length cap] 24))
  have T0 := Lib.hid (belowAl (Below.refl w.heap.size w) (Obj.cells #[.int .i64 no, .int .i64 rc, .int .i64 cl, .int .i64 dr, .int .i64 si, .slice ao pts.length cap] 24))
  go_enter Try.func3, Try.ntmps3
  go_wp2_with fail
  refine (sane_any _).mono ?_; rintro e w1 ⟨rfl, hB⟩
  have H1 := Lib.hid (H0.out.below hB)
  have T1 := Lib.hid ((thenB T0.out hB))
  clear hB H0 T0
  have hC := (H1.out.get (w.heap.size) (Obj.cells #[.int .i64 no, .int .i64 rc, .int .i64 cl, .int .i64 dr, .int .i64 si, .slice ao pts.length cap] 24 (0, 0)) (by simp))
  have g0 := cellEq (i := 0) hC; have g1 := cellEq (i := 1) hC; have g2 := cellEq (i := 2) hC; have g3 := cellEq (i := 3) hC; have g4 := cellEq (i := 4) hC; have g5 := cellEq (i := 5) hC
  clear hC
  simp only [List.getElem?_toArray, List.getElem?_cons_zero, List.getElem?_cons_succ] at g0 g1 g2 g3 g4 g5
  go_wp2_with fail
  clear g0 g1 g2 g3 g4 g5
  have hz1 := (Array.getElem?_eq_some_iff.1 (H1.out.get (w.heap.size) (Obj.cells #[.int .i64 no, .int .i64 rc, .int .i64 cl, .int .i64 dr, .int .i64 si, .slice ao pts.length cap] 24 (0, 0)) (by simp))).1
  refine (hF.out _ (hs'.out.below T1.out)).mono ?_; rintro e w2 ⟨rfl, hB⟩
  have H2 := Lib.hid ((H1.out.below hB).alloc (Obj.cells #[.int .i64 a, .int .i64 b] 28))
  have T2 := Lib.hid ((belowAl (thenB T1.out hB) (Obj.cells #[.int .i64 a, .int .i64 b] 28)))
  have zs2 := hB.size
  clear hB H1 T1
  have hC := (H2.out.get (w.heap.size) (Obj.cells #[.int .i64 no, .int .i64 rc, .int .i64 cl, .int .i64 dr, .int .i64 si, .slice ao pts.length cap] 24 (0, 0)) (by simp))
  have g0 := cellEq (i := 0) hC; have g1 := cellEq (i := 1) hC; have g2 := cellEq (i := 2) hC; have g3 := cellEq (i := 3) hC; have g4 := cellEq (i := 4) hC; have g5 := cellEq (i := 5) hC
  clear hC
  simp only [List.getElem?_toArray, List.getElem?_cons_zero, List.getElem?_cons_succ] at g0 g1 g2 g3 g4 g5
  have hX := (H2.out.get (w.heap.size) (Obj.cells #[.int .i64 no, .int .i64 rc, .int .i64 cl, .int .i64 dr, .int .i64 si, .slice ao pts.length cap] 24 (0, 0)) (by simp))
  have hY := World.alloc_heap_new (w2.alloc (Obj.cells #[.int .i64 a, .int .i64 b] 28)) (Obj.cells #[.int .i64 no, .int .i64 rc, .int .i64 cl, .int .i64 dr, .int .i64 si, .slice ao pts.length cap] 24)
  have hsz : w.heap.size < w2.heap.size := Nat.lt_of_lt_of_le hz1 zs2
  have hY' : ((w2.alloc (Obj.cells #[.int .i64 a, .int .i64 b] 28)).alloc (Obj.cells #[.int .i64 no, .int .i64 rc, .int .i64 cl, .int .i64 dr, .int .i64 si, .slice ao pts.length cap] 24)).heap[w2.heap.size + 1]? = some (Obj.cells #[.int .i64 no, .int .i64 rc, .int .i64 cl, .int .i64 dr, .int .i64 si, .slice ao pts.length cap] 24 (0, 0)) := by simpa using hY
  have c0 := cellEq (i := 2) hY'; have c1 := cellEq (i := 3) hY'; have c2 := cellEq (i := 4) hY'; have e0 := frozenEq (i := 2) hY'; have e1 := frozenEq (i := 3) hY'; have e2 := frozenEq (i := 4) hY'
  simp only [List.getElem?_toArray, List.getElem?_cons_zero, List.getElem?_cons_succ] at c0 c1 c2
  have hZ := alFar (Obj.cells #[.int .i64 no, .int .i64 rc, .int .i64 cl, .int .i64 dr, .int .i64 si, .slice ao pts.length cap] 24) hX
  have y0 := cellEq (i := 2) hX; have y1 := cellEq (i := 3) hX; have y2 := cellEq (i := 4) hX
  simp only [List.getElem?_toArray, List.getElem?_cons_zero, List.getElem?_cons_succ] at y0 y1 y2
  have Y0 := Lib.hid y0; have Y1 := Lib.hid y1; have Y2 := Lib.hid y2
  clear y0 y1 y2
  have z0 := cellEq (i := 2) hZ; have z1 := cellEq (i := 3) hZ; have z2 := cellEq (i := 4) hZ
  simp only [List.getElem?_toArray, List.getElem?_cons_zero, List.getElem?_cons_succ] at z0 z1 z2
  have hne : w.heap.size ≠ w2.heap.size + 1 := Nat.ne_of_lt (Nat.lt_succ_of_lt hsz)
  have hne' : w2.heap.size + 1 ≠ w.heap.size := hne.symm
  clear hX hY hZ
  go_wp2_with fail
  clear g0 g1 g2 g3 g4 g5
  go_region_held3 (fun w' => w'.cell? ⟨w.heap.size, 2, none⟩ = some (.int .i64 cl) ∧ w'.cell? ⟨w.heap.size, 3, none⟩ = some (.int .i64 dr) ∧ w'.cell? ⟨w.heap.size, 4, none⟩ = some (.int .i64 si)) (first | exact ⟨z0, z1, z2⟩ | exact ⟨cellAl _ Y0.out, cellAl _ Y1.out, cellAl _ Y2.out⟩ | go_keep) (fail)
  all_goals (
    clear z0 z1 z2 c0 c1 c2 e0 e1 e2 hY'
    have H9 := Lib.hid (Has.drew (Has.alloc H2.out (Obj.cells #[.int .i64 no, .int .i64 rc, .int .i64 (max 0 (cl - ka)), .int .i64 (max 0 (dr - da)), .int .i64 (max si (min hour (si + la))), .slice ao pts.length cap] 24)))
    have T9 := Lib.hid (belowDr (belowAl T2.out (Obj.cells #[.int .i64 no, .int .i64 rc, .int .i64 (max 0 (cl - ka)), .int .i64 (max 0 (dr - da)), .int .i64 (max si (min hour (si + la))), .slice ao pts.length cap] 24)))
    clear H2 T2
    have hX := H9.out.get (w2.heap.size + 1) (Obj.cells #[.int .i64 no, .int .i64 rc, .int .i64 (max 0 (cl - ka)), .int .i64 (max 0 (dr - da)), .int .i64 (max si (min hour (si + la))), .slice ao pts.length cap] 24 (0, 0)) (by simp)
    have g0 := cellEq (i := 0) hX; have g1 := cellEq (i := 1) hX; have g2 := cellEq (i := 2) hX; have g3 := cellEq (i := 3) hX; have g4 := cellEq (i := 4) hX; have g5 := cellEq (i := 5) hX
    clear hX
    simp only [List.getElem?_toArray, List.getElem?_cons_zero, List.getElem?_cons_succ] at g0 g1 g2 g3 g4 g5
    go_wp2_with fail
    clear g0 g1 g2 g3 g4 g5
    refine (hS.out _ (hs'.out.below T9.out)).mono ?_; rintro e w10 ⟨rfl, hB⟩
    have H10 := Lib.hid ((H9.out.below hB).alloc (Obj.cells #[.int .i64 a2, .int .i64 b2] 28))
    have T10 := Lib.hid ((belowAl (thenB T9.out hB) (Obj.cells #[.int .i64 a2, .int .i64 b2] 28)))
    clear hB H9 T9
    have hC := (H10.out.get (w2.heap.size) (Obj.cells #[.int .i64 a, .int .i64 b] 28 (0, 0)) (by simp))
    have x0 := cellEq (i := 0) hC; have x1 := cellEq (i := 1) hC
    clear hC
    simp only [List.getElem?_toArray, List.getElem?_cons_zero, List.getElem?_cons_succ] at x0 x1
    have hC := (H10.out.get (w10.heap.size) (Obj.cells #[.int .i64 a2, .int .i64 b2] 28 (0, 0)) (by simp))
    have y0 := cellEq (i := 0) hC; have y1 := cellEq (i := 1) hC
    clear hC
    simp only [List.getElem?_toArray, List.getElem?_cons_zero, List.getElem?_cons_succ] at y0 y1
    go_wp2_with fail
    go_ret
    exact ⟨by first | (simp; done) | (simp; omega), T10.out⟩)
theorem bounds_u16 {n : Int} (h : (Lit.int .u16 n).wf = true) : 0 ≤ n ∧ n ≤ 65535 := by
  simpa [Lit.wf, IntKind.min, IntKind.max, IntKind.signed, IntKind.bits] using h
theorem chk_fields {no rc cl dr si cl' dr' si' : Int} {pts : List (Int × Int)} (h : chk no rc cl dr si pts = 0) (h1 : 0 ≤ cl' ∧ cl' ≤ 1000) (h2 : 0 ≤ dr' ∧ dr' ≤ 1000) (h3 : 0 ≤ si' ∧ si' ≤ 4096) : chk no rc cl' dr' si' pts = 0 := by
  unfold chk at h ⊢
  split at h
  · cases h
  · rename_i hl
    rw [if_neg hl]
    split at h
    · rename_i hq
      simp only [fOk, Bool.and_eq_true] at hq
      rw [if_pos]
      simp only [fOk, Bool.and_eq_true]
      exact ⟨⟨⟨⟨hq.1.1.1.1, inB_mk h1, inB_mk h2⟩, inB_mk h3⟩, hq.1.2⟩, hq.2⟩
    · cases h
theorem GaugeLater_any (v : Value) (st hour la ka da : Int) (w0 : (Lit.int .u16 la).wf = true) (w1 : (Lit.int .u16 ka).wf = true) (w2 : (Lit.int .u16 da).wf = true) (w : World) (h : ∃ (no rc cl dr si : Int) (t : Value) (pts : List (Int × Int)), v = gv no rc cl dr si t ∧ PtSl w t pts) :
    Calls Try.prog 3 #[v, .int .i64 st, .int .i64 hour, .int .u16 la, .int .u16 ka, .int .u16 da] w fun e w' => e = .returned (.bool true) ∧ Below w.heap.size w w' := by
  obtain ⟨no, rc, cl, dr, si, t, pts, rfl, hs⟩ := h
  have u0 := bounds_u16 w0; have u1 := bounds_u16 w1; have u2 := bounds_u16 w2
  obtain ⟨a, b, c, hF, hc, _⟩ := read_one no rc cl dr si st hour t pts
  by_cases h1 : c ≠ 0
  · exact later_bad no rc cl dr si st hour la ka da a b c 0 0 t pts hF h1 w hs
  · have h1 : c = 0 := Classical.not_not.1 h1
    obtain ⟨hk, s0, s1, o0, o1, ea, eb⟩ := hc h1
    have hTt := chk_tab hk
    have q0 : 0 ≤ cl ∧ cl ≤ 1000 := ⟨hTt.2.1, hTt.2.2.1⟩
    have q1 : 0 ≤ dr ∧ dr ≤ 1000 := ⟨hTt.2.2.2.1, hTt.2.2.2.2.1⟩
    have q2 : 0 ≤ si ∧ si ≤ 4096 := hTt.2.2.2.2.2
    obtain ⟨a2, b2, c2, hS, hc2, hd2⟩ := read_one no rc (max 0 (cl - ka)) (max 0 (dr - da)) (max si (min hour (si + la))) st hour t pts
    have hz := hd2 (chk_fields hk (by omega) (by omega) (by omega)) (inB_mk ⟨s0, s1⟩) (inB_mk ⟨o0, o1⟩)
    obtain ⟨_, _, _, _, _, ea2, eb2⟩ := hc2 hz
    subst hz
    have hoff : offV (max 0 (cl - ka)) (max 0 (dr - da)) (max si (min hour (si + la))) hour ≤ offV cl dr si hour := by
      unfold offV
      have d1 : max 0 (hour - max si (min hour (si + la))) / 24 ≤ max 0 (hour - si) / 24 := by omega
      have d0 : 0 ≤ max 0 (hour - max si (min hour (si + la))) / 24 := by omega
      have := Int.mul_le_mul (show max 0 (dr - da) ≤ dr by omega) d1 d0 q1.1
      omega
    have h0 : 0 ≤ offV (max 0 (cl - ka)) (max 0 (dr - da)) (max si (min hour (si + la))) hour := by
      have := (offV_bd (cl := max 0 (cl - ka)) (dr := max 0 (dr - da)) (si := max si (min hour (si + la))) (hour := hour) (by omega) (by omega) (by omega) o1).1
      unfold offV; omega
    have mono : ∀ x y : Int, x ≤ y → lo pts x ≤ lo pts y ∧ hi pts x ≤ hi pts y := fun x y hxy => by
      cases pts with
      | nil => exact absurd rfl hTt.1.ne
      | cons u r => exact lo_mono u r hTt.1.srt x y hxy
    refine later_ok no rc cl dr si st hour la ka da a b c a2 b2 t pts hF h1 hS ?_ ?_ q0 q1 q2 ⟨o0, o1⟩ u0 u1 u2 w hs
    · rw [ea, ea2]; exact (mono _ _ (by unfold end0; omega)).1
    · rw [eb, eb2]; exact (mono _ _ (by unfold end1; omega)).2
end Go.Proofs.Ytmmoenbdlfmgeac
