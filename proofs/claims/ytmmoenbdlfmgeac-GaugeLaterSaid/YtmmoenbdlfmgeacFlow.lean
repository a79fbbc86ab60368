/- DERIVED. Gauges: the contracts of flow and Flow. -/
import Derived.Test.YtmmoenbdlfmgeacFirst
import Derived.Test.YtmmoenbdlfmgeacLine
import Derived.Deep.DeepCutAuto
import Derived.RangeFuncBox
namespace Go.Proofs.Ytmmoenbdlfmgeac
open Go.RowKit
set_option linter.unusedVariables false
set_option linter.unusedSimpArgs false
/-- What the function that flow hands on sees. -/
def KF (G S b off cap : Nat) (st : Int) (pts : List (Int × Int)) (n : Nat) (w : World) : Prop :=
  n ≤ w.heap.size ∧ PtsAt n w b off pts ∧ G < n ∧ S < n ∧ w.cell? ⟨G, 5, none⟩ = some (.slice (some ⟨b, off, none⟩) pts.length cap) ∧ w.cell? ⟨S, 0, none⟩ = some (.int .i64 st)
theorem KF.below {G S b off cap : Nat} {st : Int} {pts : List (Int × Int)} {n : Nat} {a w : World} (h : KF G S b off cap st pts n a) (hB : Below a.heap.size a w) : KF G S b off cap st pts n w := by
  obtain ⟨h0, h1, h2, h3, h4, h5⟩ := h
  exact ⟨Nat.le_trans h0 hB.size, h1.below (hB.mono h0), h2, h3, (hB.cell (p := ⟨G, 5, none⟩) (Nat.lt_of_lt_of_le h2 h0)).trans h4, (hB.cell (p := ⟨S, 0, none⟩) (Nat.lt_of_lt_of_le h3 h0)).trans h5⟩

set_option maxHeartbeats 1000000 in
theorem flow1_any (G S b off cap : Nat) (st : Int) (pts : List (Int × Int)) (hl : pts.length ≤ 64) (n i : Nat) (hi : i < pts.length) (w : World) (hk : KF G S b off cap st pts n w) :
    Calls Try.prog 15 (#[.int .i64 i] ++ #[.pointer (some ⟨G, 0, none⟩), .pointer (some ⟨S, 0, none⟩)]) w fun e w' => e = .returned (.bool (decide (st ≤ (pts[i]?.getD (0, 0)).1))) ∧ Below w.heap.size w w' := by
  obtain ⟨h0, h1, h2, h3, kT, kS⟩ := hk
  have ⟨cX, cY⟩ := h1.2 i hi
  generalize pts[i]?.getD (0, 0) = x at *
  have hib : (i : Int) < (pts.length : Int) := by omega
  go_enter Try.func15, Try.ntmps15
  go_wp2_with fail
  go_quiet (fail)
  go_wp2_with fail
  go_ret
  exact ⟨rfl, by repeat' (first | exact Below.refl _ _ | refine belowAl ?_ _ | refine belowDr ?_ | refine belowDn ?_ _)⟩

theorem cellEq {w : World} {B i : Nat} {cs : Array Value} {ty : TypeId} (h : w.heap[B]? = some (.cells cs ty (0, 0))) : w.cell? ⟨B, i, none⟩ = cs[i]? := by simp [World.cell?, h]
theorem frozenEq {w : World} {B i : Nat} {cs : Array Value} {ty : TypeId} (h : w.heap[B]? = some (.cells cs ty (0, 0))) : w.frozen? ⟨B, i, none⟩ = false := by simp [World.frozen?, h]
set_option maxRecDepth 100000 in
set_option maxHeartbeats 2000000 in
theorem flow_any (no rc cl dr si st : Int) (t : Value) (pts : List (Int × Int)) (hT : Tab pts) (hst : 0 ≤ st ∧ st ≤ 1048576) (w : World) (hs : PtSl w t pts) :
    Calls Try.prog 10 #[gv no rc cl dr si t, .int .i64 st] w fun e w' => e = .returned (.agg #[.int .i64 (lo pts st), .int .i64 (hi pts st)]) ∧ Below w.heap.size w w' := by
  obtain ⟨ao, cap, rfl, hc⟩ := hs
  obtain ⟨b, off, rfl, hI⟩ := hc hT.ne
  have hT' := Lib.hid hT
  have hlen := hT.le
  have hpos : 0 < pts.length := List.length_pos_iff.2 hT.ne
  have h1 : PtsAt (w.heap.size + 3) (((w.alloc (.cells #[.int .i64 no, .int .i64 rc, .int .i64 cl, .int .i64 dr, .int .i64 si, .slice (some ⟨b, off, none⟩) pts.length cap] 24)).alloc (.cells #[.int .i64 st] 3)).alloc (.cells #[.int .i64 0, .int .i64 0] 28)) b off pts := by
    have := hI.below ((((Below.refl w.heap.size w).alloc (Nat.le_refl _) (.cells #[.int .i64 no, .int .i64 rc, .int .i64 cl, .int .i64 dr, .int .i64 si, .slice (some ⟨b, off, none⟩) pts.length cap] 24)).alloc (by simp) (.cells #[.int .i64 st] 3)).alloc (by simp <;> omega) (.cells #[.int .i64 0, .int .i64 0] 28))
    exact ⟨by have := this.1; omega, this.2⟩
  have hK0 : KF w.heap.size (w.heap.size + 1) b off cap st pts (w.heap.size + 3) (((w.alloc (.cells #[.int .i64 no, .int .i64 rc, .int .i64 cl, .int .i64 dr, .int .i64 si, .slice (some ⟨b, off, none⟩) pts.length cap] 24)).alloc (.cells #[.int .i64 st] 3)).alloc (.cells #[.int .i64 0, .int .i64 0] 28)) :=
    ⟨by simp, h1, by omega, by omega, by go_simp, by go_simp⟩
  have hB0 : Below w.heap.size w (((w.alloc (.cells #[.int .i64 no, .int .i64 rc, .int .i64 cl, .int .i64 dr, .int .i64 si, .slice (some ⟨b, off, none⟩) pts.length cap] 24)).alloc (.cells #[.int .i64 st] 3)).alloc (.cells #[.int .i64 0, .int .i64 0] 28)) := belowAl (belowAl (belowAl (Below.refl _ _) _) _) _
  have hR0 : (((w.alloc (.cells #[.int .i64 no, .int .i64 rc, .int .i64 cl, .int .i64 dr, .int .i64 si, .slice (some ⟨b, off, none⟩) pts.length cap] 24)).alloc (.cells #[.int .i64 st] 3)).alloc (.cells #[.int .i64 0, .int .i64 0] 28)).heap[w.heap.size + 1 + 1]? = some (.cells #[.int .i64 0, .int .i64 0] 28 (0, 0)) := by
    have := World.alloc_heap_new ((w.alloc (.cells #[.int .i64 no, .int .i64 rc, .int .i64 cl, .int .i64 dr, .int .i64 si, .slice (some ⟨b, off, none⟩) pts.length cap] 24)).alloc (.cells #[.int .i64 st] 3)) (.cells #[.int .i64 0, .int .i64 0] 28)
    simpa using this
  go_enter Try.func10, Try.ntmps10
  go_wp2_with fail
  refine (first_any pts.length (by omega) 15 #[.pointer (some ⟨w.heap.size, 0, none⟩), .pointer (some ⟨w.heap.size + 1, 0, none⟩)] (fun i => decide (st ≤ (pts[i]?.getD (0, 0)).1)) (KF w.heap.size (w.heap.size + 1) b off cap st pts (w.heap.size + 3)) _ call28 (fun a b h hB => h.below hB) (fun i a hi hk => flow1_any _ _ _ _ _ _ _ hT'.out.le _ i hi a hk) hK0).mono ?_
  rintro e w3 ⟨k, hkl, hk1, hk2, rfl, hB⟩
  have hK := hK0.below hB
  have hBw := thenB hB0 hB
  have hR := (hB.block (w.heap.size + 1 + 1) (by simp)).trans hR0
  obtain ⟨hs0, hP, hg, hs1, kT, kS⟩ := hK
  clear hK0 hB hB0 hR0 h1 hc
  have kR0 := cellEq (i := 0) hR; have kR1 := cellEq (i := 1) hR; have fR0 := frozenEq (i := 0) hR; have fR1 := frozenEq (i := 1) hR
  simp at kR0 kR1
  simp only [decide_eq_false_iff_not, decide_eq_true_eq] at hk1 hk2
  by_cases hkn : k = pts.length
  · obtain ⟨j, hj⟩ : ∃ j, pts.length = j + 1 := ⟨pts.length - 1, by omega⟩
    have hcmp : ((k : Int) == (pts.length : Int)) = true := by simp [hkn]
    have ⟨pX, pY⟩ := hP.2 j (by omega)
    have hlast := lo_last pts hT'.out.srt j st (by omega) (by
      rcases hk1 with h | h
      · omega
      · rw [hkn, hj] at h; simp only [Nat.add_sub_cancel] at h; show (at_ pts j).1 ≤ st; unfold at_; omega)
    have hyy : (at_ pts j) = pts[j]?.getD (0, 0) := rfl
    rw [hyy] at hlast
    generalize pts[j]?.getD (0, 0) = y at *
    have HL := Lib.hid hlast
    have wk : IntKind.i64.wrap ((k : Int) - 1) = (j : Int) := by rw [IntKind.wrap_i64] <;> omega
    have jb : (j : Int) < (pts.length : Int) := by omega
    clear hlast hyy hk1 hk2
    go_wp2_with fail
    refine bodyPost_ret (v := .agg #[.int .i64 y.2, .int .i64 y.2]) (by simp [results, Try.results10, go_sem, kR0, kR1, fR0, fR1]) rfl ?_
    exact ⟨by rw [HL.out.1, HL.out.2], by repeat' (first | exact hBw | refine belowAl ?_ _ | refine belowDr ?_ | refine belowDn ?_ _ | refine Below.setCell ?_ (by simp; omega) _)⟩
  · have hkl' : k < pts.length := by omega
    have hcmp : ((k : Int) == (pts.length : Int)) = false := by simp; omega
    have kb : (k : Int) < (pts.length : Int) := by omega
    have ⟨pX, pY⟩ := hP.2 k hkl'
    have hyy : (at_ pts k) = pts[k]?.getD (0, 0) := rfl
    by_cases hk0 : k = 0
    · have hz : ((k : Int) == 0) = true := by simp; omega
      have hz2 : (k == 0) = true := by simp; omega
      have hfir : lo pts st = (at_ pts k).2 ∧ hi pts st = (at_ pts k).2 := by
        subst hk0
        cases pts with
        | nil => simp at hkl'
        | cons a r =>
          rw [at_zero]
          refine lo_first a r st ?_
          rcases hk2 with h | h
          · simp at h
          · simpa using h
      rw [hyy] at hfir
      generalize pts[k]?.getD (0, 0) = y at *
      have HL := Lib.hid hfir
      clear hfir hyy hk1 hk2 hk0
      go_wp2_with fail
      trace_state
      go_quiet (fail)
      go_wp2_with fail
      refine bodyPost_ret (v := .agg #[.int .i64 y.2, .int .i64 y.2]) (by simp [results, Try.results10, go_sem, kR0, kR1, fR0, fR1]) rfl ?_
      exact ⟨by rw [HL.out.1, HL.out.2], by repeat' (first | exact hBw | refine belowAl ?_ _ | refine belowDr ?_ | refine belowDn ?_ _ | refine Below.setCell ?_ (by simp; omega) _)⟩
    · have hz : ((k : Int) == 0) = false := by simp; omega
      have hz2 : (k == 0) = false := by simp; omega
      have hle : st ≤ (at_ pts k).1 := by
        rcases hk2 with h | h
        · exact absurd h hkn
        · exact h
      by_cases heq : (at_ pts k).1 = st
      · have hfir := lo_at pts hT'.out.srt k hkl'
        rw [heq] at hfir
        rw [hyy] at hfir heq
        generalize pts[k]?.getD (0, 0) = y at *
        have hq : (y.1 == st) = true := by simpa using heq
        have HL := Lib.hid hfir
        clear hfir hyy hk1 hk2 hk0 hle
        go_wp2_with fail
        go_quiet (fail)
        go_wp2_with fail
        refine bodyPost_ret (v := .agg #[.int .i64 y.2, .int .i64 y.2]) (by simp [results, Try.results10, go_sem, kR0, kR1, fR0, fR1]) rfl ?_
        exact ⟨by rw [HL.out.1, HL.out.2], by repeat' (first | exact hBw | refine belowAl ?_ _ | refine belowDr ?_ | refine belowDn ?_ _ | refine Below.setCell ?_ (by simp; omega) _)⟩
      · obtain ⟨j, hj⟩ : ∃ j, k = j + 1 := ⟨k - 1, by omega⟩
        have hlt : (at_ pts j).1 < st := by
          rcases hk1 with h | h
          · omega
          · rw [hj] at h; simp only [Nat.add_sub_cancel] at h; show (pts[j]?.getD (0, 0)).1 < st; omega
        have hmid := lo_mid pts hT'.out.srt j st (by omega) hlt (by rw [← hj]; omega)
        rw [← hj] at hmid
        have ⟨qX, qY⟩ := hP.2 j (by omega)
        have b1 := hT'.out.bd j (by omega)
        have b2 := hT'.out.bd k hkl'
        have hsr := hT'.out.srt.lt j (by omega)
        rw [← hj] at hsr
        have hxx : (at_ pts j) = pts[j]?.getD (0, 0) := rfl
        rw [hyy] at hmid heq b2 hsr hle
        rw [hxx] at hmid hlt b1 hsr
        generalize pts[k]?.getD (0, 0) = y at *
        generalize pts[j]?.getD (0, 0) = x at *
        obtain ⟨x1, x2⟩ := x
        obtain ⟨y1, y2⟩ := y
        simp only at *
        have hq : (y1 == st) = false := by simpa using heq
        have hw : y1 - x1 ≠ 0 := by omega
        have hw2 : ((y1 - x1) == 0) = false := by simpa using hw
        have m0 := seg_nn (x1, x2) (y1, y2) st (by simp; omega) (by simp; omega)
        have m1 := seg_le (x1, x2) (y1, y2) st (by simp; omega) (by simp; omega) (by simp; omega)
        have m2 : (y2 - x2) * (y1 - x1) ≤ 1073741824 * 1048576 := Int.mul_le_mul (by omega) (by omega) (by omega) (by omega)
        simp only [sLo, sHi, seg] at hmid m0 m1
        rw [← Int.tdiv_eq_ediv_of_nonneg m0, ← Int.tdiv_eq_ediv_of_nonneg (show 0 ≤ (y2 - x2) * (st - x1) + (y1 - x1) - 1 by omega)] at hmid
        have q0 : 0 ≤ ((y2 - x2) * (st - x1)).tdiv (y1 - x1) := Int.tdiv_nonneg m0 (by omega)
        have q1 : ((y2 - x2) * (st - x1)).tdiv (y1 - x1) ≤ (y2 - x2) * (st - x1) := by rw [Int.tdiv_eq_ediv_of_nonneg m0]; exact Int.ediv_le_self _ m0
        have q2 : 0 ≤ ((y2 - x2) * (st - x1) + (y1 - x1) - 1).tdiv (y1 - x1) := Int.tdiv_nonneg (by omega) (by omega)
        have q3 : ((y2 - x2) * (st - x1) + (y1 - x1) - 1).tdiv (y1 - x1) ≤ (y2 - x2) * (st - x1) + (y1 - x1) - 1 := by rw [Int.tdiv_eq_ediv_of_nonneg (by omega)]; exact Int.ediv_le_self _ (by omega)
        have m3 : (y2 - x2) * (st - x1) ≤ 1125899906842624 := by omega
        have HL := Lib.hid hmid
        have wj : IntKind.i64.wrap ((k : Int) - 1) = (j : Int) := by rw [IntKind.wrap_i64] <;> omega
        have jb : (j : Int) < (pts.length : Int) := by omega
        have W1 : IntKind.i64.wrap (((y2 - x2) * (st - x1)).tdiv (y1 - x1)) = ((y2 - x2) * (st - x1)).tdiv (y1 - x1) := by rw [IntKind.wrap_i64] <;> omega
        have W2 : IntKind.i64.wrap (x2 + ((y2 - x2) * (st - x1)).tdiv (y1 - x1)) = x2 + ((y2 - x2) * (st - x1)).tdiv (y1 - x1) := by rw [IntKind.wrap_i64] <;> omega
        have W3 : IntKind.i64.wrap ((y2 - x2) * (st - x1) + (y1 - x1)) = (y2 - x2) * (st - x1) + (y1 - x1) := by rw [IntKind.wrap_i64] <;> omega
        have W4 : IntKind.i64.wrap ((y2 - x2) * (st - x1) + (y1 - x1) - 1) = (y2 - x2) * (st - x1) + (y1 - x1) - 1 := by rw [IntKind.wrap_i64] <;> omega
        have W5 : IntKind.i64.wrap (((y2 - x2) * (st - x1) + (y1 - x1) - 1).tdiv (y1 - x1)) = ((y2 - x2) * (st - x1) + (y1 - x1) - 1).tdiv (y1 - x1) := by rw [IntKind.wrap_i64] <;> omega
        have W6 : IntKind.i64.wrap (x2 + ((y2 - x2) * (st - x1) + (y1 - x1) - 1).tdiv (y1 - x1)) = x2 + ((y2 - x2) * (st - x1) + (y1 - x1) - 1).tdiv (y1 - x1) := by rw [IntKind.wrap_i64] <;> omega
        have kw : w.heap.size + 1 < w3.heap.size := by omega
        clear hmid hyy hxx hk1 hk2 hk0 m1 m2 hj
        go_wp2_with fail
        go_quiet (fail)
        go_upto_region 8 with fail
        have hB4 : Below w.heap.size w (w3.drewN nq) := belowDn hBw _
        have kT4 : (w3.drewN nq).cell? ⟨w.heap.size, 5, none⟩ = some (.slice (some ⟨b, off, none⟩) pts.length cap) := kT
        have pX4 : (w3.drewN nq).cell? ⟨b, off + k * 2, none⟩ = some (.int .i64 y1) := pX
        have pY4 : (w3.drewN nq).cell? ⟨b, off + k * 2 + 1, none⟩ = some (.int .i64 y2) := pY
        have qX4 : (w3.drewN nq).cell? ⟨b, off + j * 2, none⟩ = some (.int .i64 x1) := qX
        have qY4 : (w3.drewN nq).cell? ⟨b, off + j * 2 + 1, none⟩ = some (.int .i64 x2) := qY
        have hR4 : (w3.drewN nq).heap[w.heap.size + 1 + 1]? = some (.cells #[.int .i64 0, .int .i64 0] 28 (0, 0)) := hR
        have kS4 : (w3.drewN nq).cell? ⟨w.heap.size + 1, 0, none⟩ = some (.int .i64 st) := kS
        have hs4 : w.heap.size + 3 ≤ (w3.drewN nq).heap.size := hs0
        have hb4 : b < (w3.drewN nq).heap.size := Nat.lt_of_lt_of_le hP.1 hs0
        clear hBw kT pX pY qX qY hR kS hs0 kR0 kR1 fR0 fR1
        generalize w3.drewN nq = w4 at *
        go_cut [8, 9] (fun s8 s9 wx => ∃ B8 B9 : Nat, s8 = .pointer (some ⟨B8, 0, none⟩) ∧ s9 = .pointer (some ⟨B9, 0, none⟩) ∧ wx.cell? ⟨B8, 0, none⟩ = some (.int .i64 x1) ∧ wx.cell? ⟨B8, 1, none⟩ = some (.int .i64 x2) ∧ wx.cell? ⟨B9, 0, none⟩ = some (.int .i64 y1) ∧ wx.cell? ⟨B9, 1, none⟩ = some (.int .i64 y2) ∧ Below w4.heap.size w4 wx ∧ w4.heap.size ≤ B8)
        case first =>
          go_region_held3 (fun w' => w'.cell? ⟨w.heap.size, 5, none⟩ = some (.slice (some ⟨b, off, none⟩) pts.length cap) ∧ w'.cell? ⟨b, off + k * 2, none⟩ = some (.int .i64 y1) ∧ w'.cell? ⟨b, off + k * 2 + 1, none⟩ = some (.int .i64 y2) ∧ w'.cell? ⟨b, off + j * 2, none⟩ = some (.int .i64 x1) ∧ w'.cell? ⟨b, off + j * 2 + 1, none⟩ = some (.int .i64 x2)) (first | exact ⟨kT4, pX4, pY4, qX4, qY4⟩ | go_keep) (fail)
          all_goals (go_wp2_with fail; go_meet; refine ⟨_, _, rfl, rfl, by go_simp, by go_simp, by go_simp, by go_simp, ?_, by simp⟩; repeat' (first | exact Below.refl _ _ | refine belowAl ?_ _ | refine belowDr ?_ | refine belowDn ?_ _ | refine Below.setCell ?_ (by simp) _))
        case rest =>
          obtain ⟨B8, B9, rfl, rfl, e1, e2, e3, e4, hB5, hb8⟩ := hcut
          have hne : w.heap.size + 1 + 1 ≠ B8 := by omega
          have hne' : B8 ≠ w.heap.size + 1 + 1 := by omega
          have hR5 := (hB5.block (w.heap.size + 1 + 1) (by omega)).trans hR4
          have kS5 := (hB5.cell (p := ⟨w.heap.size + 1, 0, none⟩) (Nat.lt_of_lt_of_le (by simp) hs4)).trans kS4
          have hB6 := thenB hB4 hB5
          have kR0 := cellEq (i := 0) hR5; have kR1 := cellEq (i := 1) hR5; have fR0 := frozenEq (i := 0) hR5; have fR1 := frozenEq (i := 1) hR5
          simp at kR0 kR1
          clear hB5 kT4 pX4 pY4 qX4 qY4 hR4 kS4
          go_wp2_with fail
          go_region_held3 (fun w' => w'.cell? ⟨B8, 1, none⟩ = some (.int .i64 x2)) (first | exact e2 | go_keep) (fail)
          all_goals (
            go_wp2_with fail
            refine bodyPost_ret (v := .agg #[.int .i64 (x2 + ((y2 - x2) * (st - x1)).tdiv (y1 - x1)), .int .i64 (x2 + ((y2 - x2) * (st - x1) + (y1 - x1) - 1).tdiv (y1 - x1))]) (by simp [results, Try.results10, go_sem, kR0, kR1, fR0, fR1, W1, W2, W3, W4, W5, W6]) rfl ?_
            exact ⟨by rw [HL.out.1, HL.out.2], by repeat' (first | exact hB6 | refine belowAl ?_ _ | refine belowDr ?_ | refine belowDn ?_ _ | refine Below.setCell ?_ (by simp; omega) _)⟩)

end Go.Proofs.Ytmmoenbdlfmgeac
