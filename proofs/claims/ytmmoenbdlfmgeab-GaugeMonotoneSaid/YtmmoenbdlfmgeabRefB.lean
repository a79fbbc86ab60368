/- DERIVED. Gauges: the reference's flow. -/
import Derived.Test.YtmmoenbdlfmgeabRefA
import Derived.Outline
namespace Go.Proofs.Ytmmoenbdlfmgeab
open Go.RowKit
set_option linter.unusedVariables false
set_option linter.unusedSimpArgs false
theorem lo_mid' (pts : List (Int × Int)) (h : Srt pts) (k : Nat) (st : Int) (hk : k + 1 < pts.length) (h1 : (at_ pts k).1 ≤ st) (h2 : st < (at_ pts (k + 1)).1) :
    lo pts st = sLo (at_ pts k) (at_ pts (k + 1)) st ∧ hi pts st = sHi (at_ pts k) (at_ pts (k + 1)) st := by
  by_cases e : (at_ pts k).1 = st
  · have := lo_at pts h k (by omega)
    rw [e] at this
    rw [this.1, this.2]
    have hs : seg (at_ pts k) (at_ pts (k + 1)) st = 0 := by unfold seg; rw [e]; simp
    unfold sLo sHi
    rw [hs]
    have hd : 0 < (at_ pts (k + 1)).1 - (at_ pts k).1 := by omega
    generalize (at_ pts (k + 1)).1 - (at_ pts k).1 = d at *
    have : (0 + d - 1) / d = 0 := Int.ediv_eq_zero_of_lt (by omega) (by omega)
    rw [this]; simp
  · exact lo_mid pts h k st hk (by omega) h2
set_option maxRecDepth 100000 in
set_option maxHeartbeats 4000000 in
theorem rflow_any (no rc cl dr si st : Int) (t : Value) (pts : List (Int × Int)) (hT : Tab pts) (hst : 0 ≤ st ∧ st ≤ 1048576) (w : World) (hs : PtSl w t pts) :
    Calls Try.prog 21 #[gv no rc cl dr si t, .int .i64 st] w fun e w' => e = .returned (.agg #[.int .i64 (lo pts st), .int .i64 (hi pts st)]) ∧ Below w.heap.size w w' := by
  obtain ⟨ao, cap, rfl, hc⟩ := hs
  obtain ⟨b, off, rfl, hI⟩ := hc hT.ne
  clear hc
  have hT' := Lib.hid hT
  have hlen := hT.le
  have hpos : 0 < pts.length := List.length_pos_iff.2 hT.ne
  obtain ⟨j, hj⟩ : ∃ j, j = pts.length - 1 := ⟨_, rfl⟩
  have hjl : j + 1 = pts.length := by omega
  have ⟨aX, aY⟩ := hI.2 0 hpos
  have ⟨zX, zY⟩ := hI.2 j (by omega)
  rw [show off + 0 * 2 = off from by omega] at aX aY
  have wj : IntKind.i64.wrap ((pts.length : Int) - 1) = (j : Int) := by rw [IntKind.wrap_i64] <;> omega
  have jb : (j : Int) < (pts.length : Int) := by omega
  have pb : (0 : Int) < (pts.length : Int) := by omega
  have hb : b < w.heap.size := hI.1
  have ha0 : at_ pts 0 = pts[0]?.getD (0, 0) := rfl
  have haj : at_ pts j = pts[j]?.getD (0, 0) := rfl
  by_cases h1 : st ≤ (at_ pts 0).1
  · have hL : lo pts st = (at_ pts 0).2 ∧ hi pts st = (at_ pts 0).2 := by
      cases pts with
      | nil => simp at hpos
      | cons a r => rw [at_zero] at h1 ⊢; exact lo_first a r st h1
    rw [ha0] at hL h1
    generalize pts[0]?.getD (0, 0) = x at *
    generalize pts[j]?.getD (0, 0) = z at *
    obtain ⟨x1, x2⟩ := x
    obtain ⟨z1, z2⟩ := z
    simp only at *
    have HL := Lib.hid hL
    have d1 : decide (st ≤ x1) = true := by simpa using h1
    clear hL h1 ha0 haj hj hjl
    have zX2 := cellAl (.cells #[.int .i64 0, .int .i64 0] 27) (cellAl (.cells #[.int .i64 no, .int .i64 rc, .int .i64 cl, .int .i64 dr, .int .i64 si, .slice (some ⟨b, off, none⟩) pts.length cap] 24) zX)
    have zY2 := cellAl (.cells #[.int .i64 0, .int .i64 0] 27) (cellAl (.cells #[.int .i64 no, .int .i64 rc, .int .i64 cl, .int .i64 dr, .int .i64 si, .slice (some ⟨b, off, none⟩) pts.length cap] 24) zY)
    have zX3 := cellAl (.cells #[.int .i64 x1, .int .i64 x2] 39) zX2
    have zY3 := cellAl (.cells #[.int .i64 x1, .int .i64 x2] 39) zY2
    go_enter Try.func21, Try.ntmps21
    go_wp2_with fail
    refine bodyPost_ret (v := .agg #[.int .i64 x2, .int .i64 x2]) (by simp [results, Try.results21, go_sem]) rfl ?_
    exact ⟨by rw [HL.out.1, HL.out.2], by repeat' (first | exact Below.refl _ _ | refine belowAl ?_ _ | refine belowDr ?_ | refine belowDn ?_ _ | refine Below.setCell ?_ (by simp <;> omega) _)⟩
  · by_cases h2 : (at_ pts j).1 ≤ st
    · have hL := lo_last pts hT.srt j st hjl h2
      rw [haj] at hL h2
      rw [ha0] at h1
      generalize pts[0]?.getD (0, 0) = x at *
      generalize pts[j]?.getD (0, 0) = z at *
      obtain ⟨x1, x2⟩ := x
      obtain ⟨z1, z2⟩ := z
      simp only at *
      have HL := Lib.hid hL
      have d1 : decide (st ≤ x1) = false := by simpa using h1
      have d2 : decide (z1 ≤ st) = true := by simpa using h2
      clear hL h1 h2 ha0 haj hj hjl
      have zX2 := cellAl (.cells #[.int .i64 0, .int .i64 0] 27) (cellAl (.cells #[.int .i64 no, .int .i64 rc, .int .i64 cl, .int .i64 dr, .int .i64 si, .slice (some ⟨b, off, none⟩) pts.length cap] 24) zX)
      have zY2 := cellAl (.cells #[.int .i64 0, .int .i64 0] 27) (cellAl (.cells #[.int .i64 no, .int .i64 rc, .int .i64 cl, .int .i64 dr, .int .i64 si, .slice (some ⟨b, off, none⟩) pts.length cap] 24) zY)
      have zX3 := cellAl (.cells #[.int .i64 x1, .int .i64 x2] 39) zX2
      have zY3 := cellAl (.cells #[.int .i64 x1, .int .i64 x2] 39) zY2
      go_enter Try.func21, Try.ntmps21
      go_wp2_with fail
      refine bodyPost_ret (v := .agg #[.int .i64 z2, .int .i64 z2]) (by simp [results, Try.results21, go_sem]) rfl ?_
      exact ⟨by rw [HL.out.1, HL.out.2], by repeat' (first | exact Below.refl _ _ | refine belowAl ?_ _ | refine belowDr ?_ | refine belowDn ?_ _ | refine Below.setCell ?_ (by simp <;> omega) _)⟩
    · have e1 : (at_ pts 0).1 ≤ st := by omega
      have e2 : st < (at_ pts j).1 := by omega
      have E1 := Lib.hid e1
      have E2 := Lib.hid e2
      have HJ := Lib.hid hjl
      rw [haj] at h2
      rw [ha0] at h1
      generalize pts[0]?.getD (0, 0) = x at *
      generalize pts[j]?.getD (0, 0) = z at *
      obtain ⟨x1, x2⟩ := x
      obtain ⟨z1, z2⟩ := z
      simp only at *
      have d1 : decide (st ≤ x1) = false := by simpa using h1
      have d2 : decide (z1 ≤ st) = false := by simpa using h2
      clear h1 h2 e1 e2 ha0 haj hj hjl
      have zX2 := cellAl (.cells #[.int .i64 0, .int .i64 0] 27) (cellAl (.cells #[.int .i64 no, .int .i64 rc, .int .i64 cl, .int .i64 dr, .int .i64 si, .slice (some ⟨b, off, none⟩) pts.length cap] 24) zX)
      have zY2 := cellAl (.cells #[.int .i64 0, .int .i64 0] 27) (cellAl (.cells #[.int .i64 no, .int .i64 rc, .int .i64 cl, .int .i64 dr, .int .i64 si, .slice (some ⟨b, off, none⟩) pts.length cap] 24) zY)
      have zX3 := cellAl (.cells #[.int .i64 x1, .int .i64 x2] 39) zX2
      have zY3 := cellAl (.cells #[.int .i64 x1, .int .i64 x2] 39) zY2
      have kG1 : (w.alloc (.cells #[.int .i64 no, .int .i64 rc, .int .i64 cl, .int .i64 dr, .int .i64 si, .slice (some ⟨b, off, none⟩) pts.length cap] 24)).cell? ⟨w.heap.size, 5, none⟩ = some (.slice (some ⟨b, off, none⟩) pts.length cap) := by go_simp
      have kT0 : ((((w.alloc (.cells #[.int .i64 no, .int .i64 rc, .int .i64 cl, .int .i64 dr, .int .i64 si, .slice (some ⟨b, off, none⟩) pts.length cap] 24)).alloc (.cells #[.int .i64 0, .int .i64 0] 27)).alloc (.cells #[.int .i64 x1, .int .i64 x2] 39)).alloc (.cells #[.int .i64 z1, .int .i64 z2] 39)).cell? ⟨w.heap.size, 5, none⟩ = some (.slice (some ⟨b, off, none⟩) pts.length cap) := cellAl _ (cellAl _ (cellAl _ kG1))
      have hB0 : Below w.heap.size w ((((w.alloc (.cells #[.int .i64 no, .int .i64 rc, .int .i64 cl, .int .i64 dr, .int .i64 si, .slice (some ⟨b, off, none⟩) pts.length cap] 24)).alloc (.cells #[.int .i64 0, .int .i64 0] 27)).alloc (.cells #[.int .i64 x1, .int .i64 x2] 39)).alloc (.cells #[.int .i64 z1, .int .i64 z2] 39)) := belowAl (belowAl (belowAl (belowAl (Below.refl _ _) _) _) _) _
      have hR0 : ((((w.alloc (.cells #[.int .i64 no, .int .i64 rc, .int .i64 cl, .int .i64 dr, .int .i64 si, .slice (some ⟨b, off, none⟩) pts.length cap] 24)).alloc (.cells #[.int .i64 0, .int .i64 0] 27)).alloc (.cells #[.int .i64 x1, .int .i64 x2] 39)).alloc (.cells #[.int .i64 z1, .int .i64 z2] 39)).heap[w.heap.size + 1]? = some (.cells #[.int .i64 0, .int .i64 0] 27 (0, 0)) := alFar _ (alFar _ (by
        have := World.alloc_heap_new (w.alloc (.cells #[.int .i64 no, .int .i64 rc, .int .i64 cl, .int .i64 dr, .int .i64 si, .slice (some ⟨b, off, none⟩) pts.length cap] 24)) (.cells #[.int .i64 0, .int .i64 0] 27)
        simpa using this))
      have hz0 : w.heap.size + 2 ≤ ((((w.alloc (.cells #[.int .i64 no, .int .i64 rc, .int .i64 cl, .int .i64 dr, .int .i64 si, .slice (some ⟨b, off, none⟩) pts.length cap] 24)).alloc (.cells #[.int .i64 0, .int .i64 0] 27)).alloc (.cells #[.int .i64 x1, .int .i64 x2] 39)).alloc (.cells #[.int .i64 z1, .int .i64 z2] 39)).heap.size := by simp <;> omega
      have hP0 := hI.below hB0
      clear kG1
      go_enter Try.func21, Try.ntmps21
      go_wp2_with fail
      generalize ((((w.alloc (.cells #[.int .i64 no, .int .i64 rc, .int .i64 cl, .int .i64 dr, .int .i64 si, .slice (some ⟨b, off, none⟩) pts.length cap] 24)).alloc (.cells #[.int .i64 0, .int .i64 0] 27)).alloc (.cells #[.int .i64 x1, .int .i64 x2] 39)).alloc (.cells #[.int .i64 z1, .int .i64 z2] 39)) = w4 at *
      clear zX zY zX2 zY2 zX3 zY3 aX aY
      go_loopw [7] (fun c wr => ∃ k : Nat, k + 1 < pts.length ∧ c = .int .i64 k ∧ (at_ pts k).1 ≤ st ∧ wr = w4) (fun c _ => pts.length - (intOf c).toNat)
      case atStart => 
        have h1 := HJ.out
        have h2 : 0 < j := by
          rcases Nat.eq_zero_or_pos j with h | h
          · have h3 := E1.out; have h4 := E2.out; rw [h] at h4; omega
          · exact h
        exact ⟨0, by omega, rfl, E1.out, rfl⟩
      case round =>
        obtain ⟨k, hk, rfl, hle, rfl⟩ := hrel
        have HLE := Lib.hid hle
        clear hle
        have ⟨pX, pY⟩ := hP0.2 (k + 1) hk
        have ⟨qX, qY⟩ := hP0.2 k (by omega)
        have hyy : at_ pts (k + 1) = pts[k + 1]?.getD (0, 0) := rfl
        have hxx : at_ pts k = pts[k]?.getD (0, 0) := rfl
        have kb : (k : Int) + 1 < (pts.length : Int) := by omega
        have kb2 : ((k + 1 : Nat) : Int) < (pts.length : Int) := by omega
        have kb3 : (k : Int) < (pts.length : Int) := by omega
        by_cases hgo : (at_ pts (k + 1)).1 ≤ st
        · have HGO := Lib.hid hgo
          rw [hyy] at hgo
          generalize pts[k + 1]?.getD (0, 0) = y at *
          generalize pts[k]?.getD (0, 0) = x at *
          obtain ⟨u1, u2⟩ := x
          obtain ⟨y1, y2⟩ := y
          simp only at *
          have d3 : decide (y1 ≤ st) = true := by simpa using hgo
          have hk2 : k + 1 + 1 < pts.length := by
            have h1 := HJ.out
            rcases Nat.lt_or_ge (k + 1 + 1) pts.length with h | h
            · exact h
            · have h2 : k + 1 = j := by omega
              have h3 := HGO.out; rw [h2] at h3; have h4 := E2.out; omega
          clear hgo hyy hxx
          go_wp2_with fail
          go_roundw
          case rel => exact ⟨k + 1, hk2, by go_num, HGO.out, trivial⟩
          case measure => simp [intOf]; omega
        · have hlt : st < (at_ pts (k + 1)).1 := by omega
          have hmid := lo_mid' pts hT'.out.srt k st hk HLE.out hlt
          have b1 := hT'.out.bd k (by omega)
          have b2 := hT'.out.bd (k + 1) hk
          have hsr := hT'.out.srt.lt k hk
          have hle := HLE.out
          rw [hyy] at hmid b2 hsr hlt hgo
          rw [hxx] at hmid b1 hsr hle
          generalize pts[k + 1]?.getD (0, 0) = y at *
          generalize pts[k]?.getD (0, 0) = x at *
          obtain ⟨x1, x2⟩ := x
          obtain ⟨y1, y2⟩ := y
          simp only at *
          have d3 : decide (y1 ≤ st) = false := by simpa using hgo
          have hw : y1 - x1 ≠ 0 := by omega
          have hw2 : ((y1 - x1) == 0) = false := by simpa using hw
          have m0 := seg_nn (x1, x2) (y1, y2) st (by simp; omega) (by simp; omega)
          have m1 := seg_le (x1, x2) (y1, y2) st (by simp; omega) (by simp; omega) (by simp; omega)
          have m2 : (y2 - x2) * (y1 - x1) ≤ 1073741824 * 1048576 := Int.mul_le_mul (by omega) (by omega) (by omega) (by omega)
          simp only [sLo, sHi, seg] at hmid m0 m1
          rw [← Int.tdiv_eq_ediv_of_nonneg m0, ← Int.tdiv_eq_ediv_of_nonneg (show 0 ≤ (y2 - x2) * (st - x1) + (y1 - x1) - 1 by omega)] at hmid
          have q0 : 0 ≤ ((y2 - x2) * (st - x1)).tdiv (y1 - x1) := Int.tdiv_nonneg m0 (by omega)
          have q1 : ((y2 - x2) * (st - x1)).tdiv (y1 - x1) ≤ (y2 - x2) * (st - x1) := by rw [Int.tdiv_eq_ediv_of_nonneg m0]; exact Int.ediv_le_self _ m0
          have q2 : 0 ≤ ((y2 - x2) * (st - x1) + (y1 - x1) - 1).tdiv (y1 - x1) := Int.tdiv_nonneg (by omega) (by omega)
          have q3 : ((y2 - x2) * (st - x1) + (y1 - x1) - 1).tdiv (y1 - x1) ≤ (y2 - x2) * (st - x1) + (y1 - x1) - 1 := by rw [Int.tdiv_eq_ediv_of_nonneg (by omega)]; exact Int.ediv_le_self _ (by omega)
          have m3 : (y2 - x2) * (st - x1) ≤ 1125899906842624 := by omega
          have HL := Lib.hid hmid
          have W1 : IntKind.i64.wrap (((y2 - x2) * (st - x1)).tdiv (y1 - x1)) = ((y2 - x2) * (st - x1)).tdiv (y1 - x1) := by rw [IntKind.wrap_i64] <;> omega
          have W2 : IntKind.i64.wrap (x2 + ((y2 - x2) * (st - x1)).tdiv (y1 - x1)) = x2 + ((y2 - x2) * (st - x1)).tdiv (y1 - x1) := by rw [IntKind.wrap_i64] <;> omega
          have W3 : IntKind.i64.wrap ((y2 - x2) * (st - x1) + (y1 - x1)) = (y2 - x2) * (st - x1) + (y1 - x1) := by rw [IntKind.wrap_i64] <;> omega
          have W4 : IntKind.i64.wrap ((y2 - x2) * (st - x1) + (y1 - x1) - 1) = (y2 - x2) * (st - x1) + (y1 - x1) - 1 := by rw [IntKind.wrap_i64] <;> omega
          have W5 : IntKind.i64.wrap (((y2 - x2) * (st - x1) + (y1 - x1) - 1).tdiv (y1 - x1)) = ((y2 - x2) * (st - x1) + (y1 - x1) - 1).tdiv (y1 - x1) := by rw [IntKind.wrap_i64] <;> omega
          have W6 : IntKind.i64.wrap (x2 + ((y2 - x2) * (st - x1) + (y1 - x1) - 1).tdiv (y1 - x1)) = x2 + ((y2 - x2) * (st - x1) + (y1 - x1) - 1).tdiv (y1 - x1) := by rw [IntKind.wrap_i64] <;> omega
          clear hmid hyy hxx m1 m2 hgo
          have hR1 := alFar (.cells #[.int .i64 y1, .int .i64 y2] 39) (alFar (.cells #[.int .i64 x1, .int .i64 x2] 39) hR0)
          have kR0 := cellEq (i := 0) hR1; have kR1 := cellEq (i := 1) hR1; have fR0 := frozenEq (i := 0) hR1; have fR1 := frozenEq (i := 1) hR1
          simp only [List.getElem?_toArray, List.getElem?_cons_zero, List.getElem?_cons_succ] at kR0 kR1
          clear hR1
          have hne : w.heap.size + 1 ≠ wr.heap.size := by omega
          have hne' : w.heap.size + 1 ≠ wr.heap.size + 1 := by omega
          have hzr : w.heap.size + 1 < wr.heap.size := by omega
          have pX' := cellAl (.cells #[.int .i64 x1, .int .i64 x2] 39) pX
          have pY' := cellAl (.cells #[.int .i64 x1, .int .i64 x2] 39) pY
          have kT' := cellAl (.cells #[.int .i64 x1, .int .i64 x2] 39) kT0
          go_wp2_with fail
          go_region_held3 (fun w' => w'.cell? ⟨wr.heap.size, 1, none⟩ = some (.int .i64 x2)) (first | go_simp | go_keep) (fail)
          all_goals (
            go_wp2_with fail

            refine bodyPost_ret (v := .agg #[.int .i64 (x2 + ((y2 - x2) * (st - x1)).tdiv (y1 - x1)), .int .i64 (x2 + ((y2 - x2) * (st - x1) + (y1 - x1) - 1).tdiv (y1 - x1))]) (by simp [results, Try.results21, go_sem, kR0, kR1, fR0, fR1, W1, W2, W3, W4, W5, W6]) rfl ?_
            exact ⟨by rw [HL.out.1, HL.out.2], by repeat' (first | exact hB0 | refine belowAl ?_ _ | refine belowDr ?_ | refine belowDn ?_ _ | refine Below.setCell ?_ (by simp) _)⟩)
end Go.Proofs.Ytmmoenbdlfmgeab
