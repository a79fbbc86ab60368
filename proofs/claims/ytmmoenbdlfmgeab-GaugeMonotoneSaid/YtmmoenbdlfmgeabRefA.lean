/- DERIVED. Gauges: the reference's within and Check. -/
import Derived.Test.YtmmoenbdlfmgeabStage
namespace Go.Proofs.Ytmmoenbdlfmgeab
open Go.RowKit
set_option linter.unusedVariables false
set_option linter.unusedSimpArgs false
set_option maxHeartbeats 400000 in
theorem rwithin_any (n m : Int) (w : World) :
    Calls Try.prog 20 #[.int .i64 n, .int .i64 0, .int .i64 m] w fun e w' => e = .returned (.bool (inB n m)) ∧ w = w' := by
  by_cases h0 : 0 ≤ n
  · have d0 : decide (0 ≤ n) = true := by simpa using h0
    by_cases h1 : n ≤ m
    · have H := Lib.hid (inB_mk ⟨h0, h1⟩)
      have d1 : decide (n ≤ m) = true := by simpa using h1
      go_enter Try.func20, Try.ntmps20
      go_wp2
      go_ret
      exact ⟨by rw [H.out]; rfl, rfl⟩
    · have H := Lib.hid (inB_no (n := n) (m := m) (by omega))
      have d1 : decide (n ≤ m) = false := by simpa using h1
      go_enter Try.func20, Try.ntmps20
      go_wp2
      go_ret
      exact ⟨by rw [H.out]; rfl, rfl⟩
  · have H := Lib.hid (inB_no (n := n) (m := m) (by omega))
    have d0 : decide (0 ≤ n) = false := by simpa using h0
    go_enter Try.func20, Try.ntmps20
    go_wp2
    go_ret
    exact ⟨by rw [H.out]; rfl, rfl⟩
set_option maxRecDepth 100000 in
set_option maxHeartbeats 2000000 in
theorem rcheck_long (no rc cl dr si : Int) (ao : Option Addr) (cap : Nat) (pts : List (Int × Int)) (w : World) (hl : 64 < pts.length) :
    Calls Try.prog 13 #[gv no rc cl dr si (.slice ao pts.length cap)] w fun e w' => e = .returned (.int .i64 (chk no rc cl dr si pts)) ∧ Below w.heap.size w w' := by
  have d0 : decide ((64 : Int) < (pts.length : Int)) = true := by simp; omega
  have H := Lib.hid (show chk no rc cl dr si pts = 2 by simp [chk, hl])
  go_enter Try.func13, Try.ntmps13
  go_wp2
  go_ret
  exact ⟨by rw [H.out]; rfl, (Below.refl _ _).alloc (Nat.le_refl _) _⟩
set_option maxRecDepth 100000 in
set_option maxHeartbeats 2000000 in
theorem rcheck_bad (no rc cl dr si : Int) (ao : Option Addr) (cap : Nat) (pts : List (Int × Int)) (w : World) (hl : ¬ 64 < pts.length) (hf : ¬ (fOk no rc cl dr si = true ∧ pts ≠ [])) :
    Calls Try.prog 13 #[gv no rc cl dr si (.slice ao pts.length cap)] w fun e w' => e = .returned (.int .i64 (chk no rc cl dr si pts)) ∧ Below w.heap.size w w' := by
  have d0 : decide ((64 : Int) < (pts.length : Int)) = false := by simp; omega
  have HF := Lib.hid (show chk no rc cl dr si pts = 240 by
    have hq : (fOk no rc cl dr si && decide (pts ≠ []) && allTo pts pts.length) = false := by
      cases hq : fOk no rc cl dr si <;> simp_all
    simp [chk, hl]; simpa using hq)
  cases f1 : inB no 1048576 with
  | false =>
    clear hf
    go_enter Try.func13, Try.ntmps13
    go_wp2_with fail
    refine (rwithin_any no 1048576 _).mono ?_; rintro e w' ⟨rfl, rfl⟩; rw [f1]
    go_wp2_with fail
    go_ret
    exact ⟨by rw [HF.out]; rfl, (Below.refl _ _).alloc (Nat.le_refl _) _⟩
  | true =>
    cases f2 : inB rc 63 with
    | false =>
      clear hf
      go_enter Try.func13, Try.ntmps13
      go_wp2_with fail
      refine (rwithin_any no 1048576 _).mono ?_; rintro e w' ⟨rfl, rfl⟩; rw [f1]
      go_wp2_with fail
      refine (rwithin_any rc 63 _).mono ?_; rintro e w' ⟨rfl, rfl⟩; rw [f2]
      go_wp2_with fail
      go_ret
      exact ⟨by rw [HF.out]; rfl, (Below.refl _ _).alloc (Nat.le_refl _) _⟩
    | true =>
      cases f3 : inB cl 1000 with
      | false =>
        clear hf
        go_enter Try.func13, Try.ntmps13
        go_wp2_with fail
        refine (rwithin_any no 1048576 _).mono ?_; rintro e w' ⟨rfl, rfl⟩; rw [f1]
        go_wp2_with fail
        refine (rwithin_any rc 63 _).mono ?_; rintro e w' ⟨rfl, rfl⟩; rw [f2]
        go_wp2_with fail
        refine (rwithin_any cl 1000 _).mono ?_; rintro e w' ⟨rfl, rfl⟩; rw [f3]
        go_wp2_with fail
        go_ret
        exact ⟨by rw [HF.out]; rfl, (Below.refl _ _).alloc (Nat.le_refl _) _⟩
      | true =>
        cases f4 : inB dr 1000 with
        | false =>
          clear hf
          go_enter Try.func13, Try.ntmps13
          go_wp2_with fail
          refine (rwithin_any no 1048576 _).mono ?_; rintro e w' ⟨rfl, rfl⟩; rw [f1]
          go_wp2_with fail
          refine (rwithin_any rc 63 _).mono ?_; rintro e w' ⟨rfl, rfl⟩; rw [f2]
          go_wp2_with fail
          refine (rwithin_any cl 1000 _).mono ?_; rintro e w' ⟨rfl, rfl⟩; rw [f3]
          go_wp2_with fail
          refine (rwithin_any dr 1000 _).mono ?_; rintro e w' ⟨rfl, rfl⟩; rw [f4]
          go_wp2_with fail
          go_ret
          exact ⟨by rw [HF.out]; rfl, (Below.refl _ _).alloc (Nat.le_refl _) _⟩
        | true =>
          cases f5 : inB si 4096 with
          | false =>
            clear hf
            go_enter Try.func13, Try.ntmps13
            go_wp2_with fail
            refine (rwithin_any no 1048576 _).mono ?_; rintro e w' ⟨rfl, rfl⟩; rw [f1]
            go_wp2_with fail
            refine (rwithin_any rc 63 _).mono ?_; rintro e w' ⟨rfl, rfl⟩; rw [f2]
            go_wp2_with fail
            refine (rwithin_any cl 1000 _).mono ?_; rintro e w' ⟨rfl, rfl⟩; rw [f3]
            go_wp2_with fail
            refine (rwithin_any dr 1000 _).mono ?_; rintro e w' ⟨rfl, rfl⟩; rw [f4]
            go_wp2_with fail
            refine (rwithin_any si 4096 _).mono ?_; rintro e w' ⟨rfl, rfl⟩; rw [f5]
            go_wp2_with fail
            go_ret
            exact ⟨by rw [HF.out]; rfl, (Below.refl _ _).alloc (Nat.le_refl _) _⟩
          | true =>
            have hem : pts = [] := by
              have : fOk no rc cl dr si = true := by simp [fOk, f1, f2, f3, f4, f5]
              by_cases h : pts = []
              · exact h
              · exact absurd ⟨this, h⟩ hf
            subst hem
            clear hf
            go_enter Try.func13, Try.ntmps13
            go_wp2_with fail
            refine (rwithin_any no 1048576 _).mono ?_; rintro e w' ⟨rfl, rfl⟩; rw [f1]
            go_wp2_with fail
            refine (rwithin_any rc 63 _).mono ?_; rintro e w' ⟨rfl, rfl⟩; rw [f2]
            go_wp2_with fail
            refine (rwithin_any cl 1000 _).mono ?_; rintro e w' ⟨rfl, rfl⟩; rw [f3]
            go_wp2_with fail
            refine (rwithin_any dr 1000 _).mono ?_; rintro e w' ⟨rfl, rfl⟩; rw [f4]
            go_wp2_with fail
            refine (rwithin_any si 4096 _).mono ?_; rintro e w' ⟨rfl, rfl⟩; rw [f5]
            go_wp2_with fail
            go_ret
            exact ⟨by rw [HF.out]; rfl, (Below.refl _ _).alloc (Nat.le_refl _) _⟩
set_option maxRecDepth 100000 in
set_option maxHeartbeats 4000000 in
theorem rcheck_good (no rc cl dr si : Int) (b off cap : Nat) (pts : List (Int × Int)) (w : World) (hl : ¬ 64 < pts.length) (hf : fOk no rc cl dr si = true) (hne : pts ≠ []) (hI : PtsAt w.heap.size w b off pts) :
    Calls Try.prog 13 #[gv no rc cl dr si (.slice (some ⟨b, off, none⟩) pts.length cap)] w fun e w' => e = .returned (.int .i64 (chk no rc cl dr si pts)) ∧ Below w.heap.size w w' := by
  have d0 : decide ((64 : Int) < (pts.length : Int)) = false := by simp; omega
  have hpos : 0 < pts.length := List.length_pos_iff.2 hne
  have d1 : ((pts.length : Int) == 0) = false := by simp; omega
  have f := hf
  simp only [fOk, Bool.and_eq_true] at f
  obtain ⟨⟨⟨f1, f2⟩, f3, f4⟩, f5⟩ := f
  have kT0 : (w.alloc (.cells #[.int .i64 no, .int .i64 rc, .int .i64 cl, .int .i64 dr, .int .i64 si, .slice (some ⟨b, off, none⟩) pts.length cap] 24)).cell? ⟨w.heap.size, 5, none⟩ = some (.slice (some ⟨b, off, none⟩) pts.length cap) := by go_simp
  have hB0 : Below w.heap.size w (w.alloc (.cells #[.int .i64 no, .int .i64 rc, .int .i64 cl, .int .i64 dr, .int .i64 si, .slice (some ⟨b, off, none⟩) pts.length cap] 24)) := belowAl (Below.refl _ _) _
  have hz0 : w.heap.size < (w.alloc (.cells #[.int .i64 no, .int .i64 rc, .int .i64 cl, .int .i64 dr, .int .i64 si, .slice (some ⟨b, off, none⟩) pts.length cap] 24)).heap.size := by simp
  go_enter Try.func13, Try.ntmps13
  go_wp2_with fail
  refine (rwithin_any no 1048576 _).mono ?_; rintro e w' ⟨rfl, rfl⟩; rw [f1]
  go_wp2_with fail
  refine (rwithin_any rc 63 _).mono ?_; rintro e w' ⟨rfl, rfl⟩; rw [f2]
  go_wp2_with fail
  refine (rwithin_any cl 1000 _).mono ?_; rintro e w' ⟨rfl, rfl⟩; rw [f3]
  go_wp2_with fail
  refine (rwithin_any dr 1000 _).mono ?_; rintro e w' ⟨rfl, rfl⟩; rw [f4]
  go_wp2_with fail
  refine (rwithin_any si 4096 _).mono ?_; rintro e w' ⟨rfl, rfl⟩; rw [f5]
  go_wp2_with fail
  generalize (w.alloc (.cells #[.int .i64 no, .int .i64 rc, .int .i64 cl, .int .i64 dr, .int .i64 si, .slice (some ⟨b, off, none⟩) pts.length cap] 24)) = w3 at *
  go_loopw [3] (fun c wr => ∃ k : Nat, k ≤ pts.length ∧ c = .int .i64 k ∧ allTo pts k = true ∧ Below w3.heap.size w3 wr) (fun c _ => pts.length - (intOf c).toNat)
  case atStart => exact ⟨0, Nat.zero_le _, rfl, rfl, Below.refl _ _⟩
  case round =>
    obtain ⟨k, hk, rfl, hall, hB⟩ := hrel
    have hBw := hB0.trans (hB.mono (Nat.le_of_lt hz0))
    have kT := (hB.cell (p := ⟨w.heap.size, 5, none⟩) hz0).trans kT0
    by_cases hlt : k < pts.length
    · obtain ⟨x, hx⟩ : ∃ x, x = pts[k]?.getD (0, 0) := ⟨_, rfl⟩
      have ⟨cX, cY⟩ := (hI.below hBw).2 k hlt
      rw [← hx] at cX cY
      obtain ⟨x1, x2⟩ := x
      simp only at cX cY
      have klt : (k : Int) < (pts.length : Int) := by omega
      have hHall := Lib.hid hall
      cases g1 : inB x1 1048576 with
      | false =>
        have HF := Lib.hid (show chk no rc cl dr si pts = 240 by
          have : okAt pts k = false := by simp [okAt, ← hx, g1]
          simp [chk, hl, allTo_f hlt this])
        clear hx hall
        go_wp2_with fail
        refine (rwithin_any x1 1048576 _).mono ?_; rintro e w' ⟨rfl, rfl⟩; rw [g1]
        go_wp2_with fail
        go_ret
        exact ⟨by rw [HF.out]; rfl, belowAl hBw _⟩
      | true =>
        cases g2 : inB x2 1073741824 with
        | false =>
          have HF := Lib.hid (show chk no rc cl dr si pts = 240 by
            have : okAt pts k = false := by simp [okAt, ← hx, g2]
            simp [chk, hl, allTo_f hlt this])
          clear hx hall
          go_wp2_with fail
          refine (rwithin_any x1 1048576 _).mono ?_; rintro e w' ⟨rfl, rfl⟩; rw [g1]
          go_wp2_with fail
          refine (rwithin_any x2 1073741824 _).mono ?_; rintro e w' ⟨rfl, rfl⟩; rw [g2]
          go_wp2_with fail
          go_ret
          exact ⟨by rw [HF.out]; rfl, belowAl hBw _⟩
        | true =>
          by_cases hk0 : k = 0
          · have HO := Lib.hid (show allTo pts (k + 1) = true by
              have : okAt pts k = true := by subst hk0; simp [okAt, ← hx, g1, g2]
              simp [allTo, hall, this])
            have dk : decide ((0 : Int) < (k : Int)) = false := by simp; omega
            have dk2 : decide (0 < k) = false := by simp; omega
            clear hx hall hk0
            go_wp2_with fail
            refine (rwithin_any x1 1048576 _).mono ?_; rintro e w' ⟨rfl, rfl⟩; rw [g1]
            go_wp2_with fail
            refine (rwithin_any x2 1073741824 _).mono ?_; rintro e w' ⟨rfl, rfl⟩; rw [g2]
            go_wp2_with fail
            go_quiet (fail)
            go_wp2_with fail
            go_roundw
            case rel => exact ⟨k + 1, by omega, by go_num, HO.out, belowDn (belowAl hB _) _⟩
            case measure => simp [intOf]; omega
          · obtain ⟨y, hy⟩ : ∃ y, y = pts[k - 1]?.getD (0, 0) := ⟨_, rfl⟩
            have ⟨dX, dY⟩ := (hI.below hBw).2 (k - 1) (by omega)
            rw [← hy] at dX dY
            obtain ⟨y1, y2⟩ := y
            simp only at dX dY
            have dk : decide ((0 : Int) < (k : Int)) = true := by simp; omega
            have dk2 : decide (0 < k) = true := by simp; omega
            obtain ⟨j, hj⟩ : ∃ j, k = j + 1 := ⟨k - 1, by omega⟩
            have hj1 : k - 1 = j := by omega
            rw [hj1] at dX dY hy
            have wk : IntKind.i64.wrap ((k : Int) - 1) = (j : Int) := by rw [IntKind.wrap_i64] <;> omega
            have jb : (j : Int) < (pts.length : Int) := by omega
            have j0 : (0 : Int) ≤ (j : Int) := by omega
            have dX' := cellAl (.cells #[.int .i64 x1, .int .i64 x2] 39) dX
            have dY' := cellAl (.cells #[.int .i64 x1, .int .i64 x2] 39) dY
            have kT' := cellAl (.cells #[.int .i64 x1, .int .i64 x2] 39) kT
            have lX : (wr.alloc (.cells #[.int .i64 x1, .int .i64 x2] 39)).cell? ⟨wr.heap.size, 0, none⟩ = some (.int .i64 x1) := by go_simp
            have lY : (wr.alloc (.cells #[.int .i64 x1, .int .i64 x2] 39)).cell? ⟨wr.heap.size, 1, none⟩ = some (.int .i64 x2) := by go_simp
            by_cases hst : x1 ≤ y1
            · have HF := Lib.hid (show chk no rc cl dr si pts = 240 by
                have : okAt pts k = false := by simp [okAt, ← hx, hj1, ← hy]; intro _ _; omega
                simp [chk, hl, allTo_f hlt this])
              have e1 : decide (x1 ≤ y1) = true := by simpa using hst
              clear hx hall hy hj hj1 hk0
              go_wp2_with fail
              refine (rwithin_any x1 1048576 _).mono ?_; rintro e w' ⟨rfl, rfl⟩; rw [g1]
              go_wp2_with fail
              refine (rwithin_any x2 1073741824 _).mono ?_; rintro e w' ⟨rfl, rfl⟩; rw [g2]
              go_wp2_with fail
              go_quiet (fail)
              go_wp2_with fail
              go_ret
              exact ⟨by rw [HF.out]; rfl, belowDn (belowAl hBw _) _⟩
            · have e1 : decide (x1 ≤ y1) = false := by simpa using hst
              by_cases hfl : x2 < y2
              · have HF := Lib.hid (show chk no rc cl dr si pts = 240 by
                  have : okAt pts k = false := by simp [okAt, ← hx, hj1, ← hy]; intro _ _; omega
                  simp [chk, hl, allTo_f hlt this])
                have e2 : decide (x2 < y2) = true := by simpa using hfl
                clear hx hall hy hj hj1 hk0
                go_wp2_with fail
                refine (rwithin_any x1 1048576 _).mono ?_; rintro e w' ⟨rfl, rfl⟩; rw [g1]
                go_wp2_with fail
                refine (rwithin_any x2 1073741824 _).mono ?_; rintro e w' ⟨rfl, rfl⟩; rw [g2]
                go_wp2_with fail
                go_quiet (fail)
                go_wp2_with fail
                go_ret
                exact ⟨by rw [HF.out]; rfl, belowDn (belowAl hBw _) _⟩
              · have e2 : decide (x2 < y2) = false := by simpa using hfl
                have HO := Lib.hid (show allTo pts (k + 1) = true by
                  have : okAt pts k = true := by simp [okAt, ← hx, g1, g2, hj1, ← hy]; omega
                  simp [allTo, hall, this])
                clear hx hall hy hj hj1 hk0
                go_wp2_with fail
                refine (rwithin_any x1 1048576 _).mono ?_; rintro e w' ⟨rfl, rfl⟩; rw [g1]
                go_wp2_with fail
                refine (rwithin_any x2 1073741824 _).mono ?_; rintro e w' ⟨rfl, rfl⟩; rw [g2]
                go_wp2_with fail
                go_quiet (fail)
                go_wp2_with fail
                go_roundw
                case rel => exact ⟨k + 1, by omega, by go_num, HO.out, belowDn (belowAl hB _) _⟩
                case measure => simp [intOf]; omega
    · obtain rfl : k = pts.length := by omega
      have HF := Lib.hid (show chk no rc cl dr si pts = 0 by simp [chk, hl, hf, hne, hall])
      clear hall
      go_wp2_with fail
      go_ret
      exact ⟨by rw [HF.out]; rfl, hBw⟩
theorem rcheck_any (no rc cl dr si : Int) (t : Value) (pts : List (Int × Int)) (w : World) (hs : PtSl w t pts) :
    Calls Try.prog 13 #[gv no rc cl dr si t] w fun e w' => e = .returned (.int .i64 (chk no rc cl dr si pts)) ∧ Below w.heap.size w w' := by
  obtain ⟨ao, cap, rfl, hc⟩ := hs
  by_cases hl : 64 < pts.length
  · exact rcheck_long no rc cl dr si ao cap pts w hl
  · by_cases hf : fOk no rc cl dr si = true ∧ pts ≠ []
    · obtain ⟨hf, hne⟩ := hf
      obtain ⟨b, off, rfl, hI⟩ := hc hne
      exact rcheck_good no rc cl dr si b off cap pts w hl hf hne hI
    · exact rcheck_bad no rc cl dr si ao cap pts w hl hf
end Go.Proofs.Ytmmoenbdlfmgeab
