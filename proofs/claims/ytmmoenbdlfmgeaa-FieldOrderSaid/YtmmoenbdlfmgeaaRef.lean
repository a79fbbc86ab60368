/- DERIVED. Contracts of the reference: Different, At, Value. -/
import Derived.Test.YtmmoenbdlfmgeaaPoly
import Derived.Deep.QuietTactic
import Derived.BigQuiet
import Derived.Deep.LoopGhost
namespace Go.Proofs.Ytmmoenbdlfmgeaa
open Go.RowKit Go.Maps
set_option linter.unusedVariables false
set_option linter.unusedSimpArgs false
/-- The slice value v holds the points. -/
def PtSl (W : World) (v : Value) (pts : List (Int × Int)) : Prop :=
  ∃ ao cap, v = .slice ao pts.length cap ∧ (pts ≠ [] → ∃ b off, ao = some ⟨b, off, none⟩ ∧ PtsAt W.heap.size W b off pts)
theorem PtSl.below {W W' : World} (h : Below W.heap.size W W') {v : Value} {pts : List (Int × Int)} (hs : PtSl W v pts) : PtSl W' v pts := by
  obtain ⟨ao, cap, hv, hc⟩ := hs
  refine ⟨ao, cap, hv, fun hne => ?_⟩
  obtain ⟨b, off, ha, hI⟩ := hc hne
  have := hI.below h
  exact ⟨b, off, ha, Nat.lt_of_lt_of_le this.1 h.size, this.2⟩
theorem PtsAt.drewN {n : Nat} {W : World} {b off : Nat} {pts : List (Int × Int)} (h : PtsAt n W b off pts) (k : Nat) : PtsAt n (W.drewN k) b off pts := h
/-- Different up to a place. -/
def DifTo (pts : List (Int × Int)) (n : Nat) : Prop := ∀ i, i < n → ∀ j, j < i → md (pts[i]?.getD (0, 0)).1 ≠ md (pts[j]?.getD (0, 0)).1

def NoEq (pts : List (Int × Int)) (i k : Nat) : Prop := ∀ j, j < k → md (pts[i]?.getD (0, 0)).1 ≠ md (pts[j]?.getD (0, 0)).1
theorem difTo_succ {pts : List (Int × Int)} {i : Nat} (h : DifTo pts i) (h2 : NoEq pts i i) : DifTo pts (i + 1) := fun a ha j hj => by
  by_cases e : a = i
  · subst e; exact h2 j hj
  · exact h a (by omega) j hj

set_option maxRecDepth 100000 in
set_option maxHeartbeats 2000000 in
theorem different_yes (b off cap : Nat) (pts : List (Int × Int)) (hlen : pts.length ≤ 100) (hd : Dif pts) (w : World) (hP : PtsAt w.heap.size w b off pts) :
    Calls Try.prog 24 #[.slice (some ⟨b, off, none⟩) pts.length cap] w fun e w' => e = .returned (.bool true) ∧ Below w.heap.size w w' := by
  have HD := Lib.hid hd; clear hd
  go_enter Try.func24, Try.ntmps24
  go_wp2
  go_loopw [3] (fun c wr => ∃ i : Nat, i ≤ pts.length ∧ c = .int .i64 i ∧ Below w.heap.size w wr) (fun c _ => pts.length - (intOf c).toNat)
  case atStart => exact ⟨0, Nat.zero_le _, rfl, Below.refl _ _⟩
  case round =>
    obtain ⟨i, hi, rfl, hB⟩ := hrel
    obtain ⟨wo, rfl⟩ : ∃ wo : World, wo = wr := ⟨_, rfl⟩
    by_cases hlt : i < pts.length
    · go_wp2
      go_loopw [4] (fun c wr => ∃ k : Nat, k ≤ i ∧ c = .int .i64 k ∧ Below w.heap.size w wr) (fun c _ => i - (intOf c).toNat)
      case atStart => exact ⟨0, Nat.zero_le _, rfl, hB⟩
      case round =>
        obtain ⟨k, hk, rfl, hB2⟩ := hrel
        by_cases hki : k < i
        · have ⟨cX, _⟩ := (hP.below hB2).2 i hlt
          have ⟨cY, _⟩ := (hP.below hB2).2 k (by omega)
          have ht : (md (pts[i]?.getD (0, 0)).1 == md (pts[k]?.getD (0, 0)).1) = false := by simpa using HD.out i hlt k hki
          obtain ⟨x, hx⟩ : ∃ x, x = (pts[i]?.getD (0, 0)).1 := ⟨_, rfl⟩
          obtain ⟨y, hy⟩ : ∃ y, y = (pts[k]?.getD (0, 0)).1 := ⟨_, rfl⟩
          rw [← hx] at cX ht; rw [← hy] at cY ht
          clear hx hy
          have h1 : (i : Int) < (pts.length : Int) := by omega
          have h2 : (k : Int) < (pts.length : Int) := by omega
          go_wp2
          go_quiet ((go_at_call 13; exact Calls.quiet_of_same ((rmod_any _ _).mono fun e w' h => ⟨h.1, h.2.symm⟩)))
          go_wp2
          go_roundw
          case rel => exact ⟨k + 1, by omega, by go_num, below_drewN hB2 _⟩
          case measure => simp [intOf]; omega
        · obtain rfl : k = i := by omega
          go_wp2
          go_roundw
          case rel => exact ⟨k + 1, by omega, by go_num, hB2⟩
          case measure => simp [intOf]; omega
    · obtain rfl : i = pts.length := by omega
      go_wp2
      go_ret
      exact ⟨rfl, hB⟩

set_option maxRecDepth 100000 in
set_option maxHeartbeats 2000000 in
theorem different_no (b off cap : Nat) (pts : List (Int × Int)) (hlen : pts.length ≤ 100) (hd : ¬ Dif pts) (w : World) (hP : PtsAt w.heap.size w b off pts) :
    Calls Try.prog 24 #[.slice (some ⟨b, off, none⟩) pts.length cap] w fun e w' => e = .returned (.bool false) ∧ Below w.heap.size w w' := by
  have HD := Lib.hid hd; clear hd
  go_enter Try.func24, Try.ntmps24
  go_wp2
  go_loopw [3] (fun c wr => ∃ i : Nat, i ≤ pts.length ∧ c = .int .i64 i ∧ DifTo pts i ∧ Below w.heap.size w wr) (fun c _ => pts.length - (intOf c).toNat)
  case atStart => exact ⟨0, Nat.zero_le _, rfl, fun i h => absurd h (Nat.not_lt_zero _), Below.refl _ _⟩
  case round =>
    obtain ⟨i, hi, rfl, hDT, hB⟩ := hrel
    have HDT := Lib.hid hDT; clear hDT
    obtain ⟨wo, rfl⟩ : ∃ wo : World, wo = wr := ⟨_, rfl⟩
    by_cases hlt : i < pts.length
    · go_wp2
      go_loopw [4] (fun c wr => ∃ k : Nat, k ≤ i ∧ c = .int .i64 k ∧ NoEq pts i k ∧ Below w.heap.size w wr) (fun c _ => i - (intOf c).toNat)
      case atStart => exact ⟨0, Nat.zero_le _, rfl, fun j h => absurd h (Nat.not_lt_zero _), hB⟩
      case round =>
        obtain ⟨k, hk, rfl, hNE, hB2⟩ := hrel
        have HNE := Lib.hid hNE; clear hNE
        by_cases hki : k < i
        · have ⟨cX, _⟩ := (hP.below hB2).2 i hlt
          have ⟨cY, _⟩ := (hP.below hB2).2 k (by omega)
          have HS : md (pts[i]?.getD (0, 0)).1 ≠ md (pts[k]?.getD (0, 0)).1 → NoEq pts i (k + 1) := fun h j hj => by
            by_cases e : j = k
            · rw [e]; exact h
            · exact HNE.out j (by omega)
          obtain ⟨x, hx⟩ : ∃ x, x = (pts[i]?.getD (0, 0)).1 := ⟨_, rfl⟩
          obtain ⟨y, hy⟩ : ∃ y, y = (pts[k]?.getD (0, 0)).1 := ⟨_, rfl⟩
          rw [← hx] at cX HS; rw [← hy] at cY HS
          have HHS := Lib.hid HS; clear HS
          clear hx hy
          have h1 : (i : Int) < (pts.length : Int) := by omega
          have h2 : (k : Int) < (pts.length : Int) := by omega
          by_cases hxy : md x = md y
          · have ht : (md x == md y) = true := by simpa using hxy
            clear hxy
            go_wp2
            go_quiet ((go_at_call 13; exact Calls.quiet_of_same ((rmod_any _ _).mono fun e w' h => ⟨h.1, h.2.symm⟩)))
            go_wp2
            go_ret
            exact ⟨rfl, below_drewN hB2 _⟩
          · have ht : (md x == md y) = false := by simpa using hxy
            have HXY := Lib.hid hxy; clear hxy
            go_wp2
            go_quiet ((go_at_call 13; exact Calls.quiet_of_same ((rmod_any _ _).mono fun e w' h => ⟨h.1, h.2.symm⟩)))
            go_wp2
            go_roundw
            case rel => exact ⟨k + 1, by omega, by go_num, HHS.out HXY.out, below_drewN hB2 _⟩
            case measure => simp [intOf]; omega
        · obtain rfl : k = i := by omega
          go_wp2
          go_roundw
          case rel => exact ⟨k + 1, by omega, by go_num, difTo_succ HDT.out HNE.out, hB2⟩
          case measure => simp [intOf]; omega
    · obtain rfl : i = pts.length := by omega
      exact absurd HDT.out HD.out

theorem neg_md_bd (n : Int) : -1073741789 < -md n ∧ -md n ≤ 0 := by unfold md; omega
def RAt (pts : List (Int × Int)) (at_ : Int) (i k : Nat) : Int := rpart (pts[i]?.getD (0, 0)).2 at_ (pts[i]?.getD (0, 0)).1 (oth pts i k)

set_option maxRecDepth 100000 in
set_option maxHeartbeats 4000000 in
theorem rat_yes (b off cap : Nat) (at_ : Int) (pts : List (Int × Int)) (hlen : pts.length ≤ 64) (hd : Dif pts) (w : World) (hP : PtsAt w.heap.size w b off pts) :
    Calls Try.prog 20 #[.slice (some ⟨b, off, none⟩) pts.length cap, .int .i64 at_] w fun e w' => e = .returned (.tuple #[.int .i64 (atV pts at_ pts.length), .int .i64 0]) ∧ Below w.heap.size w w' := by
  have HD := Lib.hid hd; clear hd
  have hl : ((pts.length : Nat) : Int) ≤ 64 := by omega
  go_enter Try.func20, Try.ntmps20
  go_wp2_with (first | (go_at_call 24; refine (different_yes _ _ _ pts (by omega) HD.out _ hP).mono ?_; rintro e w1 ⟨rfl, hB1⟩))
  go_loopw [7, 6] (fun c y wr => ∃ i : Nat, i ≤ pts.length ∧ c = .int .i64 i ∧ y = .int .i64 (atV pts at_ i) ∧ Below w.heap.size w wr) (fun c _ _ => pts.length - (intOf c).toNat)
  case atStart => exact ⟨0, Nat.zero_le _, rfl, rfl, hB1⟩
  case round =>
    obtain ⟨i, hi, rfl, rfl, hB⟩ := hrel
    obtain ⟨wo, rfl⟩ : ∃ wo : World, wo = wr := ⟨_, rfl⟩
    by_cases hlt : i < pts.length
    · have ⟨cX, cY⟩ := (hP.below hB).2 i hlt
      have hb1 := atV_bd pts at_ i
      have HS := Lib.hid (show RAt pts at_ i 0 = md (pts[i]?.getD (0, 0)).2 from rfl)
      have HE := Lib.hid (show RAt pts at_ i pts.length = term pts at_ i from rpart_eq pts at_ i)
      obtain ⟨yv, hyv⟩ : ∃ y, y = (pts[i]?.getD (0, 0)).2 := ⟨_, rfl⟩
      obtain ⟨xv, hxv⟩ : ∃ x, x = (pts[i]?.getD (0, 0)).1 := ⟨_, rfl⟩
      rw [← hyv] at cY HS; rw [← hxv] at cX
      have HYV := Lib.hid hyv; have HXV := Lib.hid hxv; clear hyv hxv
      have h1 : (i : Int) < (pts.length : Int) := by omega
      go_wp2_with (first | (go_at_call 13; refine (rmod_any _ _).mono ?_; rintro e w' ⟨rfl, rfl⟩))
      go_loopw [9, 8] (fun c p wr => ∃ k : Nat, k ≤ pts.length ∧ c = .int .i64 k ∧ p = .int .i64 (RAt pts at_ i k) ∧ Below w.heap.size w wr) (fun c _ _ => pts.length - (intOf c).toNat)
      case atStart => exact ⟨0, Nat.zero_le _, rfl, by rw [HS.out], hB⟩
      case round =>
        obtain ⟨k, hk, rfl, rfl, hB2⟩ := hrel
        by_cases hkl : k < pts.length
        · by_cases hki : k = i
          · have ht : ((k : Int) != (i : Int)) = false := by simp; omega
            have HK := Lib.hid (show RAt pts at_ i (k + 1) = RAt pts at_ i k by unfold RAt; rw [oth_same pts i k hki])
            clear hki
            go_wp2
            go_roundw
            case rel => exact ⟨k + 1, by omega, by go_num, by rw [HK.out], hB2⟩
            case measure => simp [intOf]; omega
          · have ht : ((k : Int) != (i : Int)) = true := by simp; omega
            have ⟨cK, _⟩ := (hP.below hB2).2 k hkl
            have cX2 := ((hP.below hB2).2 i hlt).1
            rw [← HXV.out] at cX2
            have hz := md_diff_nz (pts[i]?.getD (0, 0)).1 (pts[k]?.getD (0, 0)).1 (by
              rcases Nat.lt_or_gt_of_ne hki with hl | hl
              · exact HD.out i hlt k hl
              · exact fun e => HD.out k hkl i hl e.symm)
            have hR : RAt pts at_ i (k + 1) = md (RAt pts at_ i k * md (md (at_ + -md (pts[k]?.getD (0, 0)).1) * invF (md ((pts[i]?.getD (0, 0)).1 + -md (pts[k]?.getD (0, 0)).1)))) := by
              unfold RAt; rw [oth_succ pts i k hki, rpart_snoc]
            have hb3 := rpart_bd (pts[i]?.getD (0, 0)).2 at_ (pts[i]?.getD (0, 0)).1 (oth pts i k)
            obtain ⟨xk, hxk⟩ : ∃ x, x = (pts[k]?.getD (0, 0)).1 := ⟨_, rfl⟩
            rw [← hxk] at cK hz hR
            rw [← HXV.out] at hz hR
            have HZ := Lib.hid (show md (md (xv + -md xk)) ≠ 0 by rw [md_md]; exact hz)
            have HR := Lib.hid hR
            clear hxk hz hR hki
            have h2 : (k : Int) < (pts.length : Int) := by omega
            have n1 := neg_md_bd xk
            go_wp2
            go_quiet ((first | (go_at_call 13; exact Calls.quiet_of_same ((rmod_any _ _).mono fun e w' h => ⟨h.1, h.2.symm⟩)) | (go_at_call 15; exact Calls.quiet_of_same ((radd_any _ _ _).mono fun e w' h => ⟨h.1, h.2.symm⟩)) | (go_at_call 11; exact Calls.quiet_of_same ((rinverse_yes _ _ HZ.out).mono fun e w' h => ⟨h.1, h.2.symm⟩))))
            have cK' : (wr.drewN nq).cell? ⟨b, off + k * 2, none⟩ = some (.int .i64 xk) := cK
            clear cK cX2 cX cY
            go_wp2_with (first | (go_at_call 13; refine (rmod_any _ _).mono ?_; rintro e w' ⟨rfl, rfl⟩) | (go_at_call 15; refine (radd_any _ _ _).mono ?_; rintro e w' ⟨rfl, rfl⟩) | (go_at_call 17; refine (rmul_any _ _ _).mono ?_; rintro e w' ⟨rfl, rfl⟩))
            go_roundw
            case rel => exact ⟨k + 1, by omega, by go_num, by rw [HR.out], below_drewN hB2 _⟩
            case measure => simp [intOf]; omega
        · obtain rfl : k = pts.length := by omega
          have hb3 := term_bd pts at_ i
          rw [HE.out]
          go_wp2_with (first | (go_at_call 15; refine (radd_any _ _ _).mono ?_; rintro e w' ⟨rfl, rfl⟩))
          go_roundw
          case rel => exact ⟨i + 1, by omega, by go_num, rfl, hB2⟩
          case measure => simp [intOf]; omega
    · obtain rfl : i = pts.length := by omega
      go_wp2
      go_ret2
      exact ⟨rfl, hB⟩

set_option maxHeartbeats 1000000 in
theorem rat_no (b off cap : Nat) (at_ : Int) (pts : List (Int × Int)) (hlen : pts.length ≤ 64) (hd : ¬ Dif pts) (w : World) (hP : PtsAt w.heap.size w b off pts) :
    Calls Try.prog 20 #[.slice (some ⟨b, off, none⟩) pts.length cap, .int .i64 at_] w fun e w' => e = .returned (.tuple #[.int .i64 0, .int .i64 90]) ∧ Below w.heap.size w w' := by
  have HD := Lib.hid hd; clear hd
  have hl : ((pts.length : Nat) : Int) ≤ 64 := by omega
  go_enter Try.func20, Try.ntmps20
  go_wp2_with (first | (go_at_call 24; refine (different_no _ _ _ pts (by omega) HD.out _ hP).mono ?_; rintro e w1 ⟨rfl, hB1⟩))
  go_ret2
  exact ⟨rfl, hB1⟩
set_option maxHeartbeats 1000000 in
theorem rdif_nil (a : Option Addr) (cap : Nat) (w : World) :
    Calls Try.prog 24 #[.slice a 0 cap] w fun e w' => e = .returned (.bool true) ∧ w = w' := by
  go_enter Try.func24, Try.ntmps24
  go_wp2
  refine wp_loop_rounds 1 ?_; rw [rounds_succ]
  go_wp2
  go_ret
  exact ⟨rfl, rfl⟩
set_option maxHeartbeats 1000000 in
theorem rat_nil (a : Option Addr) (cap : Nat) (at_ : Int) (w : World) :
    Calls Try.prog 20 #[.slice a 0 cap, .int .i64 at_] w fun e w' => e = .returned (.tuple #[.int .i64 0, .int .i64 0]) ∧ w = w' := by
  go_enter Try.func20, Try.ntmps20
  go_wp2_with (first | (go_at_call 24; refine (rdif_nil _ _ _).mono ?_; rintro e w' ⟨rfl, rfl⟩))
  refine wp_loop_rounds 1 ?_; rw [rounds_succ]
  go_wp2
  go_ret2
  exact ⟨rfl, rfl⟩
set_option maxHeartbeats 1000000 in
theorem rat_long (a : Option Addr) (len cap : Nat) (at_ : Int) (hlen : 64 < len) (w : World) :
    Calls Try.prog 20 #[.slice a len cap, .int .i64 at_] w fun e w' => e = .returned (.tuple #[.int .i64 0, .int .i64 2]) ∧ w = w' := by
  have hl : 64 < ((len : Nat) : Int) := by omega
  go_enter Try.func20, Try.ntmps20
  go_wp2
  go_ret2
  exact ⟨rfl, rfl⟩
set_option maxHeartbeats 1000000 in
theorem distinct_empty (a : Option Addr) (cap : Nat) (w : World) :
    Calls Try.prog 27 #[.slice a 0 cap] w fun e w' => e = .returned (.bool true) ∧ Below w.heap.size w w' := by
  have hmm := @run_makeMap Try.prog
  have hown : (w.alloc (.map #[] 0)).ownsMap Try.prog 3 (plainElem Try.prog 4) w.heap.size 0 (.map [] : DataW Unit) := World.ownsMap_made _ _ _ _
  go_enter Try.func27, Try.ntmps27
  go_wp2
  refine wp_loop_rounds 1 ?_; rw [rounds_succ]
  go_wp2_with (at_len; refine wpList_len_own _ rfl _ 45 rfl 3 4 Try.underlying45 _ w.heap.size 0 _ rfl hown ?_)
  go_ret
  exact ⟨rfl, (Below.refl _ _).alloc (Nat.le_refl _) _⟩
set_option maxHeartbeats 1000000 in
theorem at_empty (a : Option Addr) (cap : Nat) (at_ : Int) (w : World) :
    Calls Try.prog 19 #[.slice a 0 cap, .int .i64 at_] w fun e w' => e = .returned (.tuple #[.int .i64 0, .int .i64 0]) ∧ Below w.heap.size w w' := by
  go_enter Try.func19, Try.ntmps19
  go_wp2_with (first | (go_at_call 27; refine (distinct_empty _ _ _).mono ?_; rintro e w1 ⟨rfl, hB1⟩))
  refine wp_loop_rounds 1 ?_; rw [rounds_succ]
  go_wp2
  go_ret2
  exact ⟨rfl, hB1⟩
/-- What At returns, the function and the reference alike. -/
def AtRes (pts : List (Int × Int)) (at_ v e : Int) : Prop :=
  (64 < pts.length ∧ v = 0 ∧ e = 2) ∨ (pts.length ≤ 64 ∧ ¬ Dif pts ∧ v = 0 ∧ e = 90) ∨ (pts.length ≤ 64 ∧ Dif pts ∧ v = atV pts at_ pts.length ∧ e = 0)
theorem AtRes.same {pts : List (Int × Int)} {at_ v e v' e' : Int} (h : AtRes pts at_ v e) (h' : AtRes pts at_ v' e') : v = v' ∧ e = e' := by
  rcases h with ⟨a, rfl, rfl⟩ | ⟨a, b, rfl, rfl⟩ | ⟨a, b, rfl, rfl⟩ <;> rcases h' with ⟨a', rfl, rfl⟩ | ⟨a', b', rfl, rfl⟩ | ⟨a', b', rfl, rfl⟩ <;> first | exact ⟨rfl, rfl⟩ | omega | contradiction
theorem at_sl (v : Value) (at_ : Int) (pts : List (Int × Int)) (w : World) (hs : PtSl w v pts) :
    Calls Try.prog 19 #[v, .int .i64 at_] w fun e w' => ∃ x y, e = .returned (.tuple #[.int .i64 x, .int .i64 y]) ∧ AtRes pts at_ x y ∧ Below w.heap.size w w' := by
  obtain ⟨ao, cap, rfl, hc⟩ := hs
  by_cases hl : 64 < pts.length
  · exact (at_long ao pts.length cap at_ hl w).mono fun e w' ⟨he, hw⟩ => ⟨0, 2, he, .inl ⟨hl, rfl, rfl⟩, hw ▸ Below.refl _ _⟩
  · by_cases hne : pts = []
    · subst hne
      exact (at_empty ao cap at_ w).mono fun e w' ⟨he, hB⟩ => ⟨0, 0, he, .inr (.inr ⟨by simp, fun i hi => absurd hi (Nat.not_lt_zero _), rfl, rfl⟩), hB⟩
    · obtain ⟨b, off, rfl, hI⟩ := hc hne
      by_cases hd : Dif pts
      · exact (at_yes b off cap at_ pts (by omega) (nz_of_dif hd) ((dst_iff pts).2 hd) w hI).mono fun e w' ⟨he, hB⟩ => ⟨_, _, he, .inr (.inr ⟨by omega, hd, rfl, rfl⟩), hB⟩
      · exact (at_no b off cap at_ pts (by omega) (by cases h : dstB pts with | false => rfl | true => exact absurd ((dst_iff pts).1 h) hd) w hI).mono fun e w' ⟨he, hB⟩ => ⟨_, _, he, .inr (.inl ⟨by omega, hd, rfl, rfl⟩), hB⟩
theorem rat_sl (v : Value) (at_ : Int) (pts : List (Int × Int)) (w : World) (hs : PtSl w v pts) :
    Calls Try.prog 20 #[v, .int .i64 at_] w fun e w' => ∃ x y, e = .returned (.tuple #[.int .i64 x, .int .i64 y]) ∧ AtRes pts at_ x y ∧ Below w.heap.size w w' := by
  obtain ⟨ao, cap, rfl, hc⟩ := hs
  by_cases hl : 64 < pts.length
  · exact (rat_long ao pts.length cap at_ hl w).mono fun e w' ⟨he, hw⟩ => ⟨0, 2, he, .inl ⟨hl, rfl, rfl⟩, hw ▸ Below.refl _ _⟩
  · by_cases hne : pts = []
    · subst hne
      exact (rat_nil ao cap at_ w).mono fun e w' ⟨he, hw⟩ => ⟨0, 0, he, .inr (.inr ⟨by simp, fun i hi => absurd hi (Nat.not_lt_zero _), rfl, rfl⟩), hw ▸ Below.refl _ _⟩
    · obtain ⟨b, off, rfl, hI⟩ := hc hne
      by_cases hd : Dif pts
      · exact (rat_yes b off cap at_ pts (by omega) hd w hI).mono fun e w' ⟨he, hB⟩ => ⟨_, _, he, .inr (.inr ⟨by omega, hd, rfl, rfl⟩), hB⟩
      · exact (rat_no b off cap at_ pts (by omega) hd w hI).mono fun e w' ⟨he, hB⟩ => ⟨_, _, he, .inr (.inl ⟨by omega, hd, rfl, rfl⟩), hB⟩

set_option maxRecDepth 100000 in
set_option maxHeartbeats 1000000 in
theorem rvalue_any (b off cap : Nat) (at_ : Int) (cs : List Int) (hlen : cs.length ≤ 100000000000000) (w : World) (hP : IntsAt w.heap.size w b off cs) :
    Calls Try.prog 22 #[.slice (some ⟨b, off, none⟩) cs.length cap, .int .i64 at_] w fun e w' => e = .returned (.int .i64 (hor at_ cs)) ∧ Below w.heap.size w w' := by
  go_enter Try.func22, Try.ntmps22
  go_wp2
  go_loopw [6, 5] (fun c y wr => ∃ k : Nat, k ≤ cs.length ∧ c = .int .i64 ((k : Int) - 1) ∧ y = .int .i64 (hor at_ (cs.drop k)) ∧ Below w.heap.size w wr) (fun c _ _ => (intOf c + 1).toNat)
  case atStart => exact ⟨cs.length, Nat.le_refl _, by simp, by simp [hor], Below.refl _ _⟩
  case round =>
    obtain ⟨k, hk, rfl, rfl, hB⟩ := hrel
    have hh := hor_bd at_ (cs.drop k)
    by_cases hk0 : k = 0
    · obtain rfl := hk0
      go_wp2
      go_ret
      exact ⟨by simp, hB⟩
    · obtain ⟨j, rfl⟩ : ∃ j, k = j + 1 := ⟨k - 1, by omega⟩
      have cX := (hP.below hB).2 j (by omega)
      have HD := Lib.hid (hor_drop at_ cs j (by omega))
      obtain ⟨x, hx⟩ : ∃ x, x = cs[j]?.getD 0 := ⟨_, rfl⟩
      rw [← hx] at cX HD
      clear hx
      rw [show (((j + 1 : Nat) : Int) - 1) = (j : Int) from by omega]
      have hj1 : (j : Int) < (cs.length : Int) := by omega
      go_wp2
      go_quiet ((first | (go_at_call 17; exact Calls.quiet_of_same ((rmul_any _ _ _).mono fun e w' h => ⟨h.1, h.2.symm⟩)) | (go_at_call 15; exact Calls.quiet_of_same ((radd_any _ _ _).mono fun e w' h => ⟨h.1, h.2.symm⟩))))
      go_wp2
      go_roundw
      case rel => exact ⟨j, by omega, by go_num, by rw [HD.out], below_drewN hB _⟩
      case measure => simp [intOf]
set_option maxHeartbeats 1000000 in
theorem rvalue_nil (a : Option Addr) (cap : Nat) (at_ : Int) (w : World) :
    Calls Try.prog 22 #[.slice a 0 cap, .int .i64 at_] w fun e w' => e = .returned (.int .i64 0) ∧ w = w' := by
  go_enter Try.func22, Try.ntmps22
  go_wp2
  refine wp_loop_rounds 1 ?_; rw [rounds_succ]
  go_wp2
  go_ret
  exact ⟨rfl, rfl⟩
theorem rvalue_sl (v : Value) (at_ : Int) (cs : List Int) (hlen : cs.length ≤ 100000000000000) (w : World) (hs : IntSl w v cs) :
    Calls Try.prog 22 #[v, .int .i64 at_] w fun e w' => e = .returned (.int .i64 (hor at_ cs)) ∧ Below w.heap.size w w' := by
  obtain ⟨ao, cap, rfl, hc⟩ := hs
  by_cases hne : cs = []
  · subst hne
    exact (rvalue_nil ao cap at_ w).mono fun e w' ⟨he, hw⟩ => ⟨he, hw ▸ Below.refl _ _⟩
  · obtain ⟨b, off, rfl, hI⟩ := hc hne
    exact rvalue_any b off cap at_ cs hlen w hI
end Go.Proofs.Ytmmoenbdlfmgeaa
