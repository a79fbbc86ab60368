/- DERIVED. Contracts of field.distinct and field.At. -/
import Derived.Test.YtmmoenbdlfmgeaaShare
import Derived.Maps.OwnSet
namespace Go.Proofs.Ytmmoenbdlfmgeaa
open Go.RowKit Go.Maps
def keysOf (pts : List (Int × Int)) (k : Nat) : List Lit := (pts.take k).map (fun p => .int .i64 (md p.1))
def seenD (pts : List (Int × Int)) (k : Nat) : DataW Unit := setOf (.lit (.bool true)) (keysOf pts k)
theorem keysOf_succ (pts : List (Int × Int)) (k : Nat) (h : k < pts.length) : keysOf pts (k + 1) = keysOf pts k ++ [.int .i64 (md (pts[k]?.getD (0, 0)).1)] := by
  unfold keysOf; rw [List.take_succ_eq_append_getElem h, List.map_append]; simp [h]
theorem seenD_succ (pts : List (Int × Int)) (k : Nat) (h : k < pts.length) : seenD pts (k + 1) = (seenD pts k).put (.int .i64 (md (pts[k]?.getD (0, 0)).1)) (.lit (.bool true)) := by
  unfold seenD; rw [keysOf_succ pts k h, setOf_snoc]
/-- Are the X different numbers of the field? -/
def dstB (pts : List (Int × Int)) : Bool := ((size (seenD pts pts.length) : Nat) : Int) == (pts.length : Int)

set_option maxRecDepth 100000 in
set_option maxHeartbeats 1000000 in
theorem distinct_any (b off cap : Nat) (pts : List (Int × Int)) (hlen : pts.length ≤ 1000) (w : World) (hP : PtsAt w.heap.size w b off pts) :
    Calls Try.prog 27 #[.slice (some ⟨b, off, none⟩) pts.length cap] w fun e w' => e = .returned (.bool (dstB pts)) ∧ Below w.heap.size w w' := by
  have hmm := @run_makeMap Try.prog
  go_enter Try.func27, Try.ntmps27
  go_wp2
  go_loopw [9] (fun c wr => ∃ k : Nat, k ≤ pts.length ∧ c = .int .i64 k ∧ wr.ownsMap Try.prog 3 (plainElem Try.prog 4) w.heap.size k (seenD pts k) ∧ Below w.heap.size w wr) (fun c _ => pts.length - (intOf c).toNat)
  case atStart => exact ⟨0, Nat.zero_le _, rfl, World.ownsMap_made _ _ _ _, (Below.refl _ _).alloc (Nat.le_refl _) _⟩
  case round =>
    obtain ⟨k, hk, rfl, hown, hB⟩ := hrel
    by_cases hlt : k < pts.length
    · obtain ⟨x, hx⟩ : ∃ x, x = pts[k]?.getD (0, 0) := ⟨_, rfl⟩
      have ⟨cX, cY⟩ := (hP.below hB).2 k hlt
      rw [← hx] at cX cY
      have HS := seenD_succ pts k hlt
      rw [← hx] at HS
      have HSS := Lib.hid HS
      clear hx HS
      obtain ⟨x1, x2⟩ := x
      simp only at cX cY HSS
      have hkey : keyOf Try.prog 3 (.int .i64 (md x1)) = some (.int .i64 (md x1)) := keyOf_int_mk Try.underlying3 (WalkArith.wf_i64 (by have := md_lo x1; have := md_hi x1; omega))
      go_wp2_with (first | (go_at_call 12; refine (mod_any _ _).mono ?_; rintro e w' ⟨rfl, rfl⟩) | (at_mapUpdate; refine wpList_mapUpdate_own _ rfl _ _ _ 45 rfl 3 4 (int_keyed Try.underlying3) Try.underlying45 _ w.heap.size k _ rfl (hown.alloc _) (by unfold maxLen; omega) _ _ _ rfl rfl hkey _ [] (plainElem_bool Try.underlying4 true) ?_; intro w1 hown1 hgrow1))
      go_roundw
      case rel => exact ⟨k + 1, by omega, by go_num, by rw [HSS.out]; exact hown1, (hB.alloc hB.size _).grown hgrow1 (by simp; have := hB.size; omega) (fun j hj => by cases hj; exact Nat.le_refl _)⟩
      case measure => simp [intOf]; omega
    · obtain rfl : k = pts.length := by omega
      go_wp2_with (at_len; refine wpList_len_own _ rfl _ 45 rfl 3 4 Try.underlying45 _ w.heap.size pts.length _ rfl hown ?_)
      go_ret
      exact ⟨rfl, hB⟩

set_option maxHeartbeats 1000000 in
theorem distinct_nil (w : World) :
    Calls Try.prog 27 #[.slice none 0 0] w fun e w' => e = .returned (.bool true) ∧ Below w.heap.size w w' := by
  have hmm := @run_makeMap Try.prog
  have hown : (w.alloc (.map #[] 0)).ownsMap Try.prog 3 (plainElem Try.prog 4) w.heap.size 0 (.map [] : DataW Unit) := World.ownsMap_made _ _ _ _
  go_enter Try.func27, Try.ntmps27
  go_wp2
  refine wp_loop_rounds 1 ?_; rw [rounds_succ]
  go_wp2_with (at_len; refine wpList_len_own _ rfl _ 45 rfl 3 4 Try.underlying45 _ w.heap.size 0 _ rfl hown ?_)
  go_ret
  exact ⟨rfl, (Below.refl _ _).alloc (Nat.le_refl _) _⟩

/-- The exponent Q - 2, kept from being unfolded. -/
def expo : { k : Nat // k = 1073741787 } := ⟨1073741787, rfl⟩
def invF (n : Int) : Int := pw n expo.val
theorem IsInv.eq {n x : Int} (h : IsInv n x) : x = invF n := by
  obtain ⟨k, hk, rfl⟩ := h
  unfold invF; rw [expo.property, hk]
theorem invF_bd (n : Int) : 0 ≤ invF n ∧ invF n < 1073741789 := ⟨md_lo _, md_hi _⟩

/-- One term of At, and the sum of the first k. -/
def term (pts : List (Int × Int)) (at_ : Int) (i : Nat) : Int :=
  md (abv (pts[i]?.getD (0, 0)).2 at_ (oth pts i pts.length) * invF (blw (pts[i]?.getD (0, 0)).1 (oth pts i pts.length)))
def atV (pts : List (Int × Int)) (at_ : Int) : Nat → Int
  | 0 => 0
  | k + 1 => md (atV pts at_ k + term pts at_ k)
theorem atV_bd (pts : List (Int × Int)) (at_ : Int) (k : Nat) : 0 ≤ atV pts at_ k ∧ atV pts at_ k < 1073741789 := by
  cases k with
  | zero => simp [atV]
  | succ k => exact ⟨md_lo _, md_hi _⟩
theorem term_bd (pts : List (Int × Int)) (at_ : Int) (k : Nat) : 0 ≤ term pts at_ k ∧ term pts at_ k < 1073741789 := ⟨md_lo _, md_hi _⟩
def AllNz (pts : List (Int × Int)) : Prop := ∀ i, i < pts.length → md (blw (pts[i]?.getD (0, 0)).1 (oth pts i pts.length)) ≠ 0
theorem share_yes (b off cap i : Nat) (at_ : Int) (pts : List (Int × Int)) (hlen : pts.length ≤ 1000) (hi : i < pts.length) (hz : AllNz pts) (w : World) (hP : PtsAt w.heap.size w b off pts) :
    Calls Try.prog 28 #[.slice (some ⟨b, off, none⟩) pts.length cap, .int .i64 i, .int .i64 at_] w fun e w' => e = .returned (.tuple #[.int .i64 (term pts at_ i), .int .i64 0]) ∧ Below w.heap.size w w' :=
  (share_any b off cap i at_ pts hlen hi w hP).mono fun e w' ⟨h, hB⟩ => by
    rcases h with ⟨h, _⟩ | ⟨_, v, hv, rfl⟩
    · exact absurd h (hz i hi)
    · exact ⟨by rw [hv.eq]; rfl, hB⟩

set_option maxRecDepth 100000 in
set_option maxHeartbeats 1000000 in
theorem at_yes (b off cap : Nat) (at_ : Int) (pts : List (Int × Int)) (hlen : pts.length ≤ 64) (hz : AllNz pts) (hd : dstB pts = true) (w : World) (hP : PtsAt w.heap.size w b off pts) :
    Calls Try.prog 19 #[.slice (some ⟨b, off, none⟩) pts.length cap, .int .i64 at_] w fun e w' => e = .returned (.tuple #[.int .i64 (atV pts at_ pts.length), .int .i64 0]) ∧ Below w.heap.size w w' := by
  have HZ := Lib.hid hz; clear hz
  have HD := Lib.hid hd; clear hd
  have hl : ((pts.length : Nat) : Int) ≤ 64 := by omega
  go_enter Try.func19, Try.ntmps19
  go_wp2_with (first | (go_at_call 27; refine (distinct_any _ _ _ pts (by omega) _ hP).mono ?_; rintro e w1 ⟨rfl, hB1⟩; rw [HD.out]))
  go_loopw [17, 4] (fun c y wr => ∃ k : Nat, k ≤ pts.length ∧ c = .int .i64 k ∧ y = .int .i64 (atV pts at_ k) ∧ Below w.heap.size w wr) (fun c _ _ => pts.length - (intOf c).toNat)
  case atStart => exact ⟨0, Nat.zero_le _, rfl, rfl, hB1⟩
  case round =>
    obtain ⟨k, hk, rfl, rfl, hB⟩ := hrel
    by_cases hlt : k < pts.length
    · have hPk := hP.below hB
      have hPk' : PtsAt wr.heap.size wr b off pts := ⟨Nat.lt_of_lt_of_le hPk.1 hB.size, hPk.2⟩
      have hb1 := atV_bd pts at_ k
      have hb2 := term_bd pts at_ k
      go_wp2_with (first | (go_at_call 28; refine (share_yes b off cap k at_ pts (by omega) hlt HZ.out _ hPk').mono ?_; rintro e w2 ⟨rfl, hB2⟩) | (go_at_call 26; refine (sum_any (atV pts at_ k) (term pts at_ k) _ _ (by go_simp) (by go_simp)).mono ?_; rintro e w3 ⟨rfl, rfl⟩))
      go_roundw
      case rel => exact ⟨k + 1, by omega, by go_num, rfl, (hB.trans (hB2.mono hB.size)).alloc (Nat.le_trans hB.size hB2.size) _⟩
      case measure => simp [intOf]; omega
    · obtain rfl : k = pts.length := by omega
      go_wp2
      go_ret2
      exact ⟨rfl, hB⟩

set_option maxHeartbeats 1000000 in
theorem at_no (b off cap : Nat) (at_ : Int) (pts : List (Int × Int)) (hlen : pts.length ≤ 64) (hd : dstB pts = false) (w : World) (hP : PtsAt w.heap.size w b off pts) :
    Calls Try.prog 19 #[.slice (some ⟨b, off, none⟩) pts.length cap, .int .i64 at_] w fun e w' => e = .returned (.tuple #[.int .i64 0, .int .i64 90]) ∧ Below w.heap.size w w' := by
  have HD := Lib.hid hd; clear hd
  have hl : ((pts.length : Nat) : Int) ≤ 64 := by omega
  go_enter Try.func19, Try.ntmps19
  go_wp2_with (first | (go_at_call 27; refine (distinct_any _ _ _ pts (by omega) _ hP).mono ?_; rintro e w1 ⟨rfl, hB1⟩; rw [HD.out]))
  go_ret2
  exact ⟨rfl, hB1⟩

set_option maxHeartbeats 1000000 in
theorem at_nil (at_ : Int) (w : World) :
    Calls Try.prog 19 #[.slice none 0 0, .int .i64 at_] w fun e w' => e = .returned (.tuple #[.int .i64 0, .int .i64 0]) ∧ Below w.heap.size w w' := by
  go_enter Try.func19, Try.ntmps19
  go_wp2_with (first | (go_at_call 27; refine (distinct_nil _).mono ?_; rintro e w1 ⟨rfl, hB1⟩))
  refine wp_loop_rounds 1 ?_; rw [rounds_succ]
  go_wp2
  go_ret2
  exact ⟨rfl, hB1⟩

set_option maxHeartbeats 1000000 in
theorem at_long (a : Option Addr) (len cap : Nat) (at_ : Int) (hlen : 64 < len) (w : World) :
    Calls Try.prog 19 #[.slice a len cap, .int .i64 at_] w fun e w' => e = .returned (.tuple #[.int .i64 0, .int .i64 2]) ∧ w = w' := by
  have hl : 64 < ((len : Nat) : Int) := by omega
  go_enter Try.func19, Try.ntmps19
  go_wp2
  go_ret2
  exact ⟨rfl, rfl⟩
end Go.Proofs.Ytmmoenbdlfmgeaa
