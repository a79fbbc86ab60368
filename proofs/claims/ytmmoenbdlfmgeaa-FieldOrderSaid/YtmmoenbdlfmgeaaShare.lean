/- DERIVED. Contracts of field.others and field.share: a range over an iterator. -/
import Derived.Test.YtmmoenbdlfmgeaaField
import Derived.Test.YtmmoenbdlfmgeaaRound
import Derived.RangeFuncNested
import Derived.RangeFuncBound
import Derived.RangeFuncCalls
import Derived.RangeFuncLeaves
import Derived.RangeFuncBox
import Derived.Shelf.Abstract
import Derived.Shelf.RegionOpen
import Derived.OwnWalkIn
import Derived.TacticsInMore
import Derived.LoopNIn
import Derived.LoopIn
namespace Go.Proofs.Ytmmoenbdlfmgeaa
open Go.RowKit Go.Shelf
set_option linter.unusedSimpArgs false
attribute [local go_sem] Oper.semAt_some

theorem cellAl {w : World} {a : Addr} {v : Value} (o : Obj) (h : w.cell? a = some v) : (w.alloc o).cell? a = some v := (World.cell?_alloc_some w a o (by simp [h])).trans h

/-- A slice of points in memory: in blocks below n. -/
def PtsAt (n : Nat) (W : World) (b off : Nat) (pts : List (Int × Int)) : Prop :=
  b < n ∧ ∀ j, j < pts.length → W.cell? ⟨b, off + j * 2, none⟩ = some (.int .i64 (pts[j]?.getD (0, 0)).1) ∧ W.cell? ⟨b, off + j * 2 + 1, none⟩ = some (.int .i64 (pts[j]?.getD (0, 0)).2)
theorem PtsAt.below {n : Nat} {A B : World} (h : Below n A B) {b off : Nat} {pts : List (Int × Int)} (hp : PtsAt n A b off pts) : PtsAt n B b off pts :=
  ⟨hp.1, fun j hj => ⟨(h.cell (p := ⟨b, off + j * 2, none⟩) hp.1).trans (hp.2 j hj).1, (h.cell (p := ⟨b, off + j * 2 + 1, none⟩) hp.1).trans (hp.2 j hj).2⟩⟩

/-- What has come when k rounds are over: all points but the one with the index i. -/
def oth (pts : List (Int × Int)) (i k : Nat) : List (Int × Int) := ((List.range k).filter (fun j => j != i)).map (fun j => pts[j]?.getD (0, 0))
theorem oth_zero (pts : List (Int × Int)) (i : Nat) : oth pts i 0 = [] := rfl
theorem oth_skip (pts : List (Int × Int)) (i : Nat) : oth pts i (i + 1) = oth pts i i := by simp [oth, List.range_succ]
theorem oth_same (pts : List (Int × Int)) (i k : Nat) (h : k = i) : oth pts i (k + 1) = oth pts i k := by subst h; exact oth_skip pts k
theorem oth_succ (pts : List (Int × Int)) (i k : Nat) (h : k ≠ i) : oth pts i (k + 1) = oth pts i k ++ [pts[k]?.getD (0, 0)] := by
  simp [oth, List.range_succ, h]
theorem oth_len (pts : List (Int × Int)) (i k : Nat) : (oth pts i k).length ≤ k := by
  have := List.length_filter_le (fun j => j != i) (List.range k)
  simp [oth] at this ⊢; exact this

/-- What a round keeps: what lay below n, and the box of the index. -/
def KpS (n Bi i : Nat) (W W' : World) : Prop := Below n W W' ∧ (Boxed W Bi 3 (.int .i64 i) → Boxed W' Bi 3 (.int .i64 i))
theorem KpS_t {n Bi i : Nat} {A B C : World} (h : KpS n Bi i A B) (k : KpS n Bi i B C) : KpS n Bi i A C := ⟨h.1.trans k.1, fun x => k.2 (h.2 x)⟩
theorem KpS_b {n Bi i : Nat} {w : World} (hn : n ≤ w.heap.size) (W : World) (l : Nat) (o o' : Obj) (hl : w.heap.size ≤ l) (h : W.heap[l]? = some o) (hc : o.isCells = false) (hw : o.isWalk = false) : KpS n Bi i W (W.putObj l o') :=
  ⟨belowK_b hn W l o o' hl h hc hw, fun x => boxed_own Bi 3 (fun (_ : Unit) => Value.int .i64 i) () W _ (some l) x (grownBy_putObj' W l o') (fun r e => by cases e; exact ⟨_, h, hc⟩)⟩

abbrev encPt (x : Int × Int) : Array Value := #[.agg #[.int .i64 x.1, .int .i64 x.2]]

set_option maxRecDepth 100000 in
set_option maxHeartbeats 1000000 in
theorem others1_in (F : Fence) (n : Nat) (h7 : F.fn 31) (hro : F.round = none) (hn : 1 ≤ n) (l Bl Bi n₀ b off cap i : Nat) (pts : List (Int × Int)) (hlen : pts.length ≤ 1000) (J Jx : List (Int × Int) → World → Prop) (M : Nat)
    (hJ : AbidesFrom M J)
    (hY : ∀ pre x W, J pre W → pre.length < pts.length → YieldAt F (n - 1) Try.prog l (encPt x) W fun e W' =>
      (e = .returned (.bool true) ∧ J (pre ++ [x]) W' ∧ KpS n₀ Bi i W W') ∨ (e = .returned (.bool false) ∧ Jx (pre ++ [x]) W'))
    (W : World) (hnW : n₀ ≤ W.heap.size) (hBl : W.cell? ⟨Bl, 0, none⟩ = some (.slice (some ⟨b, off, none⟩) pts.length cap)) (hBi' : Boxed W Bi 3 (.int .i64 i)) (hP : PtsAt n₀ W b off pts) (h0 : J [] W) :
    CallsIn F n Try.prog 31 #[.func (.yield l) #[] #[], .pointer (some ⟨Bl, 0, none⟩), .pointer (some ⟨Bi, 0, none⟩)] W fun e W' => (∃ v, e = .returned v) ∧
      ((∃ ys, ys = oth pts i pts.length ∧ J ys W') ∨ (∃ pre, True ∧ Jx pre W')) := by
  refine callsIn_of_wp Try.func31 rfl h7 ?_ hro
  simp only [Try.ntmps31, List.size_toArray, List.length_cons, List.length_nil, Nat.reduceAdd, Nat.reduceSub, Array.replicate_succ, Array.replicate_zero, List.push_toArray, List.append_toArray, List.nil_append, List.cons_append]
  gi_wp2
  gi_loopw [8] (fun c wr => ∃ k : Nat, k ≤ pts.length ∧ c = .int .i64 k ∧ J (oth pts i k) wr ∧ Below n₀ W wr ∧ Boxed wr Bi 3 (.int .i64 i))
    (fun c _ => pts.length - (intOf c).toNat)
  case atStart => exact ⟨0, Nat.zero_le _, rfl, h0, Below.refl _ _, hBi'⟩
  case round =>
    obtain ⟨k, hk, rfl, hJs, hnx, hbx⟩ := hrel
    have hP' := hP.below hnx
    have hi' := hbx.cell
    by_cases hlt : k < pts.length
    · have hsz : n₀ ≤ wr.heap.size := Nat.le_trans hnW hnx.size
      obtain ⟨x, hx⟩ : ∃ x, x = pts[k]?.getD (0, 0) := ⟨_, rfl⟩
      have ⟨hc0, hc1⟩ := hP'.2 k hlt
      rw [← hx] at hc0 hc1
      have HX := Lib.hid hx; clear hx
      obtain ⟨xa, xb⟩ := x
      simp only at hc0 hc1
      have hB1 : Below n₀ wr (wr.alloc (.cells #[.int .i64 xa, .int .i64 xb] 38)) := (Below.refl n₀ wr).alloc hsz _
      have hbx1 := hbx.alloc (.cells #[.int .i64 xa, .int .i64 xb] 38)
      have hi2 := hbx1.cell
      have hJ1 : J (oth pts i k) (wr.alloc (.cells #[.int .i64 xa, .int .i64 xb] 38)) := hJ _ _ _ none hJs (World.grownBy_alloc wr _ none) (fun r e => by cases e)
      by_cases hki : k = i
      · have ht : ((k : Int) != (i : Int)) = false := by simp; omega
        have HK := Lib.hid hki; clear hki
        gi_wp2
        refine ⟨fun _ h => (by cases h), ?_⟩
        gi_wp2
        go_roundw
        case rel => exact ⟨k + 1, by omega, by simp, by rw [oth_same pts i k HK.out]; exact hJ1, hnx.trans hB1, hbx1⟩
        case measure => simp [intOf]; omega
      · have ht : ((k : Int) != (i : Int)) = true := by simp; omega
        have HS : oth pts i (k + 1) = oth pts i k ++ [(xa, xb)] := by rw [oth_succ pts i k hki, HX.out]
        have HSS := Lib.hid HS; clear HS hki
        obtain ⟨fn, tmps, assign, body, hy, hR⟩ := hY _ (xa, xb) _ hJ1 (by have := oth_len pts i k; omega)
        dsimp only [encPt] at hy
        clear hJ1 hJs
        gi_wp2
        refine hR.mono ?_
        rintro e W3 (⟨rfl, hJ3, hk3⟩ | ⟨rfl, hJx3⟩)
        · gi_wp2
          go_roundw
          case rel => exact ⟨k + 1, by omega, by simp, by rw [HSS.out]; exact hJ3, (hnx.trans hB1).trans hk3.1, hk3.2 hbx1⟩
          case measure => simp [intOf]; omega
        · gi_wp2
          refine bodyPost_ret (results_none rfl _ _ _) rfl ?_
          exact ⟨⟨_, rfl⟩, .inr ⟨_, trivial, hJx3⟩⟩
    · obtain rfl : k = pts.length := by omega
      gi_wp2
      go_end0
      exact ⟨⟨_, rfl⟩, .inl ⟨_, rfl, hJs⟩⟩

set_option maxHeartbeats 1000000 in
theorem others_in (F : Fence) (n : Nat) (h5 : F.fn 29) (hro : F.round = none) (a : Option Addr) (len cap : Nat) (i : Int) (w : World) :
    CallsIn F n Try.prog 29 #[.slice a len cap, .int .i64 i] w fun e w' => e = .returned (.func (.func 31) #[] #[.pointer (some ⟨w.heap.size, 0, none⟩), .pointer (some ⟨w.heap.size + 1, 0, none⟩)]) ∧ w' = (w.alloc (.cells #[.slice a len cap] 30)).alloc (.cells #[.int .i64 i] 3) := by
  refine callsIn_of_wp Try.func29 rfl h5 ?_ hro
  simp only [Try.ntmps29, List.size_toArray, List.length_cons, List.length_nil, Nat.reduceAdd, Nat.reduceSub, Array.replicate_succ, Array.replicate_zero, List.push_toArray, List.append_toArray, List.nil_append, List.cons_append]
  gi_wp2
  go_ret
  exact ⟨rfl, rfl⟩

theorem others_stops (F : Fence) (n : Nat) (h7 : F.fn 31) (hro : F.round = none) (hn : 1 ≤ n) (Bl Bi n₀ b off cap i : Nat) (pts : List (Int × Int)) (hlen : pts.length ≤ 1000) (w : World) (hn₀ : n₀ ≤ w.heap.size)
    (hc : Boxed w Bl 30 (.slice (some ⟨b, off, none⟩) pts.length cap)) (hd : Boxed w Bi 3 (.int .i64 i)) (hP : PtsAt n₀ w b off pts) :
    SeqStopsK F n Try.prog 31 #[.pointer (some ⟨Bl, 0, none⟩), .pointer (some ⟨Bi, 0, none⟩)] encPt (KpS n₀ Bi i) (fun ys => ys = oth pts i pts.length) (fun _ => True) pts.length w := fun l J Jx W hW hJ _ hY h0 =>
  others1_in F n h7 hro hn l Bl Bi n₀ b off cap i pts hlen J Jx W.heap.size hJ hY W (Nat.le_trans hn₀ hW.size) ((hW.cell (p := ⟨Bl, 0, none⟩) hc.lt).trans hc.cell) ((hW.block Bi hd.lt).trans hd) (hP.below (hW.mono hn₀)) h0

/-- The two products of share. -/
def abv (y at_ : Int) (l : List (Int × Int)) : Int := l.foldl (fun s x => md (s * md (at_ + (1073741789 - md x.1)))) (md y)
def blw (xi : Int) (l : List (Int × Int)) : Int := l.foldl (fun s x => md (s * md (xi + (1073741789 - md x.1)))) 1
theorem abv_snoc (y at_ : Int) (l : List (Int × Int)) (x : Int × Int) : abv y at_ (l ++ [x]) = md (abv y at_ l * md (at_ + (1073741789 - md x.1))) := by simp [abv]
theorem blw_snoc (xi : Int) (l : List (Int × Int)) (x : Int × Int) : blw xi (l ++ [x]) = md (blw xi l * md (xi + (1073741789 - md x.1))) := by simp [blw]
/-- What share returns. -/
def ShareRes (at_ : Int) (i : Nat) (pts : List (Int × Int)) (e : Ending) : Prop :=
  (md (blw (pts[i]?.getD (0, 0)).1 (oth pts i pts.length)) = 0 ∧ e = .returned (.tuple #[.int .i64 0, .int .i64 90])) ∨
  (md (blw (pts[i]?.getD (0, 0)).1 (oth pts i pts.length)) ≠ 0 ∧ ∃ v, IsInv (blw (pts[i]?.getD (0, 0)).1 (oth pts i pts.length)) v ∧ e = .returned (.tuple #[.int .i64 (md (abv (pts[i]?.getD (0, 0)).2 at_ (oth pts i pts.length) * v)), .int .i64 0]))

set_option maxRecDepth 100000 in
set_option maxHeartbeats 2000000 in
theorem share_any (b off cap i : Nat) (at_ : Int) (pts : List (Int × Int)) (hlen : pts.length ≤ 1000) (hi : i < pts.length) (w : World) (hP : PtsAt w.heap.size w b off pts) :
    Calls Try.prog 28 #[.slice (some ⟨b, off, none⟩) pts.length cap, .int .i64 i, .int .i64 at_] w fun e w' => ShareRes at_ i pts e ∧ Below w.heap.size w w' := by
  have hw : Fence.wide.round = none := rfl
  refine (callsIn_wide (n := 6)).1 ?_
  refine callsIn_of_wp_marks Try.func28 rfl trivial ?_ hw
  simp only [Try.ntmps28, List.size_toArray, List.length_cons, List.length_nil, Nat.reduceAdd, Nat.reduceSub, Array.replicate_succ, Array.replicate_zero, List.push_toArray, List.append_toArray, List.nil_append, List.cons_append]
  obtain ⟨P, hPi⟩ : ∃ P, P = pts[i]?.getD (0, 0) := ⟨_, rfl⟩
  have HPI := Lib.hid hPi
  obtain ⟨X, Y⟩ := P
  have hB3 : Below w.heap.size w (((w.alloc (Obj.cells #[Value.slice (some { block := b, off := off }) pts.length cap] 30)).alloc (Obj.cells #[Value.int IntKind.i64 ↑i] 3)).alloc (Obj.cells #[Value.int IntKind.i64 at_] 3)) := (((Below.refl _ w).alloc (Nat.le_refl _) _).alloc (by simp) _).alloc (by simp; omega) _
  have hP3 := hP.below hB3
  have ⟨cX, cY⟩ := hP3.2 i hi
  rw [← hPi] at cX cY; simp only at cX cY
  clear hPi
  gi_wp2_with (first | (refine ⟨trivial, ?_⟩; gi_at_call 12; refine (callsIn_wide.2 (mod_any _ _)).mono ?_; rintro e w' ⟨rfl, rfl⟩) | (refine ⟨trivial, ?_⟩; gi_at_call 29; refine (others_in _ _ trivial hw _ _ _ _ _).mono ?_; rintro e w' ⟨rfl, rfl⟩))
  have bL := ((((((Boxed.new w 30 (Value.slice (some { block := b, off := off }) pts.length cap)).alloc (Obj.cells #[Value.int IntKind.i64 ↑i] 3)).alloc (Obj.cells #[Value.int IntKind.i64 at_] 3)).alloc (Obj.cells #[Value.int IntKind.i64 (md Y)] 3)).alloc (Obj.cells #[Value.int IntKind.i64 1] 3)).alloc (Obj.cells #[Value.slice (some { block := b, off := off }) pts.length cap] 30)).alloc (Obj.cells #[Value.int IntKind.i64 ↑i] 3)
  have bI := (((((Boxed.new (w.alloc (Obj.cells #[Value.slice (some { block := b, off := off }) pts.length cap] 30)) 3 (Value.int IntKind.i64 ↑i)).alloc (Obj.cells #[Value.int IntKind.i64 at_] 3)).alloc (Obj.cells #[Value.int IntKind.i64 (md Y)] 3)).alloc (Obj.cells #[Value.int IntKind.i64 1] 3)).alloc (Obj.cells #[Value.slice (some { block := b, off := off }) pts.length cap] 30)).alloc (Obj.cells #[Value.int IntKind.i64 ↑i] 3)
  have bA := ((((Boxed.new ((w.alloc (Obj.cells #[Value.slice (some { block := b, off := off }) pts.length cap] 30)).alloc (Obj.cells #[Value.int IntKind.i64 ↑i] 3)) 3 (Value.int IntKind.i64 at_)).alloc (Obj.cells #[Value.int IntKind.i64 (md Y)] 3)).alloc (Obj.cells #[Value.int IntKind.i64 1] 3)).alloc (Obj.cells #[Value.slice (some { block := b, off := off }) pts.length cap] 30)).alloc (Obj.cells #[Value.int IntKind.i64 ↑i] 3)
  have bU := (((Boxed.new (((w.alloc (Obj.cells #[Value.slice (some { block := b, off := off }) pts.length cap] 30)).alloc (Obj.cells #[Value.int IntKind.i64 ↑i] 3)).alloc (Obj.cells #[Value.int IntKind.i64 at_] 3)) 3 (Value.int IntKind.i64 (md Y))).alloc (Obj.cells #[Value.int IntKind.i64 1] 3)).alloc (Obj.cells #[Value.slice (some { block := b, off := off }) pts.length cap] 30)).alloc (Obj.cells #[Value.int IntKind.i64 ↑i] 3)
  have bD := ((Boxed.new ((((w.alloc (Obj.cells #[Value.slice (some { block := b, off := off }) pts.length cap] 30)).alloc (Obj.cells #[Value.int IntKind.i64 ↑i] 3)).alloc (Obj.cells #[Value.int IntKind.i64 at_] 3)).alloc (Obj.cells #[Value.int IntKind.i64 (md Y)] 3)) 3 (Value.int IntKind.i64 1)).alloc (Obj.cells #[Value.slice (some { block := b, off := off }) pts.length cap] 30)).alloc (Obj.cells #[Value.int IntKind.i64 ↑i] 3)
  have bM := (Boxed.new (((((w.alloc (Obj.cells #[Value.slice (some { block := b, off := off }) pts.length cap] 30)).alloc (Obj.cells #[Value.int IntKind.i64 ↑i] 3)).alloc (Obj.cells #[Value.int IntKind.i64 at_] 3)).alloc (Obj.cells #[Value.int IntKind.i64 (md Y)] 3)).alloc (Obj.cells #[Value.int IntKind.i64 1] 3)) 30 (Value.slice (some { block := b, off := off }) pts.length cap)).alloc (Obj.cells #[Value.int IntKind.i64 ↑i] 3)
  have bN := Boxed.new ((((((w.alloc (Obj.cells #[Value.slice (some { block := b, off := off }) pts.length cap] 30)).alloc (Obj.cells #[Value.int IntKind.i64 ↑i] 3)).alloc (Obj.cells #[Value.int IntKind.i64 at_] 3)).alloc (Obj.cells #[Value.int IntKind.i64 (md Y)] 3)).alloc (Obj.cells #[Value.int IntKind.i64 1] 3)).alloc (Obj.cells #[Value.slice (some { block := b, off := off }) pts.length cap] 30)) 3 (Value.int IntKind.i64 ↑i)
  have hB7 := (((hB3.alloc (by simp; omega) (Obj.cells #[Value.int IntKind.i64 (md Y)] 3)).alloc (by simp; omega) (Obj.cells #[Value.int IntKind.i64 1] 3)).alloc (by simp; omega) (Obj.cells #[Value.slice (some { block := b, off := off }) pts.length cap] 30)).alloc (by simp; omega) (Obj.cells #[Value.int IntKind.i64 ↑i] 3)
  simp only [World.size_alloc] at bI bA bU bD bM bN
  have hsz : (((((((w.alloc (Obj.cells #[Value.slice (some { block := b, off := off }) pts.length cap] 30)).alloc (Obj.cells #[Value.int IntKind.i64 ↑i] 3)).alloc (Obj.cells #[Value.int IntKind.i64 at_] 3)).alloc (Obj.cells #[Value.int IntKind.i64 (md Y)] 3)).alloc (Obj.cells #[Value.int IntKind.i64 1] 3)).alloc (Obj.cells #[Value.slice (some { block := b, off := off }) pts.length cap] 30)).alloc (Obj.cells #[Value.int IntKind.i64 ↑i] 3)).heap.size = w.heap.size + 7 := by simp
  clear cX cY hP3 hB3
  obtain ⟨W0, hW0⟩ : ∃ W0, (((((((w.alloc (Obj.cells #[Value.slice (some { block := b, off := off }) pts.length cap] 30)).alloc (Obj.cells #[Value.int IntKind.i64 ↑i] 3)).alloc (Obj.cells #[Value.int IntKind.i64 at_] 3)).alloc (Obj.cells #[Value.int IntKind.i64 (md Y)] 3)).alloc (Obj.cells #[Value.int IntKind.i64 1] 3)).alloc (Obj.cells #[Value.slice (some { block := b, off := off }) pts.length cap] 30)).alloc (Obj.cells #[Value.int IntKind.i64 ↑i] 3)) = W0 := ⟨_, rfl⟩
  rw [hW0] at bL bI bA bU bD bM bN hB7 hsz ⊢
  clear hW0
  obtain ⟨H, hH⟩ : ∃ H, w.heap.size = H := ⟨_, rfl⟩
  rw [hH] at bL bI bA bU bD bM bN hB7 hsz hP ⊢
  refine wpIn_rangeFunc_ownH hw (by omega) (gf := 31) (lb := #[.pointer (some ⟨H + 1 + 1 + 1 + 1 + 1, 0, none⟩), .pointer (some ⟨H + 1 + 1 + 1 + 1 + 1 + 1, 0, none⟩)]) rfl trivial (enters_of Try.func31 (by kernel_rfl) rfl)
    (others_stops Fence.wide 5 trivial hw (by omega) (H + 1 + 1 + 1 + 1 + 1) (H + 1 + 1 + 1 + 1 + 1 + 1) H b off cap i pts hlen W0 (by omega) bM bN (hP.below hB7)) KpS_t (KpS_b (by omega)) (Below.refl _ _) (fun _ => rfl)
    (fun pre W => (Boxed W (H + 1 + 1 + 1) 3 (.int .i64 (abv Y at_ pre)) ∧ Boxed W (H + 1 + 1 + 1 + 1) 3 (.int .i64 (blw X pre)) ∧ Boxed W H 30 (.slice (some ⟨b, off, none⟩) pts.length cap) ∧ Boxed W (H + 1) 3 (.int .i64 i) ∧ Boxed W (H + 1 + 1) 3 (.int .i64 at_)) ∧ Below H w W)
    (fun _ _ _ => False)
    (OwnFrom.and (OwnFrom.and (Own.from (boxed_own _ _ _) _) (OwnFrom.and (Own.from (boxed_own _ _ _) _) (OwnFrom.and (Own.from (boxed_own _ _ _) _) (OwnFrom.and (Own.from (boxed_own _ _ _) _) (Own.from (boxed_own _ _ _) _))))) (ownFrom_below (by omega) (by omega)))
    (fun _ _ _ _ _ hs _ _ => hs)
    ⟨⟨bU, bD, bL, bI, bA⟩, hB7⟩
    (fun x a' W => ∃ Bx, H + 5 ≤ Bx ∧ W.heap[Bx]? = some (.cells #[.int .i64 x.1, .int .i64 x.2] 38 (0, 0)) ∧ a' = { tmps := #[Value.slice (some { block := b, off := off }) pts.length cap, Value.int IntKind.i64 ↑i, Value.int IntKind.i64 at_, Value.pointer (some { block := H, off := 0 }), Value.pointer (some { block := H + 1, off := 0 }), Value.pointer (some { block := H + 1 + 1, off := 0 }), Value.int IntKind.i64 0, Value.int IntKind.i64 0, Value.pointer (some { block := H + 1 + 1 + 1, off := 0 }), Value.pointer (some { block := H + 1 + 1 + 1 + 1, off := 0 }), Value.pointer (some { block := Bx, off := 0 }), undef, undef, Value.slice (some { block := b, off := off }) pts.length cap, Value.int IntKind.i64 ↑i, Value.pointer (some { block := b, off := off + i * 2 }), Value.pointer (some { block := b, off := off + i * 2 + 1 }), Value.int IntKind.i64 Y, Value.int IntKind.i64 (md Y), Value.slice (some { block := b, off := off }) pts.length cap, Value.int IntKind.i64 ↑i, Value.func (Fn.func 31) #[] #[Value.pointer (some { block := H + 1 + 1 + 1 + 1 + 1, off := 0 }), Value.pointer (some { block := H + 1 + 1 + 1 + 1 + 1 + 1, off := 0 })], Value.agg #[Value.int IntKind.i64 x.1, Value.int IntKind.i64 x.2], undef, undef, undef, undef, undef, undef, undef, undef, undef, undef, undef, undef, undef, undef, undef, undef, undef, undef, undef, undef, undef, undef, undef, undef, undef, undef, undef, undef, undef], defers := [] })
    (fun x a' _ A B row hs hg hr => by obtain ⟨Bx, h1, h2, h3⟩ := hs; exact ⟨Bx, h1, (grownBy_keeps_cells hg (fun r e => (hr r e).2) h2 rfl).trans h2, h3⟩)
    ?assign ?body ?done ?stop
  case assign =>
    rintro l pre ⟨x1, x2⟩ W K ⟨⟨c1, c2, c3, c4, c5⟩, cB⟩ hK
    dsimp only [encPt]
    gi_wp2
    have hsW := cB.size
    exact hK _ _ ((KeepsOthers.alloc _ _).from _) ⟨(Below.refl _ W).alloc (Nat.le_trans (by omega) hsW) _, fun hx => hx.alloc _⟩ ⟨⟨c1.alloc _, c2.alloc _, c3.alloc _, c4.alloc _, c5.alloc _⟩, cB.alloc (Nat.le_trans (by omega) hsW) _⟩ ⟨W.heap.size, (by have := c2.lt; omega), World.alloc_heap_new W _, rfl⟩
  case body =>
    rintro l pre ⟨x1, x2⟩ a' W hl ⟨r, hr⟩ ⟨⟨c1, c2, c3, c4, c5⟩, cB⟩ ⟨Bx, hBx, hX, rfl⟩ hlt
    have k1 := c1.cell; have k2 := c2.cell; have k3 := c3.cell; have k4 := c4.cell; have k5 := c5.cell
    have f1 := c1.frozen; have f2 := c2.frozen
    have kX : W.cell? ⟨Bx, 0, none⟩ = some (.int .i64 x1) := by simp [World.cell?, hX]
    have hmx : Try.prog.follows .mixedOrders = true := by kernel_rfl
    have n1 := neg_bd x1
    gi_wp2
    have d1 : Boxed W.drew (H + 1 + 1 + 1) 3 (.int .i64 (abv Y at_ pre)) := c1
    have d2 : Boxed W.drew (H + 1 + 1 + 1 + 1) 3 (.int .i64 (blw X pre)) := c2
    have d3 : Boxed W.drew H 30 (.slice (some ⟨b, off, none⟩) pts.length cap) := c3
    have d4 : Boxed W.drew (H + 1) 3 (.int .i64 i) := c4
    have d5 : Boxed W.drew (H + 1 + 1) 3 (.int .i64 at_) := c5
    have dX : W.drew.heap[Bx]? = some (.cells #[.int .i64 x1, .int .i64 x2] 38 (0, 0)) := hX
    have dB : Below H w W.drew := cB.drew
    have dr : W.drew.heap[l]? = some (.loop r) := hr
    have dk : KeepsFrom (H + 7) W W.drew := (KeepsOthers.drew W).from _
    have dB' : Below H W W.drew := (Below.refl H W).drew
    refine Go.wpIn_mono (Q := fun e a' w' => e = .normal ∧ a' = { tmps := #[Value.slice (some { block := b, off := off }) pts.length cap, Value.int IntKind.i64 ↑i, Value.int IntKind.i64 at_, Value.pointer (some { block := H, off := 0 }), Value.pointer (some { block := H + 1, off := 0 }), Value.pointer (some { block := H + 1 + 1, off := 0 }), Value.int IntKind.i64 0, Value.int IntKind.i64 0, Value.pointer (some { block := H + 1 + 1 + 1, off := 0 }), Value.pointer (some { block := H + 1 + 1 + 1 + 1, off := 0 }), Value.pointer (some { block := Bx, off := 0 }), undef, undef, Value.slice (some { block := b, off := off }) pts.length cap, Value.int IntKind.i64 ↑i, Value.pointer (some { block := b, off := off + i * 2 }), Value.pointer (some { block := b, off := off + i * 2 + 1 }), Value.int IntKind.i64 Y, Value.int IntKind.i64 (md Y), Value.slice (some { block := b, off := off }) pts.length cap, Value.int IntKind.i64 ↑i, Value.func (Fn.func 31) #[] #[Value.pointer (some { block := H + 1 + 1 + 1 + 1 + 1, off := 0 }), Value.pointer (some { block := H + 1 + 1 + 1 + 1 + 1 + 1, off := 0 })], Value.agg #[Value.int IntKind.i64 x1, Value.int IntKind.i64 x2], Value.int IntKind.i64 (abv Y at_ pre), Value.int IntKind.i64 at_, Value.pointer (some { block := Bx, off := 0 }), Value.int IntKind.i64 x1, Value.int IntKind.i64 (1073741789 - md x1), Value.slice (some { block := W.drew.heap.size, off := 0 }) 2 2, Value.int IntKind.i64 (md (at_ + (1073741789 - md x1))), Value.int IntKind.i64 (md (abv Y at_ pre * md (at_ + (1073741789 - md x1)))), undef, undef, undef, undef, undef, undef, undef, undef, undef, undef, undef, undef, undef, undef, undef, undef, undef, undef, undef, undef, undef], defers := [] } ∧ w' = (W.drew.setCell ⟨H + 1 + 1 + 1, 0, none⟩ (Value.int IntKind.i64 (md (abv Y at_ pre * md (at_ + (1073741789 - md x1)))))).alloc (Obj.cells #[Value.int IntKind.i64 at_, Value.int IntKind.i64 (1073741789 - md x1)] 3)) (region_round (fun W' => W'.cell? ⟨H + 1 + 1, 0, none⟩ = some (.int .i64 at_) ∧ W'.cell? ⟨Bx, 0, none⟩ = some (.int .i64 x1)) hmx (by kernel_rfl) ⟨by go_simp, by go_simp⟩ ?_) ?_
    · clear k1 k2 k3 k4 k5 f1 f2 kX
      generalize W.drew = W1 at d1 d2 d3 d4 d5 dX dB ⊢
      have k1 := d1.cell; have k2 := d2.cell; have k3 := d3.cell; have k4 := d4.cell; have k5 := d5.cell
      have f1 := d1.frozen; have f2 := d2.frozen
      have l1 := d1.lt; have l2 := d2.lt; have l3 := d3.lt; have l4 := d4.lt; have l5 := d5.lt
      have kX : W1.cell? ⟨Bx, 0, none⟩ = some (.int .i64 x1) := by simp [World.cell?, dX]
      intro hHeld
      refine wpAnyH_take (i := 1) (v := .int .i64 at_) rfl (by kernel_rfl) (by kernel_rfl) (by kernel_rfl) (fun _ _ _ h => h) (Or.inl ⟨by rfl, (by intro w1 hSw; obtain ⟨s1, s2⟩ := hSw; go_simp)⟩) hHeld ?_
      try simp only [Act.put, List.setIfInBounds_toArray, List.set_cons_zero, List.set_cons_succ]
      refine wpAnyH_take (i := 2) (v := .pointer (some ⟨Bx, 0, none⟩)) rfl (by kernel_rfl) (by kernel_rfl) (by kernel_rfl) (fun _ _ _ h => h) (Or.inl ⟨by rfl, (by intro w1 hSw; obtain ⟨s1, s2⟩ := hSw; go_simp)⟩) hHeld ?_
      try simp only [Act.put, List.setIfInBounds_toArray, List.set_cons_zero, List.set_cons_succ]
      refine wpAnyH_take (i := 3) (v := .int .i64 x1) rfl (by kernel_rfl) (by kernel_rfl) (by kernel_rfl) (fun _ _ _ h => h) (Or.inl ⟨by rfl, (by intro w1 hSw; obtain ⟨s1, s2⟩ := hSw; go_simp)⟩) hHeld ?_
      try simp only [Act.put, List.setIfInBounds_toArray, List.set_cons_zero, List.set_cons_succ]
      refine wpAnyH_ready (rs := [0, 4]) (by kernel_rfl) (by simp) ?_
      refine AllReadyH.cons rfl (fun K' hK' => ?_) (AllReadyH.cons rfl (fun K' hK' => ?_) (AllReadyH.nil))
      · go_simp
        refine hK'.out _ _ hHeld (fun hHeld => ?_)
        clear hK' K'
        try simp only [Act.put, List.setIfInBounds_toArray, List.set_cons_zero, List.set_cons_succ]
        refine wpAnyH_ready (rs := [4]) (by kernel_rfl) (by simp) ?_
        refine AllReadyH.cons rfl (fun K' hK' => ?_) (AllReadyH.nil)
        · go_simp
          go_at_call 30; refine (negative_any _ _).mono ?_; rintro e w' ⟨rfl, rfl⟩
          refine hK'.out _ _ hHeld (fun hHeld => ?_)
          clear hK' K'
          try simp only [Act.put, List.setIfInBounds_toArray, List.set_cons_zero, List.set_cons_succ]
          refine wpAnyH_ready (rs := [5]) (by kernel_rfl) (by simp) ?_
          refine AllReadyH.cons rfl (fun K' hK' => ?_) (AllReadyH.nil)
          · go_simp
            refine hK'.out _ _ ⟨cellAl _ hHeld.1, cellAl _ hHeld.2⟩ (fun hHeld => ?_)
            clear hK' K'
            try simp only [Act.put, List.setIfInBounds_toArray, List.set_cons_zero, List.set_cons_succ]
            refine wpAnyH_ready (rs := [6]) (by kernel_rfl) (by simp) ?_
            refine AllReadyH.cons rfl (fun K' hK' => ?_) (AllReadyH.nil)
            · go_simp
              go_at_call 26; refine (sum_any at_ (1073741789 - md x1) _ _ (by go_simp) (by go_simp)).mono ?_; rintro e w' ⟨rfl, rfl⟩
              refine hK'.out _ _ hHeld (fun hHeld => ?_)
              clear hK' K'
              try simp only [Act.put, List.setIfInBounds_toArray, List.set_cons_zero, List.set_cons_succ]
              refine wpAnyH_ready (rs := [7]) (by kernel_rfl) (by simp) ?_
              refine AllReadyH.cons rfl (fun K' hK' => ?_) (AllReadyH.nil)
              · go_simp
                go_at_call 16; refine (mul_any _ _ _).mono ?_; rintro e w' ⟨rfl, rfl⟩
                refine hK'.out _ _ hHeld (fun hHeld => ?_)
                clear hK' K'
                try simp only [Act.put, List.setIfInBounds_toArray, List.set_cons_zero, List.set_cons_succ]
                refine wpAnyH_ready (rs := [8]) (by kernel_rfl) (by simp) ?_
                refine AllReadyH.cons rfl (fun K' hK' => ?_) (AllReadyH.nil)
                · go_simp
                  refine hK'.out _ _ ⟨by go_simp, cellAl _ ((World.cell?_setCell_far _ _ _ _ (by simp; omega)).trans kX)⟩ (fun hHeld => ?_)
                  clear hK' K'
                  try simp only [Act.put, List.setIfInBounds_toArray, List.set_cons_zero, List.set_cons_succ]
                  refine wpAnyH_done (by kernel_rfl) ?_ _
                  exact ⟨rfl, rfl, rfl⟩
      · go_simp
        go_at_call 30; refine (negative_any _ _).mono ?_; rintro e w' ⟨rfl, rfl⟩
        refine hK'.out _ _ hHeld (fun hHeld => ?_)
        clear hK' K'
        try simp only [Act.put, List.setIfInBounds_toArray, List.set_cons_zero, List.set_cons_succ]
        refine wpAnyH_ready (rs := [0, 5]) (by kernel_rfl) (by simp) ?_
        refine AllReadyH.cons rfl (fun K' hK' => ?_) (AllReadyH.cons rfl (fun K' hK' => ?_) (AllReadyH.nil))
        · go_simp
          refine hK'.out _ _ hHeld (fun hHeld => ?_)
          clear hK' K'
          try simp only [Act.put, List.setIfInBounds_toArray, List.set_cons_zero, List.set_cons_succ]
          refine wpAnyH_ready (rs := [5]) (by kernel_rfl) (by simp) ?_
          refine AllReadyH.cons rfl (fun K' hK' => ?_) (AllReadyH.nil)
          · go_simp
            refine hK'.out _ _ ⟨cellAl _ hHeld.1, cellAl _ hHeld.2⟩ (fun hHeld => ?_)
            clear hK' K'
            try simp only [Act.put, List.setIfInBounds_toArray, List.set_cons_zero, List.set_cons_succ]
            refine wpAnyH_ready (rs := [6]) (by kernel_rfl) (by simp) ?_
            refine AllReadyH.cons rfl (fun K' hK' => ?_) (AllReadyH.nil)
            · go_simp
              go_at_call 26; refine (sum_any at_ (1073741789 - md x1) _ _ (by go_simp) (by go_simp)).mono ?_; rintro e w' ⟨rfl, rfl⟩
              refine hK'.out _ _ hHeld (fun hHeld => ?_)
              clear hK' K'
              try simp only [Act.put, List.setIfInBounds_toArray, List.set_cons_zero, List.set_cons_succ]
              refine wpAnyH_ready (rs := [7]) (by kernel_rfl) (by simp) ?_
              refine AllReadyH.cons rfl (fun K' hK' => ?_) (AllReadyH.nil)
              · go_simp
                go_at_call 16; refine (mul_any _ _ _).mono ?_; rintro e w' ⟨rfl, rfl⟩
                refine hK'.out _ _ hHeld (fun hHeld => ?_)
                clear hK' K'
                try simp only [Act.put, List.setIfInBounds_toArray, List.set_cons_zero, List.set_cons_succ]
                refine wpAnyH_ready (rs := [8]) (by kernel_rfl) (by simp) ?_
                refine AllReadyH.cons rfl (fun K' hK' => ?_) (AllReadyH.nil)
                · go_simp
                  refine hK'.out _ _ ⟨by go_simp, cellAl _ ((World.cell?_setCell_far _ _ _ _ (by simp; omega)).trans kX)⟩ (fun hHeld => ?_)
                  clear hK' K'
                  try simp only [Act.put, List.setIfInBounds_toArray, List.set_cons_zero, List.set_cons_succ]
                  refine wpAnyH_done (by kernel_rfl) ?_ _
                  exact ⟨rfl, rfl, rfl⟩
        · go_simp
          refine hK'.out _ _ ⟨cellAl _ hHeld.1, cellAl _ hHeld.2⟩ (fun hHeld => ?_)
          clear hK' K'
          try simp only [Act.put, List.setIfInBounds_toArray, List.set_cons_zero, List.set_cons_succ]
          refine wpAnyH_ready (rs := [0, 6]) (by kernel_rfl) (by simp) ?_
          refine AllReadyH.cons rfl (fun K' hK' => ?_) (AllReadyH.cons rfl (fun K' hK' => ?_) (AllReadyH.nil))
          · go_simp
            refine hK'.out _ _ hHeld (fun hHeld => ?_)
            clear hK' K'
            try simp only [Act.put, List.setIfInBounds_toArray, List.set_cons_zero, List.set_cons_succ]
            refine wpAnyH_ready (rs := [6]) (by kernel_rfl) (by simp) ?_
            refine AllReadyH.cons rfl (fun K' hK' => ?_) (AllReadyH.nil)
            · go_simp
              go_at_call 26; refine (sum_any at_ (1073741789 - md x1) _ _ (by go_simp) (by go_simp)).mono ?_; rintro e w' ⟨rfl, rfl⟩
              refine hK'.out _ _ hHeld (fun hHeld => ?_)
              clear hK' K'
              try simp only [Act.put, List.setIfInBounds_toArray, List.set_cons_zero, List.set_cons_succ]
              refine wpAnyH_ready (rs := [7]) (by kernel_rfl) (by simp) ?_
              refine AllReadyH.cons rfl (fun K' hK' => ?_) (AllReadyH.nil)
              · go_simp
                go_at_call 16; refine (mul_any _ _ _).mono ?_; rintro e w' ⟨rfl, rfl⟩
                refine hK'.out _ _ hHeld (fun hHeld => ?_)
                clear hK' K'
                try simp only [Act.put, List.setIfInBounds_toArray, List.set_cons_zero, List.set_cons_succ]
                refine wpAnyH_ready (rs := [8]) (by kernel_rfl) (by simp) ?_
                refine AllReadyH.cons rfl (fun K' hK' => ?_) (AllReadyH.nil)
                · go_simp
                  refine hK'.out _ _ ⟨by go_simp, cellAl _ ((World.cell?_setCell_far _ _ _ _ (by simp; omega)).trans kX)⟩ (fun hHeld => ?_)
                  clear hK' K'
                  try simp only [Act.put, List.setIfInBounds_toArray, List.set_cons_zero, List.set_cons_succ]
                  refine wpAnyH_done (by kernel_rfl) ?_ _
                  exact ⟨rfl, rfl, rfl⟩
          · go_simp
            go_at_call 26; refine (sum_any at_ (1073741789 - md x1) _ _ (by go_simp) (by go_simp)).mono ?_; rintro e w' ⟨rfl, rfl⟩
            refine hK'.out _ _ hHeld (fun hHeld => ?_)
            clear hK' K'
            try simp only [Act.put, List.setIfInBounds_toArray, List.set_cons_zero, List.set_cons_succ]
            refine wpAnyH_ready (rs := [0]) (by kernel_rfl) (by simp) ?_
            refine AllReadyH.cons rfl (fun K' hK' => ?_) (AllReadyH.nil)
            · go_simp
              refine hK'.out _ _ hHeld (fun hHeld => ?_)
              clear hK' K'
              try simp only [Act.put, List.setIfInBounds_toArray, List.set_cons_zero, List.set_cons_succ]
              refine wpAnyH_ready (rs := [7]) (by kernel_rfl) (by simp) ?_
              refine AllReadyH.cons rfl (fun K' hK' => ?_) (AllReadyH.nil)
              · go_simp
                go_at_call 16; refine (mul_any _ _ _).mono ?_; rintro e w' ⟨rfl, rfl⟩
                refine hK'.out _ _ hHeld (fun hHeld => ?_)
                clear hK' K'
                try simp only [Act.put, List.setIfInBounds_toArray, List.set_cons_zero, List.set_cons_succ]
                refine wpAnyH_ready (rs := [8]) (by kernel_rfl) (by simp) ?_
                refine AllReadyH.cons rfl (fun K' hK' => ?_) (AllReadyH.nil)
                · go_simp
                  refine hK'.out _ _ ⟨by go_simp, cellAl _ ((World.cell?_setCell_far _ _ _ _ (by simp; omega)).trans kX)⟩ (fun hHeld => ?_)
                  clear hK' K'
                  try simp only [Act.put, List.setIfInBounds_toArray, List.set_cons_zero, List.set_cons_succ]
                  refine wpAnyH_done (by kernel_rfl) ?_ _
                  exact ⟨rfl, rfl, rfl⟩
    · rintro e a' w' ⟨rfl, rfl, rfl⟩
      have lt1 := d1.lt; have lt2 := d2.lt
      have e1 : Boxed (W.drew.setCell ⟨H + 1 + 1 + 1, 0, none⟩ (Value.int IntKind.i64 (md (abv Y at_ pre * md (at_ + (1073741789 - md x1)))))) (H + 1 + 1 + 1) 3 (.int .i64 (md (abv Y at_ pre * md (at_ + (1073741789 - md x1))))) := d1.set _
      have e2 : Boxed (W.drew.setCell ⟨H + 1 + 1 + 1, 0, none⟩ (Value.int IntKind.i64 (md (abv Y at_ pre * md (at_ + (1073741789 - md x1)))))) (H + 1 + 1 + 1 + 1) 3 (.int .i64 (blw X pre)) := d2.other (by omega) _
      have e3 := d3.other (B' := H + 1 + 1 + 1) (by omega) (Value.int IntKind.i64 (md (abv Y at_ pre * md (at_ + (1073741789 - md x1)))))
      have e4 := d4.other (B' := H + 1 + 1 + 1) (by omega) (Value.int IntKind.i64 (md (abv Y at_ pre * md (at_ + (1073741789 - md x1)))))
      have e5 := d5.other (B' := H + 1 + 1 + 1) (by omega) (Value.int IntKind.i64 (md (abv Y at_ pre * md (at_ + (1073741789 - md x1)))))
      have eX := (Below.heap_setCell W.drew ⟨H + 1 + 1 + 1, 0, none⟩ (Value.int IntKind.i64 (md (abv Y at_ pre * md (at_ + (1073741789 - md x1))))) Bx (by simp; omega)).trans dX
      have eI : KpS H (H + 1 + 1 + 1 + 1 + 1 + 1) i W (W.drew.setCell ⟨H + 1 + 1 + 1, 0, none⟩ (Value.int IntKind.i64 (md (abv Y at_ pre * md (at_ + (1073741789 - md x1)))))) := ⟨dB'.setCell (by simp; omega) _, fun hx => Boxed.other (W := W.drew) hx (by omega) _⟩
      have eK := dk.trans ((KeepsOthers.setCell W.drew ⟨H + 1 + 1 + 1, 0, none⟩ (Value.int IntKind.i64 (md (abv Y at_ pre * md (at_ + (1073741789 - md x1)))))).from (H + 7))
      generalize hW2 : W.drew.setCell ⟨H + 1 + 1 + 1, 0, none⟩ (Value.int IntKind.i64 (md (abv Y at_ pre * md (at_ + (1073741789 - md x1))))) = W2 at e1 e2 e3 e4 e5 eX eI eK ⊢
      clear hW2
      have hs2 : H + 5 ≤ W2.heap.size := by have := e2.lt; omega
      replace e1 := e1.alloc (Obj.cells #[Value.int IntKind.i64 at_, Value.int IntKind.i64 (1073741789 - md x1)] 3)
      replace e2 := e2.alloc (Obj.cells #[Value.int IntKind.i64 at_, Value.int IntKind.i64 (1073741789 - md x1)] 3)
      replace e3 := e3.alloc (Obj.cells #[Value.int IntKind.i64 at_, Value.int IntKind.i64 (1073741789 - md x1)] 3)
      replace e4 := e4.alloc (Obj.cells #[Value.int IntKind.i64 at_, Value.int IntKind.i64 (1073741789 - md x1)] 3)
      replace e5 := e5.alloc (Obj.cells #[Value.int IntKind.i64 at_, Value.int IntKind.i64 (1073741789 - md x1)] 3)
      replace eX := (Below.heap_alloc W2 (Obj.cells #[Value.int IntKind.i64 at_, Value.int IntKind.i64 (1073741789 - md x1)] 3) Bx (Array.getElem?_eq_some_iff.1 eX).1).trans eX
      replace eI : KpS H (H + 1 + 1 + 1 + 1 + 1 + 1) i W (W2.alloc (Obj.cells #[Value.int IntKind.i64 at_, Value.int IntKind.i64 (1073741789 - md x1)] 3)) := ⟨eI.1.alloc (by omega) _, fun hx => (eI.2 hx).alloc _⟩
      replace eK := eK.trans ((KeepsOthers.alloc W2 (Obj.cells #[Value.int IntKind.i64 at_, Value.int IntKind.i64 (1073741789 - md x1)] 3)).from (H + 7))
      generalize hW3 : W2.alloc (Obj.cells #[Value.int IntKind.i64 at_, Value.int IntKind.i64 (1073741789 - md x1)] 3) = W3 at e1 e2 e3 e4 e5 eX eI eK ⊢
      clear hW3 hs2 k1 k2 k3 k4 k5 f1 f2 kX
      gi_wp2
      have hP3 := hP.below (cB.trans eI.1)
      have ⟨cX, _⟩ := hP3.2 i hi
      rw [← HPI.out] at cX; simp only at cX
      clear d1 d2 d3 d4 d5 dX dB dr dk dB' hP3
      have d1 : Boxed W3.drew (H + 1 + 1 + 1) 3 (.int .i64 (md (abv Y at_ pre * md (at_ + (1073741789 - md x1))))) := e1
      have d2 : Boxed W3.drew (H + 1 + 1 + 1 + 1) 3 (.int .i64 (blw X pre)) := e2
      have d3 : Boxed W3.drew H 30 (.slice (some ⟨b, off, none⟩) pts.length cap) := e3
      have d4 : Boxed W3.drew (H + 1) 3 (.int .i64 i) := e4
      have d5 : Boxed W3.drew (H + 1 + 1) 3 (.int .i64 at_) := e5
      have dX : W3.drew.heap[Bx]? = some (.cells #[.int .i64 x1, .int .i64 x2] 38 (0, 0)) := eX
      have dP : W3.drew.cell? ⟨b, off + i * 2, none⟩ = some (.int .i64 X) := cX
      have dk : KeepsFrom (H + 7) W W3.drew := eK.trans ((KeepsOthers.drew W3).from _)
      have dB' : Below H W W3.drew := eI.1.drew
      have dI : Boxed W (H + 1 + 1 + 1 + 1 + 1 + 1) 3 (.int .i64 i) → Boxed W3.drew (H + 1 + 1 + 1 + 1 + 1 + 1) 3 (.int .i64 i) := eI.2
      have hbH : b < H := hP.1
      clear e1 e2 e3 e4 e5 eX eI eK cX
      refine Go.wpIn_mono (Q := fun e a' w' => e = .normal ∧ a' = { tmps := #[Value.slice (some { block := b, off := off }) pts.length cap, Value.int IntKind.i64 ↑i, Value.int IntKind.i64 at_, Value.pointer (some { block := H, off := 0 }), Value.pointer (some { block := H + 1, off := 0 }), Value.pointer (some { block := H + 1 + 1, off := 0 }), Value.int IntKind.i64 0, Value.int IntKind.i64 0, Value.pointer (some { block := H + 1 + 1 + 1, off := 0 }), Value.pointer (some { block := H + 1 + 1 + 1 + 1, off := 0 }), Value.pointer (some { block := Bx, off := 0 }), undef, undef, Value.slice (some { block := b, off := off }) pts.length cap, Value.int IntKind.i64 ↑i, Value.pointer (some { block := b, off := off + i * 2 }), Value.pointer (some { block := b, off := off + i * 2 + 1 }), Value.int IntKind.i64 Y, Value.int IntKind.i64 (md Y), Value.slice (some { block := b, off := off }) pts.length cap, Value.int IntKind.i64 ↑i, Value.func (Fn.func 31) #[] #[Value.pointer (some { block := H + 1 + 1 + 1 + 1 + 1, off := 0 }), Value.pointer (some { block := H + 1 + 1 + 1 + 1 + 1 + 1, off := 0 })], Value.agg #[Value.int IntKind.i64 x1, Value.int IntKind.i64 x2], Value.int IntKind.i64 (abv Y at_ pre), Value.int IntKind.i64 at_, Value.pointer (some { block := Bx, off := 0 }), Value.int IntKind.i64 x1, Value.int IntKind.i64 (1073741789 - md x1), Value.slice (some { block := W.heap.size, off := 0 }) 2 2, Value.int IntKind.i64 (md (at_ + (1073741789 - md x1))), Value.int IntKind.i64 (md (abv Y at_ pre * md (at_ + (1073741789 - md x1)))), Value.int IntKind.i64 (blw X pre), Value.slice (some { block := b, off := off }) pts.length cap, Value.int IntKind.i64 ↑i, Value.pointer (some { block := b, off := off + i * 2 }), Value.pointer (some { block := b, off := off + i * 2 }), Value.int IntKind.i64 X, Value.pointer (some { block := Bx, off := 0 }), Value.int IntKind.i64 x1, Value.int IntKind.i64 (1073741789 - md x1), Value.slice (some { block := W3.drew.heap.size, off := 0 }) 2 2, Value.int IntKind.i64 (md (X + (1073741789 - md x1))), Value.int IntKind.i64 (md (blw X pre * md (X + (1073741789 - md x1)))), undef, undef, undef, undef, undef, undef, undef, undef, undef], defers := [] } ∧ w' = (W3.drew.setCell ⟨H + 1 + 1 + 1 + 1, 0, none⟩ (Value.int IntKind.i64 (md (blw X pre * md (X + (1073741789 - md x1)))))).alloc (Obj.cells #[Value.int IntKind.i64 X, Value.int IntKind.i64 (1073741789 - md x1)] 3)) (region_round (fun W' => W'.cell? ⟨H, 0, none⟩ = some (.slice (some ⟨b, off, none⟩) pts.length cap) ∧ W'.cell? ⟨H + 1, 0, none⟩ = some (.int .i64 i) ∧ W'.cell? ⟨b, off + i * 2, none⟩ = some (.int .i64 X) ∧ W'.cell? ⟨Bx, 0, none⟩ = some (.int .i64 x1)) hmx (by kernel_rfl) ⟨d3.cell, d4.cell, dP, by simp [World.cell?, dX]⟩ ?_) ?_
      · generalize W3.drew = W1 at d1 d2 d3 d4 d5 dX dP ⊢
        clear dk dB' dI
        have k1 := d1.cell; have k2 := d2.cell; have k3 := d3.cell; have k4 := d4.cell; have k5 := d5.cell
        have f1 := d1.frozen; have f2 := d2.frozen
        have l1 := d1.lt; have l2 := d2.lt; have l3 := d3.lt; have l4 := d4.lt; have l5 := d5.lt
        have kX : W1.cell? ⟨Bx, 0, none⟩ = some (.int .i64 x1) := by simp [World.cell?, dX]
        have hi' : (i : Int) < (pts.length : Int) := by omega
        intro hHeld
        refine wpAnyH_take (i := 1) (v := .slice (some ⟨b, off, none⟩) pts.length cap) rfl (by kernel_rfl) (by kernel_rfl) (by kernel_rfl) (fun _ _ _ h => h) (Or.inl ⟨by rfl, (by intro w1 hSw; obtain ⟨s1, s2, s3, s4⟩ := hSw; go_simp)⟩) hHeld ?_
        try simp only [Act.put, List.setIfInBounds_toArray, List.set_cons_zero, List.set_cons_succ]
        refine wpAnyH_take (i := 2) (v := .int .i64 i) rfl (by kernel_rfl) (by kernel_rfl) (by kernel_rfl) (fun _ _ _ h => h) (Or.inl ⟨by rfl, (by intro w1 hSw; obtain ⟨s1, s2, s3, s4⟩ := hSw; go_simp)⟩) hHeld ?_
        try simp only [Act.put, List.setIfInBounds_toArray, List.set_cons_zero, List.set_cons_succ]
        refine wpAnyH_take (i := 3) (v := .pointer (some ⟨b, off + i * 2, none⟩)) rfl (by kernel_rfl) (by kernel_rfl) (by kernel_rfl) (fun _ _ _ h => h) (Or.inl ⟨by rfl, (by intro w1 hSw; obtain ⟨s1, s2, s3, s4⟩ := hSw; go_simp)⟩) hHeld ?_
        try simp only [Act.put, List.setIfInBounds_toArray, List.set_cons_zero, List.set_cons_succ]
        refine wpAnyH_take (i := 4) (v := .pointer (some ⟨b, off + i * 2, none⟩)) rfl (by kernel_rfl) (by kernel_rfl) (by kernel_rfl) (fun _ _ _ h => h) (Or.inl ⟨by rfl, (by intro w1 hSw; obtain ⟨s1, s2, s3, s4⟩ := hSw; go_simp)⟩) hHeld ?_
        try simp only [Act.put, List.setIfInBounds_toArray, List.set_cons_zero, List.set_cons_succ]
        refine wpAnyH_take (i := 5) (v := .int .i64 X) rfl (by kernel_rfl) (by kernel_rfl) (by kernel_rfl) (fun _ _ _ h => h) (Or.inl ⟨by rfl, (by intro w1 hSw; obtain ⟨s1, s2, s3, s4⟩ := hSw; go_simp)⟩) hHeld ?_
        try simp only [Act.put, List.setIfInBounds_toArray, List.set_cons_zero, List.set_cons_succ]
        refine wpAnyH_take (i := 6) (v := .pointer (some ⟨Bx, 0, none⟩)) rfl (by kernel_rfl) (by kernel_rfl) (by kernel_rfl) (fun _ _ _ h => h) (Or.inl ⟨by rfl, (by intro w1 hSw; obtain ⟨s1, s2, s3, s4⟩ := hSw; go_simp)⟩) hHeld ?_
        try simp only [Act.put, List.setIfInBounds_toArray, List.set_cons_zero, List.set_cons_succ]
        refine wpAnyH_take (i := 7) (v := .int .i64 x1) rfl (by kernel_rfl) (by kernel_rfl) (by kernel_rfl) (fun _ _ _ h => h) (Or.inl ⟨by rfl, (by intro w1 hSw; obtain ⟨s1, s2, s3, s4⟩ := hSw; go_simp)⟩) hHeld ?_
        try simp only [Act.put, List.setIfInBounds_toArray, List.set_cons_zero, List.set_cons_succ]
        refine wpAnyH_ready (rs := [0, 8]) (by kernel_rfl) (by simp) ?_
        refine AllReadyH.cons rfl (fun K' hK' => ?_) (AllReadyH.cons rfl (fun K' hK' => ?_) (AllReadyH.nil))
        · go_simp
          refine hK'.out _ _ hHeld (fun hHeld => ?_)
          clear hK' K'
          try simp only [Act.put, List.setIfInBounds_toArray, List.set_cons_zero, List.set_cons_succ]
          refine wpAnyH_ready (rs := [8]) (by kernel_rfl) (by simp) ?_
          refine AllReadyH.cons rfl (fun K' hK' => ?_) (AllReadyH.nil)
          · go_simp
            go_at_call 30; refine (negative_any _ _).mono ?_; rintro e w' ⟨rfl, rfl⟩
            refine hK'.out _ _ hHeld (fun hHeld => ?_)
            clear hK' K'
            try simp only [Act.put, List.setIfInBounds_toArray, List.set_cons_zero, List.set_cons_succ]
            refine wpAnyH_ready (rs := [9]) (by kernel_rfl) (by simp) ?_
            refine AllReadyH.cons rfl (fun K' hK' => ?_) (AllReadyH.nil)
            · go_simp
              refine hK'.out _ _ ⟨cellAl _ hHeld.1, cellAl _ hHeld.2.1, cellAl _ hHeld.2.2.1, cellAl _ hHeld.2.2.2⟩ (fun hHeld => ?_)
              clear hK' K'
              try simp only [Act.put, List.setIfInBounds_toArray, List.set_cons_zero, List.set_cons_succ]
              refine wpAnyH_ready (rs := [10]) (by kernel_rfl) (by simp) ?_
              refine AllReadyH.cons rfl (fun K' hK' => ?_) (AllReadyH.nil)
              · go_simp
                go_at_call 26; refine (sum_any X (1073741789 - md x1) _ _ (by go_simp) (by go_simp)).mono ?_; rintro e w' ⟨rfl, rfl⟩
                refine hK'.out _ _ hHeld (fun hHeld => ?_)
                clear hK' K'
                try simp only [Act.put, List.setIfInBounds_toArray, List.set_cons_zero, List.set_cons_succ]
                refine wpAnyH_ready (rs := [11]) (by kernel_rfl) (by simp) ?_
                refine AllReadyH.cons rfl (fun K' hK' => ?_) (AllReadyH.nil)
                · go_simp
                  go_at_call 16; refine (mul_any _ _ _).mono ?_; rintro e w' ⟨rfl, rfl⟩
                  refine hK'.out _ _ hHeld (fun hHeld => ?_)
                  clear hK' K'
                  try simp only [Act.put, List.setIfInBounds_toArray, List.set_cons_zero, List.set_cons_succ]
                  refine wpAnyH_ready (rs := [12]) (by kernel_rfl) (by simp) ?_
                  refine AllReadyH.cons rfl (fun K' hK' => ?_) (AllReadyH.nil)
                  · go_simp
                    refine hK'.out _ _ ⟨cellAl _ ((World.cell?_setCell_far _ _ _ _ (by simp; omega)).trans k3), cellAl _ ((World.cell?_setCell_far _ _ _ _ (by simp; omega)).trans k4), cellAl _ ((World.cell?_setCell_far _ _ _ _ (by simp; omega)).trans dP), cellAl _ ((World.cell?_setCell_far _ _ _ _ (by simp; omega)).trans kX)⟩ (fun hHeld => ?_)
                    clear hK' K'
                    try simp only [Act.put, List.setIfInBounds_toArray, List.set_cons_zero, List.set_cons_succ]
                    refine wpAnyH_done (by kernel_rfl) ?_ _
                    exact ⟨rfl, rfl, rfl⟩
        · go_simp
          go_at_call 30; refine (negative_any _ _).mono ?_; rintro e w' ⟨rfl, rfl⟩
          refine hK'.out _ _ hHeld (fun hHeld => ?_)
          clear hK' K'
          try simp only [Act.put, List.setIfInBounds_toArray, List.set_cons_zero, List.set_cons_succ]
          refine wpAnyH_ready (rs := [0, 9]) (by kernel_rfl) (by simp) ?_
          refine AllReadyH.cons rfl (fun K' hK' => ?_) (AllReadyH.cons rfl (fun K' hK' => ?_) (AllReadyH.nil))
          · go_simp
            refine hK'.out _ _ hHeld (fun hHeld => ?_)
            clear hK' K'
            try simp only [Act.put, List.setIfInBounds_toArray, List.set_cons_zero, List.set_cons_succ]
            refine wpAnyH_ready (rs := [9]) (by kernel_rfl) (by simp) ?_
            refine AllReadyH.cons rfl (fun K' hK' => ?_) (AllReadyH.nil)
            · go_simp
              refine hK'.out _ _ ⟨cellAl _ hHeld.1, cellAl _ hHeld.2.1, cellAl _ hHeld.2.2.1, cellAl _ hHeld.2.2.2⟩ (fun hHeld => ?_)
              clear hK' K'
              try simp only [Act.put, List.setIfInBounds_toArray, List.set_cons_zero, List.set_cons_succ]
              refine wpAnyH_ready (rs := [10]) (by kernel_rfl) (by simp) ?_
              refine AllReadyH.cons rfl (fun K' hK' => ?_) (AllReadyH.nil)
              · go_simp
                go_at_call 26; refine (sum_any X (1073741789 - md x1) _ _ (by go_simp) (by go_simp)).mono ?_; rintro e w' ⟨rfl, rfl⟩
                refine hK'.out _ _ hHeld (fun hHeld => ?_)
                clear hK' K'
                try simp only [Act.put, List.setIfInBounds_toArray, List.set_cons_zero, List.set_cons_succ]
                refine wpAnyH_ready (rs := [11]) (by kernel_rfl) (by simp) ?_
                refine AllReadyH.cons rfl (fun K' hK' => ?_) (AllReadyH.nil)
                · go_simp
                  go_at_call 16; refine (mul_any _ _ _).mono ?_; rintro e w' ⟨rfl, rfl⟩
                  refine hK'.out _ _ hHeld (fun hHeld => ?_)
                  clear hK' K'
                  try simp only [Act.put, List.setIfInBounds_toArray, List.set_cons_zero, List.set_cons_succ]
                  refine wpAnyH_ready (rs := [12]) (by kernel_rfl) (by simp) ?_
                  refine AllReadyH.cons rfl (fun K' hK' => ?_) (AllReadyH.nil)
                  · go_simp
                    refine hK'.out _ _ ⟨cellAl _ ((World.cell?_setCell_far _ _ _ _ (by simp; omega)).trans k3), cellAl _ ((World.cell?_setCell_far _ _ _ _ (by simp; omega)).trans k4), cellAl _ ((World.cell?_setCell_far _ _ _ _ (by simp; omega)).trans dP), cellAl _ ((World.cell?_setCell_far _ _ _ _ (by simp; omega)).trans kX)⟩ (fun hHeld => ?_)
                    clear hK' K'
                    try simp only [Act.put, List.setIfInBounds_toArray, List.set_cons_zero, List.set_cons_succ]
                    refine wpAnyH_done (by kernel_rfl) ?_ _
                    exact ⟨rfl, rfl, rfl⟩
          · go_simp
            refine hK'.out _ _ ⟨cellAl _ hHeld.1, cellAl _ hHeld.2.1, cellAl _ hHeld.2.2.1, cellAl _ hHeld.2.2.2⟩ (fun hHeld => ?_)
            clear hK' K'
            try simp only [Act.put, List.setIfInBounds_toArray, List.set_cons_zero, List.set_cons_succ]
            refine wpAnyH_ready (rs := [0, 10]) (by kernel_rfl) (by simp) ?_
            refine AllReadyH.cons rfl (fun K' hK' => ?_) (AllReadyH.cons rfl (fun K' hK' => ?_) (AllReadyH.nil))
            · go_simp
              refine hK'.out _ _ hHeld (fun hHeld => ?_)
              clear hK' K'
              try simp only [Act.put, List.setIfInBounds_toArray, List.set_cons_zero, List.set_cons_succ]
              refine wpAnyH_ready (rs := [10]) (by kernel_rfl) (by simp) ?_
              refine AllReadyH.cons rfl (fun K' hK' => ?_) (AllReadyH.nil)
              · go_simp
                go_at_call 26; refine (sum_any X (1073741789 - md x1) _ _ (by go_simp) (by go_simp)).mono ?_; rintro e w' ⟨rfl, rfl⟩
                refine hK'.out _ _ hHeld (fun hHeld => ?_)
                clear hK' K'
                try simp only [Act.put, List.setIfInBounds_toArray, List.set_cons_zero, List.set_cons_succ]
                refine wpAnyH_ready (rs := [11]) (by kernel_rfl) (by simp) ?_
                refine AllReadyH.cons rfl (fun K' hK' => ?_) (AllReadyH.nil)
                · go_simp
                  go_at_call 16; refine (mul_any _ _ _).mono ?_; rintro e w' ⟨rfl, rfl⟩
                  refine hK'.out _ _ hHeld (fun hHeld => ?_)
                  clear hK' K'
                  try simp only [Act.put, List.setIfInBounds_toArray, List.set_cons_zero, List.set_cons_succ]
                  refine wpAnyH_ready (rs := [12]) (by kernel_rfl) (by simp) ?_
                  refine AllReadyH.cons rfl (fun K' hK' => ?_) (AllReadyH.nil)
                  · go_simp
                    refine hK'.out _ _ ⟨cellAl _ ((World.cell?_setCell_far _ _ _ _ (by simp; omega)).trans k3), cellAl _ ((World.cell?_setCell_far _ _ _ _ (by simp; omega)).trans k4), cellAl _ ((World.cell?_setCell_far _ _ _ _ (by simp; omega)).trans dP), cellAl _ ((World.cell?_setCell_far _ _ _ _ (by simp; omega)).trans kX)⟩ (fun hHeld => ?_)
                    clear hK' K'
                    try simp only [Act.put, List.setIfInBounds_toArray, List.set_cons_zero, List.set_cons_succ]
                    refine wpAnyH_done (by kernel_rfl) ?_ _
                    exact ⟨rfl, rfl, rfl⟩
            · go_simp
              go_at_call 26; refine (sum_any X (1073741789 - md x1) _ _ (by go_simp) (by go_simp)).mono ?_; rintro e w' ⟨rfl, rfl⟩
              refine hK'.out _ _ hHeld (fun hHeld => ?_)
              clear hK' K'
              try simp only [Act.put, List.setIfInBounds_toArray, List.set_cons_zero, List.set_cons_succ]
              refine wpAnyH_ready (rs := [0]) (by kernel_rfl) (by simp) ?_
              refine AllReadyH.cons rfl (fun K' hK' => ?_) (AllReadyH.nil)
              · go_simp
                refine hK'.out _ _ hHeld (fun hHeld => ?_)
                clear hK' K'
                try simp only [Act.put, List.setIfInBounds_toArray, List.set_cons_zero, List.set_cons_succ]
                refine wpAnyH_ready (rs := [11]) (by kernel_rfl) (by simp) ?_
                refine AllReadyH.cons rfl (fun K' hK' => ?_) (AllReadyH.nil)
                · go_simp
                  go_at_call 16; refine (mul_any _ _ _).mono ?_; rintro e w' ⟨rfl, rfl⟩
                  refine hK'.out _ _ hHeld (fun hHeld => ?_)
                  clear hK' K'
                  try simp only [Act.put, List.setIfInBounds_toArray, List.set_cons_zero, List.set_cons_succ]
                  refine wpAnyH_ready (rs := [12]) (by kernel_rfl) (by simp) ?_
                  refine AllReadyH.cons rfl (fun K' hK' => ?_) (AllReadyH.nil)
                  · go_simp
                    refine hK'.out _ _ ⟨cellAl _ ((World.cell?_setCell_far _ _ _ _ (by simp; omega)).trans k3), cellAl _ ((World.cell?_setCell_far _ _ _ _ (by simp; omega)).trans k4), cellAl _ ((World.cell?_setCell_far _ _ _ _ (by simp; omega)).trans dP), cellAl _ ((World.cell?_setCell_far _ _ _ _ (by simp; omega)).trans kX)⟩ (fun hHeld => ?_)
                    clear hK' K'
                    try simp only [Act.put, List.setIfInBounds_toArray, List.set_cons_zero, List.set_cons_succ]
                    refine wpAnyH_done (by kernel_rfl) ?_ _
                    exact ⟨rfl, rfl, rfl⟩
      · rintro e a' w' ⟨rfl, rfl, rfl⟩
        have lt1 := d1.lt; have lt2 := d2.lt
        have e1 := d1.other (B' := H + 1 + 1 + 1 + 1) (by omega) (Value.int IntKind.i64 (md (blw X pre * md (X + (1073741789 - md x1)))))
        have e2 := d2.set (Value.int IntKind.i64 (md (blw X pre * md (X + (1073741789 - md x1)))))
        have e3 := d3.other (B' := H + 1 + 1 + 1 + 1) (by omega) (Value.int IntKind.i64 (md (blw X pre * md (X + (1073741789 - md x1)))))
        have e4 := d4.other (B' := H + 1 + 1 + 1 + 1) (by omega) (Value.int IntKind.i64 (md (blw X pre * md (X + (1073741789 - md x1)))))
        have e5 := d5.other (B' := H + 1 + 1 + 1 + 1) (by omega) (Value.int IntKind.i64 (md (blw X pre * md (X + (1073741789 - md x1)))))
        have eI : KpS H (H + 1 + 1 + 1 + 1 + 1 + 1) i W (W3.drew.setCell ⟨H + 1 + 1 + 1 + 1, 0, none⟩ (Value.int IntKind.i64 (md (blw X pre * md (X + (1073741789 - md x1)))))) := ⟨dB'.setCell (by simp; omega) _, fun hx => Boxed.other (W := W3.drew) (dI hx) (by omega) _⟩
        have eK := dk.trans ((KeepsOthers.setCell W3.drew ⟨H + 1 + 1 + 1 + 1, 0, none⟩ (Value.int IntKind.i64 (md (blw X pre * md (X + (1073741789 - md x1)))))).from (H + 7))
        generalize hW2 : W3.drew.setCell ⟨H + 1 + 1 + 1 + 1, 0, none⟩ (Value.int IntKind.i64 (md (blw X pre * md (X + (1073741789 - md x1))))) = W2 at e1 e2 e3 e4 e5 eI eK ⊢
        clear hW2
        have hs2 : H + 5 ≤ W2.heap.size := by have := e2.lt; omega
        gi_wp2
        exact ⟨by rw [hsz]; exact eK.trans ((KeepsOthers.alloc W2 _).from (H + 7)), ⟨eI.1.alloc (by omega) _, fun hx => (eI.2 hx).alloc _⟩, ⟨by rw [abv_snoc]; exact e1.alloc _, by rw [blw_snoc]; exact e2.alloc _, e3.alloc _, e4.alloc _, e5.alloc _⟩, cB.trans (eI.1.alloc (by omega) _)⟩
  case done =>
    rintro D zs W hD rfl ⟨⟨c1, c2, c3, c4, c5⟩, cB⟩ hK
    have k1 := c1.cell; have k2 := c2.cell
    have hfin : Below H w (W.putObj D (.deferred none)) := cB.trans (belowK_b (w := w) (by omega) W D _ _ (by omega) hK rfl rfl)
    by_cases h0 : md (blw X (oth pts i pts.length)) = 0
    · gi_wp2_with (first | (refine ⟨trivial, ?_⟩; gi_at_call 10; refine (callsIn_wide.2 (inverse_no _ _ h0)).mono ?_; rintro e w' ⟨rfl, rfl⟩) | (refine ⟨trivial, ?_⟩; gi_at_call 16; refine (callsIn_wide.2 (mul_any _ _ _)).mono ?_; rintro e w' ⟨rfl, rfl⟩))
      refine ⟨by simp, .inl ⟨_, _, rfl, run_takeDeferred hK, ?_⟩⟩
      exact ⟨_, results_tmp2 rfl _ _ _, .inl ⟨by rw [← HPI.out]; exact h0, rfl⟩, by rw [hH]; exact hfin⟩
    · gi_wp2_with (first | (refine ⟨trivial, ?_⟩; gi_at_call 10; refine (callsIn_wide.2 (inverse_yes _ _ h0)).mono ?_; rintro e w' ⟨v, hv, rfl, rfl⟩; have HV := Lib.hid hv; clear hv) | (refine ⟨trivial, ?_⟩; gi_at_call 16; refine (callsIn_wide.2 (mul_any _ _ _)).mono ?_; rintro e w' ⟨rfl, rfl⟩))
      refine ⟨by simp, .inl ⟨_, _, rfl, run_takeDeferred hK, ?_⟩⟩
      exact ⟨_, results_tmp2 rfl _ _ _, .inr ⟨by rw [← HPI.out]; exact h0, _, by rw [← HPI.out]; exact HV.out, by rw [← HPI.out]; rfl⟩, by rw [hH]; exact hfin⟩
  case stop =>
    rintro D c pre W _ _ h _
    exact h.elim
end Go.Proofs.Ytmmoenbdlfmgeaa
