/- DERIVED. Gauges: the two ends that Read goes through. -/
import Derived.Test.YtmmoenbdlfmgeacFlowC
import Derived.Test.YtmmoenbdlfmgeacRound
import Derived.RangeFuncNested
import Derived.RangeFuncBound
import Derived.RangeFuncCalls
import Derived.RangeFuncLeaves
import Derived.RangeFuncBox
import Derived.Shelf.Abstract
import Derived.Shelf.RegionOpen
import Derived.OwnWalkIn
import Derived.TacticsInMore
import Derived.LoopNIn
import Derived.LoopIn
namespace Go.Proofs.Ytmmoenbdlfmgeac
open Go.RowKit Go.Shelf
set_option linter.unusedVariables false
set_option linter.unusedSimpArgs false
attribute [local go_sem] Oper.semAt_some
/-- What a round keeps: what lay below n, and the two boxes. -/
def KpE (n Bs Bo : Nat) (st of : Int) (W W' : World) : Prop := Below n W W' ∧ (Boxed W Bs 3 (.int .i64 st) → Boxed W' Bs 3 (.int .i64 st)) ∧ (Boxed W Bo 3 (.int .i64 of) → Boxed W' Bo 3 (.int .i64 of))
theorem KpE_t {n Bs Bo : Nat} {st of : Int} {A B C : World} (h : KpE n Bs Bo st of A B) (k : KpE n Bs Bo st of B C) : KpE n Bs Bo st of A C := ⟨h.1.trans k.1, fun x => k.2.1 (h.2.1 x), fun x => k.2.2 (h.2.2 x)⟩
theorem KpE_b {n Bs Bo : Nat} {st of : Int} {w : World} (hn : n ≤ w.heap.size) (W : World) (l : Nat) (o o' : Obj) (hl : w.heap.size ≤ l) (h : W.heap[l]? = some o) (hc : o.isCells = false) (hw : o.isWalk = false) : KpE n Bs Bo st of W (W.putObj l o') :=
  ⟨belowK_b hn W l o o' hl h hc hw, fun x => boxed_own Bs 3 (fun (_ : Unit) => Value.int .i64 st) () W _ (some l) x (grownBy_putObj' W l o') (fun r e => by cases e; exact ⟨_, h, hc⟩), fun x => boxed_own Bo 3 (fun (_ : Unit) => Value.int .i64 of) () W _ (some l) x (grownBy_putObj' W l o') (fun r e => by cases e; exact ⟨_, h, hc⟩)⟩
/-- A stage. -/
abbrev Rg := { x : Int // 0 ≤ x ∧ x ≤ 1048576 }
abbrev encI (x : Rg) : Array Value := #[.int .i64 x.1]
def end0 (st of : Int) : Int := max 0 (st - of)
def end1 (st of : Int) : Int := min 1048576 (st + of)

set_option maxRecDepth 100000 in
set_option maxHeartbeats 1000000 in
theorem ends1_in (F : Fence) (n : Nat) (h7 : F.fn 16) (hro : F.round = none) (hn : 1 ≤ n) (l Bs Bo n₀ : Nat) (st of : Int) (hst : 0 ≤ st ∧ st ≤ 1048576) (hof : 0 ≤ of ∧ of ≤ 1000000) (J Jx : List Rg → World → Prop) (M : Nat)
    (hJ : AbidesFrom M J)
    (hY : ∀ pre x W, J pre W → pre.length < 2 → YieldAt F (n - 1) Try.prog l (encI x) W fun e W' =>
      (e = .returned (.bool true) ∧ J (pre ++ [x]) W' ∧ KpE n₀ Bs Bo st of W W') ∨ (e = .returned (.bool false) ∧ Jx (pre ++ [x]) W'))
    (W : World) (hnW : n₀ ≤ W.heap.size) (hBs : Boxed W Bs 3 (.int .i64 st)) (hBo : Boxed W Bo 3 (.int .i64 of)) (h0 : J [] W) :
    CallsIn F n Try.prog 16 #[.func (.yield l) #[] #[], .pointer (some ⟨Bs, 0, none⟩), .pointer (some ⟨Bo, 0, none⟩)] W fun e W' => (∃ v, e = .returned v) ∧
      ((∃ ys, ys.map (·.1) = [end0 st of, end1 st of] ∧ J ys W') ∨ (∃ pre, True ∧ Jx pre W')) := by
  refine callsIn_of_wp Try.func16 rfl h7 ?_ hro
  simp only [Try.ntmps16, List.size_toArray, List.length_cons, List.length_nil, Nat.reduceAdd, Nat.reduceSub, Array.replicate_succ, Array.replicate_zero, List.push_toArray, List.append_toArray, List.nil_append, List.cons_append]
  have c1 := hBs.cell; have c2 := hBo.cell
  by_cases ha : of < st
  · by_cases hb : st + of < 1048576
    ·
      have HE0 := Lib.hid (show end0 st of = st - of by unfold end0; omega)
      have HE1 := Lib.hid (show end1 st of = st + of by unfold end1; omega)
      obtain ⟨fn, tmps, assign, body, hy, hR⟩ := hY [] ⟨st - of, by omega⟩ W h0 (by simp)
      dsimp only [encI] at hy
      gi_wp2
      refine hR.mono ?_
      rintro e W3 (⟨rfl, hJ3, hk3⟩ | ⟨rfl, hJx3⟩)
      · have hBs3 := hk3.2.1 hBs; have hBo3 := hk3.2.2 hBo
        have c1 := hBs3.cell; have c2 := hBo3.cell
        obtain ⟨fn, tmps, assign, body, hy, hR⟩ := hY _ ⟨st + of, by omega⟩ W3 hJ3 (by simp)
        dsimp only [encI] at hy
        gi_wp2
        refine hR.mono ?_
        rintro e W4 (⟨rfl, hJ4, hk4⟩ | ⟨rfl, hJx4⟩)
        · gi_wp2
          go_end0
          exact ⟨⟨_, rfl⟩, .inl ⟨_, by rw [HE0.out, HE1.out]; rfl, hJ4⟩⟩
        · gi_wp2
          go_end0
          exact ⟨⟨_, rfl⟩, .inr ⟨_, trivial, hJx4⟩⟩
      · gi_wp2
        go_end0
        exact ⟨⟨_, rfl⟩, .inr ⟨_, trivial, hJx3⟩⟩
    ·
      have HE0 := Lib.hid (show end0 st of = st - of by unfold end0; omega)
      have HE1 := Lib.hid (show end1 st of = 1048576 by unfold end1; omega)
      obtain ⟨fn, tmps, assign, body, hy, hR⟩ := hY [] ⟨st - of, by omega⟩ W h0 (by simp)
      dsimp only [encI] at hy
      gi_wp2
      refine hR.mono ?_
      rintro e W3 (⟨rfl, hJ3, hk3⟩ | ⟨rfl, hJx3⟩)
      · have hBs3 := hk3.2.1 hBs; have hBo3 := hk3.2.2 hBo
        have c1 := hBs3.cell; have c2 := hBo3.cell
        obtain ⟨fn, tmps, assign, body, hy, hR⟩ := hY _ ⟨1048576, by omega⟩ W3 hJ3 (by simp)
        dsimp only [encI] at hy
        gi_wp2
        refine hR.mono ?_
        rintro e W4 (⟨rfl, hJ4, hk4⟩ | ⟨rfl, hJx4⟩)
        · gi_wp2
          go_end0
          exact ⟨⟨_, rfl⟩, .inl ⟨_, by rw [HE0.out, HE1.out]; rfl, hJ4⟩⟩
        · gi_wp2
          go_end0
          exact ⟨⟨_, rfl⟩, .inr ⟨_, trivial, hJx4⟩⟩
      · gi_wp2
        go_end0
        exact ⟨⟨_, rfl⟩, .inr ⟨_, trivial, hJx3⟩⟩
  · by_cases hb : st + of < 1048576
    ·
      have HE0 := Lib.hid (show end0 st of = 0 by unfold end0; omega)
      have HE1 := Lib.hid (show end1 st of = st + of by unfold end1; omega)
      obtain ⟨fn, tmps, assign, body, hy, hR⟩ := hY [] ⟨0, by omega⟩ W h0 (by simp)
      dsimp only [encI] at hy
      gi_wp2
      refine hR.mono ?_
      rintro e W3 (⟨rfl, hJ3, hk3⟩ | ⟨rfl, hJx3⟩)
      · have hBs3 := hk3.2.1 hBs; have hBo3 := hk3.2.2 hBo
        have c1 := hBs3.cell; have c2 := hBo3.cell
        obtain ⟨fn, tmps, assign, body, hy, hR⟩ := hY _ ⟨st + of, by omega⟩ W3 hJ3 (by simp)
        dsimp only [encI] at hy
        gi_wp2
        refine hR.mono ?_
        rintro e W4 (⟨rfl, hJ4, hk4⟩ | ⟨rfl, hJx4⟩)
        · gi_wp2
          go_end0
          exact ⟨⟨_, rfl⟩, .inl ⟨_, by rw [HE0.out, HE1.out]; rfl, hJ4⟩⟩
        · gi_wp2
          go_end0
          exact ⟨⟨_, rfl⟩, .inr ⟨_, trivial, hJx4⟩⟩
      · gi_wp2
        go_end0
        exact ⟨⟨_, rfl⟩, .inr ⟨_, trivial, hJx3⟩⟩
    ·
      have HE0 := Lib.hid (show end0 st of = 0 by unfold end0; omega)
      have HE1 := Lib.hid (show end1 st of = 1048576 by unfold end1; omega)
      obtain ⟨fn, tmps, assign, body, hy, hR⟩ := hY [] ⟨0, by omega⟩ W h0 (by simp)
      dsimp only [encI] at hy
      gi_wp2
      refine hR.mono ?_
      rintro e W3 (⟨rfl, hJ3, hk3⟩ | ⟨rfl, hJx3⟩)
      · have hBs3 := hk3.2.1 hBs; have hBo3 := hk3.2.2 hBo
        have c1 := hBs3.cell; have c2 := hBo3.cell
        obtain ⟨fn, tmps, assign, body, hy, hR⟩ := hY _ ⟨1048576, by omega⟩ W3 hJ3 (by simp)
        dsimp only [encI] at hy
        gi_wp2
        refine hR.mono ?_
        rintro e W4 (⟨rfl, hJ4, hk4⟩ | ⟨rfl, hJx4⟩)
        · gi_wp2
          go_end0
          exact ⟨⟨_, rfl⟩, .inl ⟨_, by rw [HE0.out, HE1.out]; rfl, hJ4⟩⟩
        · gi_wp2
          go_end0
          exact ⟨⟨_, rfl⟩, .inr ⟨_, trivial, hJx4⟩⟩
      · gi_wp2
        go_end0
        exact ⟨⟨_, rfl⟩, .inr ⟨_, trivial, hJx3⟩⟩

set_option maxHeartbeats 1000000 in
theorem ends_in (F : Fence) (n : Nat) (h5 : F.fn 11) (hro : F.round = none) (st of : Int) (w : World) :
    CallsIn F n Try.prog 11 #[.int .i64 st, .int .i64 of] w fun e w' => e = .returned (.func (.func 16) #[] #[.pointer (some ⟨w.heap.size, 0, none⟩), .pointer (some ⟨w.heap.size + 1, 0, none⟩)]) ∧ w' = (w.alloc (.cells #[.int .i64 st] 3)).alloc (.cells #[.int .i64 of] 3) := by
  refine callsIn_of_wp Try.func11 rfl h5 ?_ hro
  simp only [Try.ntmps11, List.size_toArray, List.length_cons, List.length_nil, Nat.reduceAdd, Nat.reduceSub, Array.replicate_succ, Array.replicate_zero, List.push_toArray, List.append_toArray, List.nil_append, List.cons_append]
  gi_wp2
  go_ret
  exact ⟨rfl, rfl⟩

theorem ends_stops (F : Fence) (n : Nat) (h7 : F.fn 16) (hro : F.round = none) (hn : 1 ≤ n) (Bs Bo n₀ : Nat) (st of : Int) (hst : 0 ≤ st ∧ st ≤ 1048576) (hof : 0 ≤ of ∧ of ≤ 1000000) (w : World) (hn₀ : n₀ ≤ w.heap.size)
    (hc : Boxed w Bs 3 (.int .i64 st)) (hd : Boxed w Bo 3 (.int .i64 of)) :
    SeqStopsK F n Try.prog 16 #[.pointer (some ⟨Bs, 0, none⟩), .pointer (some ⟨Bo, 0, none⟩)] encI (KpE n₀ Bs Bo st of) (fun ys => ys.map (·.1) = [end0 st of, end1 st of]) (fun _ => True) 2 w := fun l J Jx W hW hJ _ hY h0 =>
  ends1_in F n h7 hro hn l Bs Bo n₀ st of hst hof J Jx W.heap.size hJ hY W (Nat.le_trans hn₀ hW.size) ((hW.block Bs hc.lt).trans hc) ((hW.block Bo hd.lt).trans hd) h0
end Go.Proofs.Ytmmoenbdlfmgeac
