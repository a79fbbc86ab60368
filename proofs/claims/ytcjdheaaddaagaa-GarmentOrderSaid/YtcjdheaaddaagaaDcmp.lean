import Derived.Shelf.SlSortCmp.NoneTotal
import Derived.Shelf.SlicesG.Cmp
import Derived.StillTailTactics
import Derived.Test.YtcjdheaaddaagaaChecked
namespace Go.Proofs.Ytcjdheaaddaagaa
open Go.Shelf Go.RowKit Go.Lib Go.Sort
def cmpC_ren : Go.Shelf.Ren := ⟨fun | 5 => 52 | 7 => 56 | n => n, fun | 22 => 3 | 3 => 3 | 4 => 4 | n => n, fun | n => n⟩
theorem cmpC : Go.Proofs.SlLaysC2.n5 Try.prog cmpC_ren := {
  mixed := by kernel_rfl,
  f5 := ⟨Try.f52.name, by decide, Try.func52.trans (congrArg some (by kernel_rfl))⟩,
  f7 := ⟨Try.f56.name, by decide, Try.func56.trans (congrArg some (by kernel_rfl))⟩,
  t3 := Try.underlying3,
  a3 := Try.isAgg3,
  z3 := Try.sizeOf3,
  v3 := Try.zeroValue3,
  t4 := Try.underlying4,
  a4 := Try.isAgg4,
  z4 := Try.sizeOf4,
  v4 := Try.zeroValue4,
  t22 := Try.underlying3,
  a22 := Try.isAgg3,
  z22 := Try.sizeOf3,
  v22 := Try.zeroValue3
}
theorem orA (a b : Int) (ha : a ≠ 0) (B : Nat) (W : World) (h0 : W.cell? ⟨B, 0, none⟩ = some (.int .i64 a)) (h1 : W.cell? ⟨B, 1, none⟩ = some (.int .i64 b)) (c : Nat) : Calls Try.prog 51 #[.slice (some ⟨B, 0, none⟩) 2 c] W fun e w' => e = .returned (.int .i64 (a)) ∧ w' = W := by
  go_enter Try.func51, Try.ntmps51
  go_wp2
  refine wp_loop_rounds 3 ?_
  rw [rounds_succ]
  go_wp2
  rename_i h _
  have ha' : (a != 0) = true := by simp [ha]
  simp only [ha', if_true]
  go_wp2
  go_ret
  exact ⟨rfl, rfl⟩
theorem orB (a b : Int) (ha : a = 0) (B : Nat) (W : World) (h0 : W.cell? ⟨B, 0, none⟩ = some (.int .i64 a)) (h1 : W.cell? ⟨B, 1, none⟩ = some (.int .i64 b)) (c : Nat) : Calls Try.prog 51 #[.slice (some ⟨B, 0, none⟩) 2 c] W fun e w' => e = .returned (.int .i64 (b)) ∧ w' = W := by
  subst ha
  go_enter Try.func51, Try.ntmps51
  go_wp2
  refine wp_loop_rounds 3 ?_
  rw [rounds_succ]
  go_wp2
  rw [rounds_succ]
  go_wp2
  · go_ret
    exact ⟨rfl, rfl⟩
  · rename_i h
    have hb : b = 0 := by simpa using h
    subst hb
    rw [rounds_succ]
    go_wp2
    go_ret
    exact ⟨rfl, rfl⟩
theorem orTwo (a b : Int) (B : Nat) (W : World) (h0 : W.cell? ⟨B, 0, none⟩ = some (.int .i64 a)) (h1 : W.cell? ⟨B, 1, none⟩ = some (.int .i64 b)) (c : Nat) : Calls Try.prog 51 #[.slice (some ⟨B, 0, none⟩) 2 c] W fun e w' => e = .returned (.int .i64 (if a ≠ 0 then a else b)) ∧ w' = W := by
  by_cases ha : a = 0
  · simpa [ha] using orB a b ha B W h0 h1 c
  · simpa [ha] using orA a b ha B W h0 h1 c
theorem boxes (W : World) (a b c d : Value) (t : TypeId) (n : Nat) :
    let W2 : World := { ((W.alloc (.cells #[a, b] t)).alloc (.cells #[c, d] t)) with drawn := n }
    W2.cell? ⟨W.heap.size, 0, none⟩ = some a ∧ W2.cell? ⟨W.heap.size, 1, none⟩ = some b ∧ W2.cell? ⟨W.heap.size + 1, 0, none⟩ = some c ∧ W2.cell? ⟨W.heap.size + 1, 1, none⟩ = some d := by
  have hs : W.heap.size + 1 = (W.alloc (.cells #[a, b] t)).heap.size := by show _ = (W.heap.push _).size; simp
  refine ⟨?_, ?_, ?_, ?_⟩
  · exact (World.cell?_alloc_lt (w := W.alloc (.cells #[a, b] t)) _ ⟨W.heap.size, 0, none⟩ (by show W.heap.size < (W.heap.push _).size; simp)).trans (World.cell?_alloc_at _ _ _ _ rfl)
  · exact (World.cell?_alloc_lt (w := W.alloc (.cells #[a, b] t)) _ ⟨W.heap.size, 1, none⟩ (by show W.heap.size < (W.heap.push _).size; simp)).trans (World.cell?_alloc_at _ _ _ _ rfl)
  · exact (World.cell?_alloc_at _ _ _ _ hs)
  · exact (World.cell?_alloc_at _ _ _ _ hs)
set_option maxRecDepth 100000 in
set_option maxHeartbeats 2000000 in
theorem cmpE (x y : Int × Int) (W : World) : Calls Try.prog 35 #[.agg #[.int .i64 x.1, .int .i64 x.2], .agg #[.int .i64 y.1, .int .i64 y.2]] W fun e w' => e = .returned (.int .i64 (if Lib.compareInt y.2 x.2 ≠ 0 then Lib.compareInt y.2 x.2 else Lib.compareInt x.1 y.1)) ∧ ∃ q os', w' = grow (W.drewN q) os' := by
  have hcon := fun W' => AnyG.cmp_Compare_int cmpC (y.2) (x.2) W'
  have hcom := fun W' => AnyG.cmp_Compare_int cmpC (x.1) (y.1) W'
  change ∀ W', Calls Try.prog 52 _ _ _ at hcon
  change ∀ W', Calls Try.prog 52 _ _ _ at hcom
  generalize Lib.compareInt (y.2) (x.2) = p at hcon ⊢
  generalize Lib.compareInt (x.1) (y.1) = q at hcom ⊢
  go_enter Try.func35, Try.ntmps35
  go_wp2
  refine wp_region_still_tail 10 (by kernel_rfl) (by kernel_rfl) ?_
  simp only [List.take_succ_cons, List.take_zero, List.drop_succ_cons, List.drop_zero]
  generalize hW2 : ({ ((W.alloc (.cells #[.int .i64 x.1, .int .i64 x.2] 59)).alloc (.cells #[.int .i64 y.1, .int .i64 y.2] 59)) with drawn := ((W.alloc (.cells #[.int .i64 x.1, .int .i64 x.2] 59)).alloc (.cells #[.int .i64 y.1, .int .i64 y.2] 59)).drawn + 1 } : World) = W2
  obtain ⟨c10, c11, c20, c21⟩ := boxes W (.int .i64 x.1) (.int .i64 x.2) (.int .i64 y.1) (.int .i64 y.2) 59 (((W.alloc (.cells #[.int .i64 x.1, .int .i64 x.2] 59)).alloc (.cells #[.int .i64 y.1, .int .i64 y.2] 59)).drawn + 1)
  rw [hW2] at c10 c11 c20 c21
  have hg : ∃ os', W2 = grow (W.drewN 1) os' := ⟨#[(.cells #[.int .i64 x.1, .int .i64 x.2] 59), (.cells #[.int .i64 y.1, .int .i64 y.2] 59)], by
    rw [← hW2, alloc_eq_grow, alloc_eq_grow, grow_grow]; rfl⟩
  clear hW2
  repeat still_step
  still_call (hcon _)
  repeat still_step
  still_call (hcom _)
  repeat still_step
  refine wpStill_nil ?_
  go_wp2_with (go_at_call 51; refine (orTwo p q W2.heap.size (W2.alloc (.cells #[.int .i64 p, .int .i64 q] 3)) (World.cell?_alloc_at _ _ _ _ rfl) (World.cell?_alloc_at _ _ _ _ rfl) 2).mono ?_; rintro e w' ⟨rfl, rfl⟩)
  all_goals go_ret
  all_goals obtain ⟨os', hos⟩ := hg
  all_goals exact ⟨by first | rfl | simp_all, 1, _, by rw [hos, alloc_eq_grow, grow_grow]⟩
set_option maxRecDepth 100000 in
set_option maxHeartbeats 2000000 in
theorem cmpL (x y : Int × Int) (W : World) : Calls Try.prog 37 #[.agg #[.int .i64 x.1, .int .i64 x.2], .agg #[.int .i64 y.1, .int .i64 y.2]] W fun e w' => e = .returned (.int .i64 (if Lib.compareInt x.2 y.2 ≠ 0 then Lib.compareInt x.2 y.2 else Lib.compareInt y.1 x.1)) ∧ ∃ q os', w' = grow (W.drewN q) os' := by
  have hcon := fun W' => AnyG.cmp_Compare_int cmpC (x.2) (y.2) W'
  have hcom := fun W' => AnyG.cmp_Compare_int cmpC (y.1) (x.1) W'
  change ∀ W', Calls Try.prog 52 _ _ _ at hcon
  change ∀ W', Calls Try.prog 52 _ _ _ at hcom
  generalize Lib.compareInt (x.2) (y.2) = p at hcon ⊢
  generalize Lib.compareInt (y.1) (x.1) = q at hcom ⊢
  go_enter Try.func37, Try.ntmps37
  go_wp2
  refine wp_region_still_tail 10 (by kernel_rfl) (by kernel_rfl) ?_
  simp only [List.take_succ_cons, List.take_zero, List.drop_succ_cons, List.drop_zero]
  generalize hW2 : ({ ((W.alloc (.cells #[.int .i64 x.1, .int .i64 x.2] 59)).alloc (.cells #[.int .i64 y.1, .int .i64 y.2] 59)) with drawn := ((W.alloc (.cells #[.int .i64 x.1, .int .i64 x.2] 59)).alloc (.cells #[.int .i64 y.1, .int .i64 y.2] 59)).drawn + 1 } : World) = W2
  obtain ⟨c10, c11, c20, c21⟩ := boxes W (.int .i64 x.1) (.int .i64 x.2) (.int .i64 y.1) (.int .i64 y.2) 59 (((W.alloc (.cells #[.int .i64 x.1, .int .i64 x.2] 59)).alloc (.cells #[.int .i64 y.1, .int .i64 y.2] 59)).drawn + 1)
  rw [hW2] at c10 c11 c20 c21
  have hg : ∃ os', W2 = grow (W.drewN 1) os' := ⟨#[(.cells #[.int .i64 x.1, .int .i64 x.2] 59), (.cells #[.int .i64 y.1, .int .i64 y.2] 59)], by
    rw [← hW2, alloc_eq_grow, alloc_eq_grow, grow_grow]; rfl⟩
  clear hW2
  repeat still_step
  still_call (hcon _)
  repeat still_step
  still_call (hcom _)
  repeat still_step
  refine wpStill_nil ?_
  go_wp2_with (go_at_call 51; refine (orTwo p q W2.heap.size (W2.alloc (.cells #[.int .i64 p, .int .i64 q] 3)) (World.cell?_alloc_at _ _ _ _ rfl) (World.cell?_alloc_at _ _ _ _ rfl) 2).mono ?_; rintro e w' ⟨rfl, rfl⟩)
  all_goals go_ret
  all_goals obtain ⟨os', hos⟩ := hg
  all_goals exact ⟨by first | rfl | simp_all, 1, _, by rw [hos, alloc_eq_grow, grow_grow]⟩
end Go.Proofs.Ytcjdheaaddaagaa
