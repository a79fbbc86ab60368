/- DERIVED. A reach, a farm, a right: their checks keep their contracts. -/
import Derived.Test.YtcidomlhmdefaaaDdct
namespace Go.Proofs.Ytcidomlhmdefaaa
open Go.Dx
set_option linter.unusedVariables false
theorem cShrR_ok (N : Nat) (w0 : World) : ConOk Try.prog tb N w0 cShrR := by
  refine con_of_walk (tb := tb) fine (C := [cVal]) (conCons cVal_ok noCon) 80 rfl ?_ N w0
  refine fun a a0 a1 b b0 b1 c c0 c1 d d0 d1 _ => ?_
  rw [tree_shrR]
  show T.res _ (fun y => ValP (Shr a b c d) y) _ _
  refine res_con rfl trivial (fun x _ _ hx => ?_)
  rcases vl_in (show ValP (VRat a b) [.n x] from hx) with ⟨v1, rfl⟩ | ⟨v1, rfl⟩
  rotate_left
  · exact res_ite (fun _ => vl_no fun q => v1 q.1) fun z => absurd rfl (show ¬ (0 : Int) = 0 from z)
  refine res_ite (fun z => absurd (show (1 : Int) = 0 from z) (by decide)) fun _ => ?_
  refine res_con rfl trivial (fun x _ _ hx => ?_)
  rcases vl_in (show ValP (VRat c d) [.n x] from hx) with ⟨v2, rfl⟩ | ⟨v2, rfl⟩
  rotate_left
  · exact res_ite (fun _ => vl_no fun q => v2 q.2.1) fun z => absurd rfl (show ¬ (0 : Int) = 0 from z)
  refine res_ite (fun z => absurd (show (1 : Int) = 0 from z) (by decide)) fun _ => ?_
  refine res_con rfl trivial (fun x _ _ hx => ?_)
  rcases vl_in (show ValP (VRat a b) [.n x] from hx) with ⟨_, rfl⟩ | ⟨e, _⟩
  rotate_left
  · exact absurd v1 e
  refine res_ite (fun _ => ?_) fun z => absurd (show ¬ ¬ (1 : Int) = 0 from z) (by decide)
  refine res_con rfl trivial (fun x _ _ hx => ?_)
  rcases vl_in (show ValP (VRat c d) [.n x] from hx) with ⟨_, rfl⟩ | ⟨e, _⟩
  rotate_left
  · exact absurd v2 e
  refine res_ite (fun z => absurd (show (1 : Int) = 0 from z) (by decide)) fun _ => ?_
  obtain ⟨w1, w2⟩ := w_cross v1 v2
  refine res_ite (fun l => ?_) fun l => ?_
  · have l : IntKind.i64.wrap (a * d) < IntKind.i64.wrap (c * b) := l
    rw [w1, w2] at l
    exact res_ite (fun m => vl_yes ⟨v1, v2, by omega, m.1, m.2⟩) fun m => vl_no fun q => m ⟨q.2.2.2.1, q.2.2.2.2⟩
  · have l : ¬ IntKind.i64.wrap (a * d) < IntKind.i64.wrap (c * b) := l
    rw [w1, w2] at l
    refine res_ite (fun k => ?_) fun k => ?_
    · have k : IntKind.i64.wrap (c * b) < IntKind.i64.wrap (a * d) := k
      rw [w1, w2] at k
      exact vl_no fun q => by have := q.2.2.1; omega
    · have k : ¬ IntKind.i64.wrap (c * b) < IntKind.i64.wrap (a * d) := k
      rw [w1, w2] at k
      exact res_ite (fun m => vl_yes ⟨v1, v2, by omega, m.1, m.2⟩) fun m => vl_no fun q => m ⟨q.2.2.2.1, q.2.2.2.2⟩

set_option maxRecDepth 100000 in
theorem cRch_ok (N : Nat) (w0 : World) : ConOk Try.prog tb N w0 (cRch 46) := by
  refine con_of_walk (tb := tb) fine (C := [cRat]) (conCons cRat_ok noCon) 100 rfl ?_ N w0
  refine fun nm _ x1 _ _ x2 _ _ x3 _ _ x4 _ _ x5 _ _ x6 _ _ x7 _ _ x8 _ _ x9 _ _ x10 _ _ x11 _ _ _ => ?_
  rw [tree_rch]
  show T.res _ (fun y => ValP ((((1 ≤ x2 ∧ x2 ≤ 16) ∧ (0 ≤ x3 ∧ x3 ≤ 1073741824) ∧ 0 ≤ x4 ∧ x4 ≤ 1099511627776) ∧ (0 ≤ x5 ∧ x5 ≤ x3 ∧ x5 ≤ x4) ∧ 0 ≤ x6 ∧ x6 ≤ x7 ∧ x7 ≤ 1073741824) ∧ Shr x8 x9 x10 x11) y) _ _
  refine res_ite (fun h => vl_no fun q => ?_) fun h1 => ?_
  · replace h := cvh (b := (x2 < 1)) (by kernel_rfl) h
    have q := q.1
    omega
  replace h1 := cvh (b := ¬ (x2 < 1)) (by kernel_rfl) h1
  refine res_ite (fun h => vl_no fun q => ?_) fun h2 => ?_
  · replace h := cvh (b := ((16 : Int) < x2)) (by kernel_rfl) h
    have q := q.1
    omega
  replace h2 := cvh (b := ¬ ((16 : Int) < x2)) (by kernel_rfl) h2
  refine res_ite (fun h => vl_no fun q => ?_) fun h3 => ?_
  · replace h := cvh (b := (x3 < 0)) (by kernel_rfl) h
    have q := q.1
    omega
  replace h3 := cvh (b := ¬ (x3 < 0)) (by kernel_rfl) h3
  refine res_ite (fun h => vl_no fun q => ?_) fun h4 => ?_
  · replace h := cvh (b := ((1073741824 : Int) < x3)) (by kernel_rfl) h
    have q := q.1
    omega
  replace h4 := cvh (b := ¬ ((1073741824 : Int) < x3)) (by kernel_rfl) h4
  refine res_ite (fun h => vl_no fun q => ?_) fun h5 => ?_
  · replace h := cvh (b := (x4 < 0)) (by kernel_rfl) h
    have q := q.1
    omega
  replace h5 := cvh (b := ¬ (x4 < 0)) (by kernel_rfl) h5
  refine res_ite (fun h => vl_no fun q => ?_) fun h6 => ?_
  · replace h := cvh (b := ((1099511627776 : Int) < x4)) (by kernel_rfl) h
    have q := q.1
    omega
  replace h6 := cvh (b := ¬ ((1099511627776 : Int) < x4)) (by kernel_rfl) h6
  refine res_ite (fun h => vl_no fun q => ?_) fun h7 => ?_
  · replace h := cvh (b := (x5 < 0)) (by kernel_rfl) h
    have q := q.1
    omega
  replace h7 := cvh (b := ¬ (x5 < 0)) (by kernel_rfl) h7
  refine res_ite (fun h => vl_no fun q => ?_) fun h8 => ?_
  · replace h := cvh (b := (min (x3) (x4) < x5)) (by kernel_rfl) h
    have q := q.1
    omega
  replace h8 := cvh (b := ¬ (min (x3) (x4) < x5)) (by kernel_rfl) h8
  refine res_ite (fun h => vl_no fun q => ?_) fun h9 => ?_
  · replace h := cvh (b := (x6 < 0)) (by kernel_rfl) h
    have q := q.1
    omega
  replace h9 := cvh (b := ¬ (x6 < 0)) (by kernel_rfl) h9
  refine res_ite (fun h => vl_no fun q => ?_) fun h10 => ?_
  · replace h := cvh (b := (x7 < x6)) (by kernel_rfl) h
    have q := q.1
    omega
  replace h10 := cvh (b := ¬ (x7 < x6)) (by kernel_rfl) h10
  refine res_ite (fun h => vl_no fun q => ?_) fun h11 => ?_
  · replace h := cvh (b := ((1073741824 : Int) < x7)) (by kernel_rfl) h
    have q := q.1
    omega
  replace h11 := cvh (b := ¬ ((1073741824 : Int) < x7)) (by kernel_rfl) h11
  have pa : (((1 ≤ x2 ∧ x2 ≤ 16) ∧ (0 ≤ x3 ∧ x3 ≤ 1073741824) ∧ 0 ≤ x4 ∧ x4 ≤ 1099511627776) ∧ (0 ≤ x5 ∧ x5 ≤ x3 ∧ x5 ≤ x4) ∧ 0 ≤ x6 ∧ x6 ≤ x7 ∧ x7 ≤ 1073741824) := by omega
  clear h1 h2 h3 h4 h5 h6 h7 h8 h9 h10 h11
  refine res_con rfl trivial (fun x _ _ hx => ?_)
  rcases rt_in (show ChkP x8 x9 [.n x] from hx) with ⟨v1, rfl⟩ | ⟨v1, rfl⟩
  rotate_left
  · exact res_ite (fun _ => vl_no fun q => v1 q.2.1) fun z => absurd (show ¬ ¬ (120 : Int) = 0 from z) (by decide)
  refine res_ite (fun z => absurd (show ¬ (0 : Int) = 0 from z) (by decide)) fun _ => ?_
  refine res_con rfl trivial (fun x _ _ hx => ?_)
  rcases rt_in (show ChkP x10 x11 [.n x] from hx) with ⟨v2, rfl⟩ | ⟨v2, rfl⟩
  rotate_left
  · exact res_ite (fun _ => vl_no fun q => v2 q.2.2.1) fun z => absurd (show ¬ ¬ (120 : Int) = 0 from z) (by decide)
  refine res_ite (fun z => absurd (show ¬ (0 : Int) = 0 from z) (by decide)) fun _ => ?_
  obtain ⟨w1, w2⟩ := w_cross v1 v2
  refine res_ite (fun l => ?_) fun l => ?_
  · have l : IntKind.i64.wrap (x8 * x11) < IntKind.i64.wrap (x10 * x9) := l
    rw [w1, w2] at l
    exact res_ite (fun m => vl_yes ⟨pa, v1, v2, by omega, m.1, m.2⟩) fun m => vl_no fun q => m ⟨q.2.2.2.2.1, q.2.2.2.2.2⟩
  · have l : ¬ IntKind.i64.wrap (x8 * x11) < IntKind.i64.wrap (x10 * x9) := l
    rw [w1, w2] at l
    refine res_ite (fun k => ?_) fun k => ?_
    · have k : IntKind.i64.wrap (x10 * x9) < IntKind.i64.wrap (x8 * x11) := k
      rw [w1, w2] at k
      exact vl_no fun q => by have := q.2.2.2.1; omega
    · have k : ¬ IntKind.i64.wrap (x10 * x9) < IntKind.i64.wrap (x8 * x11) := k
      rw [w1, w2] at k
      exact res_ite (fun m => vl_yes ⟨pa, v1, v2, by omega, m.1, m.2⟩) fun m => vl_no fun q => m ⟨q.2.2.2.2.1, q.2.2.2.2.2⟩

set_option maxRecDepth 100000 in
theorem cRchR_ok (N : Nat) (w0 : World) : ConOk Try.prog tb N w0 (cRch 55) := by
  refine con_of_walk (tb := tb) fine (C := [cShrR]) (conCons cShrR_ok noCon) 80 rfl ?_ N w0
  refine fun nm _ x1 _ _ x2 _ _ x3 _ _ x4 _ _ x5 _ _ x6 _ _ x7 _ _ x8 _ _ x9 _ _ x10 _ _ x11 _ _ _ => ?_
  rw [tree_rchR]
  show T.res _ (fun y => ValP ((((1 ≤ x2 ∧ x2 ≤ 16) ∧ (0 ≤ x3 ∧ x3 ≤ 1073741824) ∧ 0 ≤ x4 ∧ x4 ≤ 1099511627776) ∧ (0 ≤ x5 ∧ x5 ≤ x3 ∧ x5 ≤ x4) ∧ 0 ≤ x6 ∧ x6 ≤ x7 ∧ x7 ≤ 1073741824) ∧ Shr x8 x9 x10 x11) y) _ _
  refine res_ite (fun h => vl_no fun q => ?_) fun h1 => ?_
  · replace h := cvh (b := ((¬ (((1 : Int) ≤ x2) ∧ (x2 ≤ 16)) ∨ ¬ (((0 : Int) ≤ x3) ∧ (x3 ≤ 1073741824))) ∨ ¬ (((0 : Int) ≤ x4) ∧ (x4 ≤ 1099511627776)))) (by kernel_rfl) h
    have q := q.1
    omega
  replace h1 := cvh (b := ¬ ((¬ (((1 : Int) ≤ x2) ∧ (x2 ≤ 16)) ∨ ¬ (((0 : Int) ≤ x3) ∧ (x3 ≤ 1073741824))) ∨ ¬ (((0 : Int) ≤ x4) ∧ (x4 ≤ 1099511627776)))) (by kernel_rfl) h1
  refine res_ite (fun h => vl_no fun q => ?_) fun h2 => ?_
  · replace h := cvh (b := ((¬ (((0 : Int) ≤ x5) ∧ (x5 ≤ min (x3) (x4))) ∨ ¬ (((0 : Int) ≤ x6) ∧ (x6 ≤ x7))) ∨ ((1073741824 : Int) < x7))) (by kernel_rfl) h
    have q := q.1
    omega
  replace h2 := cvh (b := ¬ ((¬ (((0 : Int) ≤ x5) ∧ (x5 ≤ min (x3) (x4))) ∨ ¬ (((0 : Int) ≤ x6) ∧ (x6 ≤ x7))) ∨ ((1073741824 : Int) < x7))) (by kernel_rfl) h2
  have pa : (((1 ≤ x2 ∧ x2 ≤ 16) ∧ (0 ≤ x3 ∧ x3 ≤ 1073741824) ∧ 0 ≤ x4 ∧ x4 ≤ 1099511627776) ∧ (0 ≤ x5 ∧ x5 ≤ x3 ∧ x5 ≤ x4) ∧ 0 ≤ x6 ∧ x6 ≤ x7 ∧ x7 ≤ 1073741824) := by omega
  refine res_con rfl trivial (fun x _ _ hx => ?_)
  have hx : ValP (Shr x8 x9 x10 x11) [.n x] := hx
  exact ⟨fun q => hx.1 q.2, fun q => hx.2 fun z => q ⟨pa, z⟩⟩

set_option maxRecDepth 100000 in
theorem cFrm_ok (N : Nat) (w0 : World) : ConOk Try.prog tb N w0 (cFrm 47) := by
  refine con_of_walk (tb := tb) fine (C := []) noCon 80 rfl ?_ N w0
  refine fun nm _ H _ _ ca _ _ st _ _ R _ F _ C _ G _ U _ Wl _ nn _ x1 _ _ x2 _ _ x3 _ _ _ => ?_
  rw [tree_frm]
  show T.res _ (fun y => ValP (((0 ≤ x1 ∧ x1 < (DV.sl none 0 R).len) ∧ 0 ≤ x2 ∧ x2 ≤ 1048576) ∧ (x2 = 0 → x3 = -1) ∧ (x2 ≠ 0 → 0 ≤ x3 ∧ x3 < (DV.sl none 0 C).len)) y) _ _
  refine res_ite (fun h1 => ?_) fun h1 => ?_
  · replace h1 := cvh (b := (((0 : Int) ≤ x1) ∧ (x1 < (DV.sl none 0 R).len))) (by kernel_rfl) h1
    refine res_ite (fun h2 => ?_) fun h2 => ?_
    · replace h2 := cvh (b := (x2 < 0)) (by kernel_rfl) h2
      exact vl_no fun q => by omega
    · replace h2 := cvh (b := ¬ (x2 < 0)) (by kernel_rfl) h2
      refine res_ite (fun h3 => ?_) fun h3 => ?_
      · replace h3 := cvh (b := ((1048576 : Int) < x2)) (by kernel_rfl) h3
        exact vl_no fun q => by omega
      · replace h3 := cvh (b := ¬ ((1048576 : Int) < x2)) (by kernel_rfl) h3
        refine res_ite (fun h4 => ?_) fun h4 => ?_
        · replace h4 := cvh (b := (x2 = 0)) (by kernel_rfl) h4
          refine res_ite (fun h5 => ?_) fun h5 => ?_
          · replace h5 := cvh (b := (x3 = -1)) (by kernel_rfl) h5
            exact vl_yes (by omega)
          · replace h5 := cvh (b := ¬ (x3 = -1)) (by kernel_rfl) h5
            exact vl_no fun q => by omega
        · replace h4 := cvh (b := ¬ (x2 = 0)) (by kernel_rfl) h4
          refine res_ite (fun h6 => ?_) fun h6 => ?_
          · replace h6 := cvh (b := (((0 : Int) ≤ x3) ∧ (x3 < (DV.sl none 0 C).len))) (by kernel_rfl) h6
            exact vl_yes (by omega)
          · replace h6 := cvh (b := ¬ (((0 : Int) ≤ x3) ∧ (x3 < (DV.sl none 0 C).len))) (by kernel_rfl) h6
            exact vl_no fun q => by omega
  · replace h1 := cvh (b := ¬ (((0 : Int) ≤ x1) ∧ (x1 < (DV.sl none 0 R).len))) (by kernel_rfl) h1
    exact vl_no fun q => by omega

set_option maxRecDepth 100000 in
theorem cRgt_ok (N : Nat) (w0 : World) : ConOk Try.prog tb N w0 (cRgt 48) := by
  refine con_of_walk (tb := tb) fine (C := []) noCon 80 rfl ?_ N w0
  refine fun nm _ H _ _ ca _ _ st _ _ R _ F _ C _ G _ U _ Wl _ nn _ x1 _ _ x2 _ _ x3 _ _ x4 _ _ x5 _ _ x6 _ _ x7 _ _ x8 _ _ x9 _ _ hp => ?_
  have hp : 1 ≤ H ∧ H ≤ 4096 := hp
  have wH : IntKind.i64.wrap (H - 1) = H - 1 := wI (by omega) (by omega)
  rw [tree_rgt]
  show T.res _ (fun y => ValP (((0 ≤ x2 ∧ x2 < (DV.sl none 0 F).len) ∧ (0 ≤ x3 ∧ x3 < (DV.sl none 0 R).len) ∧ 0 ≤ x6 ∧ x6 ≤ x7 ∧ x7 < H) ∧ ((x1 = 1 ∧ x3 = 0 ∧ (0 ≤ x4 ∧ x4 ≤ 1048576) ∧ (1 ≤ x5 ∧ x5 ≤ 1073741824) ∧ 1 ≤ x9 ∧ x9 ≤ x8 ∧ x8 ≤ H) ∨ ((x1 = 2 ∨ x1 = 3) ∧ x4 = 0 ∧ x5 = 0 ∧ x8 = 0 ∧ x9 = 0 ∧ (x1 = 2 → x6 = 0 ∧ x7 = H - 1)))) y) _ _
  refine res_ite (fun h1 => ?_) fun h1 => ?_
  · replace h1 := cvh (b := ¬ (¬ (((0 : Int) ≤ x2) ∧ (x2 < (DV.sl none 0 F).len)) ∨ ¬ (((0 : Int) ≤ x3) ∧ (x3 < (DV.sl none 0 R).len)))) (by kernel_rfl) h1
    refine res_ite (fun h2 => ?_) fun h2 => ?_
    · replace h2 := cvh (b := (x6 < 0)) (by kernel_rfl) h2
      exact vl_no fun q => by omega
    · replace h2 := cvh (b := ¬ (x6 < 0)) (by kernel_rfl) h2
      refine res_ite (fun h3 => ?_) fun h3 => ?_
      · replace h3 := cvh (b := (x7 < x6)) (by kernel_rfl) h3
        exact vl_no fun q => by omega
      · replace h3 := cvh (b := ¬ (x7 < x6)) (by kernel_rfl) h3
        refine res_ite (fun h4 => ?_) fun h4 => ?_
        · replace h4 := cvh (b := (IntKind.i64.wrap (H - 1) < x7)) (by kernel_rfl) h4
          rw [wH] at h4
          exact vl_no fun q => by omega
        · replace h4 := cvh (b := ¬ (IntKind.i64.wrap (H - 1) < x7)) (by kernel_rfl) h4
          rw [wH] at h4
          refine res_ite (fun h5 => ?_) fun h5 => ?_
          · replace h5 := cvh (b := (x1 = 1)) (by kernel_rfl) h5
            refine res_ite (fun h6 => ?_) fun h6 => ?_
            · replace h6 := cvh (b := (x3 = 0)) (by kernel_rfl) h6
              refine res_ite (fun h7 => ?_) fun h7 => ?_
              · replace h7 := cvh (b := (x4 < 0)) (by kernel_rfl) h7
                exact vl_no fun q => by omega
              · replace h7 := cvh (b := ¬ (x4 < 0)) (by kernel_rfl) h7
                refine res_ite (fun h8 => ?_) fun h8 => ?_
                · replace h8 := cvh (b := ((1048576 : Int) < x4)) (by kernel_rfl) h8
                  exact vl_no fun q => by omega
                · replace h8 := cvh (b := ¬ ((1048576 : Int) < x4)) (by kernel_rfl) h8
                  refine res_ite (fun h9 => ?_) fun h9 => ?_
                  · replace h9 := cvh (b := (x5 < 1)) (by kernel_rfl) h9
                    exact vl_no fun q => by omega
                  · replace h9 := cvh (b := ¬ (x5 < 1)) (by kernel_rfl) h9
                    refine res_ite (fun h10 => ?_) fun h10 => ?_
                    · replace h10 := cvh (b := ((1073741824 : Int) < x5)) (by kernel_rfl) h10
                      exact vl_no fun q => by omega
                    · replace h10 := cvh (b := ¬ ((1073741824 : Int) < x5)) (by kernel_rfl) h10
                      refine res_ite (fun h11 => ?_) fun h11 => ?_
                      · replace h11 := cvh (b := (x9 < 1)) (by kernel_rfl) h11
                        exact vl_no fun q => by omega
                      · replace h11 := cvh (b := ¬ (x9 < 1)) (by kernel_rfl) h11
                        refine res_ite (fun h12 => ?_) fun h12 => ?_
                        · replace h12 := cvh (b := (x8 < x9)) (by kernel_rfl) h12
                          exact vl_no fun q => by omega
                        · replace h12 := cvh (b := ¬ (x8 < x9)) (by kernel_rfl) h12
                          refine res_ite (fun h13 => ?_) fun h13 => ?_
                          · replace h13 := cvh (b := (H < x8)) (by kernel_rfl) h13
                            exact vl_no fun q => by omega
                          · replace h13 := cvh (b := ¬ (H < x8)) (by kernel_rfl) h13
                            exact vl_yes (by omega)
            · replace h6 := cvh (b := ¬ (x3 = 0)) (by kernel_rfl) h6
              exact vl_no fun q => by omega
          · replace h5 := cvh (b := ¬ (x1 = 1)) (by kernel_rfl) h5
            refine res_ite (fun h14 => ?_) fun h14 => ?_
            · replace h14 := cvh (b := (x1 = 2)) (by kernel_rfl) h14
              refine res_ite (fun h15 => ?_) fun h15 => ?_
              · replace h15 := cvh (b := (((((x4 = 0) ∧ (x5 = 0)) ∧ (x8 = 0)) ∧ (x9 = 0)) ∧ ((x6 = 0) ∧ (x7 = IntKind.i64.wrap (H - 1))))) (by kernel_rfl) h15
                rw [wH] at h15
                exact vl_yes (by omega)
              · replace h15 := cvh (b := ¬ (((((x4 = 0) ∧ (x5 = 0)) ∧ (x8 = 0)) ∧ (x9 = 0)) ∧ ((x6 = 0) ∧ (x7 = IntKind.i64.wrap (H - 1))))) (by kernel_rfl) h15
                rw [wH] at h15
                exact vl_no fun q => by omega
            · replace h14 := cvh (b := ¬ (x1 = 2)) (by kernel_rfl) h14
              refine res_ite (fun h16 => ?_) fun h16 => ?_
              · replace h16 := cvh (b := (x1 = 3)) (by kernel_rfl) h16
                refine res_ite (fun h17 => ?_) fun h17 => ?_
                · replace h17 := cvh (b := ((((x4 = 0) ∧ (x5 = 0)) ∧ (x8 = 0)) ∧ (x9 = 0))) (by kernel_rfl) h17
                  exact vl_yes (by omega)
                · replace h17 := cvh (b := ¬ ((((x4 = 0) ∧ (x5 = 0)) ∧ (x8 = 0)) ∧ (x9 = 0))) (by kernel_rfl) h17
                  exact vl_no fun q => by omega
              · replace h16 := cvh (b := ¬ (x1 = 3)) (by kernel_rfl) h16
                exact vl_no fun q => by omega
  · replace h1 := cvh (b := ¬ ¬ (¬ (((0 : Int) ≤ x2) ∧ (x2 < (DV.sl none 0 F).len)) ∨ ¬ (((0 : Int) ≤ x3) ∧ (x3 < (DV.sl none 0 R).len)))) (by kernel_rfl) h1
    exact vl_no fun q => by omega

set_option maxRecDepth 100000 in
theorem cRgtR_ok (N : Nat) (w0 : World) : ConOk Try.prog tb N w0 (cRgt 52) := by
  refine con_of_walk (tb := tb) fine (C := []) noCon 80 rfl ?_ N w0
  refine fun nm _ H _ _ ca _ _ st _ _ R _ F _ C _ G _ U _ Wl _ nn _ x1 _ _ x2 _ _ x3 _ _ x4 _ _ x5 _ _ x6 _ _ x7 _ _ x8 _ _ x9 _ _ hp => ?_
  have hp : 1 ≤ H ∧ H ≤ 4096 := hp
  rw [tree_rgtR]
  show T.res _ (fun y => ValP (((0 ≤ x2 ∧ x2 < (DV.sl none 0 F).len) ∧ (0 ≤ x3 ∧ x3 < (DV.sl none 0 R).len) ∧ 0 ≤ x6 ∧ x6 ≤ x7 ∧ x7 < H) ∧ ((x1 = 1 ∧ x3 = 0 ∧ (0 ≤ x4 ∧ x4 ≤ 1048576) ∧ (1 ≤ x5 ∧ x5 ≤ 1073741824) ∧ 1 ≤ x9 ∧ x9 ≤ x8 ∧ x8 ≤ H) ∨ ((x1 = 2 ∨ x1 = 3) ∧ x4 = 0 ∧ x5 = 0 ∧ x8 = 0 ∧ x9 = 0 ∧ (x1 = 2 → x6 = 0 ∧ x7 = H - 1)))) y) _ _
  refine res_ite (fun h1 => ?_) fun h1 => ?_
  · replace h1 := cvh (b := (((¬ (((0 : Int) ≤ x2) ∧ (x2 ≤ (DV.sl none 0 F).len - 1)) ∨ ¬ (((0 : Int) ≤ x3) ∧ (x3 ≤ (DV.sl none 0 R).len - 1))) ∨ ¬ (((0 : Int) ≤ x6) ∧ (x6 ≤ x7))) ∨ (H ≤ x7))) (by kernel_rfl) h1
    exact vl_no fun q => by omega
  · replace h1 := cvh (b := ¬ (((¬ (((0 : Int) ≤ x2) ∧ (x2 ≤ (DV.sl none 0 F).len - 1)) ∨ ¬ (((0 : Int) ≤ x3) ∧ (x3 ≤ (DV.sl none 0 R).len - 1))) ∨ ¬ (((0 : Int) ≤ x6) ∧ (x6 ≤ x7))) ∨ (H ≤ x7))) (by kernel_rfl) h1
    refine res_ite (fun h2 => ?_) fun h2 => ?_
    · replace h2 := cvh (b := (x1 = 1)) (by kernel_rfl) h2
      refine res_ite (fun h3 => ?_) fun h3 => ?_
      · replace h3 := cvh (b := (((((x3 = 0) ∧ (((0 : Int) ≤ x4) ∧ (x4 ≤ 1048576))) ∧ (((1 : Int) ≤ x5) ∧ (x5 ≤ 1073741824))) ∧ (((1 : Int) ≤ x9) ∧ (x9 ≤ x8))) ∧ (x8 ≤ H))) (by kernel_rfl) h3
        exact vl_yes (by omega)
      · replace h3 := cvh (b := ¬ (((((x3 = 0) ∧ (((0 : Int) ≤ x4) ∧ (x4 ≤ 1048576))) ∧ (((1 : Int) ≤ x5) ∧ (x5 ≤ 1073741824))) ∧ (((1 : Int) ≤ x9) ∧ (x9 ≤ x8))) ∧ (x8 ≤ H))) (by kernel_rfl) h3
        exact vl_no fun q => by omega
    · replace h2 := cvh (b := ¬ (x1 = 1)) (by kernel_rfl) h2
      refine res_ite (fun h4 => ?_) fun h4 => ?_
      · replace h4 := cvh (b := (x1 = 2)) (by kernel_rfl) h4
        refine res_ite (fun h5 => ?_) fun h5 => ?_
        · replace h5 := cvh (b := ((((((x4 = 0) ∧ (x5 = 0)) ∧ (x8 = 0)) ∧ (x9 = 0)) ∧ (x6 = 0)) ∧ (x7 = H - 1))) (by kernel_rfl) h5
          exact vl_yes (by omega)
        · replace h5 := cvh (b := ¬ ((((((x4 = 0) ∧ (x5 = 0)) ∧ (x8 = 0)) ∧ (x9 = 0)) ∧ (x6 = 0)) ∧ (x7 = H - 1))) (by kernel_rfl) h5
          exact vl_no fun q => by omega
      · replace h4 := cvh (b := ¬ (x1 = 2)) (by kernel_rfl) h4
        refine res_ite (fun h6 => ?_) fun h6 => ?_
        · replace h6 := cvh (b := (x1 = 3)) (by kernel_rfl) h6
          refine res_ite (fun h7 => ?_) fun h7 => ?_
          · replace h7 := cvh (b := ((((x4 = 0) ∧ (x5 = 0)) ∧ (x8 = 0)) ∧ (x9 = 0))) (by kernel_rfl) h7
            exact vl_yes (by omega)
          · replace h7 := cvh (b := ¬ ((((x4 = 0) ∧ (x5 = 0)) ∧ (x8 = 0)) ∧ (x9 = 0))) (by kernel_rfl) h7
            exact vl_no fun q => by omega
        · replace h6 := cvh (b := ¬ (x1 = 3)) (by kernel_rfl) h6
          exact vl_no fun q => by omega

end Go.Proofs.Ytcidomlhmdefaaa
