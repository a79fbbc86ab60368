/- DERIVED. A whole district's check keeps its contract, on both sides. -/
import Derived.Test.YtcidomlhmdefaaaDdcu
import Derived.Test.YtcidomlhmdefaaaDtrg
namespace Go.Proofs.Ytcidomlhmdefaaa
open Go.Dx
set_option linter.unusedVariables false
abbrev dl (x : List (List DV)) : DV := .sl none 0 x
theorem all_none {P : Int → Prop} : AllTo 0 P := fun i h k => by omega
theorem all_next {n : Int} {P : Int → Prop} (h0 : 0 ≤ n) (h : AllTo n P) (hp : P n) : AllTo (n + 1) P := fun i a b => by
  by_cases c : i = n
  · rw [c]; exact hp
  · exact h i a (by omega)
set_option maxRecDepth 100000 in
set_option maxHeartbeats 4000000 in
theorem cVld_ok (N : Nat) (w0 : World) : ConOk Try.prog tb N w0 (cVld 37) := by
  refine con_of_walk (tb := tb) fine (C := [cRch 46, cFrm 47, cRgt 48, lRp, lCp, lFp, lGp, lUp]) (conCons cRch_ok (conCons cFrm_ok (conCons cRgt_ok (lopCons rfl (lopCons rfl (lopCons rfl (lopCons rfl (lopCons rfl noCon)))))))) 100 rfl ?_ N w0
  refine fun nm _ H _ _ ca _ _ st _ _ R _ F _ C _ G _ U _ Wl _ _ => ?_
  rw [tree_vld]
  show T.res _ (fun y => ValP (VldP [.s nm, .n H, .n ca, .n st, dl R, dl F, dl C, dl G, dl U, dl Wl]) y) _ _
  have nR0 := len_nn (dl R)
  have nC0 := len_nn (dl C)
  have nF0 := len_nn (dl F)
  have nG0 := len_nn (dl G)
  have nU0 := len_nn (dl U)
  refine res_ite (fun h => ?_) fun h1 => ?_
  · replace h := cvh (b := (H < 1)) (by kernel_rfl) h
    exact vl_no fun q => by
      have q : ((1 ≤ H ∧ H ≤ 4096) ∧ 0 ≤ st ∧ st ≤ ca ∧ ca ≤ 1099511627776) := q.1.1
      omega
  replace h1 := cvh (b := ¬ (H < 1)) (by kernel_rfl) h1
  refine res_ite (fun h => ?_) fun h2 => ?_
  · replace h := cvh (b := ((4096 : Int) < H)) (by kernel_rfl) h
    exact vl_no fun q => by
      have q : ((1 ≤ H ∧ H ≤ 4096) ∧ 0 ≤ st ∧ st ≤ ca ∧ ca ≤ 1099511627776) := q.1.1
      omega
  replace h2 := cvh (b := ¬ ((4096 : Int) < H)) (by kernel_rfl) h2
  refine res_ite (fun h => ?_) fun h3 => ?_
  · replace h := cvh (b := (st < 0)) (by kernel_rfl) h
    exact vl_no fun q => by
      have q : ((1 ≤ H ∧ H ≤ 4096) ∧ 0 ≤ st ∧ st ≤ ca ∧ ca ≤ 1099511627776) := q.1.1
      omega
  replace h3 := cvh (b := ¬ (st < 0)) (by kernel_rfl) h3
  refine res_ite (fun h => ?_) fun h4 => ?_
  · replace h := cvh (b := (ca < st)) (by kernel_rfl) h
    exact vl_no fun q => by
      have q : ((1 ≤ H ∧ H ≤ 4096) ∧ 0 ≤ st ∧ st ≤ ca ∧ ca ≤ 1099511627776) := q.1.1
      omega
  replace h4 := cvh (b := ¬ (ca < st)) (by kernel_rfl) h4
  refine res_ite (fun h => ?_) fun h5 => ?_
  · replace h := cvh (b := ((1099511627776 : Int) < ca)) (by kernel_rfl) h
    exact vl_no fun q => by
      have q : ((1 ≤ H ∧ H ≤ 4096) ∧ 0 ≤ st ∧ st ≤ ca ∧ ca ≤ 1099511627776) := q.1.1
      omega
  replace h5 := cvh (b := ¬ ((1099511627776 : Int) < ca)) (by kernel_rfl) h5
  have hed : ((1 ≤ H ∧ H ≤ 4096) ∧ 0 ≤ st ∧ st ≤ ca ∧ ca ≤ 1099511627776) := by omega
  clear h1 h2 h3 h4 h5
  refine res_ite (fun h => ?_) fun h6 => ?_
  · replace h := cvh (b := (((dl R).len = 0) ∨ ¬ ((dl R).at 0 1 = -1))) (by kernel_rfl) h
    exact vl_no fun q => by
      have q1 : 1 ≤ (dl R).len := q.1.2.1
      have q2 : (dl R).at 0 1 = -1 := (q.1.2.2 0 (by omega) (show (0 : Int) < (dl R).len by omega)).1.1 rfl
      omega
  replace h6 := cvh (b := ¬ (((dl R).len = 0) ∨ ¬ ((dl R).at 0 1 = -1))) (by kernel_rfl) h6
  refine res_lop rfl (cvh (a := 0 ≤ (dl R).len ∧ ReaP (dl R) 0) (by kernel_rfl) ⟨by omega, all_none⟩) (fun i i0 _ hi => ?_)
  replace hi := cvh (b := i ≤ (dl R).len ∧ ReaP (dl R) i) (by kernel_rfl) hi
  refine res_ite (fun z => ?_) fun z => ?_
  · replace z := cvh (b := i < (dl R).len) (by kernel_rfl) z
    refine res_ite (fun k => ?_) fun k => ?_
    · replace k := cvh (b := ¬ (0 < i ∧ ¬ (0 ≤ (dl R).at i 1 ∧ (dl R).at i 1 < i))) (by kernel_rfl) k
      have up : UpP (dl R) i := ⟨fun e => by rw [e]; omega, fun e => by omega⟩
      refine res_dat (.s ((dl R).cell i 0).str) (by kernel_rfl) ?_
      refine res_con rfl trivial (fun x _ _ hx => ?_)
      rcases vl_in (cvh (b := ValP (RchP ((dl R).at i)) [.n x]) (by kernel_rfl) hx) with ⟨y, rfl⟩ | ⟨y, rfl⟩
      · refine res_ite (fun k => absurd (cvh (b := (1 : Int) = 0) (by kernel_rfl) k) (by decide)) fun _ => ?_
        exact res_chk rfl (cvh (a := i + 1 ≤ (dl R).len ∧ ReaP (dl R) (i + 1)) (by kernel_rfl) ⟨by omega, all_next i0 hi.2 ⟨up, y⟩⟩) (cvh (a := ((dl R).len - (i + 1)).toNat < ((dl R).len - i).toNat) (by kernel_rfl) (by omega))
      · exact res_ite (fun _ => cvh (a := ValP (VldP [.s nm, .n H, .n ca, .n st, dl R, dl F, dl C, dl G, dl U, dl Wl]) [.n 0]) (by kernel_rfl) (vl_no fun q => y ((q.1.2.2 i i0 z).2))) fun k => absurd (cvh (b := ¬ (0 : Int) = 0) (by kernel_rfl) k) (by decide)
    · replace k := cvh (b := ¬ ¬ (0 < i ∧ ¬ (0 ≤ (dl R).at i 1 ∧ (dl R).at i 1 < i))) (by kernel_rfl) k
      exact cvh (a := ValP (VldP [.s nm, .n H, .n ca, .n st, dl R, dl F, dl C, dl G, dl U, dl Wl]) [.n 0]) (by kernel_rfl) (vl_no fun q => k fun e => e.2 ((q.1.2.2 i i0 z).1.2 e.1))
  replace z := cvh (b := ¬ i < (dl R).len) (by kernel_rfl) z
  have hR : ReaP (dl R) (dl R).len := by
    rw [show (dl R).len = i by omega]
    exact hi.2
  clear z
  refine res_lop rfl (cvh (a := 0 ≤ (dl C).len ∧ CrpP (dl C) 0) (by kernel_rfl) ⟨by omega, all_none⟩) (fun j j0 _ hj => ?_)
  replace hj := cvh (b := j ≤ (dl C).len ∧ CrpP (dl C) j) (by kernel_rfl) hj
  refine res_ite (fun z => ?_) fun z => ?_
  · replace z := cvh (b := j < (dl C).len) (by kernel_rfl) z
    refine res_ite (fun k => ?_) fun k => ?_
    · replace k := cvh (b := (dl C).at j 1 < 0) (by kernel_rfl) k
      exact cvh (a := ValP (VldP [.s nm, .n H, .n ca, .n st, dl R, dl F, dl C, dl G, dl U, dl Wl]) [.n 0]) (by kernel_rfl) (vl_no fun q => by have := q.2.1 j j0 z; have this : 0 ≤ (dl C).at j 1 ∧ (dl C).at j 1 ≤ 1048576 := this; omega)
    replace k := cvh (b := ¬ (dl C).at j 1 < 0) (by kernel_rfl) k
    refine res_ite (fun l => ?_) fun l => ?_
    · replace l := cvh (b := 1048576 < (dl C).at j 1) (by kernel_rfl) l
      exact cvh (a := ValP (VldP [.s nm, .n H, .n ca, .n st, dl R, dl F, dl C, dl G, dl U, dl Wl]) [.n 0]) (by kernel_rfl) (vl_no fun q => by have := q.2.1 j j0 z; have this : 0 ≤ (dl C).at j 1 ∧ (dl C).at j 1 ≤ 1048576 := this; omega)
    replace l := cvh (b := ¬ 1048576 < (dl C).at j 1) (by kernel_rfl) l
    exact res_chk rfl (cvh (a := j + 1 ≤ (dl C).len ∧ CrpP (dl C) (j + 1)) (by kernel_rfl) ⟨by omega, all_next j0 hj.2 (show 0 ≤ (dl C).at j 1 ∧ (dl C).at j 1 ≤ 1048576 by omega)⟩) (cvh (a := ((dl C).len - (j + 1)).toNat < ((dl C).len - j).toNat) (by kernel_rfl) (by omega))
  replace z := cvh (b := ¬ j < (dl C).len) (by kernel_rfl) z
  have hC : CrpP (dl C) (dl C).len := by
    rw [show (dl C).len = j by omega]
    exact hj.2
  clear z
  refine res_lop rfl (cvh (a := 0 ≤ (dl F).len ∧ FrsP [.s nm, .n H, .n ca, .n st, dl R, dl F, dl C, dl G, dl U, dl Wl] 0) (by kernel_rfl) ⟨by omega, all_none⟩) (fun k k0 _ hk => ?_)
  replace hk := cvh (b := k ≤ (dl F).len ∧ FrsP [.s nm, .n H, .n ca, .n st, dl R, dl F, dl C, dl G, dl U, dl Wl] k) (by kernel_rfl) hk
  refine res_ite (fun z => ?_) fun z => ?_
  · replace z := cvh (b := k < (dl F).len) (by kernel_rfl) z
    refine res_dat (.s ((dl F).cell k 0).str) (by kernel_rfl) ?_
    refine res_con rfl trivial (fun x _ _ hx => ?_)
    rcases vl_in (cvh (b := ValP (FrmP (dl R).len (dl C).len ((dl F).at k)) [.n x]) (by kernel_rfl) hx) with ⟨y, rfl⟩ | ⟨y, rfl⟩
    · refine res_ite (fun k => absurd (cvh (b := (1 : Int) = 0) (by kernel_rfl) k) (by decide)) fun _ => ?_
      exact res_chk rfl (cvh (a := k + 1 ≤ (dl F).len ∧ FrsP [.s nm, .n H, .n ca, .n st, dl R, dl F, dl C, dl G, dl U, dl Wl] (k + 1)) (by kernel_rfl) ⟨by omega, all_next k0 hk.2 y⟩) (cvh (a := ((dl F).len - (k + 1)).toNat < ((dl F).len - k).toNat) (by kernel_rfl) (by omega))
    · exact res_ite (fun _ => cvh (a := ValP (VldP [.s nm, .n H, .n ca, .n st, dl R, dl F, dl C, dl G, dl U, dl Wl]) [.n 0]) (by kernel_rfl) (vl_no fun q => y (q.2.2.1 k k0 z))) fun k => absurd (cvh (b := ¬ (0 : Int) = 0) (by kernel_rfl) k) (by decide)
  replace z := cvh (b := ¬ k < (dl F).len) (by kernel_rfl) z
  have hF : FrsP [.s nm, .n H, .n ca, .n st, dl R, dl F, dl C, dl G, dl U, dl Wl] (dl F).len := by
    rw [show (dl F).len = k by omega]
    exact hk.2
  clear z
  refine res_lop rfl (cvh (a := 0 ≤ (dl G).len ∧ RgsP [.s nm, .n H, .n ca, .n st, dl R, dl F, dl C, dl G, dl U, dl Wl] 0) (by kernel_rfl) ⟨by omega, all_none⟩) (fun l l0 _ hl => ?_)
  replace hl := cvh (b := l ≤ (dl G).len ∧ RgsP [.s nm, .n H, .n ca, .n st, dl R, dl F, dl C, dl G, dl U, dl Wl] l) (by kernel_rfl) hl
  refine res_ite (fun z => ?_) fun z => ?_
  · replace z := cvh (b := l < (dl G).len) (by kernel_rfl) z
    refine res_dat (.s ((dl G).cell l 0).str) (by kernel_rfl) ?_
    refine res_con rfl (cvh (a := 1 ≤ H ∧ H ≤ 4096) (by kernel_rfl) hed.1) (fun x _ _ hx => ?_)
    rcases vl_in (cvh (b := ValP (RgtP H (dl R).len (dl F).len ((dl G).at l)) [.n x]) (by kernel_rfl) hx) with ⟨y, rfl⟩ | ⟨y, rfl⟩
    · refine res_ite (fun k => absurd (cvh (b := (1 : Int) = 0) (by kernel_rfl) k) (by decide)) fun _ => ?_
      exact res_chk rfl (cvh (a := l + 1 ≤ (dl G).len ∧ RgsP [.s nm, .n H, .n ca, .n st, dl R, dl F, dl C, dl G, dl U, dl Wl] (l + 1)) (by kernel_rfl) ⟨by omega, all_next l0 hl.2 y⟩) (cvh (a := ((dl G).len - (l + 1)).toNat < ((dl G).len - l).toNat) (by kernel_rfl) (by omega))
    · exact res_ite (fun _ => cvh (a := ValP (VldP [.s nm, .n H, .n ca, .n st, dl R, dl F, dl C, dl G, dl U, dl Wl]) [.n 0]) (by kernel_rfl) (vl_no fun q => y (q.2.2.2.1 l l0 z))) fun k => absurd (cvh (b := ¬ (0 : Int) = 0) (by kernel_rfl) k) (by decide)
  replace z := cvh (b := ¬ l < (dl G).len) (by kernel_rfl) z
  have hG : RgsP [.s nm, .n H, .n ca, .n st, dl R, dl F, dl C, dl G, dl U, dl Wl] (dl G).len := by
    rw [show (dl G).len = l by omega]
    exact hl.2
  clear z
  refine res_lop rfl (cvh (a := 0 ≤ (dl U).len ∧ DtsP [.s nm, .n H, .n ca, .n st, dl R, dl F, dl C, dl G, dl U, dl Wl] 0) (by kernel_rfl) ⟨by omega, all_none⟩) (fun m m0 _ hm => ?_)
  replace hm := cvh (b := m ≤ (dl U).len ∧ DtsP [.s nm, .n H, .n ca, .n st, dl R, dl F, dl C, dl G, dl U, dl Wl] m) (by kernel_rfl) hm
  refine res_ite (fun z => ?_) fun z => ?_
  · replace z := cvh (b := m < (dl U).len) (by kernel_rfl) z
    refine res_ite (fun g2 => ?_) fun g2 => ?_
    · replace g2 := cvh (b := ¬ (¬ (((0 : Int) ≤ (dl U).at m 1) ∧ ((dl U).at m 1 < (dl F).len)) ∨ ¬ (((0 : Int) ≤ (dl U).at m 2) ∧ ((dl U).at m 2 < (dl R).len)))) (by kernel_rfl) g2
      refine res_ite (fun g3 => ?_) fun g3 => ?_
      · replace g3 := cvh (b := ((dl U).at m 3 < 0)) (by kernel_rfl) g3
        exact cvh (a := ValP (VldP [.s nm, .n H, .n ca, .n st, dl R, dl F, dl C, dl G, dl U, dl Wl]) [.n 0]) (by kernel_rfl) (vl_no fun q => by have y : ((0 ≤ (dl U).at m 1 ∧ (dl U).at m 1 < (dl F).len) ∧ (0 ≤ (dl U).at m 2 ∧ (dl U).at m 2 < (dl R).len) ∧ 0 ≤ (dl U).at m 3 ∧ (dl U).at m 3 ≤ H) := q.2.2.2.2 m m0 z; omega)
      · replace g3 := cvh (b := ¬ ((dl U).at m 3 < 0)) (by kernel_rfl) g3
        refine res_ite (fun g4 => ?_) fun g4 => ?_
        · replace g4 := cvh (b := (H < (dl U).at m 3)) (by kernel_rfl) g4
          exact cvh (a := ValP (VldP [.s nm, .n H, .n ca, .n st, dl R, dl F, dl C, dl G, dl U, dl Wl]) [.n 0]) (by kernel_rfl) (vl_no fun q => by have y : ((0 ≤ (dl U).at m 1 ∧ (dl U).at m 1 < (dl F).len) ∧ (0 ≤ (dl U).at m 2 ∧ (dl U).at m 2 < (dl R).len) ∧ 0 ≤ (dl U).at m 3 ∧ (dl U).at m 3 ≤ H) := q.2.2.2.2 m m0 z; omega)
        · replace g4 := cvh (b := ¬ (H < (dl U).at m 3)) (by kernel_rfl) g4
          exact res_chk rfl (cvh (a := m + 1 ≤ (dl U).len ∧ DtsP [.s nm, .n H, .n ca, .n st, dl R, dl F, dl C, dl G, dl U, dl Wl] (m + 1)) (by kernel_rfl) ⟨by omega, all_next m0 hm.2 (show ((0 ≤ (dl U).at m 1 ∧ (dl U).at m 1 < (dl F).len) ∧ (0 ≤ (dl U).at m 2 ∧ (dl U).at m 2 < (dl R).len) ∧ 0 ≤ (dl U).at m 3 ∧ (dl U).at m 3 ≤ H) by omega)⟩) (cvh (a := ((dl U).len - (m + 1)).toNat < ((dl U).len - m).toNat) (by kernel_rfl) (by omega))
    · replace g2 := cvh (b := ¬ ¬ (¬ (((0 : Int) ≤ (dl U).at m 1) ∧ ((dl U).at m 1 < (dl F).len)) ∨ ¬ (((0 : Int) ≤ (dl U).at m 2) ∧ ((dl U).at m 2 < (dl R).len)))) (by kernel_rfl) g2
      exact cvh (a := ValP (VldP [.s nm, .n H, .n ca, .n st, dl R, dl F, dl C, dl G, dl U, dl Wl]) [.n 0]) (by kernel_rfl) (vl_no fun q => by have y : ((0 ≤ (dl U).at m 1 ∧ (dl U).at m 1 < (dl F).len) ∧ (0 ≤ (dl U).at m 2 ∧ (dl U).at m 2 < (dl R).len) ∧ 0 ≤ (dl U).at m 3 ∧ (dl U).at m 3 ≤ H) := q.2.2.2.2 m m0 z; omega)
  replace z := cvh (b := ¬ m < (dl U).len) (by kernel_rfl) z
  have hU : DtsP [.s nm, .n H, .n ca, .n st, dl R, dl F, dl C, dl G, dl U, dl Wl] (dl U).len := by
    rw [show (dl U).len = m by omega]
    exact hm.2
  clear z
  exact cvh (a := ValP (VldP [.s nm, .n H, .n ca, .n st, dl R, dl F, dl C, dl G, dl U, dl Wl]) [.n 1]) (by kernel_rfl) (vl_yes ⟨⟨hed, (show 1 ≤ (dl R).len by omega), hR⟩, hC, hF, hG, hU⟩)
set_option maxRecDepth 100000 in
theorem cReaR_ok (N : Nat) (w0 : World) : ConOk Try.prog tb N w0 (cReaR 50) := by
  refine con_of_walk (tb := tb) fine (C := [cRch 55, lReR]) (conCons cRchR_ok (lopCons rfl noCon)) 80 rfl ?_ N w0
  refine fun R _ _ => ?_
  rw [tree_rea]
  show T.res _ (fun y => ValP (1 ≤ (dl R).len ∧ ReaP (dl R) (dl R).len) y) _ _
  have nR0 := len_nn (dl R)
  refine res_lop rfl (cvh (a := 0 ≤ (dl R).len ∧ ReaP (dl R) 0) (by kernel_rfl) ⟨by omega, all_none⟩) (fun i i0 _ hi => ?_)
  replace hi := cvh (b := i ≤ (dl R).len ∧ ReaP (dl R) i) (by kernel_rfl) hi
  refine res_ite (fun z => ?_) fun z => ?_
  · replace z := cvh (b := i < (dl R).len) (by kernel_rfl) z
    refine res_ite (fun k => ?_) fun k => ?_
    · replace k := cvh (b := (((i = 0) ∧ ¬ ((dl R).at i 1 = -1)) ∨ (((0 : Int) < i) ∧ ¬ (((0 : Int) ≤ (dl R).at i 1) ∧ ((dl R).at i 1 ≤ i - 1))))) (by kernel_rfl) k
      exact cvh (a := ValP (1 ≤ (dl R).len ∧ ReaP (dl R) (dl R).len) [.n 0]) (by kernel_rfl) (vl_no fun q => by
        have y : UpP (dl R) i := (q.2 i i0 z).1
        have y1 := y.1
        have y2 := y.2
        omega)
    · replace k := cvh (b := ¬ (((i = 0) ∧ ¬ ((dl R).at i 1 = -1)) ∨ (((0 : Int) < i) ∧ ¬ (((0 : Int) ≤ (dl R).at i 1) ∧ ((dl R).at i 1 ≤ i - 1))))) (by kernel_rfl) k
      have up : UpP (dl R) i := ⟨fun e => by omega, fun e => by omega⟩
      refine res_dat (.s ((dl R).cell i 0).str) (by kernel_rfl) ?_
      refine res_con rfl trivial (fun x _ _ hx => ?_)
      rcases vl_in (cvh (b := ValP (RchP ((dl R).at i)) [.n x]) (by kernel_rfl) hx) with ⟨y, rfl⟩ | ⟨y, rfl⟩
      · refine res_ite (fun k => absurd (cvh (b := (1 : Int) = 0) (by kernel_rfl) k) (by decide)) fun _ => ?_
        exact res_chk rfl (cvh (a := i + 1 ≤ (dl R).len ∧ ReaP (dl R) (i + 1)) (by kernel_rfl) ⟨by omega, all_next i0 hi.2 ⟨up, y⟩⟩) (cvh (a := ((dl R).len - (i + 1)).toNat < ((dl R).len - i).toNat) (by kernel_rfl) (by omega))
      · exact res_ite (fun _ => cvh (a := ValP (1 ≤ (dl R).len ∧ ReaP (dl R) (dl R).len) [.n 0]) (by kernel_rfl) (vl_no fun q => y ((q.2 i i0 z).2))) fun k => absurd (cvh (b := ¬ (0 : Int) = 0) (by kernel_rfl) k) (by decide)
  replace z := cvh (b := ¬ i < (dl R).len) (by kernel_rfl) z
  have hR : ReaP (dl R) (dl R).len := by
    rw [show (dl R).len = i by omega]
    exact hi.2
  clear z
  refine res_ite (fun k => ?_) fun k => ?_
  · replace k := cvh (b := 0 < (dl R).len) (by kernel_rfl) k
    exact cvh (a := ValP (1 ≤ (dl R).len ∧ ReaP (dl R) (dl R).len) [.n 1]) (by kernel_rfl) (vl_yes ⟨by omega, hR⟩)
  · replace k := cvh (b := ¬ 0 < (dl R).len) (by kernel_rfl) k
    exact cvh (a := ValP (1 ≤ (dl R).len ∧ ReaP (dl R) (dl R).len) [.n 0]) (by kernel_rfl) (vl_no fun q => k (by omega))
set_option maxRecDepth 100000 in
set_option maxHeartbeats 4000000 in
theorem cFrsR_ok (N : Nat) (w0 : World) : ConOk Try.prog tb N w0 (cFrsR 51) := by
  refine con_of_walk (tb := tb) fine (C := [lCr, lFr]) (lopCons rfl (lopCons rfl noCon)) 80 rfl ?_ N w0
  refine fun nm _ H _ _ ca _ _ st _ _ R _ F _ C _ G _ U _ Wl _ _ => ?_
  rw [tree_frs]
  show T.res _ (fun y => ValP (CrpP (dl C) (dl C).len ∧ FrsP [.s nm, .n H, .n ca, .n st, dl R, dl F, dl C, dl G, dl U, dl Wl] (dl F).len) y) _ _
  have nR0 := len_nn (dl R)
  have nC0 := len_nn (dl C)
  have nF0 := len_nn (dl F)
  have nG0 := len_nn (dl G)
  have nU0 := len_nn (dl U)
  refine res_lop rfl (cvh (a := 0 ≤ (dl C).len ∧ CrpP (dl C) 0) (by kernel_rfl) ⟨by omega, all_none⟩) (fun j j0 _ hj => ?_)
  replace hj := cvh (b := j ≤ (dl C).len ∧ CrpP (dl C) j) (by kernel_rfl) hj
  refine res_ite (fun z => ?_) fun z => ?_
  · replace z := cvh (b := j < (dl C).len) (by kernel_rfl) z
    refine res_ite (fun g2 => ?_) fun g2 => ?_
    · replace g2 := cvh (b := ¬ (((0 : Int) ≤ (dl C).at j 1) ∧ ((dl C).at j 1 ≤ 1048576))) (by kernel_rfl) g2
      exact cvh (a := ValP (CrpP (dl C) (dl C).len ∧ FrsP [.s nm, .n H, .n ca, .n st, dl R, dl F, dl C, dl G, dl U, dl Wl] (dl F).len) [.n 0]) (by kernel_rfl) (vl_no fun q => by have y : (0 ≤ (dl C).at j 1 ∧ (dl C).at j 1 ≤ 1048576) := q.1 j j0 z; omega)
    · replace g2 := cvh (b := ¬ ¬ (((0 : Int) ≤ (dl C).at j 1) ∧ ((dl C).at j 1 ≤ 1048576))) (by kernel_rfl) g2
      exact res_chk rfl (cvh (a := j + 1 ≤ (dl C).len ∧ CrpP (dl C) (j + 1)) (by kernel_rfl) ⟨by omega, all_next j0 hj.2 (show (0 ≤ (dl C).at j 1 ∧ (dl C).at j 1 ≤ 1048576) by omega)⟩) (cvh (a := ((dl C).len - (j + 1)).toNat < ((dl C).len - j).toNat) (by kernel_rfl) (by omega))
  replace z := cvh (b := ¬ j < (dl C).len) (by kernel_rfl) z
  have hC : CrpP (dl C) (dl C).len := by
    rw [show (dl C).len = j by omega]
    exact hj.2
  clear z
  refine res_lop rfl (cvh (a := 0 ≤ (dl F).len ∧ FrsP [.s nm, .n H, .n ca, .n st, dl R, dl F, dl C, dl G, dl U, dl Wl] 0) (by kernel_rfl) ⟨by omega, all_none⟩) (fun k k0 _ hk => ?_)
  replace hk := cvh (b := k ≤ (dl F).len ∧ FrsP [.s nm, .n H, .n ca, .n st, dl R, dl F, dl C, dl G, dl U, dl Wl] k) (by kernel_rfl) hk
  refine res_ite (fun z => ?_) fun z => ?_
  · replace z := cvh (b := k < (dl F).len) (by kernel_rfl) z
    refine res_ite (fun g2 => ?_) fun g2 => ?_
    · replace g2 := cvh (b := (¬ (((0 : Int) ≤ (dl F).at k 1) ∧ ((dl F).at k 1 ≤ (dl R).len - 1)) ∨ ¬ (((0 : Int) ≤ (dl F).at k 2) ∧ ((dl F).at k 2 ≤ 1048576)))) (by kernel_rfl) g2
      exact cvh (a := ValP (CrpP (dl C) (dl C).len ∧ FrsP [.s nm, .n H, .n ca, .n st, dl R, dl F, dl C, dl G, dl U, dl Wl] (dl F).len) [.n 0]) (by kernel_rfl) (vl_no fun q => by have y : (((0 ≤ (dl F).at k 1 ∧ (dl F).at k 1 < (dl R).len) ∧ 0 ≤ (dl F).at k 2 ∧ (dl F).at k 2 ≤ 1048576) ∧ ((dl F).at k 2 = 0 → (dl F).at k 3 = -1) ∧ ((dl F).at k 2 ≠ 0 → 0 ≤ (dl F).at k 3 ∧ (dl F).at k 3 < (dl C).len)) := q.2 k k0 z; omega)
    · replace g2 := cvh (b := ¬ (¬ (((0 : Int) ≤ (dl F).at k 1) ∧ ((dl F).at k 1 ≤ (dl R).len - 1)) ∨ ¬ (((0 : Int) ≤ (dl F).at k 2) ∧ ((dl F).at k 2 ≤ 1048576)))) (by kernel_rfl) g2
      refine res_ite (fun g3 => ?_) fun g3 => ?_
      · replace g3 := cvh (b := ((((dl F).at k 2 = 0) ∧ ¬ ((dl F).at k 3 = -1)) ∨ (((0 : Int) < (dl F).at k 2) ∧ ¬ (((0 : Int) ≤ (dl F).at k 3) ∧ ((dl F).at k 3 ≤ (dl C).len - 1))))) (by kernel_rfl) g3
        exact cvh (a := ValP (CrpP (dl C) (dl C).len ∧ FrsP [.s nm, .n H, .n ca, .n st, dl R, dl F, dl C, dl G, dl U, dl Wl] (dl F).len) [.n 0]) (by kernel_rfl) (vl_no fun q => by have y : (((0 ≤ (dl F).at k 1 ∧ (dl F).at k 1 < (dl R).len) ∧ 0 ≤ (dl F).at k 2 ∧ (dl F).at k 2 ≤ 1048576) ∧ ((dl F).at k 2 = 0 → (dl F).at k 3 = -1) ∧ ((dl F).at k 2 ≠ 0 → 0 ≤ (dl F).at k 3 ∧ (dl F).at k 3 < (dl C).len)) := q.2 k k0 z; omega)
      · replace g3 := cvh (b := ¬ ((((dl F).at k 2 = 0) ∧ ¬ ((dl F).at k 3 = -1)) ∨ (((0 : Int) < (dl F).at k 2) ∧ ¬ (((0 : Int) ≤ (dl F).at k 3) ∧ ((dl F).at k 3 ≤ (dl C).len - 1))))) (by kernel_rfl) g3
        exact res_chk rfl (cvh (a := k + 1 ≤ (dl F).len ∧ FrsP [.s nm, .n H, .n ca, .n st, dl R, dl F, dl C, dl G, dl U, dl Wl] (k + 1)) (by kernel_rfl) ⟨by omega, all_next k0 hk.2 (show (((0 ≤ (dl F).at k 1 ∧ (dl F).at k 1 < (dl R).len) ∧ 0 ≤ (dl F).at k 2 ∧ (dl F).at k 2 ≤ 1048576) ∧ ((dl F).at k 2 = 0 → (dl F).at k 3 = -1) ∧ ((dl F).at k 2 ≠ 0 → 0 ≤ (dl F).at k 3 ∧ (dl F).at k 3 < (dl C).len)) by omega)⟩) (cvh (a := ((dl F).len - (k + 1)).toNat < ((dl F).len - k).toNat) (by kernel_rfl) (by omega))
  replace z := cvh (b := ¬ k < (dl F).len) (by kernel_rfl) z
  have hF : FrsP [.s nm, .n H, .n ca, .n st, dl R, dl F, dl C, dl G, dl U, dl Wl] (dl F).len := by
    rw [show (dl F).len = k by omega]
    exact hk.2
  clear z
  exact cvh (a := ValP (CrpP (dl C) (dl C).len ∧ FrsP [.s nm, .n H, .n ca, .n st, dl R, dl F, dl C, dl G, dl U, dl Wl] (dl F).len) [.n 1]) (by kernel_rfl) (vl_yes ⟨hC, hF⟩)
set_option maxRecDepth 100000 in
set_option maxHeartbeats 4000000 in
theorem cVldR_ok (N : Nat) (w0 : World) : ConOk Try.prog tb N w0 (cVld 40) := by
  refine con_of_walk (tb := tb) fine (C := [cReaR 50, cFrsR 51, cRgt 52, lGr, lUr]) (conCons cReaR_ok (conCons cFrsR_ok (conCons cRgtR_ok (lopCons rfl (lopCons rfl noCon))))) 80 rfl ?_ N w0
  refine fun nm _ H _ _ ca _ _ st _ _ R _ F _ C _ G _ U _ Wl _ _ => ?_
  rw [tree_vldR]
  show T.res _ (fun y => ValP (VldP [.s nm, .n H, .n ca, .n st, dl R, dl F, dl C, dl G, dl U, dl Wl]) y) _ _
  have nR0 := len_nn (dl R)
  have nC0 := len_nn (dl C)
  have nF0 := len_nn (dl F)
  have nG0 := len_nn (dl G)
  have nU0 := len_nn (dl U)
  refine res_ite (fun h => ?_) fun h1 => ?_
  · replace h := cvh (b := ((¬ (((1 : Int) ≤ H) ∧ (H ≤ 4096)) ∨ ¬ (((0 : Int) ≤ st) ∧ (st ≤ ca))) ∨ ((1099511627776 : Int) < ca))) (by kernel_rfl) h
    exact vl_no fun q => by
      have q : ((1 ≤ H ∧ H ≤ 4096) ∧ 0 ≤ st ∧ st ≤ ca ∧ ca ≤ 1099511627776) := q.1.1
      omega
  replace h1 := cvh (b := ¬ ((¬ (((1 : Int) ≤ H) ∧ (H ≤ 4096)) ∨ ¬ (((0 : Int) ≤ st) ∧ (st ≤ ca))) ∨ ((1099511627776 : Int) < ca))) (by kernel_rfl) h1
  have hed : ((1 ≤ H ∧ H ≤ 4096) ∧ 0 ≤ st ∧ st ≤ ca ∧ ca ≤ 1099511627776) := by omega
  clear h1
  refine res_con rfl trivial (fun x _ _ hx => ?_)
  rcases vl_in (cvh (b := ValP (1 ≤ (dl R).len ∧ ReaP (dl R) (dl R).len) [.n x]) (by kernel_rfl) hx) with ⟨hR, rfl⟩ | ⟨y, rfl⟩
  rotate_left
  · exact res_ite (fun k => absurd (cvh (b := ¬ (0 : Int) = 0) (by kernel_rfl) k) (by decide)) fun _ => cvh (a := ValP (VldP [.s nm, .n H, .n ca, .n st, dl R, dl F, dl C, dl G, dl U, dl Wl]) [.n 0]) (by kernel_rfl) (vl_no fun q => y q.1.2)
  refine res_ite (fun _ => ?_) fun k => absurd (cvh (b := ¬ ¬ (1 : Int) = 0) (by kernel_rfl) k) (by decide)
  refine res_con rfl trivial (fun x _ _ hx => ?_)
  rcases vl_in (cvh (b := ValP (CrpP (dl C) (dl C).len ∧ FrsP [.s nm, .n H, .n ca, .n st, dl R, dl F, dl C, dl G, dl U, dl Wl] (dl F).len) [.n x]) (by kernel_rfl) hx) with ⟨hF, rfl⟩ | ⟨y, rfl⟩
  rotate_left
  · exact res_ite (fun _ => cvh (a := ValP (VldP [.s nm, .n H, .n ca, .n st, dl R, dl F, dl C, dl G, dl U, dl Wl]) [.n 0]) (by kernel_rfl) (vl_no fun q => y ⟨q.2.1, q.2.2.1⟩)) fun k => absurd (cvh (b := ¬ (0 : Int) = 0) (by kernel_rfl) k) (by decide)
  refine res_ite (fun k => absurd (cvh (b := (1 : Int) = 0) (by kernel_rfl) k) (by decide)) fun _ => ?_
  refine res_lop rfl (cvh (a := 0 ≤ (dl G).len ∧ RgsP [.s nm, .n H, .n ca, .n st, dl R, dl F, dl C, dl G, dl U, dl Wl] 0) (by kernel_rfl) ⟨by omega, all_none⟩) (fun l l0 _ hl => ?_)
  replace hl := cvh (b := l ≤ (dl G).len ∧ RgsP [.s nm, .n H, .n ca, .n st, dl R, dl F, dl C, dl G, dl U, dl Wl] l) (by kernel_rfl) hl
  refine res_ite (fun z => ?_) fun z => ?_
  · replace z := cvh (b := l < (dl G).len) (by kernel_rfl) z
    refine res_dat (.s ((dl G).cell l 0).str) (by kernel_rfl) ?_
    refine res_con rfl (cvh (a := 1 ≤ H ∧ H ≤ 4096) (by kernel_rfl) hed.1) (fun x _ _ hx => ?_)
    rcases vl_in (cvh (b := ValP (RgtP H (dl R).len (dl F).len ((dl G).at l)) [.n x]) (by kernel_rfl) hx) with ⟨y, rfl⟩ | ⟨y, rfl⟩
    · refine res_ite (fun k => absurd (cvh (b := (1 : Int) = 0) (by kernel_rfl) k) (by decide)) fun _ => ?_
      exact res_chk rfl (cvh (a := l + 1 ≤ (dl G).len ∧ RgsP [.s nm, .n H, .n ca, .n st, dl R, dl F, dl C, dl G, dl U, dl Wl] (l + 1)) (by kernel_rfl) ⟨by omega, all_next l0 hl.2 y⟩) (cvh (a := ((dl G).len - (l + 1)).toNat < ((dl G).len - l).toNat) (by kernel_rfl) (by omega))
    · exact res_ite (fun _ => cvh (a := ValP (VldP [.s nm, .n H, .n ca, .n st, dl R, dl F, dl C, dl G, dl U, dl Wl]) [.n 0]) (by kernel_rfl) (vl_no fun q => y (q.2.2.2.1 l l0 z))) fun k => absurd (cvh (b := ¬ (0 : Int) = 0) (by kernel_rfl) k) (by decide)
  replace z := cvh (b := ¬ l < (dl G).len) (by kernel_rfl) z
  have hG : RgsP [.s nm, .n H, .n ca, .n st, dl R, dl F, dl C, dl G, dl U, dl Wl] (dl G).len := by
    rw [show (dl G).len = l by omega]
    exact hl.2
  clear z
  refine res_lop rfl (cvh (a := 0 ≤ (dl U).len ∧ DtsP [.s nm, .n H, .n ca, .n st, dl R, dl F, dl C, dl G, dl U, dl Wl] 0) (by kernel_rfl) ⟨by omega, all_none⟩) (fun m m0 _ hm => ?_)
  replace hm := cvh (b := m ≤ (dl U).len ∧ DtsP [.s nm, .n H, .n ca, .n st, dl R, dl F, dl C, dl G, dl U, dl Wl] m) (by kernel_rfl) hm
  refine res_ite (fun z => ?_) fun z => ?_
  · replace z := cvh (b := m < (dl U).len) (by kernel_rfl) z
    refine res_ite (fun g2 => ?_) fun g2 => ?_
    · replace g2 := cvh (b := ((¬ (((0 : Int) ≤ (dl U).at m 1) ∧ ((dl U).at m 1 ≤ (dl F).len - 1)) ∨ ¬ (((0 : Int) ≤ (dl U).at m 2) ∧ ((dl U).at m 2 ≤ (dl R).len - 1))) ∨ ¬ (((0 : Int) ≤ (dl U).at m 3) ∧ ((dl U).at m 3 ≤ H)))) (by kernel_rfl) g2
      exact cvh (a := ValP (VldP [.s nm, .n H, .n ca, .n st, dl R, dl F, dl C, dl G, dl U, dl Wl]) [.n 0]) (by kernel_rfl) (vl_no fun q => by have y : ((0 ≤ (dl U).at m 1 ∧ (dl U).at m 1 < (dl F).len) ∧ (0 ≤ (dl U).at m 2 ∧ (dl U).at m 2 < (dl R).len) ∧ 0 ≤ (dl U).at m 3 ∧ (dl U).at m 3 ≤ H) := q.2.2.2.2 m m0 z; omega)
    · replace g2 := cvh (b := ¬ ((¬ (((0 : Int) ≤ (dl U).at m 1) ∧ ((dl U).at m 1 ≤ (dl F).len - 1)) ∨ ¬ (((0 : Int) ≤ (dl U).at m 2) ∧ ((dl U).at m 2 ≤ (dl R).len - 1))) ∨ ¬ (((0 : Int) ≤ (dl U).at m 3) ∧ ((dl U).at m 3 ≤ H)))) (by kernel_rfl) g2
      exact res_chk rfl (cvh (a := m + 1 ≤ (dl U).len ∧ DtsP [.s nm, .n H, .n ca, .n st, dl R, dl F, dl C, dl G, dl U, dl Wl] (m + 1)) (by kernel_rfl) ⟨by omega, all_next m0 hm.2 (show ((0 ≤ (dl U).at m 1 ∧ (dl U).at m 1 < (dl F).len) ∧ (0 ≤ (dl U).at m 2 ∧ (dl U).at m 2 < (dl R).len) ∧ 0 ≤ (dl U).at m 3 ∧ (dl U).at m 3 ≤ H) by omega)⟩) (cvh (a := ((dl U).len - (m + 1)).toNat < ((dl U).len - m).toNat) (by kernel_rfl) (by omega))
  replace z := cvh (b := ¬ m < (dl U).len) (by kernel_rfl) z
  have hU : DtsP [.s nm, .n H, .n ca, .n st, dl R, dl F, dl C, dl G, dl U, dl Wl] (dl U).len := by
    rw [show (dl U).len = m by omega]
    exact hm.2
  clear z
  exact cvh (a := ValP (VldP [.s nm, .n H, .n ca, .n st, dl R, dl F, dl C, dl G, dl U, dl Wl]) [.n 1]) (by kernel_rfl) (vl_yes ⟨⟨hed, hR.1, hR.2⟩, hF.1, hF.2, hG, hU⟩)
set_option maxRecDepth 100000 in
theorem cDis_ok (N : Nat) (w0 : World) : ConOk Try.prog tb N w0 (cDis 21) := by
  refine con_of_walk (tb := tb) fine (C := [cVld 37]) (conCons cVld_ok noCon) 80 rfl ?_ N w0
  refine fun nm _ H _ _ ca _ _ st _ _ R _ F _ C _ G _ U _ Wl _ _ => ?_
  rw [tree_dis]
  show T.res _ (fun y => DisP [.s nm, .n H, .n ca, .n st, dl R, dl F, dl C, dl G, dl U, dl Wl] y) _ _
  refine res_ite (fun h => ?_) fun h => ?_
  · replace h := cvh (b := ((((((64 : Int) < (dl R).len) ∨ ((600 : Int) < (dl F).len)) ∨ ((32 : Int) < (dl C).len)) ∨ ((256 : Int) < (dl G).len)) ∨ ((256 : Int) < (dl U).len))) (by kernel_rfl) h
    have h : (64 < (dl R).len ∨ 600 < (dl F).len ∨ 32 < (dl C).len ∨ 256 < (dl G).len ∨ 256 < (dl U).len) := by omega
    exact ⟨fun _ => rfl, fun k => absurd h k, fun k => absurd h k⟩
  replace h := cvh (b := ¬ ((((((64 : Int) < (dl R).len) ∨ ((600 : Int) < (dl F).len)) ∨ ((32 : Int) < (dl C).len)) ∨ ((256 : Int) < (dl G).len)) ∨ ((256 : Int) < (dl U).len))) (by kernel_rfl) h
  have h : ¬ (64 < (dl R).len ∨ 600 < (dl F).len ∨ 32 < (dl C).len ∨ 256 < (dl G).len ∨ 256 < (dl U).len) := by omega
  refine res_con rfl trivial (fun x _ _ hx => ?_)
  rcases vl_in (cvh (b := ValP (VldP [.s nm, .n H, .n ca, .n st, dl R, dl F, dl C, dl G, dl U, dl Wl]) [.n x]) (by kernel_rfl) hx) with ⟨y, rfl⟩ | ⟨y, rfl⟩
  · exact res_ite (fun k => absurd (show (1 : Int) = 0 from k) (by decide)) fun _ => ⟨fun k => absurd k h, fun _ k => absurd y k, fun _ _ => rfl⟩
  · exact res_ite (fun _ => ⟨fun k => absurd k h, fun _ _ => rfl, fun _ k => absurd k y⟩) fun k => absurd rfl (show ¬ (0 : Int) = 0 from k)
set_option maxRecDepth 100000 in
theorem cDisR_ok (N : Nat) (w0 : World) : ConOk Try.prog tb N w0 (cDis 27) := by
  refine con_of_walk (tb := tb) fine (C := [cVld 40]) (conCons cVldR_ok noCon) 80 rfl ?_ N w0
  refine fun nm _ H _ _ ca _ _ st _ _ R _ F _ C _ G _ U _ Wl _ _ => ?_
  rw [tree_disR]
  show T.res _ (fun y => DisP [.s nm, .n H, .n ca, .n st, dl R, dl F, dl C, dl G, dl U, dl Wl] y) _ _
  refine res_ite (fun h => ?_) fun h => ?_
  · replace h := cvh (b := ((((((64 : Int) < (dl R).len) ∨ ((600 : Int) < (dl F).len)) ∨ ((32 : Int) < (dl C).len)) ∨ ((256 : Int) < (dl G).len)) ∨ ((256 : Int) < (dl U).len))) (by kernel_rfl) h
    have h : (64 < (dl R).len ∨ 600 < (dl F).len ∨ 32 < (dl C).len ∨ 256 < (dl G).len ∨ 256 < (dl U).len) := by omega
    exact ⟨fun _ => rfl, fun k => absurd h k, fun k => absurd h k⟩
  replace h := cvh (b := ¬ ((((((64 : Int) < (dl R).len) ∨ ((600 : Int) < (dl F).len)) ∨ ((32 : Int) < (dl C).len)) ∨ ((256 : Int) < (dl G).len)) ∨ ((256 : Int) < (dl U).len))) (by kernel_rfl) h
  have h : ¬ (64 < (dl R).len ∨ 600 < (dl F).len ∨ 32 < (dl C).len ∨ 256 < (dl G).len ∨ 256 < (dl U).len) := by omega
  refine res_con rfl trivial (fun x _ _ hx => ?_)
  rcases vl_in (cvh (b := ValP (VldP [.s nm, .n H, .n ca, .n st, dl R, dl F, dl C, dl G, dl U, dl Wl]) [.n x]) (by kernel_rfl) hx) with ⟨y, rfl⟩ | ⟨y, rfl⟩
  · exact res_ite (fun k => absurd (show (1 : Int) = 0 from k) (by decide)) fun _ => ⟨fun k => absurd k h, fun _ k => absurd y k, fun _ _ => rfl⟩
  · exact res_ite (fun _ => ⟨fun k => absurd k h, fun _ _ => rfl, fun _ k => absurd k y⟩) fun k => absurd rfl (show ¬ (0 : Int) = 0 from k)
end Go.Proofs.Ytcidomlhmdefaaa
