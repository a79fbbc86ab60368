/- DERIVED. The check of a district's wells keeps its contract, on both sides; the laws' walks. -/
import Derived.Test.YtcidomlhmdefaaaDdcv
import Derived.Test.YtcidomlhmdefaaaDtrh
import Derived.Test.YtcidomlhmdefaaaDctd
namespace Go.Proofs.Ytcidomlhmdefaaa
open Go.Dx
set_option linter.unusedVariables false
theorem cI_yes {p : Prop} {a b : Int} (h : p) : cI p a b = a := by unfold cI; rw [if_pos h]
theorem cI_no {p : Prop} {a b : Int} (h : ¬ p) : cI p a b = b := by unfold cI; rw [if_neg h]
theorem dis_in {d : List DV} {e : Int} (h : DisP d [.n e]) : (BigP d ∧ e = 2) ∨ (¬ BigP d ∧ ¬ VldP d ∧ e = 191) ∨ (¬ BigP d ∧ VldP d ∧ e = 0) := by
  by_cases a : BigP d
  · exact .inl ⟨a, n_inj (h.1 a)⟩
  · by_cases b : VldP d
    · exact .inr (.inr ⟨a, b, n_inj (h.2.2 a b)⟩)
    · exact .inr (.inl ⟨a, b, n_inj (h.2.1 a b)⟩)
theorem wel_big {d : List DV} (h : BigP d) : [DV.n 2] = [.n (welF d)] := by unfold welF; rw [cI_yes h]
theorem wel_bad {d : List DV} (h : ¬ BigP d) (k : ¬ VldP d) : [DV.n 191] = [.n (welF d)] := by unfold welF; rw [cI_no h, cI_no k]
theorem wel_long {d : List DV} (h : ¬ BigP d) (k : VldP d) (l : 64 < (gd d 9).len ∨ ¬ ShoP (gd d 9) (gd d 9).len) : [DV.n 2] = [.n (welF d)] := by unfold welF; rw [cI_no h, cI_yes k, cI_yes l]
theorem wel_no {d : List DV} (h : ¬ BigP d) (k : VldP d) (l : ¬ (64 < (gd d 9).len ∨ ¬ ShoP (gd d 9) (gd d 9).len)) (m : ¬ WlsP (gd d 9) (gd d 5).len (gd d 4).len (gd d 9).len) : [DV.n 420] = [.n (welF d)] := by unfold welF; rw [cI_no h, cI_yes k, cI_no l, cI_no m]
theorem wel_yes {d : List DV} (h : ¬ BigP d) (k : VldP d) (l : ¬ (64 < (gd d 9).len ∨ ¬ ShoP (gd d 9) (gd d 9).len)) (m : WlsP (gd d 9) (gd d 5).len (gd d 4).len (gd d 9).len) : [DV.n 0] = [.n (welF d)] := by unfold welF; rw [cI_no h, cI_yes k, cI_no l, cI_yes m]
theorem wel_in {d : List DV} (h : welF d = 0) : ¬ BigP d ∧ VldP d ∧ ¬ (64 < (gd d 9).len ∨ ¬ ShoP (gd d 9) (gd d 9).len) ∧ WlsP (gd d 9) (gd d 5).len (gd d 4).len (gd d 9).len := by
  by_cases a : BigP d
  · rw [← n_inj (wel_big a)] at h; cases h
  by_cases b : ¬ VldP d
  · rw [← n_inj (wel_bad a b)] at h; cases h
  have b := Classical.not_not.1 b
  by_cases c : 64 < (gd d 9).len ∨ ¬ ShoP (gd d 9) (gd d 9).len
  · rw [← n_inj (wel_long a b c)] at h; cases h
  by_cases e : ¬ WlsP (gd d 9) (gd d 5).len (gd d 4).len (gd d 9).len
  · rw [← n_inj (wel_no a b c e)] at h; cases h
  exact ⟨a, b, c, Classical.not_not.1 e⟩
theorem shs_fourth {a b c d : Sh} : ∀ {x : List DV}, HasShs [a, b, c, d] x → HasSh d (x.getD 3 (.n 0))
  | [], h => by simp only [HasShs] at h
  | [_], h => by simp only [HasShs] at h; exact h.2.elim
  | [_, _], h => by simp only [HasShs] at h; exact h.2.2.elim
  | [_, _, _], h => by simp only [HasShs] at h; exact h.2.2.2.elim
  | _ :: _ :: _ :: k :: _, h => by simp only [HasShs] at h; exact h.2.2.2.1
/-- The kernel of a well of a list. -/
theorem ker_len {W : List (List DV)} (hW : HasSh (slS well) (dl W)) {i : Int} (h0 : 0 ≤ i) (h1 : i < (dl W).len) : ((dl W).cell i 3).els.length ≤ 9223372036854775807 := by
  have lw : (dl W).len = W.length := clampL_eq (show W.length ≤ 9223372036854775807 from hW.1)
  have hlt : i.toNat < W.length := by omega
  have hm := hW.2 W[i.toNat] (List.getElem_mem hlt)
  have e : (dl W).cell i 3 = W[i.toNat].getD 3 (.n 0) := by
    show (W.getD i.toNat []).getD 3 (.n 0) = _
    rw [show W.getD i.toNat [] = W[i.toNat] by rw [List.getD_eq_getElem?_getD, List.getElem?_eq_getElem hlt]; rfl]
  rw [e]
  exact (shs_fourth hm).1
theorem ker_cut {K : DV} (h : K.els.length ≤ 9223372036854775807) : (K.els.take K.len.toNat).drop (0 : Int).toNat = K.els := by
  have : K.len = K.els.length := clampL_eq h
  rw [this, Int.toNat_natCast, List.take_length]; rfl
theorem isw_els {a b c x y : Int} {K : DV} : isW ⟨a, b, c, .sl none 0 K.els⟩ x y ↔ isW ⟨a, b, c, K⟩ x y := Iff.rfl
theorem kern_els {a b c : Int} {K : DV} : kernP ⟨a, b, c, .sl none 0 K.els⟩ ↔ kernP ⟨a, b, c, K⟩ := Iff.rfl
set_option maxRecDepth 100000 in
set_option maxHeartbeats 4000000 in
theorem cWel_ok (N : Nat) (w0 : World) : ConOk Try.prog tb N w0 (cWel 12) := by
  refine con_of_walk (tb := tb) fine (C := [cDis 21, cIsW 26, lAllW]) (conCons cDis_ok (conCons cIsW_ok (lopCons rfl noCon))) 100 rfl ?_ N w0
  refine fun nm _ H _ _ ca _ _ st _ _ R _ F _ C _ G _ U _ Wl hW _ => ?_
  rw [tree_wel]
  show T.res _ (fun y => y = [.n (welF [.s nm, .n H, .n ca, .n st, dl R, dl F, dl C, dl G, dl U, dl Wl])]) _ _
  have nW0 := len_nn (dl Wl)
  refine res_con rfl trivial (fun e _ _ he => ?_)
  rcases dis_in (cvh (b := DisP [.s nm, .n H, .n ca, .n st, dl R, dl F, dl C, dl G, dl U, dl Wl] [.n e]) (by kernel_rfl) he) with ⟨big, rfl⟩ | ⟨big, vld, rfl⟩ | ⟨big, vld, rfl⟩
  · exact res_ite (fun _ => wel_big big) fun k => absurd (show ¬ ¬ (2 : Int) = 0 from k) (by decide)
  · exact res_ite (fun _ => wel_bad big vld) fun k => absurd (show ¬ ¬ (191 : Int) = 0 from k) (by decide)
  refine res_ite (fun k => absurd rfl (show ¬ (0 : Int) = 0 from k)) fun _ => ?_
  refine res_ite (fun hle => ?_) fun hle => wel_long big vld (.inl ?_)
  rotate_left
  · have hle : ¬ (dl Wl).len ≤ 64 := hle
    show 64 < (dl Wl).len
    omega
  have hle : (dl Wl).len ≤ 64 := hle
  refine res_lop rfl (cvh (a := 0 ≤ (dl Wl).len ∧ ((12 : Nat) = 12 → ShoP (dl Wl) 0) ∧ ((12 : Nat) ≠ 12 → WlsP (dl Wl) (dl F).len (dl R).len 0)) (by kernel_rfl) ⟨by omega, fun _ => all_none, fun h => absurd rfl h⟩) (fun i i0 _ hi => ?_)
  replace hi := cvh (b := i ≤ (dl Wl).len ∧ ((12 : Nat) = 12 → ShoP (dl Wl) i) ∧ ((12 : Nat) ≠ 12 → WlsP (dl Wl) (dl F).len (dl R).len i)) (by kernel_rfl) hi
  refine res_ite (fun z => ?_) fun z => ?_
  · replace z := cvh (b := i < (dl Wl).len) (by kernel_rfl) z
    refine res_ite (fun k => ?_) fun k => ?_
    · replace k := cvh (b := 64 < ((dl Wl).cell i 3).len) (by kernel_rfl) k
      exact cvh (a := [DV.n 2] = [.n (welF [.s nm, .n H, .n ca, .n st, dl R, dl F, dl C, dl G, dl U, dl Wl])]) (by kernel_rfl) (wel_long big vld (.inr fun q => by have y : ((dl Wl).cell i 3).len ≤ 64 := q i i0 z; omega))
    · replace k := cvh (b := ¬ 64 < ((dl Wl).cell i 3).len) (by kernel_rfl) k
      exact res_chk rfl (cvh (a := (i + 1) ≤ (dl Wl).len ∧ ((12 : Nat) = 12 → ShoP (dl Wl) (i + 1)) ∧ ((12 : Nat) ≠ 12 → WlsP (dl Wl) (dl F).len (dl R).len (i + 1))) (by kernel_rfl) ⟨by omega, fun _ => all_next i0 (hi.2.1 rfl) (show ((dl Wl).cell i 3).len ≤ 64 by omega), fun h => absurd rfl h⟩) (cvh (a := ((dl Wl).len - (i + 1)).toNat < ((dl Wl).len - i).toNat) (by kernel_rfl) (by omega))
  replace z := cvh (b := ¬ i < (dl Wl).len) (by kernel_rfl) z
  have sho : ShoP (dl Wl) (dl Wl).len := by
    rw [show (dl Wl).len = i by omega]
    exact hi.2.1 rfl
  have nol : ¬ (64 < (dl Wl).len ∨ ¬ ShoP (dl Wl) (dl Wl).len) := fun h => h.elim (fun h => by omega) fun h => h sho
  clear z
  refine res_lop rfl (cvh (a := 0 ≤ (dl Wl).len ∧ ((31 : Nat) = 12 → ShoP (dl Wl) 0) ∧ ((31 : Nat) ≠ 12 → WlsP (dl Wl) (dl F).len (dl R).len 0)) (by kernel_rfl) ⟨by omega, fun h => absurd h (by decide), fun _ => all_none⟩) (fun j j0 _ hj => ?_)
  replace hj := cvh (b := j ≤ (dl Wl).len ∧ ((31 : Nat) = 12 → ShoP (dl Wl) j) ∧ ((31 : Nat) ≠ 12 → WlsP (dl Wl) (dl F).len (dl R).len j)) (by kernel_rfl) hj
  refine res_ite (fun z => ?_) fun z => ?_
  · replace z := cvh (b := j < (dl Wl).len) (by kernel_rfl) z
    refine res_dat (.sl none 0 ((((dl Wl).cell j 3).els.take ((dl Wl).cell j 3).len.toNat).drop (0 : Int).toNat)) (by kernel_rfl) ?_
    rw [ker_cut (ker_len hW j0 z)]
    refine res_con rfl trivial (fun x _ _ hx => ?_)
    replace hx := cvh (b := [DV.n x] = [.n (if isW ⟨(dl Wl).at j 0, (dl Wl).at j 1, (dl Wl).at j 2, .sl none 0 ((dl Wl).cell j 3).els⟩ (dl F).len (dl R).len then 1 else 0)]) (by kernel_rfl) hx
    rcases if_in hx with ⟨x0, y⟩ | ⟨x0, y⟩
    · refine res_ite (fun k => absurd (cvh (b := x = 0) (by kernel_rfl) k) x0) fun _ => ?_
      exact res_chk rfl (cvh (a := (j + 1) ≤ (dl Wl).len ∧ ((31 : Nat) = 12 → ShoP (dl Wl) (j + 1)) ∧ ((31 : Nat) ≠ 12 → WlsP (dl Wl) (dl F).len (dl R).len (j + 1))) (by kernel_rfl) ⟨by omega, fun h => absurd h (by decide), fun _ => all_next j0 (hj.2.2 (by decide)) (isw_els.1 y)⟩) (cvh (a := ((dl Wl).len - (j + 1)).toNat < ((dl Wl).len - j).toNat) (by kernel_rfl) (by omega))
    · exact res_ite (fun _ => cvh (a := [DV.n 420] = [.n (welF [.s nm, .n H, .n ca, .n st, dl R, dl F, dl C, dl G, dl U, dl Wl])]) (by kernel_rfl) (wel_no big vld nol fun q => y (isw_els.2 (q j j0 z)))) fun k => absurd x0 (cvh (b := ¬ x = 0) (by kernel_rfl) k)
  replace z := cvh (b := ¬ j < (dl Wl).len) (by kernel_rfl) z
  have wls : WlsP (dl Wl) (dl F).len (dl R).len (dl Wl).len := by
    rw [show (dl Wl).len = j by omega]
    exact hj.2.2 (by decide)
  exact cvh (a := [DV.n 0] = [.n (welF [.s nm, .n H, .n ca, .n st, dl R, dl F, dl C, dl G, dl U, dl Wl])]) (by kernel_rfl) (wel_yes big vld nol wls)
set_option maxRecDepth 100000 in
set_option maxHeartbeats 4000000 in
theorem cWelR_ok (N : Nat) (w0 : World) : ConOk Try.prog tb N w0 (cWel 13) := by
  refine con_of_walk (tb := tb) fine (C := [cDis 27, cKern 28, lW1, lW2]) (conCons cDisR_ok (conCons cKern_ok (lopCons rfl (lopCons rfl noCon)))) 80 rfl ?_ N w0
  refine fun nm _ H _ _ ca _ _ st _ _ R _ F _ C _ G _ U _ Wl hW _ => ?_
  rw [tree_welR]
  show T.res _ (fun y => y = [.n (welF [.s nm, .n H, .n ca, .n st, dl R, dl F, dl C, dl G, dl U, dl Wl])]) _ _
  have nW0 := len_nn (dl Wl)
  refine res_con rfl trivial (fun e _ _ he => ?_)
  rcases dis_in (cvh (b := DisP [.s nm, .n H, .n ca, .n st, dl R, dl F, dl C, dl G, dl U, dl Wl] [.n e]) (by kernel_rfl) he) with ⟨big, rfl⟩ | ⟨big, vld, rfl⟩ | ⟨big, vld, rfl⟩
  · exact res_ite (fun _ => wel_big big) fun k => absurd (show ¬ ¬ (2 : Int) = 0 from k) (by decide)
  · exact res_ite (fun _ => wel_bad big vld) fun k => absurd (show ¬ ¬ (191 : Int) = 0 from k) (by decide)
  refine res_ite (fun k => absurd rfl (show ¬ (0 : Int) = 0 from k)) fun _ => ?_
  refine res_ite (fun hle => wel_long big vld (.inl hle)) fun hle => ?_
  have hle : ¬ 64 < (dl Wl).len := hle
  refine res_lop rfl (cvh (a := 0 ≤ (dl Wl).len ∧ ShoP (dl Wl) 0) (by kernel_rfl) ⟨by omega, all_none⟩) (fun i i0 _ hi => ?_)
  replace hi := cvh (b := i ≤ (dl Wl).len ∧ ShoP (dl Wl) i) (by kernel_rfl) hi
  refine res_ite (fun z => ?_) fun z => ?_
  · replace z := cvh (b := i < (dl Wl).len) (by kernel_rfl) z
    refine res_ite (fun k => ?_) fun k => ?_
    · replace k := cvh (b := 64 < ((dl Wl).cell i 3).len) (by kernel_rfl) k
      exact cvh (a := [DV.n 2] = [.n (welF [.s nm, .n H, .n ca, .n st, dl R, dl F, dl C, dl G, dl U, dl Wl])]) (by kernel_rfl) (wel_long big vld (.inr fun q => by have y : ((dl Wl).cell i 3).len ≤ 64 := q i i0 z; omega))
    · replace k := cvh (b := ¬ 64 < ((dl Wl).cell i 3).len) (by kernel_rfl) k
      exact res_chk rfl (cvh (a := i + 1 ≤ (dl Wl).len ∧ ShoP (dl Wl) (i + 1)) (by kernel_rfl) ⟨by omega, all_next i0 hi.2 (show ((dl Wl).cell i 3).len ≤ 64 by omega)⟩) (cvh (a := ((dl Wl).len - (i + 1)).toNat < ((dl Wl).len - i).toNat) (by kernel_rfl) (by omega))
  replace z := cvh (b := ¬ i < (dl Wl).len) (by kernel_rfl) z
  have sho : ShoP (dl Wl) (dl Wl).len := by
    rw [show (dl Wl).len = i by omega]
    exact hi.2
  clear z
  have nol : ¬ (64 < (dl Wl).len ∨ ¬ ShoP (dl Wl) (dl Wl).len) := fun h => h.elim (fun h => by omega) fun h => h sho
  refine res_lop rfl (cvh (a := 0 ≤ (dl Wl).len ∧ WlsP (dl Wl) (dl F).len (dl R).len 0) (by kernel_rfl) ⟨by omega, all_none⟩) (fun j j0 _ hj => ?_)
  replace hj := cvh (b := j ≤ (dl Wl).len ∧ WlsP (dl Wl) (dl F).len (dl R).len j) (by kernel_rfl) hj
  refine res_ite (fun z => ?_) fun z => ?_
  · replace z := cvh (b := j < (dl Wl).len) (by kernel_rfl) z
    refine res_ite (fun k => ?_) fun k => ?_
    · replace k := cvh (b := ¬ (((((dl Wl).at j 0 < 0) ∨ ((dl F).len ≤ (dl Wl).at j 0)) ∨ ((dl Wl).at j 1 < 0)) ∨ ((dl R).len ≤ (dl Wl).at j 1))) (by kernel_rfl) k
      have idx : ((0 ≤ (dl Wl).at j 0 ∧ (dl Wl).at j 0 < (dl F).len) ∧ 0 ≤ (dl Wl).at j 1 ∧ (dl Wl).at j 1 < (dl R).len) := by omega
      refine res_dat (.sl none 0 ((((dl Wl).cell j 3).els.take ((dl Wl).cell j 3).len.toNat).drop (0 : Int).toNat)) (by kernel_rfl) ?_
      rw [ker_cut (ker_len hW j0 z)]
      have sj : ((dl Wl).cell j 3).len ≤ 64 := sho j j0 z
      refine res_con rfl (cvh (a := ((dl Wl).cell j 3).len ≤ 64) (by kernel_rfl) sj) (fun x _ _ hx => ?_)
      replace hx := cvh (b := [DV.n x] = [.n (if kernP ⟨(dl Wl).at j 0, (dl Wl).at j 1, (dl Wl).at j 2, .sl none 0 ((dl Wl).cell j 3).els⟩ then 1 else 0)]) (by kernel_rfl) hx
      rcases if_in hx with ⟨x0, y⟩ | ⟨x0, y⟩
      · refine res_ite (fun k => absurd (cvh (b := x = 0) (by kernel_rfl) k) x0) fun _ => ?_
        exact res_chk rfl (cvh (a := j + 1 ≤ (dl Wl).len ∧ WlsP (dl Wl) (dl F).len (dl R).len (j + 1)) (by kernel_rfl) ⟨by omega, all_next j0 hj.2 ⟨idx, kern_els.1 y⟩⟩) (cvh (a := ((dl Wl).len - (j + 1)).toNat < ((dl Wl).len - j).toNat) (by kernel_rfl) (by omega))
      · exact res_ite (fun _ => cvh (a := [DV.n 420] = [.n (welF [.s nm, .n H, .n ca, .n st, dl R, dl F, dl C, dl G, dl U, dl Wl])]) (by kernel_rfl) (wel_no big vld nol fun q => y (kern_els.2 (q j j0 z).2))) fun k => absurd x0 (cvh (b := ¬ x = 0) (by kernel_rfl) k)
    · replace k := cvh (b := ¬ ¬ (((((dl Wl).at j 0 < 0) ∨ ((dl F).len ≤ (dl Wl).at j 0)) ∨ ((dl Wl).at j 1 < 0)) ∨ ((dl R).len ≤ (dl Wl).at j 1))) (by kernel_rfl) k
      exact cvh (a := [DV.n 420] = [.n (welF [.s nm, .n H, .n ca, .n st, dl R, dl F, dl C, dl G, dl U, dl Wl])]) (by kernel_rfl) (wel_no big vld nol fun q => by have y : ((0 ≤ (dl Wl).at j 0 ∧ (dl Wl).at j 0 < (dl F).len) ∧ 0 ≤ (dl Wl).at j 1 ∧ (dl Wl).at j 1 < (dl R).len) := (q j j0 z).1; omega)
  replace z := cvh (b := ¬ j < (dl Wl).len) (by kernel_rfl) z
  have wls : WlsP (dl Wl) (dl F).len (dl R).len (dl Wl).len := by
    rw [show (dl Wl).len = j by omega]
    exact hj.2
  clear z
  exact cvh (a := [DV.n 0] = [.n (welF [.s nm, .n H, .n ca, .n st, dl R, dl F, dl C, dl G, dl U, dl Wl])]) (by kernel_rfl) (wel_yes big vld nol wls)
set_option maxRecDepth 100000 in
theorem cFewW_ok (N : Nat) (w0 : World) : ConOk Try.prog tb N w0 (cFewW 11) := by
  refine con_of_walk (tb := tb) fine (C := [lFewW]) (lopCons rfl noCon) 80 rfl ?_ N w0
  refine fun nm _ H _ _ ca _ _ st _ _ R _ F _ C _ G _ U _ Wl _ _ => ?_
  rw [tree_fewW]
  show T.res _ (fun y => True) _ _
  have nW0 := len_nn (dl Wl)
  refine res_ite (fun _ => trivial) fun _ => ?_
  refine res_lop rfl (cvh (a := 0 ≤ (dl Wl).len) (by kernel_rfl) nW0) (fun i i0 _ hi => ?_)
  replace hi := cvh (b := i ≤ (dl Wl).len) (by kernel_rfl) hi
  refine res_ite (fun z => ?_) fun z => trivial
  replace z := cvh (b := i < (dl Wl).len) (by kernel_rfl) z
  exact res_ite (fun _ => trivial) fun _ => res_chk rfl (cvh (a := i + 1 ≤ (dl Wl).len) (by kernel_rfl) (by omega)) (cvh (a := ((dl Wl).len - (i + 1)).toNat < ((dl Wl).len - i).toNat) (by kernel_rfl) (by omega))
set_option maxRecDepth 100000 in
theorem walk_wsp (nm : ByteArray) (H ca st : Int) (R F C G U Wl : List (List DV)) : (runC tb [lawCon 10 [], cFewW 11, cWel 12, cWel 13] 80 (lawCon 3 [.agg distS])).res [lawCon 10 [], cFewW 11, cWel 12, cWel 13] (fun ys => ys = [.n 1]) [.s nm, .n H, .n ca, .n st, dl R, dl F, dl C, dl G, dl U, dl Wl] := by
  rw [tree_lwsp]
  refine res_con rfl trivial (fun z _ _ hz => ?_)
  obtain rfl := n_inj (show [DV.n z] = [.n 1] from hz)
  refine res_ite (fun h => absurd (show (1 : Int) = 0 from h) (by decide)) fun _ => ?_
  refine res_con rfl trivial (fun f _ _ _ => ?_)
  refine res_ite (fun _ => ?_) fun _ => rfl
  refine res_con rfl trivial (fun x _ _ hx => ?_)
  refine res_con rfl trivial (fun y _ _ hy => ?_)
  obtain rfl := n_inj (cvh (b := [DV.n x] = [.n (welF [.s nm, .n H, .n ca, .n st, dl R, dl F, dl C, dl G, dl U, dl Wl])]) (by kernel_rfl) hx)
  obtain rfl := n_inj (cvh (b := [DV.n y] = [.n (welF [.s nm, .n H, .n ca, .n st, dl R, dl F, dl C, dl G, dl U, dl Wl])]) (by kernel_rfl) hy)
  exact res_ite (fun _ => rfl) fun h => absurd (cvh (b := ¬ welF [.s nm, .n H, .n ca, .n st, dl R, dl F, dl C, dl G, dl U, dl Wl] = welF [.s nm, .n H, .n ca, .n st, dl R, dl F, dl C, dl G, dl U, dl Wl]) (by kernel_rfl) h) (fun k => k rfl)
end Go.Proofs.Ytcidomlhmdefaaa
