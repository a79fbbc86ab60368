/- DERIVED. The law of further factors and cases, walked: case 3. -/
import Derived.Test.YtpaphkpdnmalhaaEmathe
import Derived.Test.YtpaphkpdnmalhaaEtreew3
import Derived.KernelRfl
namespace Go.Proofs.Ytpaphkpdnmalhaa
open Go.Dx Go.RowKit
set_option linter.unusedVariables false
set_option linter.unusedSimpArgs false
set_option maxHeartbeats 8000000 in
set_option maxRecDepth 100000 in
theorem further3 (v1 : Value) (b : Int) (w : World) (hG : Glb tb w) (S C f F R : List (List DV)) (no yr g : Int) (c0 c3 : List Value) (h0 : cellsA w book [.sl none 0 S, .sl none 0 C] c0) (h1 : cellA w ints (.sl none 0 f) v1) (hb : 0 ≤ b ∧ b ≤ 255) (h3 : cellsA w case1 [.n no, .n yr, .n g, .sl none 0 F, .sl none 0 R] c3) (hfew : ¬ FewP (.sl none 0 S) (moreC C no yr g (.sl none 0 F) (.sl none 0 R))) :
    Calls Try.prog 8 #[.agg c0.toArray, v1, .int .u8 b, .agg c3.toArray] w fun e w' => e = .returned (.bool true) ∧ Below w.heap.size w w' := by
  have cb := cell_byte (w := w) hb
  have hC : HasSh casesS (.sl none 0 C) := by
    cases c0 with
    | nil => simp [cellsA] at h0
    | cons _ t => cases t with
      | nil => simp [cellsA] at h0
      | cons _ _ => exact h0.2.1.1
  refine law_of_walk (tb := tb) (P := Try.prog) fine (C := [lawCon 9 [], cRight 22, cBinds 15, cAll 24, cBad 14, cFew 10, lEach 16, lAdd]) (conCons cSane_ok (conCons cRight_ok (conCons cBinds_ok (conCons cAll_ok (conCons (cBad_ok 14) (conCons cFew_ok (lopCons rfl (lopCons rfl noCon)))))))) 300 8 [.agg book, .c ints, .c (.int .u8 0 255), .agg case1] rfl (w := w) hG
    (xs := [.sl none 0 S, .sl none 0 C, .sl none 0 f, .n b, .n no, .n yr, .n g, .sl none 0 F, .sl none 0 R]) ?_ ?_
  · simp only [ArgsV]
    exact ⟨_, [.sl none 0 f, .n b, .n no, .n yr, .n g, .sl none 0 F, .sl none 0 R], c0, rfl, rfl, h0, h1, cb, [.n no, .n yr, .n g, .sl none 0 F, .sl none 0 R], [], c3, rfl, rfl, h3, trivial⟩
  clear h0 h1 cb h3
  rw [tree_fw3]
  refine res_con rfl trivial (fun z z0 z1 hz => ?_)
  obtain rfl := n_inj (show [DV.n z] = [DV.n 1] from hz)
  refine res_ite (fun h => absurd (show (1 : Int) = 0 from h) (by decide)) fun _ => ?_
  refine res_con rfl trivial (fun r _ _ hr => ?_)
  refine res_ite (fun _ => rfl) fun q => ?_
  have q : ¬ (r = 0 ∨ 60 < (DV.sl none 0 C).len) := q
  obtain ⟨hc, hf⟩ := right_of (S := .sl none 0 S) (C := .sl none 0 C) (f := .sl none 0 f) hr (fun z => q (Or.inl z))
  clear hr
  have h60 : (DV.sl none 0 C).len ≤ 60 := by omega
  have lC' : (DV.sl none 0 C).len = C.length := clampL_eq (show C.length ≤ 9223372036854775807 from hC.1)
  clear hC
  obtain ⟨⟨hS, _⟩, hsd, hcs⟩ := chk_zero hc
  refine adr_of fun u cu => adr_of fun v cv => ?_
  refine res_dat (.sl none 0 [[.n no, .n yr, .n g, .sl u cu F, .sl v cv R]]) (by kernel_rfl) ?_
  refine res_dat (moreC C no yr g (.sl u cu F) (.sl v cv R)) (by kernel_rfl) ?_
  refine res_con rfl trivial (fun y _ _ hy => ?_)
  have hy := yn_in (cvh (b := [DV.n y] = yn (FewP (.sl none 0 S) (moreC C no yr g (.sl u cu F) (.sl v cv R)))) (by kernel_rfl) hy)
  have hy : y = 0 := hy.elim (fun h => absurd (few_inv (x := .sl u cu F) (y := .sl v cv R) (x' := .sl none 0 F) (y' := .sl none 0 R) rfl rfl h.2) hfew) fun h => h.1
  refine res_ite (fun z => absurd hy (cvh (b := ¬ y = 0) (by kernel_rfl) z)) fun _ => ?_
  refine lop_of rfl True (by kernel_rfl) trivial (fun i i0 i1 _ => ?_)
  have hm : (2 - (i + 1)).toNat < (2 - i).toNat ∨ ¬ i < 2 := by omega
  refine res_ite (fun hlt => ?_) fun _ => rfl
  have hlt := cvh (b := i < 2) (by kernel_rfl) hlt
  have hm : (2 - (i + 1)).toNat < (2 - i).toNat := by omega
  refine res_con rfl trivial (fun a1 _ _ a2 _ _ a3 _ _ h1 => ?_)
  have h1 := cvh (b := [DV.n a1, .n a2, .n a3] = BindsF (.sl none 0 S) (.sl none 0 C) (.sl none 0 f) i) (by kernel_rfl) h1
  obtain ⟨p1, p2⟩ := binds_val (ask_ok hc hf (by omega)) h1
  clear h1
  refine res_ite (fun z => absurd p1 (cvh (b := ¬ a3 = 0) (by kernel_rfl) z)) fun _ => ?_
  refine res_ite (fun _ => ?_) fun z => ?_
  · exact chk_of rfl True (2 - (i + 1)).toNat (2 - i).toNat (by kernel_rfl) trivial (by kernel_rfl) (by kernel_rfl) hm
  have z := cvh (b := ¬ a2 = 0) (by kernel_rfl) z
  rcases p2 with ⟨_, k, hk, ek, hb1, hb2⟩ | ⟨x, _⟩
  rotate_left
  · exact absurd x z
  refine res_ite (fun _ => ?_) fun z2 => ?_
  · exact chk_of rfl True (2 - (i + 1)).toNat (2 - i).toNat (by kernel_rfl) trivial (by kernel_rfl) (by kernel_rfl) hm
  have z2 := cvh (b := ¬ (DV.sl none 0 S).len = 0) (by kernel_rfl) z2
  have lS := len_nn (.sl none 0 S)
  have hn0 : 0 ≤ (Int.tmod b (DV.sl none 0 S).len) := Int.tmod_nonneg _ hb.1
  have hn1 : (Int.tmod b (DV.sl none 0 S).len) < (DV.sl none 0 S).len := Int.tmod_lt_of_pos _ (by omega)
  refine res_ok (cvh (a := 0 ≤ (Int.tmod b (DV.sl none 0 S).len) ∧ (Int.tmod b (DV.sl none 0 S).len) < (DV.sl none 0 S).len) (by kernel_rfl) ⟨hn0, hn1⟩) ?_
  refine res_ite (fun _ => ?_) fun z3 => ?_
  · exact chk_of rfl True (2 - (i + 1)).toNat (2 - i).toNat (by kernel_rfl) trivial (by kernel_rfl) (by kernel_rfl) hm
  have hn := Classical.not_not.1 (cvh (b := ¬ ¬ (DV.sl none 0 S).at (Int.tmod b (DV.sl none 0 S).len) 0 = i) (by kernel_rfl) z3)
  refine res_dat (.sl none 0 []) (by kernel_rfl) ?_
  refine lop_of rfl ((0 : Int) ≤ (DV.sl none 0 S).len ∧ ([] : List (List DV)) = addL (Int.tmod b (DV.sl none 0 S).len) (.sl none 0 f) (0 : Int).toNat) (by kernel_rfl) ⟨lS, rfl⟩ (fun o ho x x0 x1 hI => ?_)
  obtain ⟨hx, hoo⟩ := cvh (b := x ≤ (DV.sl none 0 S).len ∧ o = addL (Int.tmod b (DV.sl none 0 S).len) (.sl none 0 f) x.toNat) (by kernel_rfl) hI
  clear ho hI
  have lo1 := add_len (Int.tmod b (DV.sl none 0 S).len) (.sl none 0 f) x.toNat
  have lo2 : (DV.sl none 0 o).len = o.length := by rw [hoo]; exact add_ln (by omega)
  have lo3 : (DV.sl none 0 o).len + 1 ≤ 15637498706147 := by rw [lo2, hoo]; omega
  have stp := add_step (n := (Int.tmod b (DV.sl none 0 S).len)) (f := .sl none 0 f) x0
  refine res_ite (fun hlt2 => ?_) fun hge => ?_
  · have hlt2 := cvh (b := x < (DV.sl none 0 S).len) (by kernel_rfl) hlt2
    have mea : ((DV.sl none 0 S).len - (x + 1)).toNat < ((DV.sl none 0 S).len - x).toNat := by omega
    refine res_ite (fun w1 => ?_) fun w1 => ?_
    · have w1 := cvh (b := ¬ x = (Int.tmod b (DV.sl none 0 S).len)) (by kernel_rfl) w1
      refine res_dat (.sl none 0 [[.n x]]) (by kernel_rfl) ?_
      refine res_con rfl trivial (fun t _ _ ht => ?_)
      have ht := yn_in (cvh (b := [DV.n t] = yn (allP (.sl none 0 [[.n x]]) (.sl none 0 f))) (by kernel_rfl) ht)
      rw [one_all ⟨x0, x1⟩] at ht
      refine res_ite (fun w2 => ?_) fun w2 => ?_
      · have w2 := cvh (b := ¬ t = 0) (by kernel_rfl) w2
        have hmem : memP (.sl none 0 f) x := ht.elim (fun h => h.2) fun h => absurd h.1 w2
        rw [if_pos (Or.inr hmem)] at stp
        refine res_ok (cvh (a := (DV.sl none 0 o).len + 1 ≤ 15637498706147) (by kernel_rfl) lo3) ?_
        refine res_dat (.sl none 0 [[.n x]]) (by kernel_rfl) ?_
        refine res_dat (.sl none 0 (o ++ [[.n x]])) (by kernel_rfl) ?_
        exact chk_of rfl (x + 1 ≤ (DV.sl none 0 S).len ∧ o ++ [[.n x]] = addL (Int.tmod b (DV.sl none 0 S).len) (.sl none 0 f) (x + 1).toNat) ((DV.sl none 0 S).len - (x + 1)).toNat ((DV.sl none 0 S).len - x).toNat (by kernel_rfl) ⟨by omega, by rw [stp, hoo]⟩ (by kernel_rfl) (by kernel_rfl) mea
      · have w2 := Classical.not_not.1 (cvh (b := ¬ ¬ t = 0) (by kernel_rfl) w2)
        have hmem : ¬ memP (.sl none 0 f) x := ht.elim (fun h => absurd w2 h.1) fun h => h.2
        rw [if_neg (fun h => h.elim w1 hmem)] at stp
        exact chk_of rfl (x + 1 ≤ (DV.sl none 0 S).len ∧ o = addL (Int.tmod b (DV.sl none 0 S).len) (.sl none 0 f) (x + 1).toNat) ((DV.sl none 0 S).len - (x + 1)).toNat ((DV.sl none 0 S).len - x).toNat (by kernel_rfl) ⟨by omega, by rw [stp, hoo]⟩ (by kernel_rfl) (by kernel_rfl) mea
    · have w1 := Classical.not_not.1 (cvh (b := ¬ ¬ x = (Int.tmod b (DV.sl none 0 S).len)) (by kernel_rfl) w1)
      rw [if_pos (Or.inl w1)] at stp
      refine res_ok (cvh (a := (DV.sl none 0 o).len + 1 ≤ 15637498706147) (by kernel_rfl) lo3) ?_
      refine res_dat (.sl none 0 [[.n x]]) (by kernel_rfl) ?_
      refine res_dat (.sl none 0 (o ++ [[.n x]])) (by kernel_rfl) ?_
      exact chk_of rfl (x + 1 ≤ (DV.sl none 0 S).len ∧ o ++ [[.n x]] = addL (Int.tmod b (DV.sl none 0 S).len) (.sl none 0 f) (x + 1).toNat) ((DV.sl none 0 S).len - (x + 1)).toNat ((DV.sl none 0 S).len - x).toNat (by kernel_rfl) ⟨by omega, by rw [stp, hoo]⟩ (by kernel_rfl) (by kernel_rfl) mea
  have hge := cvh (b := ¬ x < (DV.sl none 0 S).len) (by kernel_rfl) hge
  have ho2 : o = addL (Int.tmod b (DV.sl none 0 S).len) (.sl none 0 f) (DV.sl none 0 S).len.toNat := by rw [hoo, show x = (DV.sl none 0 S).len by omega]
  obtain ⟨s1, s2⟩ := add_binds (f := .sl none 0 f) hc hn hk hb1
  rw [← ho2] at s1 s2
  refine res_con rfl trivial (fun d1 _ _ d2 _ _ d3 _ _ h3 => ?_)
  have h3 := cvh (b := [DV.n d1, .n d2, .n d3] = BindsF (.sl none 0 S) (.sl none 0 C) (.sl none 0 o) i) (by kernel_rfl) h3
  obtain ⟨r1, r2⟩ := binds_val (ask_ok hc s1 (by omega)) h3
  refine res_ite (fun z4 => ?_) fun _ => ?_
  · have z4 := cvh (b := ¬ d3 = 0 ∨ d2 = 0) (by kernel_rfl) z4
    exfalso
    rcases r2 with ⟨r2, _⟩ | ⟨_, r3⟩
    · omega
    · exact r3 k hk s2
  · exact chk_of rfl True (2 - (i + 1)).toNat (2 - i).toNat (by kernel_rfl) trivial (by kernel_rfl) (by kernel_rfl) hm
end Go.Proofs.Ytpaphkpdnmalhaa
