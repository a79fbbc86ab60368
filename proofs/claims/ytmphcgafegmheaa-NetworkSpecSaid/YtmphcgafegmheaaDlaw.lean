/- DERIVED. The laws of both sides, walked. -/
import Derived.Test.YtmphcgafegmheaaDmathb
import Derived.Test.YtmphcgafegmheaaDtreee
namespace Go.Proofs.Ytmphcgafegmheaa
open Go.Dx Go.RowKit
set_option linter.unusedVariables false
set_option linter.unusedSimpArgs false
set_option maxRecDepth 100000 in
theorem NetworkSpec_any (v0 v1 : Value) (w : World) (hG : Glb tb w) (g0 : NetA w v0) (g1 : PktA w v1) :
    Calls Try.prog 3 #[v0, v1] w fun e w' => e = .returned (.bool true) ∧ Below w.heap.size w w' := by
  obtain ⟨Q, A, c0, rfl, h0⟩ := g0
  obtain ⟨x, y, D, c1, rfl, h1⟩ := g1
  refine law_of_walk (tb := tb) (P := Try.prog) fine (C := [lawCon 9 [], cFew 10, cSend 11, cSend 12, cChk 13, cChk 14, cSame 15]) (conCons cSane_ok (conCons cFew_ok (conCons cSend_ok (conCons cSendR_ok (conCons cChk_ok (conCons cChkR_ok (conCons cSame_ok noCon))))))) 200 3 [.agg net, .agg pkt] rfl (w := w) hG
    (xs := [.sl none 0 Q, .sl none 0 A, .n x, .n y, .sl none 0 D]) ?_ ?_
  · exact ⟨_, [.n x, .n y, .sl none 0 D], c0, rfl, rfl, h0, _, [], c1, rfl, rfl, h1, by simp [ArgsV]⟩
  clear h0 h1
  rw [tree_lspec]
  refine res_con rfl trivial (fun z _ _ hz => ?_)
  obtain rfl := n_inj (show [DV.n z] = [DV.n 1] from hz)
  refine res_ite (fun h => absurd (show (1 : Int) = 0 from h) (by decide)) fun _ => ?_
  refine res_con rfl trivial (fun f _ _ hf => ?_)
  refine res_ite (fun _ => rfl) fun _ => ?_
  clear hf
  refine res_con rfl trivial (fun q1 _ a1 _ e1 _ _ h1 => ?_)
  have h1 := cv h1 (by kernel_rfl : _ = (((pks (.sl none 0 q1), prs (.sl none 0 a1), e1) : Net) = sendQ (pks (.sl none 0 Q)) (prs (.sl none 0 A)) (x, y, numsOf D)))
  refine res_con rfl trivial (fun q2 _ a2 _ e2 _ _ h2 => ?_)
  have h2 := cv h2 (by kernel_rfl : _ = (((pks (.sl none 0 q2), prs (.sl none 0 a2), e2) : Net) = sendQ (pks (.sl none 0 Q)) (prs (.sl none 0 A)) (x, y, numsOf D)))
  obtain ⟨k1, k2, k3⟩ := net3_in (h1.trans h2.symm)
  clear h1 h2
  refine res_con rfl trivial (fun c _ _ hc => ?_)
  have hc := n_inj (cv hc (by kernel_rfl : _ = ([DV.n c] = [.n (chkF (pks (.sl none 0 Q)) (prs (.sl none 0 A)))])))
  refine res_con rfl trivial (fun d _ _ hd => ?_)
  have hd := n_inj (cv hd (by kernel_rfl : _ = ([DV.n d] = [.n (chkF (pks (.sl none 0 Q)) (prs (.sl none 0 A)))])))
  refine res_ite (fun _ => ?_) fun k => absurd (cv (hc.trans hd.symm) (by kernel_rfl)) k
  refine res_con rfl trivial (fun s _ _ hs => ?_)
  have hs := hold (cv hs (by kernel_rfl : _ = ([DV.n s] = yn (pks (.sl none 0 q1) = pks (.sl none 0 q2) ∧ prs (.sl none 0 a1) = prs (.sl none 0 a2))))) ⟨k1, k2⟩
  refine res_ite (fun _ => ?_) fun k => absurd (cv (⟨by omega, k3⟩ : (¬ s = 0) ∧ e1 = e2) (by kernel_rfl)) k
  refine res_dat (.sl none 0 []) rfl (res_dat (.sl none 0 []) rfl (res_dat (.sl none 0 []) rfl (res_dat (.sl none 0 []) rfl ?_)))
  refine res_con rfl trivial (fun t _ _ ht => ?_)
  have ht := hold (cv ht (by kernel_rfl : _ = ([DV.n t] = yn (pks (.sl none 0 []) = pks (.sl none 0 []) ∧ prs (.sl none 0 []) = prs (.sl none 0 []))))) ⟨rfl, rfl⟩
  exact cv (one_n ht) (by kernel_rfl)
set_option maxRecDepth 100000 in
theorem NetworkMoveSpec_any (v0 : Value) (t x y : Int) (on : Bool) (w : World) (hG : Glb tb w) (g0 : NetA w v0) (ht : -9223372036854775808 ≤ t ∧ t ≤ 9223372036854775807) (hx : -9223372036854775808 ≤ x ∧ x ≤ 9223372036854775807) (hy : -9223372036854775808 ≤ y ∧ y ≤ 9223372036854775807) :
    Calls Try.prog 4 #[v0, .int .i64 t, .int .i64 x, .int .i64 y, .bool on] w fun e w' => e = .returned (.bool true) ∧ Below w.heap.size w w' := by
  obtain ⟨Q, A, c0, rfl, h0⟩ := g0
  have ct := cell_int (w := w) ht
  have cx := cell_int (w := w) hx
  have cy := cell_int (w := w) hy
  have co := cell_bool (w := w) on
  refine law_of_walk (tb := tb) (P := Try.prog) fine (C := [lawCon 9 [], cFew 10, cDel 20, cDel 21, cLos 23, cLos 24, cRep 25, cRep 26, cCut 18, cCut 19, cSame 15, cSameP 22, lMov, lMov2]) (conCons cSane_ok (conCons cFew_ok (conCons cDel_ok (conCons cDelR_ok (conCons cLos_ok (conCons cLosR_ok (conCons cRep_ok (conCons cRepR_ok (conCons cCut_ok (conCons cCutR_ok (conCons cSame_ok (conCons cSameP_ok (lopCons rfl (lopCons rfl noCon)))))))))))))) 200 4 [.agg net, aI, aI, aI, .c .bool] rfl (w := w) hG
    (xs := [.sl none 0 Q, .sl none 0 A, .n t, .n x, .n y, .n (bi on)]) ?_ ?_
  · exact ⟨_, [.n t, .n x, .n y, .n (bi on)], c0, rfl, rfl, h0, ct, cx, cy, co, by simp [ArgsV]⟩
  clear h0 ct cx cy co
  generalize bi on = o
  rw [tree_lmov]
  refine res_con rfl trivial (fun z _ _ hz => ?_)
  obtain rfl := n_inj (show [DV.n z] = [DV.n 1] from hz)
  refine res_ite (fun h => absurd (show (1 : Int) = 0 from h) (by decide)) fun _ => ?_
  refine res_con rfl trivial (fun f _ _ hf => ?_)
  refine res_ite (fun _ => rfl) fun _ => ?_
  clear hf
  refine res_con rfl trivial (fun q1 _ a1 _ e1 _ _ h1 => ?_)
  have h1 := cv h1 (by kernel_rfl : _ = cutQ (pks (.sl none 0 Q)) (prs (.sl none 0 A)) x y (o = 1) (pks (.sl none 0 q1), prs (.sl none 0 a1), e1))
  refine res_con rfl trivial (fun q2 _ a2 _ e2 _ _ h2 => ?_)
  have h2 := cv h2 (by kernel_rfl : _ = cutQ (pks (.sl none 0 Q)) (prs (.sl none 0 A)) x y (o = 1) (pks (.sl none 0 q2), prs (.sl none 0 a2), e2))
  obtain ⟨k1, k2, k3⟩ := net3_in (cutQ_eq h1 h2)
  clear h1 h2
  refine res_con rfl trivial (fun s _ _ hs => ?_)
  have hs := hold (cv hs (by kernel_rfl : _ = ([DV.n s] = yn (pks (.sl none 0 q1) = pks (.sl none 0 q2) ∧ prs (.sl none 0 a1) = prs (.sl none 0 a2))))) ⟨k1, k2⟩
  refine res_ite (fun h => ?_) fun _ => ?_
  · have h : s = 0 ∨ ¬ e1 = e2 := cv h (by kernel_rfl)
    omega
  refine res_dat (.sl none 0 [[.n t]]) rfl ?_
  refine res_lop_of rfl (P := (DV.sl none 0 [[.n t]]).len ≤ 1 + 0) (by kernel_rfl) rfl (by show clampL 1 ≤ 1 + 0; rw [clampL_eq (by decide)]; decide) (fun M hM i i0 i1 hI => ?_)
  have hI : (DV.sl none 0 M).len ≤ 1 + i := cv hI (by kernel_rfl)
  have lM := len_of hM (Nat.le_refl _)
  refine res_ite (fun hlt => ?_) fun _ => ?_
  · have hlt : i < (DV.sl none 0 Q).len ∧ i < 3 := cv hlt (by kernel_rfl)
    refine res_ok (cv (by omega : (DV.sl none 0 M).len + 1 ≤ 15637498706147) (by kernel_rfl)) ?_
    refine res_dat (.sl none 0 [[DV.n i]]) (by kernel_rfl) (res_dat (.sl none 0 (M ++ [[DV.n i]])) (by kernel_rfl) ?_)
    have l2 : (DV.sl none 0 (M ++ [[DV.n i]])).len ≤ 1 + (i + 1) := by
      have l3 : (M ++ [[DV.n i]]).length = M.length + 1 := List.length_append
      have : (DV.sl none 0 (M ++ [[DV.n i]])).len = ((M ++ [[DV.n i]]).length : Int) := clampL_eq (show (M ++ [[DV.n i]]).length ≤ 9223372036854775807 by omega)
      omega
    exact res_chk_of rfl (P := (DV.sl none 0 (M ++ [[DV.n i]])).len ≤ 1 + (i + 1)) (a := (3 - (i + 1)).toNat) (b := (3 - i).toNat) (by kernel_rfl) (by kernel_rfl) (by kernel_rfl) l2 (by omega)
  refine res_lop_of rfl (P := (0 : Int) ≤ (DV.sl none 0 M).len) (by kernel_rfl) rfl (len_nn _) (fun j j0 j1 hJ => ?_)
  have hJ : j ≤ (DV.sl none 0 M).len := cv hJ (by kernel_rfl)
  refine res_ite (fun hlt => ?_) fun _ => cv rfl (by kernel_rfl : ([DV.n 1] = [DV.n 1]) = _)
  have hlt : j < (DV.sl none 0 M).len := cv hlt (by kernel_rfl)
  refine res_con rfl trivial (fun f1 _ _ g1 _ _ z1 _ q3 _ a3 _ e3 _ _ h1 => ?_)
  have h1 := cv h1 (by kernel_rfl : _ = ((((f1, g1, numsOf z1), pks (.sl none 0 q3), prs (.sl none 0 a3), e3) : P3 × Net) = delQ (pks (.sl none 0 Q)) (prs (.sl none 0 A)) ((DV.sl none 0 M).at j 0)))
  refine res_con rfl trivial (fun f2 _ _ g2 _ _ z2 _ q4 _ a4 _ e4 _ _ h2 => ?_)
  have h2 := cv h2 (by kernel_rfl : _ = ((((f2, g2, numsOf z2), pks (.sl none 0 q4), prs (.sl none 0 a4), e4) : P3 × Net) = delQ (pks (.sl none 0 Q)) (prs (.sl none 0 A)) ((DV.sl none 0 M).at j 0)))
  obtain ⟨k0, k1, k2, k3⟩ := del4_in (h1.trans h2.symm)
  clear h1 h2
  refine res_con rfl trivial (fun s1 _ _ hs1 => ?_)
  have hs1 := hold (cv hs1 (by kernel_rfl : _ = ([DV.n s1] = yn ((f1, g1, numsOf z1) = (f2, g2, numsOf z2))))) k0
  refine res_ite (fun _ => ?_) fun k => absurd (cv (by omega : ¬ s1 = 0) (by kernel_rfl)) k
  refine res_con rfl trivial (fun s2 _ _ hs2 => ?_)
  have hs2 := hold (cv hs2 (by kernel_rfl : _ = ([DV.n s2] = yn (pks (.sl none 0 q3) = pks (.sl none 0 q4) ∧ prs (.sl none 0 a3) = prs (.sl none 0 a4))))) ⟨k1, k2⟩
  refine res_ite (fun h => ?_) fun _ => ?_
  · have h : s2 = 0 ∨ ¬ e3 = e4 := cv h (by kernel_rfl)
    omega
  refine res_con rfl trivial (fun q5 _ a5 _ e5 _ _ h1 => ?_)
  have h1 := cv h1 (by kernel_rfl : _ = (((pks (.sl none 0 q5), prs (.sl none 0 a5), e5) : Net) = losQ (pks (.sl none 0 Q)) (prs (.sl none 0 A)) ((DV.sl none 0 M).at j 0)))
  refine res_con rfl trivial (fun q6 _ a6 _ e6 _ _ h2 => ?_)
  have h2 := cv h2 (by kernel_rfl : _ = (((pks (.sl none 0 q6), prs (.sl none 0 a6), e6) : Net) = losQ (pks (.sl none 0 Q)) (prs (.sl none 0 A)) ((DV.sl none 0 M).at j 0)))
  obtain ⟨k1, k2, k3⟩ := net3_in (h1.trans h2.symm)
  clear h1 h2
  refine res_con rfl trivial (fun s3 _ _ hs3 => ?_)
  have hs3 := hold (cv hs3 (by kernel_rfl : _ = ([DV.n s3] = yn (pks (.sl none 0 q5) = pks (.sl none 0 q6) ∧ prs (.sl none 0 a5) = prs (.sl none 0 a6))))) ⟨k1, k2⟩
  refine res_ite (fun h => ?_) fun _ => ?_
  · have h : s3 = 0 ∨ ¬ e5 = e6 := cv h (by kernel_rfl)
    omega
  refine res_con rfl trivial (fun q7 _ a7 _ e7 _ _ h1 => ?_)
  have h1 := cv h1 (by kernel_rfl : _ = (((pks (.sl none 0 q7), prs (.sl none 0 a7), e7) : Net) = repQ (pks (.sl none 0 Q)) (prs (.sl none 0 A)) ((DV.sl none 0 M).at j 0)))
  refine res_con rfl trivial (fun q8 _ a8 _ e8 _ _ h2 => ?_)
  have h2 := cv h2 (by kernel_rfl : _ = (((pks (.sl none 0 q8), prs (.sl none 0 a8), e8) : Net) = repQ (pks (.sl none 0 Q)) (prs (.sl none 0 A)) ((DV.sl none 0 M).at j 0)))
  obtain ⟨k1, k2, k3⟩ := net3_in (h1.trans h2.symm)
  clear h1 h2
  refine res_con rfl trivial (fun s4 _ _ hs4 => ?_)
  have hs4 := hold (cv hs4 (by kernel_rfl : _ = ([DV.n s4] = yn (pks (.sl none 0 q7) = pks (.sl none 0 q8) ∧ prs (.sl none 0 a7) = prs (.sl none 0 a8))))) ⟨k1, k2⟩
  refine res_ite (fun h => ?_) fun _ => ?_
  · have h : s4 = 0 ∨ ¬ e7 = e8 := cv h (by kernel_rfl)
    omega
  exact res_chk_of rfl (P := j + 1 ≤ (DV.sl none 0 M).len) (a := ((DV.sl none 0 M).len - (j + 1)).toNat) (b := ((DV.sl none 0 M).len - j).toNat) (by kernel_rfl) (by kernel_rfl) (by kernel_rfl) (by omega) (by omega)
end Go.Proofs.Ytmphcgafegmheaa
