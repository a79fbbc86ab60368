/- DERIVED. The program's line keeps its contract. -/
import Derived.Test.YtcjdheaaddaagaaDlnm
import Derived.Test.YtcjdheaaddaagaaDsrt
import Derived.Test.YtcjdheaaddaagaaDtreec
namespace Go.Proofs.Ytcjdheaaddaagaa
open Go.Dx
set_option linter.unusedVariables false
set_option linter.unusedSimpArgs false
set_option maxRecDepth 100000 in
set_option maxHeartbeats 4000000 in
theorem cLine_ok (N : Nat) (w0 : World) : ConOk Try.prog tb N w0 (cLine 23) := by
 refine con_of_walk (tb := tb) fine (C := [lL1, lFst, lAb, lIdx, lDel, cSrt false 35, cSrt true 37]) (lopCons rfl (lopCons rfl (lopCons rfl (lopCons rfl (lopCons rfl (conCons cSrtE_ok (conCons cSrtL_ok noCon))))))) 200 rfl ?_ N w0
 refine fun est e0 e1 p hp hpre => ?_
 obtain ⟨hk, hz⟩ : chkF est (.sl none 0 p) = 0 ∧ est ≠ 0 := hpre
 have he := chk_est hk hz
 have hp1 := (chk_in hk).1
 have hp2 := (chk_in hk).2.1
 have hnn := nn_eq (.sl none 0 p)
 have he1 := he.e1
 have he2 := he.e2
 have hsc := sum_cap (f := el (.sl none 0 p)) (fun i hi => (he.cl i hi).2) he.n1
 rw [tree_line]
 show T.res _ (fun y => LineP est (el (.sl none 0 p)) (nn (.sl none 0 p)) (!decide (gi y 0 = 0)) (gi y 1) (gd y 2).els) _ _
 refine res_dat (.sl none 0 []) (by kernel_rfl) ?_
 refine res_lop_of rfl (P := (0 : Int) ≤ (DV.sl none 0 p).len ∧ (DV.sl none 0 []).els = pRows (el (DV.sl none 0 p)) ((0 : Int)).toNat ∧ (0 : Int) = sumN (fun i => el (DV.sl none 0 p) i / 2) ((0 : Int)).toNat) (by kernel_rfl) rfl (⟨len_nn _, rfl, rfl⟩) (fun x1 x1h  x2 x20 x21  x3 x30 x31 i4 => ?_)
 replace i4 := cvh (b := x3 ≤ (DV.sl none 0 p).len ∧ (DV.sl none 0 x1).els = pRows (el (DV.sl none 0 p)) (x3).toNat ∧ x2 = sumN (fun i => el (DV.sl none 0 p) i / 2) (x3).toNat) (by kernel_rfl) i4
 obtain ⟨hi, hL, hE⟩ := i4
 replace hL : x1 = pRows (el (DV.sl none 0 p)) x3.toNat := hL
 have hEn := sum_next (f := fun i => el (DV.sl none 0 p) i / 2) x30
 have hEc := half_cap (k := x3.toNat) he.cl (by rw [hnn.symm] at hi; omega) he.n1
 rw [← hE] at hEc
 have hLl := len_k (K := x1) (by rw [hL]; exact pRows_len _ _) (show x3.toNat ≤ 664 by omega)
 refine res_ite (fun h5 => ?_) fun h5 => ?_
 · replace h5 := cvh (b := (x3 < (DV.sl none 0 p).len)) (by kernel_rfl) h5
   have rk := lit_at hp2 x30 (by omega)
   refine res_dat (.sl none 0 [[.n (x3), .n ((DV.sl none 0 p).at (x3) 0)]]) (by kernel_rfl) ?_
   refine res_dat (.sl none 0 (x1 ++ [[.n (x3), .n ((DV.sl none 0 p).at (x3) 0)]])) (by kernel_rfl) ?_
   refine res_ok (cvh (a := (((DV.sl none 0 x1).len + (1 : Int)) ≤ (664 : Int))) (by kernel_rfl) (by first | omega | (rw [len_k (by rw [hL]; exact pRows_len _ _) (show x3.toNat ≤ 664 by omega)]; omega))) ?_
   have e6 : (Int.tdiv ((DV.sl none 0 p).at (x3) 0) (2 : Int)) = ((DV.sl none 0 p).at (x3) 0 / (2 : Int)) := by
    exact Int.tdiv_eq_ediv_of_nonneg (by omega)
   have e7 : (IntKind.i64.wrap (Int.tdiv ((DV.sl none 0 p).at (x3) 0) (2 : Int))) = ((DV.sl none 0 p).at (x3) 0 / (2 : Int)) := by
    rw [e6]
    exact wI (by omega) (by omega)
   have e8 : (IntKind.i64.wrap (x2 + (IntKind.i64.wrap (Int.tdiv ((DV.sl none 0 p).at (x3) 0) (2 : Int))))) = (x2 + ((DV.sl none 0 p).at (x3) 0 / (2 : Int))) := by
    rw [e7]
    exact wI (by omega) (by omega)
   refine res_ok (cvh (a := (((0 : Int) ≤ (IntKind.i64.wrap (x2 + (IntKind.i64.wrap (Int.tdiv ((DV.sl none 0 p).at (x3) 0) (2 : Int)))))) ∧ ((IntKind.i64.wrap (x2 + (IntKind.i64.wrap (Int.tdiv ((DV.sl none 0 p).at (x3) 0) (2 : Int))))) ≤ (1000000000000 : Int)))) (by kernel_rfl) (by rw [e8]; first | omega | (rw [len_k (by rw [hL]; exact pRows_len _ _) (show x3.toNat ≤ 664 by omega)]; omega))) ?_
   refine res_ok (cvh (a := (((0 : Int) ≤ (x3 + (1 : Int))) ∧ ((x3 + (1 : Int)) ≤ (664 : Int)))) (by kernel_rfl) (by first | omega | (rw [len_k (by rw [hL]; exact pRows_len _ _) (show x3.toNat ≤ 664 by omega)]; omega))) ?_
   exact res_chk_of rfl (P := (x3 + (1 : Int)) ≤ (DV.sl none 0 p).len ∧ (DV.sl none 0 (x1 ++ [[.n (x3), .n ((DV.sl none 0 p).at (x3) 0)]])).els = pRows (el (DV.sl none 0 p)) ((x3 + (1 : Int))).toNat ∧ (IntKind.i64.wrap (x2 + (IntKind.i64.wrap (Int.tdiv ((DV.sl none 0 p).at (x3) 0) (2 : Int))))) = sumN (fun i => el (DV.sl none 0 p) i / 2) ((x3 + (1 : Int))).toNat) (a := ((DV.sl none 0 p).len - (x3 + (1 : Int))).toNat) (b := ((DV.sl none 0 p).len - x3).toNat) (by kernel_rfl) (by kernel_rfl) (by kernel_rfl) (by rw [e8]; refine ⟨by omega, ?_, by rw [hEn, ← hE, el_at _ x30]⟩; show x1 ++ [_] = _; rw [hL, show (x3 + 1).toNat = x3.toNat + 1 by omega, pRows_succ]; simp only [prD, el_at _ x30, Int.toNat_of_nonneg x30]) (by omega)
 · replace h5 := cvh (b := ¬ (x3 < (DV.sl none 0 p).len)) (by kernel_rfl) h5
   have en : x3.toNat = (nn (DV.sl none 0 p)) := by omega
   rw [en] at hL hE hLl
   clear hEn hi
   have hlat := lat_eq (est := est) he.cl
   rw [← hE] at hlat
   have hLg : ∀ j : Nat, j < (nn (DV.sl none 0 p)) → x1[j]? = some (prD (el (DV.sl none 0 p)) j) := fun j hj => by rw [hL]; exact pRows_get _ hj
   refine res_ite (fun h9 => ?_) fun h9 => ?_
   · replace h9 := cvh (b := (x2 < est)) (by kernel_rfl) h9
     have hb : (decide (x2 < est)) = true := by simpa using h9
     refine res_lop_of rfl (P := LvI (decide (x2 < est)) est (el (DV.sl none 0 p)) (nn (DV.sl none 0 p)) ((1 : Int)) ((1073741824 : Int))) (by kernel_rfl) rfl (by rw [hlat]; exact LvI.start he) (fun x10 x100 x101  x11 x110 x111 i12 => ?_)
     replace i12 := cvh (b := LvI (decide (x2 < est)) est (el (DV.sl none 0 p)) (nn (DV.sl none 0 p)) (x10) (x11)) (by kernel_rfl) i12
     refine res_ite (fun h13 => ?_) fun h13 => ?_
     · replace h13 := cvh (b := (x10 < x11)) (by kernel_rfl) h13
       refine res_lop_of rfl (P := (0 : Int) ≤ (DV.sl none 0 p).len ∧ (0 : Int) = abF (decide (x2 < est)) (levA (decide (x2 < est)) x10 x11) (el (DV.sl none 0 p)) ((0 : Int)).toNat) (by kernel_rfl) rfl (⟨len_nn _, rfl⟩) (fun x14 x140 x141  x15 x150 x151 i16 => ?_)
       replace i16 := cvh (b := x15 ≤ (DV.sl none 0 p).len ∧ x14 = abF (decide (x2 < est)) (levA (decide (x2 < est)) x10 x11) (el (DV.sl none 0 p)) (x15).toNat) (by kernel_rfl) i16
       obtain ⟨hj, hs⟩ := i16
       have hcap := ab_cap (b := (decide (x2 < est))) (l := levA (decide (x2 < est)) x10 x11) (n := x15.toNat) (c := (el (DV.sl none 0 p))) (fun q hq => he.cl q (by rw [← hnn] at hj; omega)) (by unfold levA; split <;> (try split) <;> omega) (by omega)
       rw [← hs] at hcap
       have hnx := ab_next (b := (decide (x2 < est))) (l := levA (decide (x2 < est)) x10 x11) (p := (DV.sl none 0 p)) x150
       refine res_ite (fun h17 => ?_) fun h17 => ?_
       · replace h17 := cvh (b := (x15 < (DV.sl none 0 x1).len)) (by kernel_rfl) h17
         obtain ⟨r0, r1⟩ := at_row (K := x1) (p := (DV.sl none 0 p)) x150 (by omega) (hLg _ (by omega))
         have rk := lit_at hp2 x150 (by omega)
         rw [← r1] at rk
         have hlev : levA (decide (x2 < est)) x10 x11 = (x10 + x11) / 2 + 1 := by rw [hb]; simp [levA]; omega
         have e18 : (Int.tdiv ((DV.sl none 0 x1).at (x15) 1) (2 : Int)) = ((DV.sl none 0 x1).at (x15) 1 / (2 : Int)) := by
          exact Int.tdiv_eq_ediv_of_nonneg (by omega)
         have e19 : (IntKind.i64.wrap (Int.tdiv ((DV.sl none 0 x1).at (x15) 1) (2 : Int))) = ((DV.sl none 0 x1).at (x15) 1 / (2 : Int)) := by
          rw [e18]
          exact wI (by omega) (by omega)
         have e20 : (IntKind.i64.wrap ((DV.sl none 0 x1).at (x15) 1 - (IntKind.i64.wrap (Int.tdiv ((DV.sl none 0 x1).at (x15) 1) (2 : Int))))) = ((DV.sl none 0 x1).at (x15) 1 - ((DV.sl none 0 x1).at (x15) 1 / (2 : Int))) := by
          rw [e19]
          exact wI (by omega) (by omega)
         have e21 : (Int.tdiv (x10 + x11) (2 : Int)) = ((x10 + x11) / (2 : Int)) := by
          exact Int.tdiv_eq_ediv_of_nonneg (by omega)
         have e22 : (IntKind.i64.wrap ((IntKind.i64.wrap ((DV.sl none 0 x1).at (x15) 1 - (IntKind.i64.wrap (Int.tdiv ((DV.sl none 0 x1).at (x15) 1) (2 : Int))))) - ((Int.tdiv (x10 + x11) (2 : Int)) + (1 : Int)))) = (((DV.sl none 0 x1).at (x15) 1 - ((DV.sl none 0 x1).at (x15) 1 / (2 : Int))) - (((x10 + x11) / (2 : Int)) + (1 : Int))) := by
          rw [e20, e21]
          exact wI (by omega) (by omega)
         have e23 : (IntKind.i64.wrap ((IntKind.i64.wrap ((IntKind.i64.wrap ((DV.sl none 0 x1).at (x15) 1 - (IntKind.i64.wrap (Int.tdiv ((DV.sl none 0 x1).at (x15) 1) (2 : Int))))) - ((Int.tdiv (x10 + x11) (2 : Int)) + (1 : Int)))) + (1 : Int))) = ((((DV.sl none 0 x1).at (x15) 1 - ((DV.sl none 0 x1).at (x15) 1 / (2 : Int))) - (((x10 + x11) / (2 : Int)) + (1 : Int))) + (1 : Int)) := by
          rw [e22]
          exact wI (by omega) (by omega)
         have e24 : (IntKind.i64.wrap (x14 + (max (0 : Int) (IntKind.i64.wrap ((IntKind.i64.wrap ((IntKind.i64.wrap ((DV.sl none 0 x1).at (x15) 1 - (IntKind.i64.wrap (Int.tdiv ((DV.sl none 0 x1).at (x15) 1) (2 : Int))))) - ((Int.tdiv (x10 + x11) (2 : Int)) + (1 : Int)))) + (1 : Int)))))) = (x14 + (max (0 : Int) ((((DV.sl none 0 x1).at (x15) 1 - ((DV.sl none 0 x1).at (x15) 1 / (2 : Int))) - (((x10 + x11) / (2 : Int)) + (1 : Int))) + (1 : Int)))) := by
          rw [e23]
          exact wI (by omega) (by omega)
         refine res_ok (cvh (a := (((0 : Int) ≤ (IntKind.i64.wrap (x14 + (max (0 : Int) (IntKind.i64.wrap ((IntKind.i64.wrap ((IntKind.i64.wrap ((DV.sl none 0 x1).at (x15) 1 - (IntKind.i64.wrap (Int.tdiv ((DV.sl none 0 x1).at (x15) 1) (2 : Int))))) - ((Int.tdiv (x10 + x11) (2 : Int)) + (1 : Int)))) + (1 : Int))))))) ∧ ((IntKind.i64.wrap (x14 + (max (0 : Int) (IntKind.i64.wrap ((IntKind.i64.wrap ((IntKind.i64.wrap ((DV.sl none 0 x1).at (x15) 1 - (IntKind.i64.wrap (Int.tdiv ((DV.sl none 0 x1).at (x15) 1) (2 : Int))))) - ((Int.tdiv (x10 + x11) (2 : Int)) + (1 : Int)))) + (1 : Int)))))) ≤ (1000000000000 : Int)))) (by kernel_rfl) (by rw [e24]; omega)) ?_
         exact res_chk_of rfl (P := (x15 + (1 : Int)) ≤ (DV.sl none 0 p).len ∧ (IntKind.i64.wrap (x14 + (max (0 : Int) (IntKind.i64.wrap ((IntKind.i64.wrap ((IntKind.i64.wrap ((DV.sl none 0 x1).at (x15) 1 - (IntKind.i64.wrap (Int.tdiv ((DV.sl none 0 x1).at (x15) 1) (2 : Int))))) - ((Int.tdiv (x10 + x11) (2 : Int)) + (1 : Int)))) + (1 : Int)))))) = abF (decide (x2 < est)) (levA (decide (x2 < est)) x10 x11) (el (DV.sl none 0 p)) ((x15 + (1 : Int))).toNat) (a := ((DV.sl none 0 p).len - (x15 + (1 : Int))).toNat) (b := ((DV.sl none 0 p).len - x15).toNat) (by kernel_rfl) (by kernel_rfl) (by kernel_rfl) (by rw [e24]; refine ⟨by omega, ?_⟩; rw [hnx, ← hs, hlev, ← r1, hb]; simp only [lts]; simp; try omega) (by omega)
       · replace h17 := cvh (b := ¬ (x15 < (DV.sl none 0 x1).len)) (by kernel_rfl) h17
         have hlev : levA (decide (x2 < est)) x10 x11 = (x10 + x11) / 2 + 1 := by rw [hb]; simp [levA]; omega
         rw [show x15.toNat = (nn (DV.sl none 0 p)) by omega, hlev, hb] at hs
         refine res_ite (fun h25 => ?_) fun h25 => ?_
         · replace h25 := cvh (b := (x14 < (est - x2))) (by kernel_rfl) h25
           have e26 : (Int.tdiv (x10 + x11) (2 : Int)) = ((x10 + x11) / (2 : Int)) := by
            exact Int.tdiv_eq_ediv_of_nonneg (by omega)
           refine res_ok (cvh (a := (((1 : Int) ≤ (Int.tdiv (x10 + x11) (2 : Int))) ∧ ((Int.tdiv (x10 + x11) (2 : Int)) ≤ (1073741824 : Int)))) (by kernel_rfl) (by rw [e26]; omega)) ?_
           exact res_chk_of rfl (P := LvI (decide (x2 < est)) est (el (DV.sl none 0 p)) (nn (DV.sl none 0 p)) (x10) ((Int.tdiv (x10 + x11) (2 : Int)))) (a := ((Int.tdiv (x10 + x11) (2 : Int)) - x10).toNat) (b := (x11 - x10).toNat) (by kernel_rfl) (by kernel_rfl) (by kernel_rfl) (by rw [e26]; exact LvI.left i12 (by omega) (by have hto := ab_t (l := (x10 + x11) / 2 + 1) (c := (el (DV.sl none 0 p))) (n := (nn (DV.sl none 0 p))); rw [← hE, ← hs] at hto; rw [hb]; unfold PF; simp; omega)) (by rw [e26]; omega)
         · replace h25 := cvh (b := ¬ (x14 < (est - x2))) (by kernel_rfl) h25
           have e27 : (Int.tdiv (x10 + x11) (2 : Int)) = ((x10 + x11) / (2 : Int)) := by
            exact Int.tdiv_eq_ediv_of_nonneg (by omega)
           exact res_chk_of rfl (P := LvI (decide (x2 < est)) est (el (DV.sl none 0 p)) (nn (DV.sl none 0 p)) (((Int.tdiv (x10 + x11) (2 : Int)) + (1 : Int))) (x11)) (a := (x11 - ((Int.tdiv (x10 + x11) (2 : Int)) + (1 : Int))).toNat) (b := (x11 - x10).toNat) (by kernel_rfl) (by kernel_rfl) (by kernel_rfl) (by rw [e27]; exact LvI.right i12 (by omega) (by have hto := ab_t (l := (x10 + x11) / 2 + 1) (c := (el (DV.sl none 0 p))) (n := (nn (DV.sl none 0 p))); rw [← hE, ← hs] at hto; rw [hb]; unfold PF; simp; omega)) (by rw [e27]; omega)
     · replace h13 := cvh (b := ¬ (x10 < x11)) (by kernel_rfl) h13
       refine res_lop_of rfl (P := (0 : Int) ≤ (DV.sl none 0 p).len ∧ (0 : Int) = abF (decide (x2 < est)) (levA (decide (x2 < est)) x10 x11) (el (DV.sl none 0 p)) ((0 : Int)).toNat) (by kernel_rfl) rfl (⟨len_nn _, rfl⟩) (fun x28 x280 x281  x29 x290 x291 i30 => ?_)
       replace i30 := cvh (b := x29 ≤ (DV.sl none 0 p).len ∧ x28 = abF (decide (x2 < est)) (levA (decide (x2 < est)) x10 x11) (el (DV.sl none 0 p)) (x29).toNat) (by kernel_rfl) i30
       obtain ⟨hj, hs⟩ := i30
       have hcap := ab_cap (b := (decide (x2 < est))) (l := levA (decide (x2 < est)) x10 x11) (n := x29.toNat) (c := (el (DV.sl none 0 p))) (fun q hq => he.cl q (by rw [← hnn] at hj; omega)) (by unfold levA; split <;> (try split) <;> omega) (by omega)
       rw [← hs] at hcap
       have hnx := ab_next (b := (decide (x2 < est))) (l := levA (decide (x2 < est)) x10 x11) (p := (DV.sl none 0 p)) x290
       refine res_ite (fun h31 => ?_) fun h31 => ?_
       · replace h31 := cvh (b := (x29 < (DV.sl none 0 x1).len)) (by kernel_rfl) h31
         obtain ⟨r0, r1⟩ := at_row (K := x1) (p := (DV.sl none 0 p)) x290 (by omega) (hLg _ (by omega))
         have rk := lit_at hp2 x290 (by omega)
         rw [← r1] at rk
         have hlev : levA (decide (x2 < est)) x10 x11 = x10 + 1 := by rw [hb]; simp [levA]; omega
         have e32 : (Int.tdiv ((DV.sl none 0 x1).at (x29) 1) (2 : Int)) = ((DV.sl none 0 x1).at (x29) 1 / (2 : Int)) := by
          exact Int.tdiv_eq_ediv_of_nonneg (by omega)
         have e33 : (IntKind.i64.wrap (Int.tdiv ((DV.sl none 0 x1).at (x29) 1) (2 : Int))) = ((DV.sl none 0 x1).at (x29) 1 / (2 : Int)) := by
          rw [e32]
          exact wI (by omega) (by omega)
         have e34 : (IntKind.i64.wrap ((DV.sl none 0 x1).at (x29) 1 - (IntKind.i64.wrap (Int.tdiv ((DV.sl none 0 x1).at (x29) 1) (2 : Int))))) = ((DV.sl none 0 x1).at (x29) 1 - ((DV.sl none 0 x1).at (x29) 1 / (2 : Int))) := by
          rw [e33]
          exact wI (by omega) (by omega)
         have e35 : (IntKind.i64.wrap ((IntKind.i64.wrap ((DV.sl none 0 x1).at (x29) 1 - (IntKind.i64.wrap (Int.tdiv ((DV.sl none 0 x1).at (x29) 1) (2 : Int))))) - (x10 + (1 : Int)))) = (((DV.sl none 0 x1).at (x29) 1 - ((DV.sl none 0 x1).at (x29) 1 / (2 : Int))) - (x10 + (1 : Int))) := by
          rw [e34]
          exact wI (by omega) (by omega)
         have e36 : (IntKind.i64.wrap ((IntKind.i64.wrap ((IntKind.i64.wrap ((DV.sl none 0 x1).at (x29) 1 - (IntKind.i64.wrap (Int.tdiv ((DV.sl none 0 x1).at (x29) 1) (2 : Int))))) - (x10 + (1 : Int)))) + (1 : Int))) = ((((DV.sl none 0 x1).at (x29) 1 - ((DV.sl none 0 x1).at (x29) 1 / (2 : Int))) - (x10 + (1 : Int))) + (1 : Int)) := by
          rw [e35]
          exact wI (by omega) (by omega)
         have e37 : (IntKind.i64.wrap (x28 + (max (0 : Int) (IntKind.i64.wrap ((IntKind.i64.wrap ((IntKind.i64.wrap ((DV.sl none 0 x1).at (x29) 1 - (IntKind.i64.wrap (Int.tdiv ((DV.sl none 0 x1).at (x29) 1) (2 : Int))))) - (x10 + (1 : Int)))) + (1 : Int)))))) = (x28 + (max (0 : Int) ((((DV.sl none 0 x1).at (x29) 1 - ((DV.sl none 0 x1).at (x29) 1 / (2 : Int))) - (x10 + (1 : Int))) + (1 : Int)))) := by
          rw [e36]
          exact wI (by omega) (by omega)
         refine res_ok (cvh (a := (((0 : Int) ≤ (IntKind.i64.wrap (x28 + (max (0 : Int) (IntKind.i64.wrap ((IntKind.i64.wrap ((IntKind.i64.wrap ((DV.sl none 0 x1).at (x29) 1 - (IntKind.i64.wrap (Int.tdiv ((DV.sl none 0 x1).at (x29) 1) (2 : Int))))) - (x10 + (1 : Int)))) + (1 : Int))))))) ∧ ((IntKind.i64.wrap (x28 + (max (0 : Int) (IntKind.i64.wrap ((IntKind.i64.wrap ((IntKind.i64.wrap ((DV.sl none 0 x1).at (x29) 1 - (IntKind.i64.wrap (Int.tdiv ((DV.sl none 0 x1).at (x29) 1) (2 : Int))))) - (x10 + (1 : Int)))) + (1 : Int)))))) ≤ (1000000000000 : Int)))) (by kernel_rfl) (by rw [e37]; omega)) ?_
         exact res_chk_of rfl (P := (x29 + (1 : Int)) ≤ (DV.sl none 0 p).len ∧ (IntKind.i64.wrap (x28 + (max (0 : Int) (IntKind.i64.wrap ((IntKind.i64.wrap ((IntKind.i64.wrap ((DV.sl none 0 x1).at (x29) 1 - (IntKind.i64.wrap (Int.tdiv ((DV.sl none 0 x1).at (x29) 1) (2 : Int))))) - (x10 + (1 : Int)))) + (1 : Int)))))) = abF (decide (x2 < est)) (levA (decide (x2 < est)) x10 x11) (el (DV.sl none 0 p)) ((x29 + (1 : Int))).toNat) (a := ((DV.sl none 0 p).len - (x29 + (1 : Int))).toNat) (b := ((DV.sl none 0 p).len - x29).toNat) (by kernel_rfl) (by kernel_rfl) (by kernel_rfl) (by rw [e37]; refine ⟨by omega, ?_⟩; rw [hnx, ← hs, hlev, ← r1, hb]; simp only [lts]; simp; try omega) (by omega)
       · replace h31 := cvh (b := ¬ (x29 < (DV.sl none 0 x1).len)) (by kernel_rfl) h31
         have hlev : levA (decide (x2 < est)) x10 x11 = x10 + 1 := by rw [hb]; simp [levA]; omega
         rw [show x29.toNat = (nn (DV.sl none 0 p)) by omega, hlev, hb] at hs
         have hlv : x10 = lvF (latF est (el (DV.sl none 0 p)) (nn (DV.sl none 0 p))) est (el (DV.sl none 0 p)) (nn (DV.sl none 0 p)) := LvI.lv he (by rw [← hlat]; exact i12) (by omega)
         have hrest := rest_in (l := x10) he hlat (by rw [hlat]; exact hlv)
         rw [hb] at hrest
         have hto := ab_t (l := x10 + 1) (c := (el (DV.sl none 0 p))) (n := (nn (DV.sl none 0 p)))
         rw [← hE, ← hs] at hto
         have hpr : prv true x10 = x10 + 1 := rfl
         rw [hpr] at hrest
         refine res_lop_of rfl (P := (0 : Int) ≤ (DV.sl none 0 p).len ∧ ∀ j : Nat, j < ((0 : Int)).toNat → hasF (decide (x2 < est)) x10 (el (DV.sl none 0 p) j)) (by kernel_rfl) rfl (⟨len_nn _, fun j hj => absurd hj (Nat.not_lt_zero j)⟩) (fun x38 x380 x381 i39 => ?_)
         replace i39 := cvh (b := x38 ≤ (DV.sl none 0 p).len ∧ ∀ j : Nat, j < (x38).toNat → hasF (decide (x2 < est)) x10 (el (DV.sl none 0 p) j)) (by kernel_rfl) i39
         obtain ⟨hq, hall⟩ := i39
         refine res_ite (fun h40 => ?_) fun h40 => ?_
         · replace h40 := cvh (b := (x38 < (DV.sl none 0 x1).len)) (by kernel_rfl) h40
           obtain ⟨r0, r1⟩ := at_row (K := x1) (p := (DV.sl none 0 p)) x380 (by omega) (hLg _ (by omega))
           have rk := lit_at hp2 x380 (by omega)
           rw [← r1] at rk
           have e41 : (Int.tdiv ((DV.sl none 0 x1).at (x38) 1) (2 : Int)) = ((DV.sl none 0 x1).at (x38) 1 / (2 : Int)) := by
            exact Int.tdiv_eq_ediv_of_nonneg (by omega)
           have e42 : (IntKind.i64.wrap (Int.tdiv ((DV.sl none 0 x1).at (x38) 1) (2 : Int))) = ((DV.sl none 0 x1).at (x38) 1 / (2 : Int)) := by
            rw [e41]
            exact wI (by omega) (by omega)
           have e43 : (IntKind.i64.wrap ((DV.sl none 0 x1).at (x38) 1 - (IntKind.i64.wrap (Int.tdiv ((DV.sl none 0 x1).at (x38) 1) (2 : Int))))) = ((DV.sl none 0 x1).at (x38) 1 - ((DV.sl none 0 x1).at (x38) 1 / (2 : Int))) := by
            rw [e42]
            exact wI (by omega) (by omega)
           refine res_ite (fun h44 => ?_) fun h44 => ?_
           · replace h44 := cvh (b := ((IntKind.i64.wrap ((DV.sl none 0 x1).at (x38) 1 - (IntKind.i64.wrap (Int.tdiv ((DV.sl none 0 x1).at (x38) 1) (2 : Int))))) < x10)) (by kernel_rfl) h44
             rw [e43] at h44
             refine res_lop_of rfl (P := DelI (decide (x2 < est)) x10 (el (DV.sl none 0 p)) (nn (DV.sl none 0 p)) (x38) ((x38 + (1 : Int))) (DV.sl none 0 x1).els) (by kernel_rfl) rfl (DelI.start x380 (by omega) hL hall (by rw [el_at _ x380, ← r1, hb]; simp only [hasF, lts]; simp; omega)) (fun x45 x450 x451  x46 x460 x461  x47 x47h i48 => ?_)
             replace i48 := cvh (b := DelI (decide (x2 < est)) x10 (el (DV.sl none 0 p)) (nn (DV.sl none 0 p)) (x45) (x46) (DV.sl none 0 x47).els) (by kernel_rfl) i48
             have hD : DelI (decide (x2 < est)) x10 (el (DV.sl none 0 p)) (nn (DV.sl none 0 p)) x45 x46 x47 := i48
             have hlt := hD.lt x460
             have hKl := len_k hD.hK he.n1
             have hjj := hD.hj
             refine res_ite (fun h49 => ?_) fun h49 => ?_
             · replace h49 := cvh (b := (x46 < (DV.sl none 0 x47).len)) (by kernel_rfl) h49
               obtain ⟨r0, r1⟩ := at_row (K := x47) (p := (DV.sl none 0 p)) x460 (by omega) (hD.h2 _ (Nat.le_refl _) (by omega))
               have rk := lit_at hp2 x460 (by omega)
               rw [← r1] at rk
               have e50 : (Int.tdiv ((DV.sl none 0 x47).at (x46) 1) (2 : Int)) = ((DV.sl none 0 x47).at (x46) 1 / (2 : Int)) := by
                exact Int.tdiv_eq_ediv_of_nonneg (by omega)
               have e51 : (IntKind.i64.wrap (Int.tdiv ((DV.sl none 0 x47).at (x46) 1) (2 : Int))) = ((DV.sl none 0 x47).at (x46) 1 / (2 : Int)) := by
                rw [e50]
                exact wI (by omega) (by omega)
               have e52 : (IntKind.i64.wrap ((DV.sl none 0 x47).at (x46) 1 - (IntKind.i64.wrap (Int.tdiv ((DV.sl none 0 x47).at (x46) 1) (2 : Int))))) = ((DV.sl none 0 x47).at (x46) 1 - ((DV.sl none 0 x47).at (x46) 1 / (2 : Int))) := by
                rw [e51]
                exact wI (by omega) (by omega)
               refine res_ite (fun h53 => ?_) fun h53 => ?_
               · replace h53 := cvh (b := (x10 ≤ (IntKind.i64.wrap ((DV.sl none 0 x47).at (x46) 1 - (IntKind.i64.wrap (Int.tdiv ((DV.sl none 0 x47).at (x46) 1) (2 : Int))))))) (by kernel_rfl) h53
                 rw [e52] at h53
                 refine res_ok (cvh (a := (((0 : Int) ≤ x45) ∧ (x45 < (DV.sl none 0 x47).len))) (by kernel_rfl) (by omega)) ?_
                 refine res_dat (.sl none 0 (x47.modify (x45).toNat fun e => layG e 0 [.n ((DV.sl none 0 x47).at (x46) 0), .n ((DV.sl none 0 x47).at (x46) 1)])) (by kernel_rfl) ?_
                 exact res_chk_of rfl (P := DelI (decide (x2 < est)) x10 (el (DV.sl none 0 p)) (nn (DV.sl none 0 p)) ((x45 + (1 : Int))) ((x46 + (1 : Int))) (DV.sl none 0 (x47.modify (x45).toNat fun e => layG e 0 [.n ((DV.sl none 0 x47).at (x46) 0), .n ((DV.sl none 0 x47).at (x46) 1)])).els) (a := ((DV.sl none 0 p).len - (x46 + (1 : Int))).toNat) (b := ((DV.sl none 0 p).len - x46).toNat) (by kernel_rfl) (by kernel_rfl) (by kernel_rfl) (hD.keep x460 (by omega) (by rw [el_at _ x460, ← r1, hb]; simp only [hasF, lts]; simp; omega) (row_two x47h) r0 r1) (by omega)
               · replace h53 := cvh (b := ¬ (x10 ≤ (IntKind.i64.wrap ((DV.sl none 0 x47).at (x46) 1 - (IntKind.i64.wrap (Int.tdiv ((DV.sl none 0 x47).at (x46) 1) (2 : Int))))))) (by kernel_rfl) h53
                 rw [e52] at h53
                 exact res_chk_of rfl (P := DelI (decide (x2 < est)) x10 (el (DV.sl none 0 p)) (nn (DV.sl none 0 p)) (x45) ((x46 + (1 : Int))) (DV.sl none 0 x47).els) (a := ((DV.sl none 0 p).len - (x46 + (1 : Int))).toNat) (b := ((DV.sl none 0 p).len - x46).toNat) (by kernel_rfl) (by kernel_rfl) (by kernel_rfl) (hD.skip x460 (by omega) (by rw [el_at _ x460, ← r1, hb]; simp only [hasF, lts]; simp; omega)) (by omega)
             · replace h49 := cvh (b := ¬ (x46 < (DV.sl none 0 x47).len)) (by kernel_rfl) h49
               obtain ⟨hdt, hdi⟩ := hD.done x460 (by omega)
               rw [hb] at hdt hdi
               refine res_ok (cvh (a := (x45 ≤ (DV.sl none 0 x47).len)) (by kernel_rfl) (by omega)) ?_
               obtain ⟨d54, d54E⟩ : ∃ z : List (List DV), z = ((x47.take ((DV.sl none 0 x47).len).toNat).drop (x45).toNat) := ⟨_, rfl⟩
               refine res_dat (.sl none 0 d54) (d54E ▸ (by kernel_rfl)) ?_
               obtain ⟨d55, d55E⟩ : ∃ z : List (List DV), z = ((x47.take (((DV.sl none 0 x47).len - ((DV.sl none 0 x47).len - x45))).toNat).drop ((0 : Int)).toNat) := ⟨_, rfl⟩
               refine res_dat (.sl none 0 d55) (d55E ▸ (by kernel_rfl)) ?_
               obtain ⟨d56, d56E⟩ : ∃ z : List (List DV), z = (List.replicate (((DV.sl none 0 x47).len - x45)).toNat [.n 0, .n 0]) := ⟨_, rfl⟩
               refine res_dat (.sl none 0 d56) (d56E ▸ (by kernel_rfl)) ?_
               obtain ⟨d57, d57E⟩ : ∃ z : List (List DV), z = (d55 ++ d56) := ⟨_, rfl⟩
               refine res_dat (.sl none 0 d57) (d57E ▸ (by kernel_rfl)) ?_
               refine res_ok (cvh (a := (x45 ≤ (DV.sl none 0 x47).len)) (by kernel_rfl) (by omega)) ?_
               obtain ⟨d58, d58E⟩ : ∃ z : List (List DV), z = ((d57.take (x45).toNat).drop ((0 : Int)).toNat) := ⟨_, rfl⟩
               refine res_dat (.sl none 0 d58) (d58E ▸ (by kernel_rfl)) ?_
               have hfin : d58 = (hasI true x10 (el (DV.sl none 0 p)) (nn (DV.sl none 0 p))).map (prD (el (DV.sl none 0 p))) := by
                have e1 : d55 = x47.take x45.toNat := by rw [d55E, show Int.toNat 0 = 0 from rfl, List.drop_zero]; congr 1; omega
                have e2 : d55.length = x45.toNat := by rw [e1, List.length_take]; have := hD.hK; omega
                rw [d58E, show Int.toNat 0 = 0 from rfl, List.drop_zero, d57E, List.take_append_of_le_length (by omega), List.take_of_length_le (by omega), e1, hdt]
               refine res_con rfl trivial (fun y59 y59h p60 => ?_)
               replace p60 := cvh (b := y59.Perm (DV.sl none 0 d58).els ∧ y59.Pairwise (leP true)) (by kernel_rfl) p60
               rw [show (DV.sl none 0 d58).els = d58 from rfl, hfin] at p60
               obtain ⟨hp1', hp2'⟩ := p60
               have hperm := hp1'
               refine res_ok (cvh (a := (((0 : Int) ≤ ((est - x2) - x28)) ∧ (((est - x2) - x28) ≤ x45))) (by kernel_rfl) (by omega)) ?_
               obtain ⟨d61, d61E⟩ : ∃ z : List (List DV), z = ((y59.take (((est - x2) - x28)).toNat).drop ((0 : Int)).toNat) := ⟨_, rfl⟩
               refine res_dat (.sl none 0 d61) (d61E ▸ (by kernel_rfl)) ?_
               have hTT : d61 = y59.take (est - toF true (x10 + 1) (el (DV.sl none 0 p)) (nn (DV.sl none 0 p))).toNat := by
                rw [d61E, show Int.toNat 0 = 0 from rfl, List.drop_zero]
                congr 1; omega
               refine res_ite (fun h62 => ?_) fun h62 => ?_
               · replace h62 := cvh (b := (x2 < est)) (by kernel_rfl) h62
                 show LineP est (el (DV.sl none 0 p)) (nn (DV.sl none 0 p)) (!decide ((1 : Int) = 0)) x10 _
                 have hz : (!decide ((1 : Int) = 0)) = true := rfl
                 rw [hz]
                 refine ⟨by rw [← hb, hlat], by rw [← hb, hlat]; exact hlv, y59, hperm, hp2', ?_⟩
                 show d61 = _
                 rw [hpr]
                 exact hTT
               · replace h62 := cvh (b := ¬ (x2 < est)) (by kernel_rfl) h62
                 exact absurd h62 (by simp at hb; omega)
           · replace h44 := cvh (b := ¬ ((IntKind.i64.wrap ((DV.sl none 0 x1).at (x38) 1 - (IntKind.i64.wrap (Int.tdiv ((DV.sl none 0 x1).at (x38) 1) (2 : Int))))) < x10)) (by kernel_rfl) h44
             rw [e43] at h44
             exact res_chk_of rfl (P := (x38 + (1 : Int)) ≤ (DV.sl none 0 p).len ∧ ∀ j : Nat, j < ((x38 + (1 : Int))).toNat → hasF (decide (x2 < est)) x10 (el (DV.sl none 0 p) j)) (a := ((DV.sl none 0 p).len - (x38 + (1 : Int))).toNat) (b := ((DV.sl none 0 p).len - x38).toNat) (by kernel_rfl) (by kernel_rfl) (by kernel_rfl) (⟨by omega, fun j hj => by
                            by_cases e : j = x38.toNat
                            · subst e; rw [el_at _ x380, hb]; rw [← (at_row (K := x1) (p := (DV.sl none 0 p)) x380 (by omega) (hLg _ (by omega))).2]; simp only [hasF, lts]; simp; omega
                            · exact hall j (by omega)⟩) (by omega)
         · replace h40 := cvh (b := ¬ (x38 < (DV.sl none 0 x1).len)) (by kernel_rfl) h40
           have hall2 : hasI (decide (x2 < est)) x10 (el (DV.sl none 0 p)) (nn (DV.sl none 0 p)) = List.range (nn (DV.sl none 0 p)) := hasI_all fun j hj => hall j (by omega)
           refine res_con rfl trivial (fun y63 y63h p64 => ?_)
           replace p64 := cvh (b := y63.Perm (DV.sl none 0 x1).els ∧ y63.Pairwise (leP true)) (by kernel_rfl) p64
           obtain ⟨hp1', hp2'⟩ := p64
           have hperm : y63.Perm ((hasI true x10 (el (DV.sl none 0 p)) (nn (DV.sl none 0 p))).map (prD (el (DV.sl none 0 p)))) := by rw [← hb, hall2]; rw [show (List.range (nn (DV.sl none 0 p))).map (prD (el (DV.sl none 0 p))) = x1 from hL.symm]; exact hp1'
           have hlen : ((DV.sl none 0 x1).len) = ((hasI true x10 (el (DV.sl none 0 p)) (nn (DV.sl none 0 p))).length : Int) := by rw [hLl, ← hb, hall2, List.length_range]
           refine res_ok (cvh (a := (((0 : Int) ≤ ((est - x2) - x28)) ∧ (((est - x2) - x28) ≤ (DV.sl none 0 x1).len))) (by kernel_rfl) (by omega)) ?_
           obtain ⟨d65, d65E⟩ : ∃ z : List (List DV), z = ((y63.take (((est - x2) - x28)).toNat).drop ((0 : Int)).toNat) := ⟨_, rfl⟩
           refine res_dat (.sl none 0 d65) (d65E ▸ (by kernel_rfl)) ?_
           have hTT : d65 = y63.take (est - toF true (x10 + 1) (el (DV.sl none 0 p)) (nn (DV.sl none 0 p))).toNat := by
            rw [d65E, show Int.toNat 0 = 0 from rfl, List.drop_zero]
            congr 1; omega
           refine res_ite (fun h66 => ?_) fun h66 => ?_
           · replace h66 := cvh (b := (x2 < est)) (by kernel_rfl) h66
             show LineP est (el (DV.sl none 0 p)) (nn (DV.sl none 0 p)) (!decide ((1 : Int) = 0)) x10 _
             have hz : (!decide ((1 : Int) = 0)) = true := rfl
             rw [hz]
             refine ⟨by rw [← hb, hlat], by rw [← hb, hlat]; exact hlv, y63, hperm, hp2', ?_⟩
             show d65 = _
             rw [hpr]
             exact hTT
           · replace h66 := cvh (b := ¬ (x2 < est)) (by kernel_rfl) h66
             exact absurd h66 (by simp at hb; omega)
   · replace h9 := cvh (b := ¬ (x2 < est)) (by kernel_rfl) h9
     have hb : (decide (x2 < est)) = false := by simpa using h9
     refine res_lop_of rfl (P := LvI (decide (x2 < est)) est (el (DV.sl none 0 p)) (nn (DV.sl none 0 p)) ((1 : Int)) ((1073741824 : Int))) (by kernel_rfl) rfl (by rw [hlat]; exact LvI.start he) (fun x67 x670 x671  x68 x680 x681 i69 => ?_)
     replace i69 := cvh (b := LvI (decide (x2 < est)) est (el (DV.sl none 0 p)) (nn (DV.sl none 0 p)) (x67) (x68)) (by kernel_rfl) i69
     refine res_ite (fun h70 => ?_) fun h70 => ?_
     · replace h70 := cvh (b := (x67 < x68)) (by kernel_rfl) h70
       refine res_lop_of rfl (P := (0 : Int) ≤ (DV.sl none 0 p).len ∧ (0 : Int) = abF (decide (x2 < est)) (levA (decide (x2 < est)) x67 x68) (el (DV.sl none 0 p)) ((0 : Int)).toNat) (by kernel_rfl) rfl (⟨len_nn _, rfl⟩) (fun x71 x710 x711  x72 x720 x721 i73 => ?_)
       replace i73 := cvh (b := x72 ≤ (DV.sl none 0 p).len ∧ x71 = abF (decide (x2 < est)) (levA (decide (x2 < est)) x67 x68) (el (DV.sl none 0 p)) (x72).toNat) (by kernel_rfl) i73
       obtain ⟨hj, hs⟩ := i73
       have hcap := ab_cap (b := (decide (x2 < est))) (l := levA (decide (x2 < est)) x67 x68) (n := x72.toNat) (c := (el (DV.sl none 0 p))) (fun q hq => he.cl q (by rw [← hnn] at hj; omega)) (by unfold levA; split <;> (try split) <;> omega) (by omega)
       rw [← hs] at hcap
       have hnx := ab_next (b := (decide (x2 < est))) (l := levA (decide (x2 < est)) x67 x68) (p := (DV.sl none 0 p)) x720
       refine res_ite (fun h74 => ?_) fun h74 => ?_
       · replace h74 := cvh (b := (x72 < (DV.sl none 0 x1).len)) (by kernel_rfl) h74
         obtain ⟨r0, r1⟩ := at_row (K := x1) (p := (DV.sl none 0 p)) x720 (by omega) (hLg _ (by omega))
         have rk := lit_at hp2 x720 (by omega)
         rw [← r1] at rk
         have hlev : levA (decide (x2 < est)) x67 x68 = (x67 + x68) / 2 + 1 := by rw [hb]; simp [levA]; omega
         have e75 : (Int.tdiv ((DV.sl none 0 x1).at (x72) 1) (2 : Int)) = ((DV.sl none 0 x1).at (x72) 1 / (2 : Int)) := by
          exact Int.tdiv_eq_ediv_of_nonneg (by omega)
         have e76 : (IntKind.i64.wrap (Int.tdiv ((DV.sl none 0 x1).at (x72) 1) (2 : Int))) = ((DV.sl none 0 x1).at (x72) 1 / (2 : Int)) := by
          rw [e75]
          exact wI (by omega) (by omega)
         have e77 : (Int.tdiv (x67 + x68) (2 : Int)) = ((x67 + x68) / (2 : Int)) := by
          exact Int.tdiv_eq_ediv_of_nonneg (by omega)
         have e78 : (IntKind.i64.wrap ((IntKind.i64.wrap (Int.tdiv ((DV.sl none 0 x1).at (x72) 1) (2 : Int))) - ((Int.tdiv (x67 + x68) (2 : Int)) + (1 : Int)))) = (((DV.sl none 0 x1).at (x72) 1 / (2 : Int)) - (((x67 + x68) / (2 : Int)) + (1 : Int))) := by
          rw [e76, e77]
          exact wI (by omega) (by omega)
         have e79 : (IntKind.i64.wrap ((IntKind.i64.wrap ((IntKind.i64.wrap (Int.tdiv ((DV.sl none 0 x1).at (x72) 1) (2 : Int))) - ((Int.tdiv (x67 + x68) (2 : Int)) + (1 : Int)))) + (1 : Int))) = ((((DV.sl none 0 x1).at (x72) 1 / (2 : Int)) - (((x67 + x68) / (2 : Int)) + (1 : Int))) + (1 : Int)) := by
          rw [e78]
          exact wI (by omega) (by omega)
         have e80 : (IntKind.i64.wrap (x71 + (max (0 : Int) (IntKind.i64.wrap ((IntKind.i64.wrap ((IntKind.i64.wrap (Int.tdiv ((DV.sl none 0 x1).at (x72) 1) (2 : Int))) - ((Int.tdiv (x67 + x68) (2 : Int)) + (1 : Int)))) + (1 : Int)))))) = (x71 + (max (0 : Int) ((((DV.sl none 0 x1).at (x72) 1 / (2 : Int)) - (((x67 + x68) / (2 : Int)) + (1 : Int))) + (1 : Int)))) := by
          rw [e79]
          exact wI (by omega) (by omega)
         refine res_ok (cvh (a := (((0 : Int) ≤ (IntKind.i64.wrap (x71 + (max (0 : Int) (IntKind.i64.wrap ((IntKind.i64.wrap ((IntKind.i64.wrap (Int.tdiv ((DV.sl none 0 x1).at (x72) 1) (2 : Int))) - ((Int.tdiv (x67 + x68) (2 : Int)) + (1 : Int)))) + (1 : Int))))))) ∧ ((IntKind.i64.wrap (x71 + (max (0 : Int) (IntKind.i64.wrap ((IntKind.i64.wrap ((IntKind.i64.wrap (Int.tdiv ((DV.sl none 0 x1).at (x72) 1) (2 : Int))) - ((Int.tdiv (x67 + x68) (2 : Int)) + (1 : Int)))) + (1 : Int)))))) ≤ (1000000000000 : Int)))) (by kernel_rfl) (by rw [e80]; omega)) ?_
         exact res_chk_of rfl (P := (x72 + (1 : Int)) ≤ (DV.sl none 0 p).len ∧ (IntKind.i64.wrap (x71 + (max (0 : Int) (IntKind.i64.wrap ((IntKind.i64.wrap ((IntKind.i64.wrap (Int.tdiv ((DV.sl none 0 x1).at (x72) 1) (2 : Int))) - ((Int.tdiv (x67 + x68) (2 : Int)) + (1 : Int)))) + (1 : Int)))))) = abF (decide (x2 < est)) (levA (decide (x2 < est)) x67 x68) (el (DV.sl none 0 p)) ((x72 + (1 : Int))).toNat) (a := ((DV.sl none 0 p).len - (x72 + (1 : Int))).toNat) (b := ((DV.sl none 0 p).len - x72).toNat) (by kernel_rfl) (by kernel_rfl) (by kernel_rfl) (by rw [e80]; refine ⟨by omega, ?_⟩; rw [hnx, ← hs, hlev, ← r1, hb]; simp only [lts]; simp; try omega) (by omega)
       · replace h74 := cvh (b := ¬ (x72 < (DV.sl none 0 x1).len)) (by kernel_rfl) h74
         have hlev : levA (decide (x2 < est)) x67 x68 = (x67 + x68) / 2 + 1 := by rw [hb]; simp [levA]; omega
         rw [show x72.toNat = (nn (DV.sl none 0 p)) by omega, hlev, hb] at hs
         refine res_ite (fun h81 => ?_) fun h81 => ?_
         · replace h81 := cvh (b := (est ≤ (x2 - x71))) (by kernel_rfl) h81
           have e82 : (Int.tdiv (x67 + x68) (2 : Int)) = ((x67 + x68) / (2 : Int)) := by
            exact Int.tdiv_eq_ediv_of_nonneg (by omega)
           refine res_ok (cvh (a := (((1 : Int) ≤ (Int.tdiv (x67 + x68) (2 : Int))) ∧ ((Int.tdiv (x67 + x68) (2 : Int)) ≤ (1073741824 : Int)))) (by kernel_rfl) (by rw [e82]; omega)) ?_
           exact res_chk_of rfl (P := LvI (decide (x2 < est)) est (el (DV.sl none 0 p)) (nn (DV.sl none 0 p)) (x67) ((Int.tdiv (x67 + x68) (2 : Int)))) (a := ((Int.tdiv (x67 + x68) (2 : Int)) - x67).toNat) (b := (x68 - x67).toNat) (by kernel_rfl) (by kernel_rfl) (by kernel_rfl) (by rw [e82]; exact LvI.left i69 (by omega) (by have hto := ab_f (l := (x67 + x68) / 2) (c := (el (DV.sl none 0 p))) (n := (nn (DV.sl none 0 p))) he.cl (by omega); rw [← hE, ← hs] at hto; rw [hb]; unfold PF; simp; omega)) (by rw [e82]; omega)
         · replace h81 := cvh (b := ¬ (est ≤ (x2 - x71))) (by kernel_rfl) h81
           have e83 : (Int.tdiv (x67 + x68) (2 : Int)) = ((x67 + x68) / (2 : Int)) := by
            exact Int.tdiv_eq_ediv_of_nonneg (by omega)
           exact res_chk_of rfl (P := LvI (decide (x2 < est)) est (el (DV.sl none 0 p)) (nn (DV.sl none 0 p)) (((Int.tdiv (x67 + x68) (2 : Int)) + (1 : Int))) (x68)) (a := (x68 - ((Int.tdiv (x67 + x68) (2 : Int)) + (1 : Int))).toNat) (b := (x68 - x67).toNat) (by kernel_rfl) (by kernel_rfl) (by kernel_rfl) (by rw [e83]; exact LvI.right i69 (by omega) (by have hto := ab_f (l := (x67 + x68) / 2) (c := (el (DV.sl none 0 p))) (n := (nn (DV.sl none 0 p))) he.cl (by omega); rw [← hE, ← hs] at hto; rw [hb]; unfold PF; simp; omega)) (by rw [e83]; omega)
     · replace h70 := cvh (b := ¬ (x67 < x68)) (by kernel_rfl) h70
       refine res_lop_of rfl (P := (0 : Int) ≤ (DV.sl none 0 p).len ∧ (0 : Int) = abF (decide (x2 < est)) (levA (decide (x2 < est)) x67 x68) (el (DV.sl none 0 p)) ((0 : Int)).toNat) (by kernel_rfl) rfl (⟨len_nn _, rfl⟩) (fun x84 x840 x841  x85 x850 x851 i86 => ?_)
       replace i86 := cvh (b := x85 ≤ (DV.sl none 0 p).len ∧ x84 = abF (decide (x2 < est)) (levA (decide (x2 < est)) x67 x68) (el (DV.sl none 0 p)) (x85).toNat) (by kernel_rfl) i86
       obtain ⟨hj, hs⟩ := i86
       have hcap := ab_cap (b := (decide (x2 < est))) (l := levA (decide (x2 < est)) x67 x68) (n := x85.toNat) (c := (el (DV.sl none 0 p))) (fun q hq => he.cl q (by rw [← hnn] at hj; omega)) (by unfold levA; split <;> (try split) <;> omega) (by omega)
       rw [← hs] at hcap
       have hnx := ab_next (b := (decide (x2 < est))) (l := levA (decide (x2 < est)) x67 x68) (p := (DV.sl none 0 p)) x850
       refine res_ite (fun h87 => ?_) fun h87 => ?_
       · replace h87 := cvh (b := (x85 < (DV.sl none 0 x1).len)) (by kernel_rfl) h87
         obtain ⟨r0, r1⟩ := at_row (K := x1) (p := (DV.sl none 0 p)) x850 (by omega) (hLg _ (by omega))
         have rk := lit_at hp2 x850 (by omega)
         rw [← r1] at rk
         have hlev : levA (decide (x2 < est)) x67 x68 = x67 := by rw [hb]; simp [levA]; omega
         have e88 : (Int.tdiv ((DV.sl none 0 x1).at (x85) 1) (2 : Int)) = ((DV.sl none 0 x1).at (x85) 1 / (2 : Int)) := by
          exact Int.tdiv_eq_ediv_of_nonneg (by omega)
         have e89 : (IntKind.i64.wrap (Int.tdiv ((DV.sl none 0 x1).at (x85) 1) (2 : Int))) = ((DV.sl none 0 x1).at (x85) 1 / (2 : Int)) := by
          rw [e88]
          exact wI (by omega) (by omega)
         have e90 : (IntKind.i64.wrap ((IntKind.i64.wrap (Int.tdiv ((DV.sl none 0 x1).at (x85) 1) (2 : Int))) - x67)) = (((DV.sl none 0 x1).at (x85) 1 / (2 : Int)) - x67) := by
          rw [e89]
          exact wI (by omega) (by omega)
         have e91 : (IntKind.i64.wrap ((IntKind.i64.wrap ((IntKind.i64.wrap (Int.tdiv ((DV.sl none 0 x1).at (x85) 1) (2 : Int))) - x67)) + (1 : Int))) = ((((DV.sl none 0 x1).at (x85) 1 / (2 : Int)) - x67) + (1 : Int)) := by
          rw [e90]
          exact wI (by omega) (by omega)
         have e92 : (IntKind.i64.wrap (x84 + (max (0 : Int) (IntKind.i64.wrap ((IntKind.i64.wrap ((IntKind.i64.wrap (Int.tdiv ((DV.sl none 0 x1).at (x85) 1) (2 : Int))) - x67)) + (1 : Int)))))) = (x84 + (max (0 : Int) ((((DV.sl none 0 x1).at (x85) 1 / (2 : Int)) - x67) + (1 : Int)))) := by
          rw [e91]
          exact wI (by omega) (by omega)
         refine res_ok (cvh (a := (((0 : Int) ≤ (IntKind.i64.wrap (x84 + (max (0 : Int) (IntKind.i64.wrap ((IntKind.i64.wrap ((IntKind.i64.wrap (Int.tdiv ((DV.sl none 0 x1).at (x85) 1) (2 : Int))) - x67)) + (1 : Int))))))) ∧ ((IntKind.i64.wrap (x84 + (max (0 : Int) (IntKind.i64.wrap ((IntKind.i64.wrap ((IntKind.i64.wrap (Int.tdiv ((DV.sl none 0 x1).at (x85) 1) (2 : Int))) - x67)) + (1 : Int)))))) ≤ (1000000000000 : Int)))) (by kernel_rfl) (by rw [e92]; omega)) ?_
         exact res_chk_of rfl (P := (x85 + (1 : Int)) ≤ (DV.sl none 0 p).len ∧ (IntKind.i64.wrap (x84 + (max (0 : Int) (IntKind.i64.wrap ((IntKind.i64.wrap ((IntKind.i64.wrap (Int.tdiv ((DV.sl none 0 x1).at (x85) 1) (2 : Int))) - x67)) + (1 : Int)))))) = abF (decide (x2 < est)) (levA (decide (x2 < est)) x67 x68) (el (DV.sl none 0 p)) ((x85 + (1 : Int))).toNat) (a := ((DV.sl none 0 p).len - (x85 + (1 : Int))).toNat) (b := ((DV.sl none 0 p).len - x85).toNat) (by kernel_rfl) (by kernel_rfl) (by kernel_rfl) (by rw [e92]; refine ⟨by omega, ?_⟩; rw [hnx, ← hs, hlev, ← r1, hb]; simp only [lts]; simp; try omega) (by omega)
       · replace h87 := cvh (b := ¬ (x85 < (DV.sl none 0 x1).len)) (by kernel_rfl) h87
         have hlev : levA (decide (x2 < est)) x67 x68 = x67 := by rw [hb]; simp [levA]; omega
         rw [show x85.toNat = (nn (DV.sl none 0 p)) by omega, hlev, hb] at hs
         have hlv : x67 = lvF (latF est (el (DV.sl none 0 p)) (nn (DV.sl none 0 p))) est (el (DV.sl none 0 p)) (nn (DV.sl none 0 p)) := LvI.lv he (by rw [← hlat]; exact i69) (by omega)
         have hrest := rest_in (l := x67) he hlat (by rw [hlat]; exact hlv)
         rw [hb] at hrest
         have hto := ab_f (l := x67 - 1) (c := (el (DV.sl none 0 p))) (n := (nn (DV.sl none 0 p))) he.cl (by omega)
         rw [← hE, show x67 - 1 + 1 = x67 by omega, ← hs] at hto
         have hpr : prv false x67 = x67 - 1 := rfl
         rw [hpr] at hrest
         refine res_lop_of rfl (P := (0 : Int) ≤ (DV.sl none 0 p).len ∧ ∀ j : Nat, j < ((0 : Int)).toNat → hasF (decide (x2 < est)) x67 (el (DV.sl none 0 p) j)) (by kernel_rfl) rfl (⟨len_nn _, fun j hj => absurd hj (Nat.not_lt_zero j)⟩) (fun x93 x930 x931 i94 => ?_)
         replace i94 := cvh (b := x93 ≤ (DV.sl none 0 p).len ∧ ∀ j : Nat, j < (x93).toNat → hasF (decide (x2 < est)) x67 (el (DV.sl none 0 p) j)) (by kernel_rfl) i94
         obtain ⟨hq, hall⟩ := i94
         refine res_ite (fun h95 => ?_) fun h95 => ?_
         · replace h95 := cvh (b := (x93 < (DV.sl none 0 x1).len)) (by kernel_rfl) h95
           obtain ⟨r0, r1⟩ := at_row (K := x1) (p := (DV.sl none 0 p)) x930 (by omega) (hLg _ (by omega))
           have rk := lit_at hp2 x930 (by omega)
           rw [← r1] at rk
           have e96 : (Int.tdiv ((DV.sl none 0 x1).at (x93) 1) (2 : Int)) = ((DV.sl none 0 x1).at (x93) 1 / (2 : Int)) := by
            exact Int.tdiv_eq_ediv_of_nonneg (by omega)
           have e97 : (IntKind.i64.wrap (Int.tdiv ((DV.sl none 0 x1).at (x93) 1) (2 : Int))) = ((DV.sl none 0 x1).at (x93) 1 / (2 : Int)) := by
            rw [e96]
            exact wI (by omega) (by omega)
           refine res_ite (fun h98 => ?_) fun h98 => ?_
           · replace h98 := cvh (b := ((IntKind.i64.wrap (Int.tdiv ((DV.sl none 0 x1).at (x93) 1) (2 : Int))) < x67)) (by kernel_rfl) h98
             rw [e97] at h98
             refine res_lop_of rfl (P := DelI (decide (x2 < est)) x67 (el (DV.sl none 0 p)) (nn (DV.sl none 0 p)) (x93) ((x93 + (1 : Int))) (DV.sl none 0 x1).els) (by kernel_rfl) rfl (DelI.start x930 (by omega) hL hall (by rw [el_at _ x930, ← r1, hb]; simp only [hasF, lts]; simp; omega)) (fun x99 x990 x991  x100 x1000 x1001  x101 x101h i102 => ?_)
             replace i102 := cvh (b := DelI (decide (x2 < est)) x67 (el (DV.sl none 0 p)) (nn (DV.sl none 0 p)) (x99) (x100) (DV.sl none 0 x101).els) (by kernel_rfl) i102
             have hD : DelI (decide (x2 < est)) x67 (el (DV.sl none 0 p)) (nn (DV.sl none 0 p)) x99 x100 x101 := i102
             have hlt := hD.lt x1000
             have hKl := len_k hD.hK he.n1
             have hjj := hD.hj
             refine res_ite (fun h103 => ?_) fun h103 => ?_
             · replace h103 := cvh (b := (x100 < (DV.sl none 0 x101).len)) (by kernel_rfl) h103
               obtain ⟨r0, r1⟩ := at_row (K := x101) (p := (DV.sl none 0 p)) x1000 (by omega) (hD.h2 _ (Nat.le_refl _) (by omega))
               have rk := lit_at hp2 x1000 (by omega)
               rw [← r1] at rk
               have e104 : (Int.tdiv ((DV.sl none 0 x101).at (x100) 1) (2 : Int)) = ((DV.sl none 0 x101).at (x100) 1 / (2 : Int)) := by
                exact Int.tdiv_eq_ediv_of_nonneg (by omega)
               have e105 : (IntKind.i64.wrap (Int.tdiv ((DV.sl none 0 x101).at (x100) 1) (2 : Int))) = ((DV.sl none 0 x101).at (x100) 1 / (2 : Int)) := by
                rw [e104]
                exact wI (by omega) (by omega)
               refine res_ite (fun h106 => ?_) fun h106 => ?_
               · replace h106 := cvh (b := (x67 ≤ (IntKind.i64.wrap (Int.tdiv ((DV.sl none 0 x101).at (x100) 1) (2 : Int))))) (by kernel_rfl) h106
                 rw [e105] at h106
                 refine res_ok (cvh (a := (((0 : Int) ≤ x99) ∧ (x99 < (DV.sl none 0 x101).len))) (by kernel_rfl) (by omega)) ?_
                 refine res_dat (.sl none 0 (x101.modify (x99).toNat fun e => layG e 0 [.n ((DV.sl none 0 x101).at (x100) 0), .n ((DV.sl none 0 x101).at (x100) 1)])) (by kernel_rfl) ?_
                 exact res_chk_of rfl (P := DelI (decide (x2 < est)) x67 (el (DV.sl none 0 p)) (nn (DV.sl none 0 p)) ((x99 + (1 : Int))) ((x100 + (1 : Int))) (DV.sl none 0 (x101.modify (x99).toNat fun e => layG e 0 [.n ((DV.sl none 0 x101).at (x100) 0), .n ((DV.sl none 0 x101).at (x100) 1)])).els) (a := ((DV.sl none 0 p).len - (x100 + (1 : Int))).toNat) (b := ((DV.sl none 0 p).len - x100).toNat) (by kernel_rfl) (by kernel_rfl) (by kernel_rfl) (hD.keep x1000 (by omega) (by rw [el_at _ x1000, ← r1, hb]; simp only [hasF, lts]; simp; omega) (row_two x101h) r0 r1) (by omega)
               · replace h106 := cvh (b := ¬ (x67 ≤ (IntKind.i64.wrap (Int.tdiv ((DV.sl none 0 x101).at (x100) 1) (2 : Int))))) (by kernel_rfl) h106
                 rw [e105] at h106
                 exact res_chk_of rfl (P := DelI (decide (x2 < est)) x67 (el (DV.sl none 0 p)) (nn (DV.sl none 0 p)) (x99) ((x100 + (1 : Int))) (DV.sl none 0 x101).els) (a := ((DV.sl none 0 p).len - (x100 + (1 : Int))).toNat) (b := ((DV.sl none 0 p).len - x100).toNat) (by kernel_rfl) (by kernel_rfl) (by kernel_rfl) (hD.skip x1000 (by omega) (by rw [el_at _ x1000, ← r1, hb]; simp only [hasF, lts]; simp; omega)) (by omega)
             · replace h103 := cvh (b := ¬ (x100 < (DV.sl none 0 x101).len)) (by kernel_rfl) h103
               obtain ⟨hdt, hdi⟩ := hD.done x1000 (by omega)
               rw [hb] at hdt hdi
               refine res_ok (cvh (a := (x99 ≤ (DV.sl none 0 x101).len)) (by kernel_rfl) (by omega)) ?_
               obtain ⟨d107, d107E⟩ : ∃ z : List (List DV), z = ((x101.take ((DV.sl none 0 x101).len).toNat).drop (x99).toNat) := ⟨_, rfl⟩
               refine res_dat (.sl none 0 d107) (d107E ▸ (by kernel_rfl)) ?_
               obtain ⟨d108, d108E⟩ : ∃ z : List (List DV), z = ((x101.take (((DV.sl none 0 x101).len - ((DV.sl none 0 x101).len - x99))).toNat).drop ((0 : Int)).toNat) := ⟨_, rfl⟩
               refine res_dat (.sl none 0 d108) (d108E ▸ (by kernel_rfl)) ?_
               obtain ⟨d109, d109E⟩ : ∃ z : List (List DV), z = (List.replicate (((DV.sl none 0 x101).len - x99)).toNat [.n 0, .n 0]) := ⟨_, rfl⟩
               refine res_dat (.sl none 0 d109) (d109E ▸ (by kernel_rfl)) ?_
               obtain ⟨d110, d110E⟩ : ∃ z : List (List DV), z = (d108 ++ d109) := ⟨_, rfl⟩
               refine res_dat (.sl none 0 d110) (d110E ▸ (by kernel_rfl)) ?_
               refine res_ok (cvh (a := (x99 ≤ (DV.sl none 0 x101).len)) (by kernel_rfl) (by omega)) ?_
               obtain ⟨d111, d111E⟩ : ∃ z : List (List DV), z = ((d110.take (x99).toNat).drop ((0 : Int)).toNat) := ⟨_, rfl⟩
               refine res_dat (.sl none 0 d111) (d111E ▸ (by kernel_rfl)) ?_
               have hfin : d111 = (hasI false x67 (el (DV.sl none 0 p)) (nn (DV.sl none 0 p))).map (prD (el (DV.sl none 0 p))) := by
                have e1 : d108 = x101.take x99.toNat := by rw [d108E, show Int.toNat 0 = 0 from rfl, List.drop_zero]; congr 1; omega
                have e2 : d108.length = x99.toNat := by rw [e1, List.length_take]; have := hD.hK; omega
                rw [d111E, show Int.toNat 0 = 0 from rfl, List.drop_zero, d110E, List.take_append_of_le_length (by omega), List.take_of_length_le (by omega), e1, hdt]
               refine res_con rfl trivial (fun y112 y112h p113 => ?_)
               replace p113 := cvh (b := y112.Perm (DV.sl none 0 d111).els ∧ y112.Pairwise (leP false)) (by kernel_rfl) p113
               rw [show (DV.sl none 0 d111).els = d111 from rfl, hfin] at p113
               obtain ⟨hp1', hp2'⟩ := p113
               have hperm := hp1'
               have e114 : (IntKind.i64.wrap (est - (x2 - x84))) = (est - (x2 - x84)) := by
                exact wI (by omega) (by omega)
               refine res_ok (cvh (a := (((0 : Int) ≤ (IntKind.i64.wrap (est - (x2 - x84)))) ∧ ((IntKind.i64.wrap (est - (x2 - x84))) ≤ x99))) (by kernel_rfl) (by rw [e114]; omega)) ?_
               obtain ⟨d115, d115E⟩ : ∃ z : List (List DV), z = ((y112.take ((IntKind.i64.wrap (est - (x2 - x84)))).toNat).drop ((0 : Int)).toNat) := ⟨_, rfl⟩
               refine res_dat (.sl none 0 d115) (d115E ▸ (by kernel_rfl)) ?_
               have hTT : d115 = y112.take (est - toF false (x67 - 1) (el (DV.sl none 0 p)) (nn (DV.sl none 0 p))).toNat := by
                rw [d115E, e114, show Int.toNat 0 = 0 from rfl, List.drop_zero]
                congr 1; omega
               refine res_ite (fun h116 => ?_) fun h116 => ?_
               · replace h116 := cvh (b := (x2 < est)) (by kernel_rfl) h116
                 exact absurd h116 (by simp at hb; omega)
               · replace h116 := cvh (b := ¬ (x2 < est)) (by kernel_rfl) h116
                 show LineP est (el (DV.sl none 0 p)) (nn (DV.sl none 0 p)) (!decide ((0 : Int) = 0)) x67 _
                 have hz : (!decide ((0 : Int) = 0)) = false := rfl
                 rw [hz]
                 refine ⟨by rw [← hb, hlat], by rw [← hb, hlat]; exact hlv, y112, hperm, hp2', ?_⟩
                 show d115 = _
                 rw [hpr]
                 exact hTT
           · replace h98 := cvh (b := ¬ ((IntKind.i64.wrap (Int.tdiv ((DV.sl none 0 x1).at (x93) 1) (2 : Int))) < x67)) (by kernel_rfl) h98
             rw [e97] at h98
             exact res_chk_of rfl (P := (x93 + (1 : Int)) ≤ (DV.sl none 0 p).len ∧ ∀ j : Nat, j < ((x93 + (1 : Int))).toNat → hasF (decide (x2 < est)) x67 (el (DV.sl none 0 p) j)) (a := ((DV.sl none 0 p).len - (x93 + (1 : Int))).toNat) (b := ((DV.sl none 0 p).len - x93).toNat) (by kernel_rfl) (by kernel_rfl) (by kernel_rfl) (⟨by omega, fun j hj => by
                            by_cases e : j = x93.toNat
                            · subst e; rw [el_at _ x930, hb]; rw [← (at_row (K := x1) (p := (DV.sl none 0 p)) x930 (by omega) (hLg _ (by omega))).2]; simp only [hasF, lts]; simp; omega
                            · exact hall j (by omega)⟩) (by omega)
         · replace h95 := cvh (b := ¬ (x93 < (DV.sl none 0 x1).len)) (by kernel_rfl) h95
           have hall2 : hasI (decide (x2 < est)) x67 (el (DV.sl none 0 p)) (nn (DV.sl none 0 p)) = List.range (nn (DV.sl none 0 p)) := hasI_all fun j hj => hall j (by omega)
           refine res_con rfl trivial (fun y117 y117h p118 => ?_)
           replace p118 := cvh (b := y117.Perm (DV.sl none 0 x1).els ∧ y117.Pairwise (leP false)) (by kernel_rfl) p118
           obtain ⟨hp1', hp2'⟩ := p118
           have hperm : y117.Perm ((hasI false x67 (el (DV.sl none 0 p)) (nn (DV.sl none 0 p))).map (prD (el (DV.sl none 0 p)))) := by rw [← hb, hall2]; rw [show (List.range (nn (DV.sl none 0 p))).map (prD (el (DV.sl none 0 p))) = x1 from hL.symm]; exact hp1'
           have hlen : ((DV.sl none 0 x1).len) = ((hasI false x67 (el (DV.sl none 0 p)) (nn (DV.sl none 0 p))).length : Int) := by rw [hLl, ← hb, hall2, List.length_range]
           have e119 : (IntKind.i64.wrap (est - (x2 - x84))) = (est - (x2 - x84)) := by
            exact wI (by omega) (by omega)
           refine res_ok (cvh (a := (((0 : Int) ≤ (IntKind.i64.wrap (est - (x2 - x84)))) ∧ ((IntKind.i64.wrap (est - (x2 - x84))) ≤ (DV.sl none 0 x1).len))) (by kernel_rfl) (by rw [e119]; omega)) ?_
           obtain ⟨d120, d120E⟩ : ∃ z : List (List DV), z = ((y117.take ((IntKind.i64.wrap (est - (x2 - x84)))).toNat).drop ((0 : Int)).toNat) := ⟨_, rfl⟩
           refine res_dat (.sl none 0 d120) (d120E ▸ (by kernel_rfl)) ?_
           have hTT : d120 = y117.take (est - toF false (x67 - 1) (el (DV.sl none 0 p)) (nn (DV.sl none 0 p))).toNat := by
            rw [d120E, e119, show Int.toNat 0 = 0 from rfl, List.drop_zero]
            congr 1; omega
           refine res_ite (fun h121 => ?_) fun h121 => ?_
           · replace h121 := cvh (b := (x2 < est)) (by kernel_rfl) h121
             exact absurd h121 (by simp at hb; omega)
           · replace h121 := cvh (b := ¬ (x2 < est)) (by kernel_rfl) h121
             show LineP est (el (DV.sl none 0 p)) (nn (DV.sl none 0 p)) (!decide ((0 : Int) = 0)) x67 _
             have hz : (!decide ((0 : Int) = 0)) = false := rfl
             rw [hz]
             refine ⟨by rw [← hb, hlat], by rw [← hb, hlat]; exact hlv, y117, hperm, hp2', ?_⟩
             show d120 = _
             rw [hpr]
             exact hTT
end Go.Proofs.Ytcjdheaaddaagaa
