/- DERIVED. The program's thresholds and awards, the reference's awards: their contracts. -/
import Derived.Test.YtcjdheaaddaagaaDctd
namespace Go.Proofs.Ytcjdheaaddaagaa
open Go.Dx
set_option linter.unusedVariables false
set_option linter.unusedSimpArgs false
theorem at_prd {K : List (List DV)} {c : Nat → Int} {j : Int} {t : Nat} (hK : K[j.toNat]? = some (prD c t)) (ht : t ≤ 664) (h0 : 0 ≤ c t) (h1 : c t ≤ 1073741824) : (DV.sl none 0 K).at j 0 = t ∧ (DV.sl none 0 K).at j 1 = c t := by
  have e : K.getD j.toNat [] = prD c t := by rw [List.getD_eq_getElem?_getD, hK]; rfl
  constructor
  · show clampB (((K.getD j.toNat []).getD 0 (.n 0)).int) = t
    rw [e]
    show clampB (t : Int) = t
    exact clampB_i64 (by omega) (by omega)
  · show clampB (((K.getD j.toNat []).getD 1 (.n 0)).int) = c t
    rw [e]
    show clampB (c t) = c t
    exact clampB_i64 (by omega) (by omega)
theorem thr_of {est : Int} {p : DV} {b : Bool} {l : Int} {t : Nat} (h : chkF est p = 0) (k : est ≠ 0) (hb : b = latF est (el p) (nn p)) (hl : l = lvF b est (el p) (nn p)) (ht : thG est (el p) (nn p) b l = ⟨b, l, el p t, t⟩) : thR est p = [.n (if b = true then 1 else 0), .n l, .n (el p t), .n t, .n 0] := by
  unfold thR
  rw [thr_at h k hb hl, ht, h]
  rfl
theorem b01 {b : Int} (h0 : 0 ≤ b) (h1 : b ≤ 1) : (if (!decide (b = 0)) = true then (1 : Int) else 0) = b := by
  by_cases h : b = 0
  · simp [h]
  · rw [bT h]; simp; omega
set_option maxRecDepth 100000 in
set_option maxHeartbeats 4000000 in
theorem cThr_ok (N : Nat) (w0 : World) : ConOk Try.prog tb N w0 (cThr 14) := by
 refine con_of_walk (tb := tb) fine (C := [cChk 22, cLine 23]) (conCons cChk_ok (conCons cLine_ok noCon)) 60 rfl ?_ N w0
 refine fun est _ _ p _ _ => ?_
 rw [tree_thr]
 show T.res _ (fun y => y = thR est (.sl none 0 p)) _ _
 refine res_con rfl trivial (fun y1 y10 y11 p2 => ?_)
 replace p2 := cvh (b := [DV.n y1] = [DV.n (chkF est (DV.sl none 0 p))]) (by kernel_rfl) p2
 replace p2 := n_inj p2
 refine res_ite (fun h3 => ?_) fun h3 => ?_
 · replace h3 := cvh (b := (¬ (y1 = (0 : Int)) ∨ (est = (0 : Int)))) (by kernel_rfl) h3
   show [DV.n 0, DV.n 0, DV.n 0, DV.n 0, DV.n y1] = thR est (DV.sl none 0 p)
   rw [thr_zero (by rw [← p2]; exact (show y1 ≠ 0 ∨ est = 0 by omega)), ← p2]
 · replace h3 := cvh (b := ¬ (¬ (y1 = (0 : Int)) ∨ (est = (0 : Int)))) (by kernel_rfl) h3
   have hk : chkF est (DV.sl none 0 p) = 0 := by rw [← p2]; omega
   have hz : est ≠ 0 := by omega
   have he := chk_est hk hz
   have hv := chk_in hk
   have hnn := nn_eq (DV.sl none 0 p)
   refine res_con rfl (cvh (a := chkF est (DV.sl none 0 p) = 0 ∧ est ≠ 0) (by kernel_rfl) ⟨hk, hz⟩) (fun b b0 b1 l l0 l1 L hL p5 => ?_)
   replace p5 := cvh (b := LineP est (el (DV.sl none 0 p)) (nn (DV.sl none 0 p)) (!decide (b = 0)) l L) (by kernel_rfl) p5
   obtain ⟨t, ht⟩ := LineP.last he p5
   have hLl : (DV.sl none 0 L).len = L.length := len_of hL (by omega)
   have hpos := ht.pos
   refine res_ok (cvh (a := (0 : Int) ≤ (DV.sl none 0 L).len - 1 ∧ (DV.sl none 0 L).len - 1 < (DV.sl none 0 L).len) (by kernel_rfl) (by omega)) ?_
   show [DV.n b, DV.n l, DV.n ((DV.sl none 0 L).at ((DV.sl none 0 L).len - 1) 1), DV.n ((DV.sl none 0 L).at ((DV.sl none 0 L).len - 1) 0), DV.n 0] = thR est (DV.sl none 0 p)
   have htn := ht.tn
   have hc := he.cl t htn
   have hn1 := he.n1
   obtain ⟨e1, e2⟩ := at_prd (K := L) (j := (DV.sl none 0 L).len - 1) (by rw [hLl, show ((L.length : Int) - 1).toNat = L.length - 1 by omega]; exact ht.last) (by omega) hc.1 hc.2
   rw [e1, e2, thr_of hk hz p5.hb p5.hl ht.thg, b01 b0 b1]
theorem aw_err {est : Int} {p : DV} (h : chkF est p ≠ 0) : awF est p = [.sl none 0 [], .n (chkF est p)] := by unfold awF; rw [if_pos h]
theorem aw_zero {est : Int} {p : DV} (h : chkF est p = 0) (k : est = 0) : awF est p = [.sl none 0 (List.replicate (nn p) [DV.n 0]), .n 0] := by
  unfold awF
  rw [if_neg (fun q => q h)]
  have : thF est p = mk0 := by unfold thF; rw [if_pos (.inr k)]
  rw [this, gRep (g := awG mk0 p) fun i _ => by unfold awG ownF; rw [if_pos rfl]]
theorem aw_ok {est : Int} {p : DV} (h : chkF est p = 0) {g : Nat → Int} (hg : ∀ i, i < nn p → g i = ownF (thF est p) i (el p i)) : awF est p = [.sl none 0 (gRows g (nn p)), .n 0] := by
  unfold awF
  rw [if_neg (fun q => q h), gRows_congr (g := awG (thF est p) p) (h := g) fun i hi => (hg i hi).symm]
theorem cntL_nn (T : List (List DV)) (k : Nat) : 0 ≤ cntL T k ∧ cntL T k ≤ T.length := by
  unfold cntL
  have := List.length_filter_le (fun e => decide (gi e 0 = (k : Int))) T
  omega
theorem cntL_next {T : List (List DV)} {i : Int} (h0 : 0 ≤ i) (h1 : i < T.length) {c : Nat → Int} {j : Nat} (hj : T[i.toNat]? = some (prD c j)) (k : Nat) : cntL (T.take (i + 1).toNat) k = cntL (T.take i.toNat) k + if k = j then 1 else 0 := by
  rw [take_next [] h0 h1, List.getD_eq_getElem?_getD, hj]
  unfold cntL
  rw [List.filter_append, List.length_append]
  simp only [Option.getD_some]
  by_cases e : k = j
  · subst e
    have : decide (gi (prD c k) 0 = (k : Int)) = true := by simp [(prD_gi c k).2.1]
    rw [List.filter_cons_of_pos (p := fun e => decide (gi e 0 = (k : Int))) this]; simp
  · have : ¬ decide (gi (prD c j) 0 = (k : Int)) = true := by simp [(prD_gi c j).2.1]; omega
    rw [List.filter_cons_of_neg (p := fun e => decide (gi e 0 = (k : Int))) this, if_neg e]; simp
theorem cntL_nil (k : Nat) : cntL [] k = 0 := rfl
theorem bef_cap {b : Bool} {l c : Int} (hl : 1 ≤ l) (h0 : 0 ≤ c) (h1 : c ≤ 1073741824) : 0 ≤ befF b l c ∧ befF b l c ≤ 1073741825 := by
  cases b
  · rw [bef_f]; omega
  · rw [bef_t]; omega
set_option maxRecDepth 100000 in
set_option maxHeartbeats 4000000 in
theorem cAw_ok (N : Nat) (w0 : World) : ConOk Try.prog tb N w0 (cAw 12) := by
 refine con_of_walk (tb := tb) fine (C := [lA1, lA2, cChk 22, cLine 23]) (lopCons rfl (lopCons rfl (conCons cChk_ok (conCons cLine_ok noCon)))) 60 rfl ?_ N w0
 refine fun est _ _ p hp _ => ?_
 rw [tree_aw]
 show T.res _ (fun y => y = awF est (.sl none 0 p)) _ _
 refine res_con rfl trivial (fun y1 y10 y11 p2 => ?_)
 replace p2 := cvh (b := [DV.n y1] = [DV.n (chkF est (DV.sl none 0 p))]) (by kernel_rfl) p2
 replace p2 := n_inj p2
 refine res_ite (fun h3 => ?_) fun h3 => ?_
 · replace h3 := cvh (b := ¬ (y1 = (0 : Int))) (by kernel_rfl) h3
   refine res_dat (.sl none 0 []) (by kernel_rfl) ?_
   show [DV.sl none 0 [], DV.n y1] = awF est (DV.sl none 0 p)
   rw [aw_err (by rw [← p2]; exact h3), ← p2]
 · replace h3 := cvh (b := ¬ ¬ (y1 = (0 : Int))) (by kernel_rfl) h3
   have hk : chkF est (DV.sl none 0 p) = 0 := by rw [← p2]; omega
   have hv := chk_in hk
   have hp1 := hv.1
   have hp2 := hv.2.1
   have hnn := nn_eq (DV.sl none 0 p)
   have hl0 := len_nn (DV.sl none 0 p)
   refine res_ok (cvh (a := (0 : Int) ≤ (DV.sl none 0 p).len ∧ (DV.sl none 0 p).len ≤ 15637498706147) (by kernel_rfl) (by omega)) ?_
   refine res_dat (.sl none 0 (List.replicate (nn (DV.sl none 0 p)) [DV.n 0])) (by kernel_rfl) ?_
   refine res_ite (fun h4 => ?_) fun h4 => ?_
   · replace h4 := cvh (b := (est = (0 : Int))) (by kernel_rfl) h4
     show [DV.sl none 0 (List.replicate (nn (DV.sl none 0 p)) [DV.n 0]), DV.n 0] = awF est (DV.sl none 0 p)
     rw [aw_zero hk h4]
   · replace h4 := cvh (b := ¬ (est = (0 : Int))) (by kernel_rfl) h4
     have hz : est ≠ 0 := h4
     have he := chk_est hk hz
     have hn1 := he.n1
     refine res_con rfl (cvh (a := chkF est (DV.sl none 0 p) = 0 ∧ est ≠ 0) (by kernel_rfl) ⟨hk, hz⟩) (fun b b0 b1 l l0 l1 L hL p5 => ?_)
     replace p5 := cvh (b := LineP est (el (DV.sl none 0 p)) (nn (DV.sl none 0 p)) (!decide (b = 0)) l L) (by kernel_rfl) p5
     obtain ⟨t, ht⟩ := LineP.last he p5
     have hLl : (DV.sl none 0 L).len = L.length := len_of hL (by omega)
     have hLm : L.length ≤ 664 := by simp only [HasSh, DV.els] at hL; exact hL.1
     refine res_ok (cvh (a := (DV.sl none 0 p).len ≤ 664) (by kernel_rfl) hp1) ?_
     refine res_lop_of rfl (P := (0 : Int) ≤ (DV.sl none 0 p).len ∧ (List.replicate (nn (DV.sl none 0 p)) [DV.n 0]) = gRows (fun k => if k < ((0 : Int)).toNat then befF (!decide (b = 0)) l (el (DV.sl none 0 p) k) else 0) (nn (DV.sl none 0 p))) (by kernel_rfl) rfl ⟨hl0, gRep fun k _ => if_neg (by omega)⟩ (fun K hK0 i i0 i1 hI => ?_)
     replace hI := cvh (b := i ≤ (DV.sl none 0 p).len ∧ K = gRows (fun k => if k < (i).toNat then befF (!decide (b = 0)) l (el (DV.sl none 0 p) k) else 0) (nn (DV.sl none 0 p))) (by kernel_rfl) hI
     obtain ⟨hi, hK⟩ := hI
     have hKlen : (DV.sl none 0 K).len = (nn (DV.sl none 0 p) : Nat) := by rw [hK]; exact gLen _ (by omega)
     refine res_ite (fun h6 => ?_) fun h6 => ?_
     · replace h6 := cvh (b := i < (DV.sl none 0 p).len) (by kernel_rfl) h6
       have rk := lit_at hp2 i0 (by omega)
       have hx : (Int.tdiv ((DV.sl none 0 p).at i 0) 2) = (DV.sl none 0 p).at i 0 / 2 := Int.tdiv_eq_ediv_of_nonneg rk.1
       have hmod : ∀ X : Int, befF (!decide (b = 0)) l ((DV.sl none 0 p).at i 0) = X → i + 1 ≤ (DV.sl none 0 p).len ∧ (K.modify i.toNat fun e => layG e 0 [DV.n X]) = gRows (fun k => if k < (i + 1).toNat then befF (!decide (b = 0)) l (el (DV.sl none 0 p) k) else 0) (nn (DV.sl none 0 p)) := fun X hX => by
         refine ⟨by omega, ?_⟩
         rw [hK]
         refine gMod (by omega) ?_ fun k hk hne => ?_
         · try dsimp only
           rw [if_pos (by omega), el_at _ i0]; exact hX
         · try dsimp only
           by_cases q : k < i.toNat
           · rw [if_pos q, if_pos (by omega)]
           · rw [if_neg q, if_neg (by omega)]
       refine res_ite (fun h7 => ?_) fun h7 => ?_
       · replace h7 := cvh (b := ¬ (b = (0 : Int))) (by kernel_rfl) h7
         refine res_ok (cvh (a := (0 : Int) ≤ i ∧ i < (DV.sl none 0 K).len) (by kernel_rfl) (by omega)) ?_
         have w1 : IntKind.i64.wrap (Int.tdiv ((DV.sl none 0 p).at i 0) 2) = (DV.sl none 0 p).at i 0 / 2 := by rw [hx]; exact wI (by omega) (by omega)
         have w2 : IntKind.i64.wrap ((DV.sl none 0 p).at i 0 - IntKind.i64.wrap (Int.tdiv ((DV.sl none 0 p).at i 0) 2)) = (DV.sl none 0 p).at i 0 - (DV.sl none 0 p).at i 0 / 2 := by rw [w1]; exact wI (by omega) (by omega)
         have w3 : IntKind.i64.wrap (IntKind.i64.wrap ((DV.sl none 0 p).at i 0 - IntKind.i64.wrap (Int.tdiv ((DV.sl none 0 p).at i 0) 2)) - l) = (DV.sl none 0 p).at i 0 - (DV.sl none 0 p).at i 0 / 2 - l := by rw [w2]; exact wI (by omega) (by omega)
         have w4 : IntKind.i64.wrap (IntKind.i64.wrap (Int.tdiv ((DV.sl none 0 p).at i 0) 2) + max 0 (IntKind.i64.wrap (IntKind.i64.wrap ((DV.sl none 0 p).at i 0 - IntKind.i64.wrap (Int.tdiv ((DV.sl none 0 p).at i 0) 2)) - l))) = (DV.sl none 0 p).at i 0 / 2 + max 0 ((DV.sl none 0 p).at i 0 - (DV.sl none 0 p).at i 0 / 2 - l) := by rw [w3, w1]; exact wI (by omega) (by omega)
         refine res_dat (.sl none 0 (K.modify i.toNat fun e => layG e 0 [DV.n (IntKind.i64.wrap (IntKind.i64.wrap (Int.tdiv ((DV.sl none 0 p).at i 0) 2) + max 0 (IntKind.i64.wrap (IntKind.i64.wrap ((DV.sl none 0 p).at i 0 - IntKind.i64.wrap (Int.tdiv ((DV.sl none 0 p).at i 0) 2)) - l))))])) (by kernel_rfl) ?_
         exact res_chk_of rfl (P := i + 1 ≤ (DV.sl none 0 p).len ∧ (K.modify i.toNat fun e => layG e 0 [DV.n (IntKind.i64.wrap (IntKind.i64.wrap (Int.tdiv ((DV.sl none 0 p).at i 0) 2) + max 0 (IntKind.i64.wrap (IntKind.i64.wrap ((DV.sl none 0 p).at i 0 - IntKind.i64.wrap (Int.tdiv ((DV.sl none 0 p).at i 0) 2)) - l))))]) = gRows (fun k => if k < (i + 1).toNat then befF (!decide (b = 0)) l (el (DV.sl none 0 p) k) else 0) (nn (DV.sl none 0 p))) (a := ((DV.sl none 0 p).len - (i + 1)).toNat) (b := ((DV.sl none 0 p).len - i).toNat) (by kernel_rfl) (by kernel_rfl) (by kernel_rfl) (hmod _ (by rw [w4, bT h7, bef_t]; omega)) (by omega)
       · replace h7 := cvh (b := ¬ ¬ (b = (0 : Int))) (by kernel_rfl) h7
         refine res_ok (cvh (a := (0 : Int) ≤ i ∧ i < (DV.sl none 0 K).len) (by kernel_rfl) (by omega)) ?_
         have w1 : IntKind.i64.wrap (Int.tdiv ((DV.sl none 0 p).at i 0) 2) = (DV.sl none 0 p).at i 0 / 2 := by rw [hx]; exact wI (by omega) (by omega)
         refine res_dat (.sl none 0 (K.modify i.toNat fun e => layG e 0 [DV.n (min (IntKind.i64.wrap (Int.tdiv ((DV.sl none 0 p).at i 0) 2)) (l - 1))])) (by kernel_rfl) ?_
         exact res_chk_of rfl (P := i + 1 ≤ (DV.sl none 0 p).len ∧ (K.modify i.toNat fun e => layG e 0 [DV.n (min (IntKind.i64.wrap (Int.tdiv ((DV.sl none 0 p).at i 0) 2)) (l - 1))]) = gRows (fun k => if k < (i + 1).toNat then befF (!decide (b = 0)) l (el (DV.sl none 0 p) k) else 0) (nn (DV.sl none 0 p))) (a := ((DV.sl none 0 p).len - (i + 1)).toNat) (b := ((DV.sl none 0 p).len - i).toNat) (by kernel_rfl) (by kernel_rfl) (by kernel_rfl) (hmod _ (by rw [w1, bF h7, bef_f]; omega)) (by omega)
     · replace h6 := cvh (b := ¬ i < (DV.sl none 0 p).len) (by kernel_rfl) h6
       refine res_lop_of rfl (P := (0 : Int) ≤ (DV.sl none 0 L).len ∧ K = gRows (fun k => befF (!decide (b = 0)) l (el (DV.sl none 0 p) k) + cntL (L.take ((0 : Int)).toNat) k) (nn (DV.sl none 0 p))) (by kernel_rfl) rfl ⟨len_nn _, by
         rw [hK]
         refine gRows_congr fun k hk => ?_
         rw [if_pos (by omega), show L.take ((0 : Int)).toNat = [] from rfl, cntL_nil]; omega⟩ (fun M hM0 j j0 j1 hJ => ?_)
       replace hJ := cvh (b := j ≤ (DV.sl none 0 L).len ∧ M = gRows (fun k => befF (!decide (b = 0)) l (el (DV.sl none 0 p) k) + cntL (L.take (j).toNat) k) (nn (DV.sl none 0 p))) (by kernel_rfl) hJ
       obtain ⟨hj, hM⟩ := hJ
       have hMlen : (DV.sl none 0 M).len = (nn (DV.sl none 0 p) : Nat) := by rw [hM]; exact gLen _ (by omega)
       refine res_ite (fun h8 => ?_) fun h8 => ?_
       · replace h8 := cvh (b := j < (DV.sl none 0 L).len) (by kernel_rfl) h8
         have hjl : j.toNat < L.length := by omega
         obtain ⟨q, hq, hrow⟩ := ht.mem _ (List.getElem_mem hjl)
         have hrow' : L[j.toNat]? = some (prD (el (DV.sl none 0 p)) q) := by rw [List.getElem?_eq_getElem hjl, hrow]
         have hc := he.cl q hq
         obtain ⟨e1, _⟩ := at_prd (K := L) (j := j) hrow' (by omega) hc.1 hc.2
         refine res_ok (cvh (a := (0 : Int) ≤ (DV.sl none 0 L).at j 0 ∧ (DV.sl none 0 L).at j 0 < (DV.sl none 0 M).len) (by kernel_rfl) (by rw [e1]; omega)) ?_
         have hbc := bef_cap (b := !decide (b = 0)) l0 hc.1 hc.2
         have hcn := cntL_nn (L.take j.toNat) q
         have hct : (L.take j.toNat).length ≤ 664 := by rw [List.length_take]; omega
         have e2 : (DV.sl none 0 M).at ((DV.sl none 0 L).at j 0) 0 = befF (!decide (b = 0)) l (el (DV.sl none 0 p) q) + cntL (L.take j.toNat) q := by
           rw [e1, hM]; exact gAt _ hq (by omega) (by omega)
         have w1 : IntKind.i64.wrap ((DV.sl none 0 M).at ((DV.sl none 0 L).at j 0) 0 + 1) = befF (!decide (b = 0)) l (el (DV.sl none 0 p) q) + cntL (L.take j.toNat) q + 1 := by rw [e2]; exact wI (by omega) (by omega)
         refine res_dat (.sl none 0 (M.modify ((DV.sl none 0 L).at j 0).toNat fun e => layG e 0 [DV.n (IntKind.i64.wrap ((DV.sl none 0 M).at ((DV.sl none 0 L).at j 0) 0 + 1))])) (by kernel_rfl) ?_
         exact res_chk_of rfl (P := j + 1 ≤ (DV.sl none 0 L).len ∧ (M.modify ((DV.sl none 0 L).at j 0).toNat fun e => layG e 0 [DV.n (IntKind.i64.wrap ((DV.sl none 0 M).at ((DV.sl none 0 L).at j 0) 0 + 1))]) = gRows (fun k => befF (!decide (b = 0)) l (el (DV.sl none 0 p) k) + cntL (L.take (j + 1).toNat) k) (nn (DV.sl none 0 p))) (a := ((DV.sl none 0 L).len - (j + 1)).toNat) (b := ((DV.sl none 0 L).len - j).toNat) (by kernel_rfl) (by kernel_rfl) (by kernel_rfl) ⟨by omega, by
           rw [w1, e1, hM, Int.toNat_natCast]
           refine gMod hq ?_ fun k hk hne => ?_
           · try dsimp only
             rw [cntL_next j0 (by omega) hrow', if_pos rfl]; omega
           · try dsimp only
             rw [cntL_next j0 (by omega) hrow', if_neg hne]; omega⟩ (by omega)
       · replace h8 := cvh (b := ¬ j < (DV.sl none 0 L).len) (by kernel_rfl) h8
         show [DV.sl none 0 M, DV.n 0] = awF est (DV.sl none 0 p)
         rw [aw_ok hk (g := fun k => befF (!decide (b = 0)) l (el (DV.sl none 0 p) k) + cntL (L.take (j).toNat) k) fun k hkn => ?_, hM]
         try dsimp only
         rw [List.take_of_length_le (by omega), ht.cnt k hkn, thr_at hk hz p5.hb p5.hl, ht.thg, ownF_eq l0]
theorem thF_in {est : Int} {p : DV} (h : chkF est p = 0) : 0 ≤ (thF est p).l ∧ (thF est p).l ≤ 1073741824 ∧ 0 ≤ (thF est p).c ∧ (thF est p).c ≤ 1073741824 ∧ 0 ≤ (thF est p).i ∧ (thF est p).i ≤ 663 := by
  by_cases k : est = 0
  · have : thF est p = mk0 := by unfold thF; rw [if_pos (.inr k)]
    rw [this]; decide
  · have he := chk_est h k
    rw [thr_at h k rfl rfl]
    have il := lvF_isL he
    have h1 := il.l1
    have h2 := il.l2
    unfold thG
    split
    · rename_i hf
      have hc := he.cl _ hf
      have := he.n1
      dsimp only
      omega
    · decide
theorem mk_back {m : Mk} {e y2 y3 y4 y5 y6 : Int} (h : [DV.n y2, DV.n y3, DV.n y4, DV.n y5, DV.n y6] = mkD m ++ [DV.n e]) : (⟨!decide (y2 = 0), y3, y4, y5⟩ : Mk) = m ∧ y6 = e ∧ y3 = m.l ∧ y4 = m.c ∧ y5 = m.i := by
  simp only [mkD, List.cons_append, List.nil_append, List.cons.injEq, DV.n.injEq, and_true] at h
  obtain ⟨rfl, rfl, rfl, rfl, rfl⟩ := h
  refine ⟨?_, rfl, rfl, rfl, rfl⟩
  cases m with
  | mk b l c i => cases b <;> simp
set_option maxRecDepth 100000 in
set_option maxHeartbeats 4000000 in
theorem cAwR_ok (N : Nat) (w0 : World) : ConOk Try.prog tb N w0 (cAw 13) := by
 refine con_of_walk (tb := tb) fine (C := [lAwR, cThr 15, cOwR 25]) (lopCons rfl (conCons cThrR_ok (conCons cOwR_ok noCon))) 60 rfl ?_ N w0
 refine fun est _ _ p hp _ => ?_
 rw [tree_awR]
 show T.res _ (fun y => y = awF est (.sl none 0 p)) _ _
 refine res_con rfl trivial (fun y2 y20 y21 y3 y30 y31 y4 y40 y41 y5 y50 y51 y6 y60 y61 p2 => ?_)
 replace p2 := cvh (b := [DV.n y2, DV.n y3, DV.n y4, DV.n y5, DV.n y6] = mkD (thF est (.sl none 0 p)) ++ [DV.n (chkF est (DV.sl none 0 p))]) (by kernel_rfl) p2
 obtain ⟨hm, hy6, hy3, hy4, hy5⟩ := mk_back p2
 refine res_ite (fun h3 => ?_) fun h3 => ?_
 · replace h3 := cvh (b := ¬ (y6 = (0 : Int))) (by kernel_rfl) h3
   refine res_dat (.sl none 0 []) (by kernel_rfl) ?_
   show [DV.sl none 0 [], DV.n y6] = awF est (DV.sl none 0 p)
   rw [aw_err (by rw [← hy6]; exact h3), ← hy6]
 · replace h3 := cvh (b := ¬ ¬ (y6 = (0 : Int))) (by kernel_rfl) h3
   have hk : chkF est (DV.sl none 0 p) = 0 := by omega
   have hv := chk_in hk
   have hp1 := hv.1
   have hp2 := hv.2.1
   have hnn := nn_eq (DV.sl none 0 p)
   have hl0 := len_nn (DV.sl none 0 p)
   have hin := thF_in hk
   rw [← hy3, ← hy4, ← hy5] at hin
   refine res_dat (.sl none 0 []) (by kernel_rfl) ?_
   refine res_lop_of rfl (P := (0 : Int) ≤ (DV.sl none 0 p).len ∧ ([] : List (List DV)) = gRows (awG ⟨!decide (y2 = 0), y3, y4, y5⟩ (DV.sl none 0 p)) ((0 : Int)).toNat) (by kernel_rfl) rfl ⟨hl0, rfl⟩ (fun K hK0 i i0 i1 hI => ?_)
   replace hI := cvh (b := i ≤ (DV.sl none 0 p).len ∧ K = gRows (awG ⟨!decide (y2 = 0), y3, y4, y5⟩ (DV.sl none 0 p)) (i).toNat) (by kernel_rfl) hI
   obtain ⟨hi, hK⟩ := hI
   rw [hm] at hK
   have hKlen : (DV.sl none 0 K).len = (i.toNat : Nat) := by rw [hK]; exact gLen _ (by omega)
   refine res_ite (fun h6 => ?_) fun h6 => ?_
   · replace h6 := cvh (b := i < (DV.sl none 0 p).len) (by kernel_rfl) h6
     have rk := lit_at hp2 i0 (by omega)
     refine res_ok (cvh (a := (0 : Int) ≤ y3 ∧ y3 ≤ 1073741824) (by kernel_rfl) (by omega)) ?_
     refine res_ok (cvh (a := (0 : Int) ≤ y4 ∧ y4 ≤ 1073741824) (by kernel_rfl) (by omega)) ?_
     refine res_ok (cvh (a := (0 : Int) ≤ y5 ∧ y5 ≤ 663) (by kernel_rfl) (by omega)) ?_
     refine res_ok (cvh (a := (0 : Int) ≤ i ∧ i ≤ 663) (by kernel_rfl) (by omega)) ?_
     refine res_ok (cvh (a := (0 : Int) ≤ (DV.sl none 0 p).at i 0 ∧ (DV.sl none 0 p).at i 0 ≤ 1073741824) (by kernel_rfl) rk) ?_
     refine res_con rfl trivial (fun o o0 o1 p7 => ?_)
     replace p7 := cvh (b := [DV.n o] = [DV.n (ownF ⟨!decide (y2 = 0), y3, y4, y5⟩ i ((DV.sl none 0 p).at i 0))]) (by kernel_rfl) p7
     replace p7 := n_inj p7
     rw [hm] at p7
     refine res_dat (.sl none 0 [[DV.n o]]) (by kernel_rfl) ?_
     refine res_dat (.sl none 0 (K ++ [[DV.n o]])) (by kernel_rfl) ?_
     refine res_ok (cvh (a := (DV.sl none 0 K).len + 1 ≤ 664) (by kernel_rfl) (by omega)) ?_
     refine res_ok (cvh (a := (0 : Int) ≤ i + 1 ∧ i + 1 ≤ 664) (by kernel_rfl) (by omega)) ?_
     exact res_chk_of rfl (P := i + 1 ≤ (DV.sl none 0 p).len ∧ (K ++ [[DV.n o]]) = gRows (awG ⟨!decide (y2 = 0), y3, y4, y5⟩ (DV.sl none 0 p)) (i + 1).toNat) (a := ((DV.sl none 0 p).len - (i + 1)).toNat) (b := ((DV.sl none 0 p).len - i).toNat) (by kernel_rfl) (by kernel_rfl) (by kernel_rfl) ⟨by omega, by
       rw [hm, show (i + 1).toNat = i.toNat + 1 by omega, gRows_succ, hK, p7]
       unfold awG
       rw [el_at _ i0, Int.toNat_of_nonneg i0]⟩ (by omega)
   · replace h6 := cvh (b := ¬ i < (DV.sl none 0 p).len) (by kernel_rfl) h6
     show [DV.sl none 0 K, DV.n 0] = awF est (DV.sl none 0 p)
     rw [aw_ok hk (g := awG (thF est (DV.sl none 0 p)) (DV.sl none 0 p)) fun k _ => rfl, hK, show i.toNat = nn (DV.sl none 0 p) by omega]
end Go.Proofs.Ytcjdheaaddaagaa
