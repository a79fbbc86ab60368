/- DERIVED. Own of both sides; thresholds and awards: their contracts. -/
import Derived.Test.YtcjdheaaddaagaaDline
namespace Go.Proofs.Ytcjdheaaddaagaa
open Go.Dx
set_option linter.unusedVariables false
set_option linter.unusedSimpArgs false
theorem thr_zero {est : Int} {p : DV} (h : chkF est p ≠ 0 ∨ est = 0) : thR est p = [.n 0, .n 0, .n 0, .n 0, .n (chkF est p)] := by
  unfold thR thF
  rw [if_pos h]; rfl
theorem thr_at {est : Int} {p : DV} (h : chkF est p = 0) (k : est ≠ 0) {b : Bool} {l : Int} (hb : b = latF est (el p) (nn p)) (hl : l = lvF b est (el p) (nn p)) : thF est p = thG est (el p) (nn p) b l := by
  unfold thF
  rw [if_neg (fun q => q.elim (fun z => z h) k), ← hb, ← hl]
theorem thr_found {est : Int} {p : DV} (h : chkF est p = 0) (k : est ≠ 0) {b : Bool} {l : Int} (hb : b = latF est (el p) (nn p)) (hl : l = lvF b est (el p) (nn p)) {i : Int} (h0 : 0 ≤ i) (hi : i < p.len) (hp : thP est (el p) (nn p) b l i.toNat = true) (hn : ∀ j : Nat, j < i.toNat → thP est (el p) (nn p) b l j = false) : thR est p = [.n (if b = true then 1 else 0), .n l, .n (p.at i 0), .n i, .n 0] := by
  have hlt : i.toNat < nn p := by have := nn_eq p; omega
  unfold thR
  rw [thr_at h k hb hl, h]
  unfold thG
  rw [firstN_at hp hn _ hlt, if_pos hlt]
  simp only [mkD, el_at p h0, Int.toNat_of_nonneg h0]
  rfl
theorem thr_none {est : Int} {p : DV} (h : chkF est p = 0) (k : est ≠ 0) {b : Bool} {l : Int} (hb : b = latF est (el p) (nn p)) (hl : l = lvF b est (el p) (nn p)) (hn : ∀ j : Nat, j < nn p → thP est (el p) (nn p) b l j = false) : thR est p = [.n 0, .n 0, .n 0, .n 0, .n 0] := by
  unfold thR
  rw [thr_at h k hb hl, h]
  unfold thG
  rw [firstN_none _ hn, if_neg (by omega)]
  rfl
theorem thP_no {est : Int} {c : Nat → Int} {n : Nat} {b : Bool} {l : Int} {i : Nat} (h : ¬ (hasF b l (c i) ∧ plF b l c n i = est)) : thP est c n b l i = false := by unfold thP; simpa using h
theorem thP_yes {est : Int} {c : Nat → Int} {n : Nat} {b : Bool} {l : Int} {i : Nat} (h : hasF b l (c i) ∧ plF b l c n i = est) : thP est c n b l i = true := by unfold thP; simpa using h
set_option maxRecDepth 100000 in
set_option maxHeartbeats 4000000 in
theorem cThrR_ok (N : Nat) (w0 : World) : ConOk Try.prog tb N w0 (cThr 15) := by
 refine con_of_walk (tb := tb) fine (C := [lThr, cChk 26, cTo 27, cLvl 28, cPlc 30, cHas]) (lopCons rfl (conCons cChkR_ok (conCons cTo_ok (conCons cLvl_ok (conCons cPlc_ok (conCons cHas_ok noCon)))))) 60 rfl ?_ N w0
 refine fun est _ _ p _ _ => ?_
 rw [tree_thrR]
 show T.res _ (fun y => y = thR est (.sl none 0 p)) _ _
 refine res_con rfl trivial (fun y1 y10 y11 p2 => ?_)
 replace p2 := cvh (b := [DV.n y1] = [DV.n (chkF est (DV.sl none 0 p))]) (by kernel_rfl) p2
 replace p2 := n_inj p2
 refine res_ite (fun h3 => ?_) fun h3 => ?_
 · replace h3 := cvh (b := (¬ (y1 = (0 : Int)) ∨ (est = (0 : Int)))) (by kernel_rfl) h3
   show [DV.n 0, DV.n 0, DV.n 0, DV.n 0, DV.n y1] = thR est (DV.sl none 0 p)
   rw [thr_zero (by rw [← p2]; exact (show y1 ≠ 0 ∨ est = 0 by omega)), ← p2]
 · replace h3 := cvh (b := ¬ (¬ (y1 = (0 : Int)) ∨ (est = (0 : Int)))) (by kernel_rfl) h3
   have hk : chkF est (DV.sl none 0 p) = 0 := by rw [← p2]; omega
   have hz : est ≠ 0 := by omega
   have he := chk_est hk hz
   have hv : vP (DV.sl none 0 p) := ⟨(chk_in hk).1, (chk_in hk).2.1⟩
   have hp1 := hv.1
   have hp2 := hv.2
   have hnn := nn_eq (DV.sl none 0 p)
   refine res_con rfl (cvh (a := vP (DV.sl none 0 p)) (by kernel_rfl) (hv)) (fun y4 y40 y41 p5 => ?_)
   replace p5 := cvh (b := [DV.n y4] = [DV.n (toF (!decide ((0 : Int) = 0)) (1073741824 : Int) (el (DV.sl none 0 p)) (nn (DV.sl none 0 p)))]) (by kernel_rfl) p5
   replace p5 := n_inj p5
   refine res_ite (fun h6 => ?_) fun h6 => ?_
   · replace h6 := cvh (b := (y4 < est)) (by kernel_rfl) h6
     have hb : latF est (el (DV.sl none 0 p)) (nn (DV.sl none 0 p)) = true := by unfold latF; rw [show toF false 1073741824 (el (DV.sl none 0 p)) (nn (DV.sl none 0 p)) = y4 from p5.symm]; simpa using h6
     refine res_con rfl (cvh (a := chkF est (DV.sl none 0 p) = 0 ∧ est ≠ 0 ∧ (1 : Int) = (if latF est (el (DV.sl none 0 p)) (nn (DV.sl none 0 p)) = true then 1 else 0)) (by kernel_rfl) (⟨hk, hz, by rw [hb]; rfl⟩)) (fun y7 y70 y71 p8 => ?_)
     replace p8 := cvh (b := [DV.n y7] = [DV.n (lvF (latF est (el (DV.sl none 0 p)) (nn (DV.sl none 0 p))) est (el (DV.sl none 0 p)) (nn (DV.sl none 0 p)))]) (by kernel_rfl) p8
     replace p8 := n_inj p8
     refine res_lop_of rfl (P := (0 : Int) ≤ (DV.sl none 0 p).len ∧ ∀ j : Nat, j < ((0 : Int)).toNat → thP est (el (DV.sl none 0 p)) (nn (DV.sl none 0 p)) (latF est (el (DV.sl none 0 p)) (nn (DV.sl none 0 p))) y7 j = false) (by kernel_rfl) rfl (⟨len_nn _, fun j hj => absurd hj (Nat.not_lt_zero j)⟩) (fun x9 x90 x91 i10 => ?_)
     replace i10 := cvh (b := x9 ≤ (DV.sl none 0 p).len ∧ ∀ j : Nat, j < (x9).toNat → thP est (el (DV.sl none 0 p)) (nn (DV.sl none 0 p)) (latF est (el (DV.sl none 0 p)) (nn (DV.sl none 0 p))) y7 j = false) (by kernel_rfl) i10
     obtain ⟨hi, hall⟩ := i10
     rw [hb] at hall p8
     refine res_ite (fun h11 => ?_) fun h11 => ?_
     · replace h11 := cvh (b := (x9 < (DV.sl none 0 p).len)) (by kernel_rfl) h11
       have rk := lit_at hp2 x90 (by omega)
       refine res_ite (fun _ => ?_) fun h12 => absurd h6 (cvh (b := ¬ (y4 < est)) (by kernel_rfl) h12)
       refine res_con rfl (cvh (a := 0 ≤ (DV.sl none 0 p).at (x9) 0 ∧ (DV.sl none 0 p).at (x9) 0 ≤ 1073741824) (by kernel_rfl) (rk)) (fun y13 y130 y131 p14 => ?_)
       replace p14 := cvh (b := [DV.n y13] = [DV.n (if hasF (!decide ((1 : Int) = 0)) y7 ((DV.sl none 0 p).at (x9) 0) then 1 else 0)]) (by kernel_rfl) p14
       refine res_ite (fun h15 => ?_) fun h15 => ?_
       · replace h15 := cvh (b := ¬ (y13 = (0 : Int))) (by kernel_rfl) h15
         refine res_ite (fun _ => ?_) fun h16 => absurd h6 (cvh (b := ¬ (y4 < est)) (by kernel_rfl) h16)
         refine res_ok (cvh (a := (((0 : Int) ≤ x9) ∧ (x9 ≤ (663 : Int)))) (by kernel_rfl) (by omega)) ?_
         refine res_con rfl (cvh (a := vP (DV.sl none 0 p) ∧ x9 < (DV.sl none 0 p).len) (by kernel_rfl) (⟨hv, by omega⟩)) (fun y17 y170 y171 p18 => ?_)
         replace p18 := cvh (b := [DV.n y17] = [DV.n (plF (!decide ((1 : Int) = 0)) y7 (el (DV.sl none 0 p)) (nn (DV.sl none 0 p)) (x9).toNat)]) (by kernel_rfl) p18
         replace p18 := n_inj p18
         refine res_ite (fun h19 => ?_) fun h19 => ?_
         · replace h19 := cvh (b := (y17 = est)) (by kernel_rfl) h19
           refine res_ite (fun _ => ?_) fun h20 => absurd h6 (cvh (b := ¬ (y4 < est)) (by kernel_rfl) h20)
           show [DV.n 1, DV.n y7, DV.n ((DV.sl none 0 p).at x9 0), DV.n x9, DV.n 0] = thR est (DV.sl none 0 p)
           rw [thr_found hk hz hb.symm p8 x90 (by omega) (thP_yes ⟨by rw [el_at _ x90]; exact ((y01 p14).resolve_right fun q => absurd q.1 h15).2, (p18).symm.trans h19⟩) hall]
           rfl
         · replace h19 := cvh (b := ¬ (y17 = est)) (by kernel_rfl) h19
           refine res_ok (cvh (a := (((0 : Int) ≤ (x9 + (1 : Int))) ∧ ((x9 + (1 : Int)) ≤ (664 : Int)))) (by kernel_rfl) (by omega)) ?_
           exact res_chk_of rfl (P := (x9 + (1 : Int)) ≤ (DV.sl none 0 p).len ∧ ∀ j : Nat, j < ((x9 + (1 : Int))).toNat → thP est (el (DV.sl none 0 p)) (nn (DV.sl none 0 p)) (latF est (el (DV.sl none 0 p)) (nn (DV.sl none 0 p))) y7 j = false) (a := ((DV.sl none 0 p).len - (x9 + (1 : Int))).toNat) (b := ((DV.sl none 0 p).len - x9).toNat) (by kernel_rfl) (by kernel_rfl) (by kernel_rfl) (⟨by omega, fun j hj => by
                        by_cases e : j = x9.toNat
                        · subst e; rw [hb]; exact thP_no fun q => h19 ((p18).trans q.2)
                        · rw [hb]; exact hall j (by omega)⟩) (by omega)
       · replace h15 := cvh (b := ¬ ¬ (y13 = (0 : Int))) (by kernel_rfl) h15
         refine res_ok (cvh (a := (((0 : Int) ≤ (x9 + (1 : Int))) ∧ ((x9 + (1 : Int)) ≤ (664 : Int)))) (by kernel_rfl) (by omega)) ?_
         exact res_chk_of rfl (P := (x9 + (1 : Int)) ≤ (DV.sl none 0 p).len ∧ ∀ j : Nat, j < ((x9 + (1 : Int))).toNat → thP est (el (DV.sl none 0 p)) (nn (DV.sl none 0 p)) (latF est (el (DV.sl none 0 p)) (nn (DV.sl none 0 p))) y7 j = false) (a := ((DV.sl none 0 p).len - (x9 + (1 : Int))).toNat) (b := ((DV.sl none 0 p).len - x9).toNat) (by kernel_rfl) (by kernel_rfl) (by kernel_rfl) (⟨by omega, fun j hj => by
                    by_cases e : j = x9.toNat
                    · subst e; rw [hb]; exact thP_no fun q => ((y01 p14).resolve_left fun z => absurd z.1 (by have := Classical.not_not.1 h15; omega)).2 (by have := q.1; rw [el_at _ x90] at this; exact this)
                    · rw [hb]; exact hall j (by omega)⟩) (by omega)
     · replace h11 := cvh (b := ¬ (x9 < (DV.sl none 0 p).len)) (by kernel_rfl) h11
       show [DV.n 0, DV.n 0, DV.n 0, DV.n 0, DV.n 0] = thR est (DV.sl none 0 p)
       exact (thr_none hk hz hb.symm p8 fun j hj => hall j (by omega)).symm
   · replace h6 := cvh (b := ¬ (y4 < est)) (by kernel_rfl) h6
     have hb : latF est (el (DV.sl none 0 p)) (nn (DV.sl none 0 p)) = false := by unfold latF; rw [show toF false 1073741824 (el (DV.sl none 0 p)) (nn (DV.sl none 0 p)) = y4 from p5.symm]; simpa using h6
     refine res_con rfl (cvh (a := chkF est (DV.sl none 0 p) = 0 ∧ est ≠ 0 ∧ (0 : Int) = (if latF est (el (DV.sl none 0 p)) (nn (DV.sl none 0 p)) = true then 1 else 0)) (by kernel_rfl) (⟨hk, hz, by rw [hb]; rfl⟩)) (fun y21 y210 y211 p22 => ?_)
     replace p22 := cvh (b := [DV.n y21] = [DV.n (lvF (latF est (el (DV.sl none 0 p)) (nn (DV.sl none 0 p))) est (el (DV.sl none 0 p)) (nn (DV.sl none 0 p)))]) (by kernel_rfl) p22
     replace p22 := n_inj p22
     refine res_lop_of rfl (P := (0 : Int) ≤ (DV.sl none 0 p).len ∧ ∀ j : Nat, j < ((0 : Int)).toNat → thP est (el (DV.sl none 0 p)) (nn (DV.sl none 0 p)) (latF est (el (DV.sl none 0 p)) (nn (DV.sl none 0 p))) y21 j = false) (by kernel_rfl) rfl (⟨len_nn _, fun j hj => absurd hj (Nat.not_lt_zero j)⟩) (fun x23 x230 x231 i24 => ?_)
     replace i24 := cvh (b := x23 ≤ (DV.sl none 0 p).len ∧ ∀ j : Nat, j < (x23).toNat → thP est (el (DV.sl none 0 p)) (nn (DV.sl none 0 p)) (latF est (el (DV.sl none 0 p)) (nn (DV.sl none 0 p))) y21 j = false) (by kernel_rfl) i24
     obtain ⟨hi, hall⟩ := i24
     rw [hb] at hall p22
     refine res_ite (fun h25 => ?_) fun h25 => ?_
     · replace h25 := cvh (b := (x23 < (DV.sl none 0 p).len)) (by kernel_rfl) h25
       have rk := lit_at hp2 x230 (by omega)
       refine res_ite (fun h26 => absurd (cvh (b := (y4 < est)) (by kernel_rfl) h26) h6) fun _ => ?_
       refine res_con rfl (cvh (a := 0 ≤ (DV.sl none 0 p).at (x23) 0 ∧ (DV.sl none 0 p).at (x23) 0 ≤ 1073741824) (by kernel_rfl) (rk)) (fun y27 y270 y271 p28 => ?_)
       replace p28 := cvh (b := [DV.n y27] = [DV.n (if hasF (!decide ((0 : Int) = 0)) y21 ((DV.sl none 0 p).at (x23) 0) then 1 else 0)]) (by kernel_rfl) p28
       refine res_ite (fun h29 => ?_) fun h29 => ?_
       · replace h29 := cvh (b := ¬ (y27 = (0 : Int))) (by kernel_rfl) h29
         refine res_ite (fun h30 => absurd (cvh (b := (y4 < est)) (by kernel_rfl) h30) h6) fun _ => ?_
         refine res_ok (cvh (a := (((0 : Int) ≤ x23) ∧ (x23 ≤ (663 : Int)))) (by kernel_rfl) (by omega)) ?_
         refine res_con rfl (cvh (a := vP (DV.sl none 0 p) ∧ x23 < (DV.sl none 0 p).len) (by kernel_rfl) (⟨hv, by omega⟩)) (fun y31 y310 y311 p32 => ?_)
         replace p32 := cvh (b := [DV.n y31] = [DV.n (plF (!decide ((0 : Int) = 0)) y21 (el (DV.sl none 0 p)) (nn (DV.sl none 0 p)) (x23).toNat)]) (by kernel_rfl) p32
         replace p32 := n_inj p32
         refine res_ite (fun h33 => ?_) fun h33 => ?_
         · replace h33 := cvh (b := (y31 = est)) (by kernel_rfl) h33
           refine res_ite (fun h34 => absurd (cvh (b := (y4 < est)) (by kernel_rfl) h34) h6) fun _ => ?_
           show [DV.n 0, DV.n y21, DV.n ((DV.sl none 0 p).at x23 0), DV.n x23, DV.n 0] = thR est (DV.sl none 0 p)
           rw [thr_found hk hz hb.symm p22 x230 (by omega) (thP_yes ⟨by rw [el_at _ x230]; exact ((y01 p28).resolve_right fun q => absurd q.1 h29).2, (p32).symm.trans h33⟩) hall]
           rfl
         · replace h33 := cvh (b := ¬ (y31 = est)) (by kernel_rfl) h33
           refine res_ok (cvh (a := (((0 : Int) ≤ (x23 + (1 : Int))) ∧ ((x23 + (1 : Int)) ≤ (664 : Int)))) (by kernel_rfl) (by omega)) ?_
           exact res_chk_of rfl (P := (x23 + (1 : Int)) ≤ (DV.sl none 0 p).len ∧ ∀ j : Nat, j < ((x23 + (1 : Int))).toNat → thP est (el (DV.sl none 0 p)) (nn (DV.sl none 0 p)) (latF est (el (DV.sl none 0 p)) (nn (DV.sl none 0 p))) y21 j = false) (a := ((DV.sl none 0 p).len - (x23 + (1 : Int))).toNat) (b := ((DV.sl none 0 p).len - x23).toNat) (by kernel_rfl) (by kernel_rfl) (by kernel_rfl) (⟨by omega, fun j hj => by
                        by_cases e : j = x23.toNat
                        · subst e; rw [hb]; exact thP_no fun q => h33 ((p32).trans q.2)
                        · rw [hb]; exact hall j (by omega)⟩) (by omega)
       · replace h29 := cvh (b := ¬ ¬ (y27 = (0 : Int))) (by kernel_rfl) h29
         refine res_ok (cvh (a := (((0 : Int) ≤ (x23 + (1 : Int))) ∧ ((x23 + (1 : Int)) ≤ (664 : Int)))) (by kernel_rfl) (by omega)) ?_
         exact res_chk_of rfl (P := (x23 + (1 : Int)) ≤ (DV.sl none 0 p).len ∧ ∀ j : Nat, j < ((x23 + (1 : Int))).toNat → thP est (el (DV.sl none 0 p)) (nn (DV.sl none 0 p)) (latF est (el (DV.sl none 0 p)) (nn (DV.sl none 0 p))) y21 j = false) (a := ((DV.sl none 0 p).len - (x23 + (1 : Int))).toNat) (b := ((DV.sl none 0 p).len - x23).toNat) (by kernel_rfl) (by kernel_rfl) (by kernel_rfl) (⟨by omega, fun j hj => by
                    by_cases e : j = x23.toNat
                    · subst e; rw [hb]; exact thP_no fun q => ((y01 p28).resolve_left fun z => absurd z.1 (by have := Classical.not_not.1 h29; omega)).2 (by have := q.1; rw [el_at _ x230] at this; exact this)
                    · rw [hb]; exact hall j (by omega)⟩) (by omega)
     · replace h25 := cvh (b := ¬ (x23 < (DV.sl none 0 p).len)) (by kernel_rfl) h25
       show [DV.n 0, DV.n 0, DV.n 0, DV.n 0, DV.n 0] = thR est (DV.sl none 0 p)
       exact (thr_none hk hz hb.symm p22 fun j hj => hall j (by omega)).symm
set_option maxRecDepth 100000 in
set_option maxHeartbeats 4000000 in
theorem cOwn_ok (N : Nat) (w0 : World) : ConOk Try.prog tb N w0 (cOwn 17) := by
 refine con_of_walk (tb := tb) fine (C := []) (noCon) 60 rfl ?_ N w0
 refine fun b b0 b1 l _ _ c _ _ k _ _ i _ _ a _ _ _ => ?_
 rw [tree_own]
 show T.res _ (fun y => y = ownR ⟨!decide (b = 0), l, c, k⟩ i a) _ _
 refine res_ite (fun h1 => ?_) fun h1 => ?_
 · replace h1 := cvh (b := ((b = (0 : Int)) ∧ ((l = (0 : Int)) ∧ ((c = (0 : Int)) ∧ (k = (0 : Int)))))) (by kernel_rfl) h1
   refine res_ite (fun h2 => ?_) fun h2 => ?_
   · replace h2 := cvh (b := (¬ (((0 : Int) ≤ i) ∧ (i ≤ (663 : Int))) ∨ ¬ (((0 : Int) ≤ a) ∧ (a ≤ (1073741824 : Int))))) (by kernel_rfl) h2
     show [DV.n 0, DV.n 1] = ownR ⟨!decide (b = 0), l, c, k⟩ i a
     rw [mk0_of h1]
     exact own_e2 (.inl rfl) (by omega)
   · replace h2 := cvh (b := ¬ (¬ (((0 : Int) ≤ i) ∧ (i ≤ (663 : Int))) ∨ ¬ (((0 : Int) ≤ a) ∧ (a ≤ (1073741824 : Int))))) (by kernel_rfl) h2
     show [DV.n 0, DV.n 0] = ownR ⟨!decide (b = 0), l, c, k⟩ i a
     rw [mk0_of h1]
     exact own_ok (.inl rfl) (by omega) rfl
 · replace h1 := cvh (b := ¬ ((b = (0 : Int)) ∧ ((l = (0 : Int)) ∧ ((c = (0 : Int)) ∧ (k = (0 : Int)))))) (by kernel_rfl) h1
   refine res_ite (fun h3 => ?_) fun h3 => ?_
   · replace h3 := cvh (b := (((¬ (((0 : Int) ≤ c) ∧ (c ≤ (1073741824 : Int))) ∨ ¬ (((0 : Int) ≤ k) ∧ (k ≤ (663 : Int)))) ∨ (l < (1 : Int))) ∨ (c < l))) (by kernel_rfl) h3
     have hm := mk0_not (m := ⟨!decide (b = 0), l, c, k⟩) rfl (show b = 0 ∨ b = 1 by omega) h1
     show [DV.n (0 : Int), DV.n (400 : Int)] = ownR ⟨!decide (b = 0), l, c, k⟩ i a
     exact own_e1 (vmk_not hm fun q => by have q1 := q.1; have q2 := q.2.1; have q3 := q.2.2.1; have q4 := q.2.2.2.1; have q5 := q.2.2.2.2.1; have q6 := q.2.2.2.2.2.1; dsimp only at q1 q2 q3 q4 q5 q6; omega)
   · replace h3 := cvh (b := ¬ (((¬ (((0 : Int) ≤ c) ∧ (c ≤ (1073741824 : Int))) ∨ ¬ (((0 : Int) ≤ k) ∧ (k ≤ (663 : Int)))) ∨ (l < (1 : Int))) ∨ (c < l))) (by kernel_rfl) h3
     refine res_ite (fun h4 => ?_) fun h4 => ?_
     · replace h4 := cvh (b := ¬ (b = (0 : Int))) (by kernel_rfl) h4
       refine res_ite (fun h5 => ?_) fun h5 => ?_
       · replace h5 := cvh (b := (((2 : Int) * ((c - l) + (1 : Int))) ≤ c)) (by kernel_rfl) h5
         have hm := mk0_not (m := ⟨!decide (b = 0), l, c, k⟩) rfl (show b = 0 ∨ b = 1 by omega) h1
         rw [bT h4] at hm
         show [DV.n (0 : Int), DV.n (400 : Int)] = ownR ⟨!decide (b = 0), l, c, k⟩ i a
         rw [bT h4]
         exact own_e1 (vmk_not hm fun q => by have q6 := q.2.2.2.2.2.2; dsimp only at q6; rw [has_t] at q6; omega)
       · replace h5 := cvh (b := ¬ (((2 : Int) * ((c - l) + (1 : Int))) ≤ c)) (by kernel_rfl) h5
         refine res_ite (fun h6 => ?_) fun h6 => ?_
         · replace h6 := cvh (b := (¬ (((0 : Int) ≤ i) ∧ (i ≤ (663 : Int))) ∨ ¬ (((0 : Int) ≤ a) ∧ (a ≤ (1073741824 : Int))))) (by kernel_rfl) h6
           have hm := mk0_not (m := ⟨!decide (b = 0), l, c, k⟩) rfl (show b = 0 ∨ b = 1 by omega) h1
           rw [bT h4] at hm
           show [DV.n (0 : Int), DV.n (1 : Int)] = ownR ⟨!decide (b = 0), l, c, k⟩ i a
           rw [bT h4]
           exact own_e2 (show vMk ⟨true, l, c, k⟩ from .inr ⟨by dsimp only; omega, by dsimp only; omega, by dsimp only; omega, by dsimp only; omega, by dsimp only; omega, by dsimp only; omega, by dsimp only; rw [has_t]; omega⟩) (by omega)
         · replace h6 := cvh (b := ¬ (¬ (((0 : Int) ≤ i) ∧ (i ≤ (663 : Int))) ∨ ¬ (((0 : Int) ≤ a) ∧ (a ≤ (1073741824 : Int))))) (by kernel_rfl) h6
           have e7 : (Int.tdiv a (2 : Int)) = (a / (2 : Int)) := by
            exact Int.tdiv_eq_ediv_of_nonneg (by omega)
           refine res_ite (fun h8 => ?_) fun h8 => ?_
           · replace h8 := cvh (b := (l ≤ (a - (Int.tdiv a (2 : Int))))) (by kernel_rfl) h8
             rw [e7] at h8
             refine res_ite (fun h9 => ?_) fun h9 => ?_
             · replace h9 := cvh (b := (a < c)) (by kernel_rfl) h9
               refine res_ite (fun h10 => ?_) fun h10 => ?_
               · replace h10 := cvh (b := (k < i)) (by kernel_rfl) h10
                 have hm := mk0_not (m := ⟨!decide (b = 0), l, c, k⟩) rfl (show b = 0 ∨ b = 1 by omega) h1
                 rw [bT h4] at hm
                 show [DV.n (((Int.tdiv a (2 : Int)) + (max (0 : Int) ((a - (Int.tdiv a (2 : Int))) - l))) + (1 : Int)), DV.n (0 : Int)] = ownR ⟨!decide (b = 0), l, c, k⟩ i a
                 rw [bT h4]
                 refine own_ok (show vMk ⟨true, l, c, k⟩ from .inr ⟨by dsimp only; omega, by dsimp only; omega, by dsimp only; omega, by dsimp only; omega, by dsimp only; omega, by dsimp only; omega, by dsimp only; rw [has_t]; omega⟩) (by omega) ?_
                 rw [ownF_ne hm, bef_t, e7]
                 dsimp only
                 simp only [has_t, ah_t]
                 split <;> omega
               · replace h10 := cvh (b := ¬ (k < i)) (by kernel_rfl) h10
                 refine res_ite (fun h11 => ?_) fun h11 => ?_
                 · replace h11 := cvh (b := (i < k)) (by kernel_rfl) h11
                   have hm := mk0_not (m := ⟨!decide (b = 0), l, c, k⟩) rfl (show b = 0 ∨ b = 1 by omega) h1
                   rw [bT h4] at hm
                   show [DV.n (((Int.tdiv a (2 : Int)) + (max (0 : Int) ((a - (Int.tdiv a (2 : Int))) - l))) + (1 : Int)), DV.n (0 : Int)] = ownR ⟨!decide (b = 0), l, c, k⟩ i a
                   rw [bT h4]
                   refine own_ok (show vMk ⟨true, l, c, k⟩ from .inr ⟨by dsimp only; omega, by dsimp only; omega, by dsimp only; omega, by dsimp only; omega, by dsimp only; omega, by dsimp only; omega, by dsimp only; rw [has_t]; omega⟩) (by omega) ?_
                   rw [ownF_ne hm, bef_t, e7]
                   dsimp only
                   simp only [has_t, ah_t]
                   split <;> omega
                 · replace h11 := cvh (b := ¬ (i < k)) (by kernel_rfl) h11
                   have hm := mk0_not (m := ⟨!decide (b = 0), l, c, k⟩) rfl (show b = 0 ∨ b = 1 by omega) h1
                   rw [bT h4] at hm
                   show [DV.n (((Int.tdiv a (2 : Int)) + (max (0 : Int) ((a - (Int.tdiv a (2 : Int))) - l))) + (1 : Int)), DV.n (0 : Int)] = ownR ⟨!decide (b = 0), l, c, k⟩ i a
                   rw [bT h4]
                   refine own_ok (show vMk ⟨true, l, c, k⟩ from .inr ⟨by dsimp only; omega, by dsimp only; omega, by dsimp only; omega, by dsimp only; omega, by dsimp only; omega, by dsimp only; omega, by dsimp only; rw [has_t]; omega⟩) (by omega) ?_
                   rw [ownF_ne hm, bef_t, e7]
                   dsimp only
                   simp only [has_t, ah_t]
                   split <;> omega
             · replace h9 := cvh (b := ¬ (a < c)) (by kernel_rfl) h9
               refine res_ite (fun h12 => ?_) fun h12 => ?_
               · replace h12 := cvh (b := (c < a)) (by kernel_rfl) h12
                 refine res_ite (fun h13 => ?_) fun h13 => ?_
                 · replace h13 := cvh (b := (k < i)) (by kernel_rfl) h13
                   have hm := mk0_not (m := ⟨!decide (b = 0), l, c, k⟩) rfl (show b = 0 ∨ b = 1 by omega) h1
                   rw [bT h4] at hm
                   show [DV.n ((Int.tdiv a (2 : Int)) + (max (0 : Int) ((a - (Int.tdiv a (2 : Int))) - l))), DV.n (0 : Int)] = ownR ⟨!decide (b = 0), l, c, k⟩ i a
                   rw [bT h4]
                   refine own_ok (show vMk ⟨true, l, c, k⟩ from .inr ⟨by dsimp only; omega, by dsimp only; omega, by dsimp only; omega, by dsimp only; omega, by dsimp only; omega, by dsimp only; omega, by dsimp only; rw [has_t]; omega⟩) (by omega) ?_
                   rw [ownF_ne hm, bef_t, e7]
                   dsimp only
                   simp only [has_t, ah_t]
                   split <;> omega
                 · replace h13 := cvh (b := ¬ (k < i)) (by kernel_rfl) h13
                   refine res_ite (fun h14 => ?_) fun h14 => ?_
                   · replace h14 := cvh (b := (i < k)) (by kernel_rfl) h14
                     have hm := mk0_not (m := ⟨!decide (b = 0), l, c, k⟩) rfl (show b = 0 ∨ b = 1 by omega) h1
                     rw [bT h4] at hm
                     show [DV.n ((Int.tdiv a (2 : Int)) + (max (0 : Int) ((a - (Int.tdiv a (2 : Int))) - l))), DV.n (0 : Int)] = ownR ⟨!decide (b = 0), l, c, k⟩ i a
                     rw [bT h4]
                     refine own_ok (show vMk ⟨true, l, c, k⟩ from .inr ⟨by dsimp only; omega, by dsimp only; omega, by dsimp only; omega, by dsimp only; omega, by dsimp only; omega, by dsimp only; omega, by dsimp only; rw [has_t]; omega⟩) (by omega) ?_
                     rw [ownF_ne hm, bef_t, e7]
                     dsimp only
                     simp only [has_t, ah_t]
                     split <;> omega
                   · replace h14 := cvh (b := ¬ (i < k)) (by kernel_rfl) h14
                     have hm := mk0_not (m := ⟨!decide (b = 0), l, c, k⟩) rfl (show b = 0 ∨ b = 1 by omega) h1
                     rw [bT h4] at hm
                     show [DV.n ((Int.tdiv a (2 : Int)) + (max (0 : Int) ((a - (Int.tdiv a (2 : Int))) - l))), DV.n (0 : Int)] = ownR ⟨!decide (b = 0), l, c, k⟩ i a
                     rw [bT h4]
                     refine own_ok (show vMk ⟨true, l, c, k⟩ from .inr ⟨by dsimp only; omega, by dsimp only; omega, by dsimp only; omega, by dsimp only; omega, by dsimp only; omega, by dsimp only; omega, by dsimp only; rw [has_t]; omega⟩) (by omega) ?_
                     rw [ownF_ne hm, bef_t, e7]
                     dsimp only
                     simp only [has_t, ah_t]
                     split <;> omega
               · replace h12 := cvh (b := ¬ (c < a)) (by kernel_rfl) h12
                 refine res_ite (fun h15 => ?_) fun h15 => ?_
                 · replace h15 := cvh (b := (k < i)) (by kernel_rfl) h15
                   have hm := mk0_not (m := ⟨!decide (b = 0), l, c, k⟩) rfl (show b = 0 ∨ b = 1 by omega) h1
                   rw [bT h4] at hm
                   show [DV.n (((Int.tdiv a (2 : Int)) + (max (0 : Int) ((a - (Int.tdiv a (2 : Int))) - l))) + (1 : Int)), DV.n (0 : Int)] = ownR ⟨!decide (b = 0), l, c, k⟩ i a
                   rw [bT h4]
                   refine own_ok (show vMk ⟨true, l, c, k⟩ from .inr ⟨by dsimp only; omega, by dsimp only; omega, by dsimp only; omega, by dsimp only; omega, by dsimp only; omega, by dsimp only; omega, by dsimp only; rw [has_t]; omega⟩) (by omega) ?_
                   rw [ownF_ne hm, bef_t, e7]
                   dsimp only
                   simp only [has_t, ah_t]
                   split <;> omega
                 · replace h15 := cvh (b := ¬ (k < i)) (by kernel_rfl) h15
                   refine res_ite (fun h16 => ?_) fun h16 => ?_
                   · replace h16 := cvh (b := (i < k)) (by kernel_rfl) h16
                     have hm := mk0_not (m := ⟨!decide (b = 0), l, c, k⟩) rfl (show b = 0 ∨ b = 1 by omega) h1
                     rw [bT h4] at hm
                     show [DV.n ((Int.tdiv a (2 : Int)) + (max (0 : Int) ((a - (Int.tdiv a (2 : Int))) - l))), DV.n (0 : Int)] = ownR ⟨!decide (b = 0), l, c, k⟩ i a
                     rw [bT h4]
                     refine own_ok (show vMk ⟨true, l, c, k⟩ from .inr ⟨by dsimp only; omega, by dsimp only; omega, by dsimp only; omega, by dsimp only; omega, by dsimp only; omega, by dsimp only; omega, by dsimp only; rw [has_t]; omega⟩) (by omega) ?_
                     rw [ownF_ne hm, bef_t, e7]
                     dsimp only
                     simp only [has_t, ah_t]
                     split <;> omega
                   · replace h16 := cvh (b := ¬ (i < k)) (by kernel_rfl) h16
                     have hm := mk0_not (m := ⟨!decide (b = 0), l, c, k⟩) rfl (show b = 0 ∨ b = 1 by omega) h1
                     rw [bT h4] at hm
                     show [DV.n (((Int.tdiv a (2 : Int)) + (max (0 : Int) ((a - (Int.tdiv a (2 : Int))) - l))) + (1 : Int)), DV.n (0 : Int)] = ownR ⟨!decide (b = 0), l, c, k⟩ i a
                     rw [bT h4]
                     refine own_ok (show vMk ⟨true, l, c, k⟩ from .inr ⟨by dsimp only; omega, by dsimp only; omega, by dsimp only; omega, by dsimp only; omega, by dsimp only; omega, by dsimp only; omega, by dsimp only; rw [has_t]; omega⟩) (by omega) ?_
                     rw [ownF_ne hm, bef_t, e7]
                     dsimp only
                     simp only [has_t, ah_t]
                     split <;> omega
           · replace h8 := cvh (b := ¬ (l ≤ (a - (Int.tdiv a (2 : Int))))) (by kernel_rfl) h8
             rw [e7] at h8
             have hm := mk0_not (m := ⟨!decide (b = 0), l, c, k⟩) rfl (show b = 0 ∨ b = 1 by omega) h1
             rw [bT h4] at hm
             show [DV.n ((Int.tdiv a (2 : Int)) + (max (0 : Int) ((a - (Int.tdiv a (2 : Int))) - l))), DV.n (0 : Int)] = ownR ⟨!decide (b = 0), l, c, k⟩ i a
             rw [bT h4]
             refine own_ok (show vMk ⟨true, l, c, k⟩ from .inr ⟨by dsimp only; omega, by dsimp only; omega, by dsimp only; omega, by dsimp only; omega, by dsimp only; omega, by dsimp only; omega, by dsimp only; rw [has_t]; omega⟩) (by omega) ?_
             rw [ownF_ne hm, bef_t, e7]
             dsimp only
             simp only [has_t, ah_t]
             split <;> omega
     · replace h4 := cvh (b := ¬ ¬ (b = (0 : Int))) (by kernel_rfl) h4
       refine res_ite (fun h17 => ?_) fun h17 => ?_
       · replace h17 := cvh (b := (c < ((2 : Int) * l))) (by kernel_rfl) h17
         have hm := mk0_not (m := ⟨!decide (b = 0), l, c, k⟩) rfl (show b = 0 ∨ b = 1 by omega) h1
         rw [bF h4] at hm
         show [DV.n (0 : Int), DV.n (400 : Int)] = ownR ⟨!decide (b = 0), l, c, k⟩ i a
         rw [bF h4]
         exact own_e1 (vmk_not hm fun q => by have q6 := q.2.2.2.2.2.2; dsimp only at q6; rw [has_f] at q6; omega)
       · replace h17 := cvh (b := ¬ (c < ((2 : Int) * l))) (by kernel_rfl) h17
         refine res_ite (fun h18 => ?_) fun h18 => ?_
         · replace h18 := cvh (b := (¬ (((0 : Int) ≤ i) ∧ (i ≤ (663 : Int))) ∨ ¬ (((0 : Int) ≤ a) ∧ (a ≤ (1073741824 : Int))))) (by kernel_rfl) h18
           have hm := mk0_not (m := ⟨!decide (b = 0), l, c, k⟩) rfl (show b = 0 ∨ b = 1 by omega) h1
           rw [bF h4] at hm
           show [DV.n (0 : Int), DV.n (1 : Int)] = ownR ⟨!decide (b = 0), l, c, k⟩ i a
           rw [bF h4]
           exact own_e2 (show vMk ⟨false, l, c, k⟩ from .inr ⟨by dsimp only; omega, by dsimp only; omega, by dsimp only; omega, by dsimp only; omega, by dsimp only; omega, by dsimp only; omega, by dsimp only; rw [has_f]; omega⟩) (by omega)
         · replace h18 := cvh (b := ¬ (¬ (((0 : Int) ≤ i) ∧ (i ≤ (663 : Int))) ∨ ¬ (((0 : Int) ≤ a) ∧ (a ≤ (1073741824 : Int))))) (by kernel_rfl) h18
           have e19 : (Int.tdiv a (2 : Int)) = (a / (2 : Int)) := by
            exact Int.tdiv_eq_ediv_of_nonneg (by omega)
           refine res_ite (fun h20 => ?_) fun h20 => ?_
           · replace h20 := cvh (b := (l ≤ (Int.tdiv a (2 : Int)))) (by kernel_rfl) h20
             rw [e19] at h20
             refine res_ite (fun h21 => ?_) fun h21 => ?_
             · replace h21 := cvh (b := (c < a)) (by kernel_rfl) h21
               refine res_ite (fun h22 => ?_) fun h22 => ?_
               · replace h22 := cvh (b := (i < k)) (by kernel_rfl) h22
                 have hm := mk0_not (m := ⟨!decide (b = 0), l, c, k⟩) rfl (show b = 0 ∨ b = 1 by omega) h1
                 rw [bF h4] at hm
                 show [DV.n ((min (Int.tdiv a (2 : Int)) (l - (1 : Int))) + (1 : Int)), DV.n (0 : Int)] = ownR ⟨!decide (b = 0), l, c, k⟩ i a
                 rw [bF h4]
                 refine own_ok (show vMk ⟨false, l, c, k⟩ from .inr ⟨by dsimp only; omega, by dsimp only; omega, by dsimp only; omega, by dsimp only; omega, by dsimp only; omega, by dsimp only; omega, by dsimp only; rw [has_f]; omega⟩) (by omega) ?_
                 rw [ownF_ne hm, bef_f, e19]
                 dsimp only
                 simp only [has_f, ah_f]
                 split <;> omega
               · replace h22 := cvh (b := ¬ (i < k)) (by kernel_rfl) h22
                 refine res_ite (fun h23 => ?_) fun h23 => ?_
                 · replace h23 := cvh (b := (k < i)) (by kernel_rfl) h23
                   have hm := mk0_not (m := ⟨!decide (b = 0), l, c, k⟩) rfl (show b = 0 ∨ b = 1 by omega) h1
                   rw [bF h4] at hm
                   show [DV.n ((min (Int.tdiv a (2 : Int)) (l - (1 : Int))) + (1 : Int)), DV.n (0 : Int)] = ownR ⟨!decide (b = 0), l, c, k⟩ i a
                   rw [bF h4]
                   refine own_ok (show vMk ⟨false, l, c, k⟩ from .inr ⟨by dsimp only; omega, by dsimp only; omega, by dsimp only; omega, by dsimp only; omega, by dsimp only; omega, by dsimp only; omega, by dsimp only; rw [has_f]; omega⟩) (by omega) ?_
                   rw [ownF_ne hm, bef_f, e19]
                   dsimp only
                   simp only [has_f, ah_f]
                   split <;> omega
                 · replace h23 := cvh (b := ¬ (k < i)) (by kernel_rfl) h23
                   have hm := mk0_not (m := ⟨!decide (b = 0), l, c, k⟩) rfl (show b = 0 ∨ b = 1 by omega) h1
                   rw [bF h4] at hm
                   show [DV.n ((min (Int.tdiv a (2 : Int)) (l - (1 : Int))) + (1 : Int)), DV.n (0 : Int)] = ownR ⟨!decide (b = 0), l, c, k⟩ i a
                   rw [bF h4]
                   refine own_ok (show vMk ⟨false, l, c, k⟩ from .inr ⟨by dsimp only; omega, by dsimp only; omega, by dsimp only; omega, by dsimp only; omega, by dsimp only; omega, by dsimp only; omega, by dsimp only; rw [has_f]; omega⟩) (by omega) ?_
                   rw [ownF_ne hm, bef_f, e19]
                   dsimp only
                   simp only [has_f, ah_f]
                   split <;> omega
             · replace h21 := cvh (b := ¬ (c < a)) (by kernel_rfl) h21
               refine res_ite (fun h24 => ?_) fun h24 => ?_
               · replace h24 := cvh (b := (a < c)) (by kernel_rfl) h24
                 refine res_ite (fun h25 => ?_) fun h25 => ?_
                 · replace h25 := cvh (b := (i < k)) (by kernel_rfl) h25
                   have hm := mk0_not (m := ⟨!decide (b = 0), l, c, k⟩) rfl (show b = 0 ∨ b = 1 by omega) h1
                   rw [bF h4] at hm
                   show [DV.n (min (Int.tdiv a (2 : Int)) (l - (1 : Int))), DV.n (0 : Int)] = ownR ⟨!decide (b = 0), l, c, k⟩ i a
                   rw [bF h4]
                   refine own_ok (show vMk ⟨false, l, c, k⟩ from .inr ⟨by dsimp only; omega, by dsimp only; omega, by dsimp only; omega, by dsimp only; omega, by dsimp only; omega, by dsimp only; omega, by dsimp only; rw [has_f]; omega⟩) (by omega) ?_
                   rw [ownF_ne hm, bef_f, e19]
                   dsimp only
                   simp only [has_f, ah_f]
                   split <;> omega
                 · replace h25 := cvh (b := ¬ (i < k)) (by kernel_rfl) h25
                   refine res_ite (fun h26 => ?_) fun h26 => ?_
                   · replace h26 := cvh (b := (k < i)) (by kernel_rfl) h26
                     have hm := mk0_not (m := ⟨!decide (b = 0), l, c, k⟩) rfl (show b = 0 ∨ b = 1 by omega) h1
                     rw [bF h4] at hm
                     show [DV.n (min (Int.tdiv a (2 : Int)) (l - (1 : Int))), DV.n (0 : Int)] = ownR ⟨!decide (b = 0), l, c, k⟩ i a
                     rw [bF h4]
                     refine own_ok (show vMk ⟨false, l, c, k⟩ from .inr ⟨by dsimp only; omega, by dsimp only; omega, by dsimp only; omega, by dsimp only; omega, by dsimp only; omega, by dsimp only; omega, by dsimp only; rw [has_f]; omega⟩) (by omega) ?_
                     rw [ownF_ne hm, bef_f, e19]
                     dsimp only
                     simp only [has_f, ah_f]
                     split <;> omega
                   · replace h26 := cvh (b := ¬ (k < i)) (by kernel_rfl) h26
                     have hm := mk0_not (m := ⟨!decide (b = 0), l, c, k⟩) rfl (show b = 0 ∨ b = 1 by omega) h1
                     rw [bF h4] at hm
                     show [DV.n (min (Int.tdiv a (2 : Int)) (l - (1 : Int))), DV.n (0 : Int)] = ownR ⟨!decide (b = 0), l, c, k⟩ i a
                     rw [bF h4]
                     refine own_ok (show vMk ⟨false, l, c, k⟩ from .inr ⟨by dsimp only; omega, by dsimp only; omega, by dsimp only; omega, by dsimp only; omega, by dsimp only; omega, by dsimp only; omega, by dsimp only; rw [has_f]; omega⟩) (by omega) ?_
                     rw [ownF_ne hm, bef_f, e19]
                     dsimp only
                     simp only [has_f, ah_f]
                     split <;> omega
               · replace h24 := cvh (b := ¬ (a < c)) (by kernel_rfl) h24
                 refine res_ite (fun h27 => ?_) fun h27 => ?_
                 · replace h27 := cvh (b := (i < k)) (by kernel_rfl) h27
                   have hm := mk0_not (m := ⟨!decide (b = 0), l, c, k⟩) rfl (show b = 0 ∨ b = 1 by omega) h1
                   rw [bF h4] at hm
                   show [DV.n ((min (Int.tdiv a (2 : Int)) (l - (1 : Int))) + (1 : Int)), DV.n (0 : Int)] = ownR ⟨!decide (b = 0), l, c, k⟩ i a
                   rw [bF h4]
                   refine own_ok (show vMk ⟨false, l, c, k⟩ from .inr ⟨by dsimp only; omega, by dsimp only; omega, by dsimp only; omega, by dsimp only; omega, by dsimp only; omega, by dsimp only; omega, by dsimp only; rw [has_f]; omega⟩) (by omega) ?_
                   rw [ownF_ne hm, bef_f, e19]
                   dsimp only
                   simp only [has_f, ah_f]
                   split <;> omega
                 · replace h27 := cvh (b := ¬ (i < k)) (by kernel_rfl) h27
                   refine res_ite (fun h28 => ?_) fun h28 => ?_
                   · replace h28 := cvh (b := (k < i)) (by kernel_rfl) h28
                     have hm := mk0_not (m := ⟨!decide (b = 0), l, c, k⟩) rfl (show b = 0 ∨ b = 1 by omega) h1
                     rw [bF h4] at hm
                     show [DV.n (min (Int.tdiv a (2 : Int)) (l - (1 : Int))), DV.n (0 : Int)] = ownR ⟨!decide (b = 0), l, c, k⟩ i a
                     rw [bF h4]
                     refine own_ok (show vMk ⟨false, l, c, k⟩ from .inr ⟨by dsimp only; omega, by dsimp only; omega, by dsimp only; omega, by dsimp only; omega, by dsimp only; omega, by dsimp only; omega, by dsimp only; rw [has_f]; omega⟩) (by omega) ?_
                     rw [ownF_ne hm, bef_f, e19]
                     dsimp only
                     simp only [has_f, ah_f]
                     split <;> omega
                   · replace h28 := cvh (b := ¬ (k < i)) (by kernel_rfl) h28
                     have hm := mk0_not (m := ⟨!decide (b = 0), l, c, k⟩) rfl (show b = 0 ∨ b = 1 by omega) h1
                     rw [bF h4] at hm
                     show [DV.n ((min (Int.tdiv a (2 : Int)) (l - (1 : Int))) + (1 : Int)), DV.n (0 : Int)] = ownR ⟨!decide (b = 0), l, c, k⟩ i a
                     rw [bF h4]
                     refine own_ok (show vMk ⟨false, l, c, k⟩ from .inr ⟨by dsimp only; omega, by dsimp only; omega, by dsimp only; omega, by dsimp only; omega, by dsimp only; omega, by dsimp only; omega, by dsimp only; rw [has_f]; omega⟩) (by omega) ?_
                     rw [ownF_ne hm, bef_f, e19]
                     dsimp only
                     simp only [has_f, ah_f]
                     split <;> omega
           · replace h20 := cvh (b := ¬ (l ≤ (Int.tdiv a (2 : Int)))) (by kernel_rfl) h20
             rw [e19] at h20
             have hm := mk0_not (m := ⟨!decide (b = 0), l, c, k⟩) rfl (show b = 0 ∨ b = 1 by omega) h1
             rw [bF h4] at hm
             show [DV.n (min (Int.tdiv a (2 : Int)) (l - (1 : Int))), DV.n (0 : Int)] = ownR ⟨!decide (b = 0), l, c, k⟩ i a
             rw [bF h4]
             refine own_ok (show vMk ⟨false, l, c, k⟩ from .inr ⟨by dsimp only; omega, by dsimp only; omega, by dsimp only; omega, by dsimp only; omega, by dsimp only; omega, by dsimp only; omega, by dsimp only; rw [has_f]; omega⟩) (by omega) ?_
             rw [ownF_ne hm, bef_f, e19]
             dsimp only
             simp only [has_f, ah_f]
             split <;> omega
set_option maxRecDepth 100000 in
set_option maxHeartbeats 4000000 in
theorem cOwnR_ok (N : Nat) (w0 : World) : ConOk Try.prog tb N w0 (cOwn 18) := by
 refine con_of_walk (tb := tb) fine (C := [cOwR 25]) (conCons cOwR_ok noCon) 60 rfl ?_ N w0
 refine fun b b0 b1 l _ _ c _ _ k _ _ i _ _ a _ _ _ => ?_
 rw [tree_ownR]
 show T.res _ (fun y => y = ownR ⟨!decide (b = 0), l, c, k⟩ i a) _ _
 refine res_ite (fun h1 => ?_) fun h1 => ?_
 · replace h1 := cvh (b := ((b = (0 : Int)) ∧ ((l = (0 : Int)) ∧ ((c = (0 : Int)) ∧ (k = (0 : Int)))))) (by kernel_rfl) h1
   refine res_ite (fun h2 => ?_) fun h2 => ?_
   · replace h2 := cvh (b := (¬ (((0 : Int) ≤ i) ∧ (i ≤ (663 : Int))) ∨ ¬ (((0 : Int) ≤ a) ∧ (a ≤ (1073741824 : Int))))) (by kernel_rfl) h2
     show [DV.n 0, DV.n 1] = ownR ⟨!decide (b = 0), l, c, k⟩ i a
     rw [mk0_of h1]
     exact own_e2 (.inl rfl) (by omega)
   · replace h2 := cvh (b := ¬ (¬ (((0 : Int) ≤ i) ∧ (i ≤ (663 : Int))) ∨ ¬ (((0 : Int) ≤ a) ∧ (a ≤ (1073741824 : Int))))) (by kernel_rfl) h2
     refine res_con rfl trivial (fun y3 y30 y31 p4 => ?_)
     replace p4 := cvh (b := [DV.n y3] = [DV.n (ownF ⟨!decide (b = 0), l, c, k⟩ i a)]) (by kernel_rfl) p4
     show [DV.n y3, DV.n 0] = ownR ⟨!decide (b = 0), l, c, k⟩ i a
     rw [mk0_of h1]
     rw [mk0_of h1] at p4
     exact own_ok (.inl rfl) (by omega) (n_inj p4)
 · replace h1 := cvh (b := ¬ ((b = (0 : Int)) ∧ ((l = (0 : Int)) ∧ ((c = (0 : Int)) ∧ (k = (0 : Int)))))) (by kernel_rfl) h1
   refine res_ite (fun h5 => ?_) fun h5 => ?_
   · replace h5 := cvh (b := (((((0 : Int) ≤ c) ∧ (c ≤ (1073741824 : Int))) ∧ (((0 : Int) ≤ k) ∧ (k ≤ (663 : Int)))) ∧ (((1 : Int) ≤ l) ∧ (l ≤ c)))) (by kernel_rfl) h5
     refine res_ite (fun h6 => ?_) fun h6 => ?_
     · replace h6 := cvh (b := ¬ (b = (0 : Int))) (by kernel_rfl) h6
       have e7 : (Int.tdiv c (2 : Int)) = (c / (2 : Int)) := by
        exact Int.tdiv_eq_ediv_of_nonneg (by omega)
       refine res_ite (fun h8 => ?_) fun h8 => ?_
       · replace h8 := cvh (b := ((c - (Int.tdiv c (2 : Int))) < l)) (by kernel_rfl) h8
         rw [e7] at h8
         have hm := mk0_not (m := ⟨!decide (b = 0), l, c, k⟩) rfl (show b = 0 ∨ b = 1 by omega) h1
         rw [bT h6] at hm
         show [DV.n (0 : Int), DV.n (400 : Int)] = ownR ⟨!decide (b = 0), l, c, k⟩ i a
         rw [bT h6]
         exact own_e1 (vmk_not hm fun q => by have q6 := q.2.2.2.2.2.2; dsimp only at q6; rw [has_t] at q6; omega)
       · replace h8 := cvh (b := ¬ ((c - (Int.tdiv c (2 : Int))) < l)) (by kernel_rfl) h8
         rw [e7] at h8
         refine res_ite (fun h9 => ?_) fun h9 => ?_
         · replace h9 := cvh (b := (¬ (((0 : Int) ≤ i) ∧ (i ≤ (663 : Int))) ∨ ¬ (((0 : Int) ≤ a) ∧ (a ≤ (1073741824 : Int))))) (by kernel_rfl) h9
           have hm := mk0_not (m := ⟨!decide (b = 0), l, c, k⟩) rfl (show b = 0 ∨ b = 1 by omega) h1
           rw [bT h6] at hm
           show [DV.n (0 : Int), DV.n (1 : Int)] = ownR ⟨!decide (b = 0), l, c, k⟩ i a
           rw [bT h6]
           exact own_e2 (show vMk ⟨true, l, c, k⟩ from .inr ⟨by dsimp only; omega, by dsimp only; omega, by dsimp only; omega, by dsimp only; omega, by dsimp only; omega, by dsimp only; omega, by dsimp only; rw [has_t]; omega⟩) (by omega)
         · replace h9 := cvh (b := ¬ (¬ (((0 : Int) ≤ i) ∧ (i ≤ (663 : Int))) ∨ ¬ (((0 : Int) ≤ a) ∧ (a ≤ (1073741824 : Int))))) (by kernel_rfl) h9
           refine res_con rfl trivial (fun y10 y100 y101 p11 => ?_)
           replace p11 := cvh (b := [DV.n y10] = [DV.n (ownF ⟨!decide (b = 0), l, c, k⟩ i a)]) (by kernel_rfl) p11
           have hm := mk0_not (m := ⟨!decide (b = 0), l, c, k⟩) rfl (show b = 0 ∨ b = 1 by omega) h1
           rw [bT h6] at hm
           show [DV.n y10, DV.n (0 : Int)] = ownR ⟨!decide (b = 0), l, c, k⟩ i a
           rw [bT h6]
           rw [bT h6] at p11
           exact own_ok (show vMk ⟨true, l, c, k⟩ from .inr ⟨by dsimp only; omega, by dsimp only; omega, by dsimp only; omega, by dsimp only; omega, by dsimp only; omega, by dsimp only; omega, by dsimp only; rw [has_t]; omega⟩) (by omega) (n_inj p11)
     · replace h6 := cvh (b := ¬ ¬ (b = (0 : Int))) (by kernel_rfl) h6
       have e12 : (Int.tdiv c (2 : Int)) = (c / (2 : Int)) := by
        exact Int.tdiv_eq_ediv_of_nonneg (by omega)
       refine res_ite (fun h13 => ?_) fun h13 => ?_
       · replace h13 := cvh (b := ((Int.tdiv c (2 : Int)) < l)) (by kernel_rfl) h13
         rw [e12] at h13
         have hm := mk0_not (m := ⟨!decide (b = 0), l, c, k⟩) rfl (show b = 0 ∨ b = 1 by omega) h1
         rw [bF h6] at hm
         show [DV.n (0 : Int), DV.n (400 : Int)] = ownR ⟨!decide (b = 0), l, c, k⟩ i a
         rw [bF h6]
         exact own_e1 (vmk_not hm fun q => by have q6 := q.2.2.2.2.2.2; dsimp only at q6; rw [has_f] at q6; omega)
       · replace h13 := cvh (b := ¬ ((Int.tdiv c (2 : Int)) < l)) (by kernel_rfl) h13
         rw [e12] at h13
         refine res_ite (fun h14 => ?_) fun h14 => ?_
         · replace h14 := cvh (b := (¬ (((0 : Int) ≤ i) ∧ (i ≤ (663 : Int))) ∨ ¬ (((0 : Int) ≤ a) ∧ (a ≤ (1073741824 : Int))))) (by kernel_rfl) h14
           have hm := mk0_not (m := ⟨!decide (b = 0), l, c, k⟩) rfl (show b = 0 ∨ b = 1 by omega) h1
           rw [bF h6] at hm
           show [DV.n (0 : Int), DV.n (1 : Int)] = ownR ⟨!decide (b = 0), l, c, k⟩ i a
           rw [bF h6]
           exact own_e2 (show vMk ⟨false, l, c, k⟩ from .inr ⟨by dsimp only; omega, by dsimp only; omega, by dsimp only; omega, by dsimp only; omega, by dsimp only; omega, by dsimp only; omega, by dsimp only; rw [has_f]; omega⟩) (by omega)
         · replace h14 := cvh (b := ¬ (¬ (((0 : Int) ≤ i) ∧ (i ≤ (663 : Int))) ∨ ¬ (((0 : Int) ≤ a) ∧ (a ≤ (1073741824 : Int))))) (by kernel_rfl) h14
           refine res_con rfl trivial (fun y15 y150 y151 p16 => ?_)
           replace p16 := cvh (b := [DV.n y15] = [DV.n (ownF ⟨!decide (b = 0), l, c, k⟩ i a)]) (by kernel_rfl) p16
           have hm := mk0_not (m := ⟨!decide (b = 0), l, c, k⟩) rfl (show b = 0 ∨ b = 1 by omega) h1
           rw [bF h6] at hm
           show [DV.n y15, DV.n (0 : Int)] = ownR ⟨!decide (b = 0), l, c, k⟩ i a
           rw [bF h6]
           rw [bF h6] at p16
           exact own_ok (show vMk ⟨false, l, c, k⟩ from .inr ⟨by dsimp only; omega, by dsimp only; omega, by dsimp only; omega, by dsimp only; omega, by dsimp only; omega, by dsimp only; omega, by dsimp only; rw [has_f]; omega⟩) (by omega) (n_inj p16)
   · replace h5 := cvh (b := ¬ (((((0 : Int) ≤ c) ∧ (c ≤ (1073741824 : Int))) ∧ (((0 : Int) ≤ k) ∧ (k ≤ (663 : Int)))) ∧ (((1 : Int) ≤ l) ∧ (l ≤ c)))) (by kernel_rfl) h5
     have hm := mk0_not (m := ⟨!decide (b = 0), l, c, k⟩) rfl (show b = 0 ∨ b = 1 by omega) h1
     show [DV.n (0 : Int), DV.n (400 : Int)] = ownR ⟨!decide (b = 0), l, c, k⟩ i a
     exact own_e1 (vmk_not hm fun q => by have q1 := q.1; have q2 := q.2.1; have q3 := q.2.2.1; have q4 := q.2.2.2.1; have q5 := q.2.2.2.2.1; have q6 := q.2.2.2.2.2.1; dsimp only at q1 q2 q3 q4 q5 q6; omega)
end Go.Proofs.Ytcjdheaaddaagaa
