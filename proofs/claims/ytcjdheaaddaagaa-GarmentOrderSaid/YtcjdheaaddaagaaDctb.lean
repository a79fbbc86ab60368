/- DERIVED. Places, thresholds, awards of the reference; Own and Pair of both sides. -/
import Derived.Test.YtcjdheaaddaagaaDct
import Derived.Test.YtcjdheaaddaagaaDtreeb
namespace Go.Proofs.Ytcjdheaaddaagaa
open Go.Dx
set_option linter.unusedVariables false
set_option linter.unusedSimpArgs false
theorem cnt_cap {b : Bool} {l : Int} {c : Nat → Int} {n : Nat} {d k : Int} : 0 ≤ cntF b l c n d k ∧ cntF b l c n d k ≤ n := by
  constructor
  · exact sumN_nn fun i hi => by split <;> omega
  · have := sumN_bound (f := fun j => if hasF b l (c j) ∧ ahF b (c j) j d k then 1 else 0) (n := n) (b := 1) fun i hi => by split <;> omega
    show sumN _ _ ≤ _
    omega
theorem bT {b : Int} (h : ¬ b = 0) : (!decide (b = 0)) = true := by simp; omega
theorem bF {b : Int} (h : ¬ ¬ b = 0) : (!decide (b = 0)) = false := by simp; omega
theorem ownF_eq {m : Mk} {i c : Int} (h : 1 ≤ m.l) : ownF m i c = befF m.b m.l c + if hasF m.b m.l c ∧ ahF m.b c i m.c m.i then 1 else 0 := by
  unfold ownF
  rw [if_neg]
  intro e
  rw [e] at h
  exact absurd h (by decide)
theorem ownF_ne {m : Mk} {i c : Int} (h : m ≠ mk0) : ownF m i c = befF m.b m.l c + if hasF m.b m.l c ∧ ahF m.b c i m.c m.i then 1 else 0 := by
  unfold ownF
  rw [if_neg h]
theorem own_e1 {m : Mk} {i c : Int} (h : ¬ vMk m) : [DV.n 0, DV.n 400] = ownR m i c := by unfold ownR; rw [if_pos h]
theorem own_e2 {m : Mk} {i c : Int} (h : vMk m) (k : ¬ (0 ≤ i ∧ i ≤ 663 ∧ 0 ≤ c ∧ c ≤ 1073741824)) : [DV.n 0, DV.n 1] = ownR m i c := by unfold ownR; rw [if_neg (fun q => q h), if_pos k]
theorem own_ok {m : Mk} {i c v : Int} (h : vMk m) (k : 0 ≤ i ∧ i ≤ 663 ∧ 0 ≤ c ∧ c ≤ 1073741824) (e : v = ownF m i c) : [DV.n v, DV.n 0] = ownR m i c := by unfold ownR; rw [if_neg (fun q => q h), if_neg (fun q => q k), e]
theorem mk0_of {b l c i : Int} (h : b = 0 ∧ l = 0 ∧ c = 0 ∧ i = 0) : (⟨!decide (b = 0), l, c, i⟩ : Mk) = mk0 := by
  obtain ⟨rfl, rfl, rfl, rfl⟩ := h; rfl
theorem mk0_not {m : Mk} {b l c i : Int} (hm : m = ⟨!decide (b = 0), l, c, i⟩) (hb : b = 0 ∨ b = 1) (h : ¬ (b = 0 ∧ l = 0 ∧ c = 0 ∧ i = 0)) : m ≠ mk0 := fun e => by
  rw [hm] at e
  injection e with e1 e2 e3 e4
  refine h ⟨?_, e2, e3, e4⟩
  simpa using e1
theorem vmk_not {m : Mk} (h : m ≠ mk0) (k : ¬ (0 ≤ m.c ∧ m.c ≤ 1073741824 ∧ 0 ≤ m.i ∧ m.i ≤ 663 ∧ 1 ≤ m.l ∧ m.l ≤ m.c ∧ hasF m.b m.l m.c)) : ¬ vMk m := fun q => by
  rcases q with q | q
  · exact h q
  · exact k q
theorem bef_t {l c : Int} : befF true l c = c / 2 + max 0 (c - c / 2 - (l + 1) + 1) := by simp [befF, tF, prv]
theorem bef_f {l c : Int} : befF false l c = max 0 (min (c / 2) (l - 1)) := by simp [befF, tF, prv]
theorem has_t {l c : Int} : hasF true l c ↔ l ≤ c - c / 2 := by simp [hasF, lts]
theorem has_f {l c : Int} : hasF false l c ↔ l ≤ c / 2 := by simp [hasF, lts]
theorem ah_t {c i d k : Int} : ahF true c i d k ↔ c < d ∨ (c = d ∧ k ≤ i) := by simp [ahF]
theorem ah_f {c i d k : Int} : ahF false c i d k ↔ d < c ∨ (c = d ∧ i ≤ k) := by simp [ahF]
set_option maxRecDepth 100000 in
set_option maxHeartbeats 4000000 in
theorem cPlc_ok (N : Nat) (w0 : World) : ConOk Try.prog tb N w0 (cPlc 30) := by
 refine con_of_walk (tb := tb) fine (C := [lPlc, cTo 27, cHas, cAh]) (lopCons rfl (conCons cTo_ok (conCons cHas_ok (conCons cAh_ok noCon)))) 60 rfl ?_ N w0
 refine fun p _ b b0 b1 l l0 l1 i i0 i1 hp => ?_
 obtain ⟨hp, hi0⟩ : vP (.sl none 0 p) ∧ i < (DV.sl none 0 p).len := hp
 have hp1 : (DV.sl none 0 p).len ≤ 664 := hp.1
 rw [tree_plc]
 show T.res _ (fun y => y = [.n (plF (!decide (b = 0)) l (el (.sl none 0 p)) (nn (.sl none 0 p)) i.toNat)]) _ _
 refine res_con rfl (cvh (a := vP (DV.sl none 0 p)) (by kernel_rfl) (hp)) (fun y1 y10 y11 p2 => ?_)
 replace p2 := cvh (b := [DV.n y1] = [DV.n (toF (!decide (b = 0)) (l - (1 : Int)) (el (DV.sl none 0 p)) (nn (DV.sl none 0 p)))]) (by kernel_rfl) p2
 replace p2 := n_inj p2
 refine res_ite (fun h3 => ?_) fun h3 => ?_
 · replace h3 := cvh (b := ¬ (b = (0 : Int))) (by kernel_rfl) h3
   refine res_con rfl (cvh (a := vP (DV.sl none 0 p)) (by kernel_rfl) (hp)) (fun y4 y40 y41 p5 => ?_)
   replace p5 := cvh (b := [DV.n y4] = [DV.n (toF (!decide ((1 : Int) = 0)) (l + (1 : Int)) (el (DV.sl none 0 p)) (nn (DV.sl none 0 p)))]) (by kernel_rfl) p5
   replace p5 := n_inj p5
   refine res_lop_of rfl (P := (0 : Int) ≤ (DV.sl none 0 p).len ∧ y4 = toF (!decide (b = 0)) (prv (!decide (b = 0)) l) (el (DV.sl none 0 p)) (nn (DV.sl none 0 p)) + cntF (!decide (b = 0)) l (el (DV.sl none 0 p)) ((0 : Int)).toNat (el (DV.sl none 0 p) i.toNat) i) (by kernel_rfl) rfl (⟨len_nn _, by rw [p5, (bT h3)]; show _ = _ + 0; rw [Int.add_zero]; rfl⟩) (fun x6 x60 x61  x7 x70 x71 i8 => ?_)
   replace i8 := cvh (b := x7 ≤ (DV.sl none 0 p).len ∧ x6 = toF (!decide (b = 0)) (prv (!decide (b = 0)) l) (el (DV.sl none 0 p)) (nn (DV.sl none 0 p)) + cntF (!decide (b = 0)) l (el (DV.sl none 0 p)) (x7).toNat (el (DV.sl none 0 p) i.toNat) i) (by kernel_rfl) i8
   obtain ⟨hi, hs⟩ := i8
   have hc := to_cap (b := (!decide (b = 0))) (l := prv (!decide (b = 0)) l) (by unfold prv; split <;> omega) hp.2 (by have := nn_eq (DV.sl none 0 p); omega)
   have hd := cnt_cap (b := (!decide (b = 0))) (l := l) (c := el (DV.sl none 0 p)) (n := x7.toNat) (d := el (DV.sl none 0 p) i.toNat) (k := i)
   have hn := sum_next (f := fun j => if hasF (!decide (b = 0)) l (el (DV.sl none 0 p) j) ∧ ahF (!decide (b = 0)) (el (DV.sl none 0 p) j) j (el (DV.sl none 0 p) i.toNat) i then 1 else 0) x70
   rw [show (x7.toNat : Int) = x7 from Int.toNat_of_nonneg x70, el_at _ x70] at hn
   refine res_ite (fun h9 => ?_) fun h9 => ?_
   · replace h9 := cvh (b := (x7 < (DV.sl none 0 p).len)) (by kernel_rfl) h9
     have hk := lit_at hp.2 x70 (by rw [nn_eq]; omega)
     refine res_con rfl (cvh (a := 0 ≤ (DV.sl none 0 p).at (x7) 0 ∧ (DV.sl none 0 p).at (x7) 0 ≤ 1073741824) (by kernel_rfl) (hk)) (fun y10 y100 y101 p11 => ?_)
     replace p11 := cvh (b := [DV.n y10] = [DV.n (if hasF (!decide ((1 : Int) = 0)) l ((DV.sl none 0 p).at (x7) 0) then 1 else 0)]) (by kernel_rfl) p11
     rw [show (!decide ((1 : Int) = 0)) = (!decide (b = 0)) from (show (!decide ((1 : Int) = 0)) = _ from rfl).trans ((bT h3)).symm] at p11
     refine res_ite (fun h12 => ?_) fun h12 => ?_
     · replace h12 := cvh (b := ¬ (y10 = (0 : Int))) (by kernel_rfl) h12
       refine res_ok (cvh (a := (((0 : Int) ≤ i) ∧ (i < (DV.sl none 0 p).len))) (by kernel_rfl) (by omega)) ?_
       refine res_con rfl trivial (fun y13 y130 y131 p14 => ?_)
       replace p14 := cvh (b := [DV.n y13] = [DV.n (if ahF (!decide ((1 : Int) = 0)) ((DV.sl none 0 p).at (x7) 0) (x7) ((DV.sl none 0 p).at (i) 0) (i) then 1 else 0)]) (by kernel_rfl) p14
       rw [show (!decide ((1 : Int) = 0)) = (!decide (b = 0)) from (show (!decide ((1 : Int) = 0)) = _ from rfl).trans ((bT h3)).symm] at p14
       refine res_ite (fun h15 => ?_) fun h15 => ?_
       · replace h15 := cvh (b := ¬ (y13 = (0 : Int))) (by kernel_rfl) h15
         refine res_ok (cvh (a := (((0 : Int) ≤ (x6 + (1 : Int))) ∧ ((x6 + (1 : Int)) ≤ (1000000000000 : Int)))) (by kernel_rfl) (by omega)) ?_
         refine res_ok (cvh (a := (((0 : Int) ≤ (x7 + (1 : Int))) ∧ ((x7 + (1 : Int)) ≤ (664 : Int)))) (by kernel_rfl) (by omega)) ?_
         exact res_chk_of rfl (P := (x7 + (1 : Int)) ≤ (DV.sl none 0 p).len ∧ (x6 + (1 : Int)) = toF (!decide (b = 0)) (prv (!decide (b = 0)) l) (el (DV.sl none 0 p)) (nn (DV.sl none 0 p)) + cntF (!decide (b = 0)) l (el (DV.sl none 0 p)) ((x7 + (1 : Int))).toNat (el (DV.sl none 0 p) i.toNat) i) (a := ((DV.sl none 0 p).len - (x7 + (1 : Int))).toNat) (b := ((DV.sl none 0 p).len - x7).toNat) (by kernel_rfl) (by kernel_rfl) (by kernel_rfl) (by refine ⟨by omega, ?_⟩; show _ = _ + sumN _ _; rw [hn]; rw [if_pos ⟨((y01 p11).resolve_right fun q => absurd q.1 h12).2, by have := ((y01 p14).resolve_right fun q => absurd q.1 h15).2; rw [← el_at _ i0] at this; exact this⟩]; show _ = _ + (cntF _ _ _ _ _ _ + 1); omega) (by omega)
       · replace h15 := cvh (b := ¬ ¬ (y13 = (0 : Int))) (by kernel_rfl) h15
         refine res_ok (cvh (a := (((0 : Int) ≤ (x7 + (1 : Int))) ∧ ((x7 + (1 : Int)) ≤ (664 : Int)))) (by kernel_rfl) (by omega)) ?_
         exact res_chk_of rfl (P := (x7 + (1 : Int)) ≤ (DV.sl none 0 p).len ∧ x6 = toF (!decide (b = 0)) (prv (!decide (b = 0)) l) (el (DV.sl none 0 p)) (nn (DV.sl none 0 p)) + cntF (!decide (b = 0)) l (el (DV.sl none 0 p)) ((x7 + (1 : Int))).toNat (el (DV.sl none 0 p) i.toNat) i) (a := ((DV.sl none 0 p).len - (x7 + (1 : Int))).toNat) (b := ((DV.sl none 0 p).len - x7).toNat) (by kernel_rfl) (by kernel_rfl) (by kernel_rfl) (by refine ⟨by omega, ?_⟩; show _ = _ + sumN _ _; rw [hn]; rw [if_neg fun q => ((y01 p14).resolve_left fun z => absurd z.1 (by have := Classical.not_not.1 h15; omega)).2 (by have := q.2; rw [el_at _ i0] at this; exact this)]; show _ = _ + (cntF _ _ _ _ _ _ + 0); omega) (by omega)
     · replace h12 := cvh (b := ¬ ¬ (y10 = (0 : Int))) (by kernel_rfl) h12
       refine res_ok (cvh (a := (((0 : Int) ≤ (x7 + (1 : Int))) ∧ ((x7 + (1 : Int)) ≤ (664 : Int)))) (by kernel_rfl) (by omega)) ?_
       exact res_chk_of rfl (P := (x7 + (1 : Int)) ≤ (DV.sl none 0 p).len ∧ x6 = toF (!decide (b = 0)) (prv (!decide (b = 0)) l) (el (DV.sl none 0 p)) (nn (DV.sl none 0 p)) + cntF (!decide (b = 0)) l (el (DV.sl none 0 p)) ((x7 + (1 : Int))).toNat (el (DV.sl none 0 p) i.toNat) i) (a := ((DV.sl none 0 p).len - (x7 + (1 : Int))).toNat) (b := ((DV.sl none 0 p).len - x7).toNat) (by kernel_rfl) (by kernel_rfl) (by kernel_rfl) (by refine ⟨by omega, ?_⟩; show _ = _ + sumN _ _; rw [hn]; rw [if_neg fun q => ((y01 p11).resolve_left fun z => absurd z.1 (by have := Classical.not_not.1 h12; omega)).2 q.1]; show _ = _ + (cntF _ _ _ _ _ _ + 0); omega) (by omega)
   · replace h9 := cvh (b := ¬ (x7 < (DV.sl none 0 p).len)) (by kernel_rfl) h9
     show [DV.n x6] = [DV.n (plF (!decide (b = 0)) l (el (DV.sl none 0 p)) (nn (DV.sl none 0 p)) i.toNat)]
     rw [hs]
     unfold plF nn
     rw [show (DV.sl none 0 p).len.toNat = x7.toNat by omega, Int.toNat_of_nonneg i0]
 · replace h3 := cvh (b := ¬ ¬ (b = (0 : Int))) (by kernel_rfl) h3
   refine res_lop_of rfl (P := (0 : Int) ≤ (DV.sl none 0 p).len ∧ y1 = toF (!decide (b = 0)) (prv (!decide (b = 0)) l) (el (DV.sl none 0 p)) (nn (DV.sl none 0 p)) + cntF (!decide (b = 0)) l (el (DV.sl none 0 p)) ((0 : Int)).toNat (el (DV.sl none 0 p) i.toNat) i) (by kernel_rfl) rfl (⟨len_nn _, by rw [p2, (bF h3)]; show _ = _ + 0; rw [Int.add_zero]; rfl⟩) (fun x16 x160 x161  x17 x170 x171 i18 => ?_)
   replace i18 := cvh (b := x17 ≤ (DV.sl none 0 p).len ∧ x16 = toF (!decide (b = 0)) (prv (!decide (b = 0)) l) (el (DV.sl none 0 p)) (nn (DV.sl none 0 p)) + cntF (!decide (b = 0)) l (el (DV.sl none 0 p)) (x17).toNat (el (DV.sl none 0 p) i.toNat) i) (by kernel_rfl) i18
   obtain ⟨hi, hs⟩ := i18
   have hc := to_cap (b := (!decide (b = 0))) (l := prv (!decide (b = 0)) l) (by unfold prv; split <;> omega) hp.2 (by have := nn_eq (DV.sl none 0 p); omega)
   have hd := cnt_cap (b := (!decide (b = 0))) (l := l) (c := el (DV.sl none 0 p)) (n := x17.toNat) (d := el (DV.sl none 0 p) i.toNat) (k := i)
   have hn := sum_next (f := fun j => if hasF (!decide (b = 0)) l (el (DV.sl none 0 p) j) ∧ ahF (!decide (b = 0)) (el (DV.sl none 0 p) j) j (el (DV.sl none 0 p) i.toNat) i then 1 else 0) x170
   rw [show (x17.toNat : Int) = x17 from Int.toNat_of_nonneg x170, el_at _ x170] at hn
   refine res_ite (fun h19 => ?_) fun h19 => ?_
   · replace h19 := cvh (b := (x17 < (DV.sl none 0 p).len)) (by kernel_rfl) h19
     have hk := lit_at hp.2 x170 (by rw [nn_eq]; omega)
     refine res_con rfl (cvh (a := 0 ≤ (DV.sl none 0 p).at (x17) 0 ∧ (DV.sl none 0 p).at (x17) 0 ≤ 1073741824) (by kernel_rfl) (hk)) (fun y20 y200 y201 p21 => ?_)
     replace p21 := cvh (b := [DV.n y20] = [DV.n (if hasF (!decide ((0 : Int) = 0)) l ((DV.sl none 0 p).at (x17) 0) then 1 else 0)]) (by kernel_rfl) p21
     rw [show (!decide ((0 : Int) = 0)) = (!decide (b = 0)) from (show (!decide ((0 : Int) = 0)) = _ from rfl).trans ((bF h3)).symm] at p21
     refine res_ite (fun h22 => ?_) fun h22 => ?_
     · replace h22 := cvh (b := ¬ (y20 = (0 : Int))) (by kernel_rfl) h22
       refine res_ok (cvh (a := (((0 : Int) ≤ i) ∧ (i < (DV.sl none 0 p).len))) (by kernel_rfl) (by omega)) ?_
       refine res_con rfl trivial (fun y23 y230 y231 p24 => ?_)
       replace p24 := cvh (b := [DV.n y23] = [DV.n (if ahF (!decide ((0 : Int) = 0)) ((DV.sl none 0 p).at (x17) 0) (x17) ((DV.sl none 0 p).at (i) 0) (i) then 1 else 0)]) (by kernel_rfl) p24
       rw [show (!decide ((0 : Int) = 0)) = (!decide (b = 0)) from (show (!decide ((0 : Int) = 0)) = _ from rfl).trans ((bF h3)).symm] at p24
       refine res_ite (fun h25 => ?_) fun h25 => ?_
       · replace h25 := cvh (b := ¬ (y23 = (0 : Int))) (by kernel_rfl) h25
         refine res_ok (cvh (a := (((0 : Int) ≤ (x16 + (1 : Int))) ∧ ((x16 + (1 : Int)) ≤ (1000000000000 : Int)))) (by kernel_rfl) (by omega)) ?_
         refine res_ok (cvh (a := (((0 : Int) ≤ (x17 + (1 : Int))) ∧ ((x17 + (1 : Int)) ≤ (664 : Int)))) (by kernel_rfl) (by omega)) ?_
         exact res_chk_of rfl (P := (x17 + (1 : Int)) ≤ (DV.sl none 0 p).len ∧ (x16 + (1 : Int)) = toF (!decide (b = 0)) (prv (!decide (b = 0)) l) (el (DV.sl none 0 p)) (nn (DV.sl none 0 p)) + cntF (!decide (b = 0)) l (el (DV.sl none 0 p)) ((x17 + (1 : Int))).toNat (el (DV.sl none 0 p) i.toNat) i) (a := ((DV.sl none 0 p).len - (x17 + (1 : Int))).toNat) (b := ((DV.sl none 0 p).len - x17).toNat) (by kernel_rfl) (by kernel_rfl) (by kernel_rfl) (by refine ⟨by omega, ?_⟩; show _ = _ + sumN _ _; rw [hn]; rw [if_pos ⟨((y01 p21).resolve_right fun q => absurd q.1 h22).2, by have := ((y01 p24).resolve_right fun q => absurd q.1 h25).2; rw [← el_at _ i0] at this; exact this⟩]; show _ = _ + (cntF _ _ _ _ _ _ + 1); omega) (by omega)
       · replace h25 := cvh (b := ¬ ¬ (y23 = (0 : Int))) (by kernel_rfl) h25
         refine res_ok (cvh (a := (((0 : Int) ≤ (x17 + (1 : Int))) ∧ ((x17 + (1 : Int)) ≤ (664 : Int)))) (by kernel_rfl) (by omega)) ?_
         exact res_chk_of rfl (P := (x17 + (1 : Int)) ≤ (DV.sl none 0 p).len ∧ x16 = toF (!decide (b = 0)) (prv (!decide (b = 0)) l) (el (DV.sl none 0 p)) (nn (DV.sl none 0 p)) + cntF (!decide (b = 0)) l (el (DV.sl none 0 p)) ((x17 + (1 : Int))).toNat (el (DV.sl none 0 p) i.toNat) i) (a := ((DV.sl none 0 p).len - (x17 + (1 : Int))).toNat) (b := ((DV.sl none 0 p).len - x17).toNat) (by kernel_rfl) (by kernel_rfl) (by kernel_rfl) (by refine ⟨by omega, ?_⟩; show _ = _ + sumN _ _; rw [hn]; rw [if_neg fun q => ((y01 p24).resolve_left fun z => absurd z.1 (by have := Classical.not_not.1 h25; omega)).2 (by have := q.2; rw [el_at _ i0] at this; exact this)]; show _ = _ + (cntF _ _ _ _ _ _ + 0); omega) (by omega)
     · replace h22 := cvh (b := ¬ ¬ (y20 = (0 : Int))) (by kernel_rfl) h22
       refine res_ok (cvh (a := (((0 : Int) ≤ (x17 + (1 : Int))) ∧ ((x17 + (1 : Int)) ≤ (664 : Int)))) (by kernel_rfl) (by omega)) ?_
       exact res_chk_of rfl (P := (x17 + (1 : Int)) ≤ (DV.sl none 0 p).len ∧ x16 = toF (!decide (b = 0)) (prv (!decide (b = 0)) l) (el (DV.sl none 0 p)) (nn (DV.sl none 0 p)) + cntF (!decide (b = 0)) l (el (DV.sl none 0 p)) ((x17 + (1 : Int))).toNat (el (DV.sl none 0 p) i.toNat) i) (a := ((DV.sl none 0 p).len - (x17 + (1 : Int))).toNat) (b := ((DV.sl none 0 p).len - x17).toNat) (by kernel_rfl) (by kernel_rfl) (by kernel_rfl) (by refine ⟨by omega, ?_⟩; show _ = _ + sumN _ _; rw [hn]; rw [if_neg fun q => ((y01 p21).resolve_left fun z => absurd z.1 (by have := Classical.not_not.1 h22; omega)).2 q.1]; show _ = _ + (cntF _ _ _ _ _ _ + 0); omega) (by omega)
   · replace h19 := cvh (b := ¬ (x17 < (DV.sl none 0 p).len)) (by kernel_rfl) h19
     show [DV.n x16] = [DV.n (plF (!decide (b = 0)) l (el (DV.sl none 0 p)) (nn (DV.sl none 0 p)) i.toNat)]
     rw [hs]
     unfold plF nn
     rw [show (DV.sl none 0 p).len.toNat = x17.toNat by omega, Int.toNat_of_nonneg i0]
set_option maxRecDepth 100000 in
set_option maxHeartbeats 4000000 in
theorem cOwR_ok (N : Nat) (w0 : World) : ConOk Try.prog tb N w0 (cOwR 25) := by
 refine con_of_walk (tb := tb) fine (C := [cHas, cAh]) (conCons cHas_ok (conCons cAh_ok noCon)) 60 rfl ?_ N w0
 refine fun b b0 b1 l l0 l1 c c0 c1 k k0 k1 i i0 i1 a a0 a1 hpre => ?_
 rw [tree_owr]
 show T.res _ (fun y => y = [.n (ownF ⟨!decide (b = 0), l, c, k⟩ i a)]) _ _
 refine res_ite (fun h1 => ?_) fun h1 => ?_
 · replace h1 := cvh (b := ((b = (0 : Int)) ∧ ((l = (0 : Int)) ∧ ((c = (0 : Int)) ∧ (k = (0 : Int)))))) (by kernel_rfl) h1
   show [DV.n 0] = [DV.n (ownF ⟨!decide (b = 0), l, c, k⟩ i a)]
   rw [mk0_of h1]; rfl
 · replace h1 := cvh (b := ¬ ((b = (0 : Int)) ∧ ((l = (0 : Int)) ∧ ((c = (0 : Int)) ∧ (k = (0 : Int)))))) (by kernel_rfl) h1
   refine res_ite (fun h2 => ?_) fun h2 => ?_
   · replace h2 := cvh (b := ¬ (b = (0 : Int))) (by kernel_rfl) h2
     refine res_con rfl (cvh (a := 0 ≤ a ∧ a ≤ 1073741824) (by kernel_rfl) (⟨a0, a1⟩)) (fun y3 y30 y31 p4 => ?_)
     replace p4 := cvh (b := [DV.n y3] = [DV.n (if hasF (!decide (b = 0)) l (a) then 1 else 0)]) (by kernel_rfl) p4
     rw [(bT h2)] at p4
     refine res_ite (fun h5 => ?_) fun h5 => ?_
     · replace h5 := cvh (b := ¬ (y3 = (0 : Int))) (by kernel_rfl) h5
       refine res_con rfl trivial (fun y6 y60 y61 p7 => ?_)
       replace p7 := cvh (b := [DV.n y6] = [DV.n (if ahF (!decide (b = 0)) (a) (i) (c) (k) then 1 else 0)]) (by kernel_rfl) p7
       rw [(bT h2)] at p7
       refine res_ite (fun h8 => ?_) fun h8 => ?_
       · replace h8 := cvh (b := ¬ (y6 = (0 : Int))) (by kernel_rfl) h8
         have e9 : (Int.tdiv a (2 : Int)) = (a / (2 : Int)) := by
          exact Int.tdiv_eq_ediv_of_nonneg (by omega)
         refine res_ok (cvh (a := (((0 : Int) ≤ (((Int.tdiv a (2 : Int)) + (max (0 : Int) (((a - (Int.tdiv a (2 : Int))) - (l + (1 : Int))) + (1 : Int)))) + (1 : Int))) ∧ ((((Int.tdiv a (2 : Int)) + (max (0 : Int) (((a - (Int.tdiv a (2 : Int))) - (l + (1 : Int))) + (1 : Int)))) + (1 : Int)) ≤ (1073741825 : Int)))) (by kernel_rfl) (by rw [e9]; omega)) ?_
         have hm := mk0_not (m := ⟨!decide (b = 0), l, c, k⟩) rfl (show b = 0 ∨ b = 1 by omega) h1
         rw [(bT h2)] at hm
         show [DV.n (((Int.tdiv a (2 : Int)) + (max (0 : Int) (((a - (Int.tdiv a (2 : Int))) - (l + (1 : Int))) + (1 : Int)))) + (1 : Int))] = [DV.n (ownF ⟨!decide (b = 0), l, c, k⟩ i a)]
         rw [e9]
         rw [(bT h2)]
         rw [ownF_ne hm]
         dsimp only
         rw [if_pos ⟨((y01 p4).resolve_right fun q => absurd q.1 h5).2, ((y01 p7).resolve_right fun q => absurd q.1 h8).2⟩, bef_t]
         
       · replace h8 := cvh (b := ¬ ¬ (y6 = (0 : Int))) (by kernel_rfl) h8
         have e10 : (Int.tdiv a (2 : Int)) = (a / (2 : Int)) := by
          exact Int.tdiv_eq_ediv_of_nonneg (by omega)
         refine res_ok (cvh (a := (((0 : Int) ≤ ((Int.tdiv a (2 : Int)) + (max (0 : Int) (((a - (Int.tdiv a (2 : Int))) - (l + (1 : Int))) + (1 : Int))))) ∧ (((Int.tdiv a (2 : Int)) + (max (0 : Int) (((a - (Int.tdiv a (2 : Int))) - (l + (1 : Int))) + (1 : Int)))) ≤ (1073741825 : Int)))) (by kernel_rfl) (by rw [e10]; omega)) ?_
         have hm := mk0_not (m := ⟨!decide (b = 0), l, c, k⟩) rfl (show b = 0 ∨ b = 1 by omega) h1
         rw [(bT h2)] at hm
         show [DV.n ((Int.tdiv a (2 : Int)) + (max (0 : Int) (((a - (Int.tdiv a (2 : Int))) - (l + (1 : Int))) + (1 : Int))))] = [DV.n (ownF ⟨!decide (b = 0), l, c, k⟩ i a)]
         rw [e10]
         rw [(bT h2)]
         rw [ownF_ne hm]
         dsimp only
         rw [if_neg fun q => ((y01 p7).resolve_left fun z => absurd z.1 (by have := Classical.not_not.1 h8; omega)).2 q.2, bef_t, Int.add_zero]
         
     · replace h5 := cvh (b := ¬ ¬ (y3 = (0 : Int))) (by kernel_rfl) h5
       have e11 : (Int.tdiv a (2 : Int)) = (a / (2 : Int)) := by
        exact Int.tdiv_eq_ediv_of_nonneg (by omega)
       refine res_ok (cvh (a := (((0 : Int) ≤ ((Int.tdiv a (2 : Int)) + (max (0 : Int) (((a - (Int.tdiv a (2 : Int))) - (l + (1 : Int))) + (1 : Int))))) ∧ (((Int.tdiv a (2 : Int)) + (max (0 : Int) (((a - (Int.tdiv a (2 : Int))) - (l + (1 : Int))) + (1 : Int)))) ≤ (1073741825 : Int)))) (by kernel_rfl) (by rw [e11]; omega)) ?_
       have hm := mk0_not (m := ⟨!decide (b = 0), l, c, k⟩) rfl (show b = 0 ∨ b = 1 by omega) h1
       rw [(bT h2)] at hm
       show [DV.n ((Int.tdiv a (2 : Int)) + (max (0 : Int) (((a - (Int.tdiv a (2 : Int))) - (l + (1 : Int))) + (1 : Int))))] = [DV.n (ownF ⟨!decide (b = 0), l, c, k⟩ i a)]
       rw [e11]
       rw [(bT h2)]
       rw [ownF_ne hm]
       dsimp only
       rw [if_neg fun q => ((y01 p4).resolve_left fun z => absurd z.1 (by have := Classical.not_not.1 h5; omega)).2 q.1, bef_t, Int.add_zero]
       
   · replace h2 := cvh (b := ¬ ¬ (b = (0 : Int))) (by kernel_rfl) h2
     refine res_con rfl (cvh (a := 0 ≤ a ∧ a ≤ 1073741824) (by kernel_rfl) (⟨a0, a1⟩)) (fun y12 y120 y121 p13 => ?_)
     replace p13 := cvh (b := [DV.n y12] = [DV.n (if hasF (!decide (b = 0)) l (a) then 1 else 0)]) (by kernel_rfl) p13
     rw [(bF h2)] at p13
     refine res_ite (fun h14 => ?_) fun h14 => ?_
     · replace h14 := cvh (b := ¬ (y12 = (0 : Int))) (by kernel_rfl) h14
       refine res_con rfl trivial (fun y15 y150 y151 p16 => ?_)
       replace p16 := cvh (b := [DV.n y15] = [DV.n (if ahF (!decide (b = 0)) (a) (i) (c) (k) then 1 else 0)]) (by kernel_rfl) p16
       rw [(bF h2)] at p16
       refine res_ite (fun h17 => ?_) fun h17 => ?_
       · replace h17 := cvh (b := ¬ (y15 = (0 : Int))) (by kernel_rfl) h17
         have e18 : (Int.tdiv a (2 : Int)) = (a / (2 : Int)) := by
          exact Int.tdiv_eq_ediv_of_nonneg (by omega)
         have hm := mk0_not (m := ⟨!decide (b = 0), l, c, k⟩) rfl (show b = 0 ∨ b = 1 by omega) h1
         rw [(bF h2)] at hm
         show [DV.n ((max (0 : Int) (min (Int.tdiv a (2 : Int)) (l - (1 : Int)))) + (1 : Int))] = [DV.n (ownF ⟨!decide (b = 0), l, c, k⟩ i a)]
         rw [e18]
         rw [(bF h2)]
         rw [ownF_ne hm]
         dsimp only
         rw [if_pos ⟨((y01 p13).resolve_right fun q => absurd q.1 h14).2, ((y01 p16).resolve_right fun q => absurd q.1 h17).2⟩, bef_f]
         
       · replace h17 := cvh (b := ¬ ¬ (y15 = (0 : Int))) (by kernel_rfl) h17
         have e19 : (Int.tdiv a (2 : Int)) = (a / (2 : Int)) := by
          exact Int.tdiv_eq_ediv_of_nonneg (by omega)
         have hm := mk0_not (m := ⟨!decide (b = 0), l, c, k⟩) rfl (show b = 0 ∨ b = 1 by omega) h1
         rw [(bF h2)] at hm
         show [DV.n (max (0 : Int) (min (Int.tdiv a (2 : Int)) (l - (1 : Int))))] = [DV.n (ownF ⟨!decide (b = 0), l, c, k⟩ i a)]
         rw [e19]
         rw [(bF h2)]
         rw [ownF_ne hm]
         dsimp only
         rw [if_neg fun q => ((y01 p16).resolve_left fun z => absurd z.1 (by have := Classical.not_not.1 h17; omega)).2 q.2, bef_f, Int.add_zero]
         
     · replace h14 := cvh (b := ¬ ¬ (y12 = (0 : Int))) (by kernel_rfl) h14
       have e20 : (Int.tdiv a (2 : Int)) = (a / (2 : Int)) := by
        exact Int.tdiv_eq_ediv_of_nonneg (by omega)
       have hm := mk0_not (m := ⟨!decide (b = 0), l, c, k⟩) rfl (show b = 0 ∨ b = 1 by omega) h1
       rw [(bF h2)] at hm
       show [DV.n (max (0 : Int) (min (Int.tdiv a (2 : Int)) (l - (1 : Int))))] = [DV.n (ownF ⟨!decide (b = 0), l, c, k⟩ i a)]
       rw [e20]
       rw [(bF h2)]
       rw [ownF_ne hm]
       dsimp only
       rw [if_neg fun q => ((y01 p13).resolve_left fun z => absurd z.1 (by have := Classical.not_not.1 h14; omega)).2 q.1, bef_f, Int.add_zero]
       
set_option maxRecDepth 100000 in
set_option maxHeartbeats 4000000 in
theorem cPr_ok (N : Nat) (w0 : World) : ConOk Try.prog tb N w0 (cPr 19) := by
 refine con_of_walk (tb := tb) fine (C := []) (noCon) 60 rfl ?_ N w0
 refine fun n _ _ c _ _ e _ _ _ => ?_
 rw [tree_pr]
 show T.res _ (fun y => y = prR n c e) _ _
 refine res_ite (fun h1 => ?_) fun h1 => ?_
 · replace h1 := cvh (b := (((¬ (((0 : Int) ≤ c) ∧ (c ≤ (1073741824 : Int))) ∨ ¬ (((0 : Int) ≤ e) ∧ (e ≤ (1073741824 : Int)))) ∨ (n < (0 : Int))) ∨ ((c + e) < n))) (by kernel_rfl) h1
   show [DV.n 0, DV.n 0, DV.n 400] = prR n c e
   unfold prR
   rw [if_pos (by omega)]
 · replace h1 := cvh (b := ¬ (((¬ (((0 : Int) ≤ c) ∧ (c ≤ (1073741824 : Int))) ∨ ¬ (((0 : Int) ≤ e) ∧ (e ≤ (1073741824 : Int)))) ∨ (n < (0 : Int))) ∨ ((c + e) < n))) (by kernel_rfl) h1
   have e2 : (Int.tdiv ((n - (max (0 : Int) (n - e))) - (max (0 : Int) (n - c))) (2 : Int)) = (((n - (max (0 : Int) (n - e))) - (max (0 : Int) (n - c))) / (2 : Int)) := by
    exact Int.tdiv_eq_ediv_of_nonneg (by omega)
   show [DV.n ((max (0 : Int) (n - e)) + (Int.tdiv ((n - (max (0 : Int) (n - e))) - (max (0 : Int) (n - c))) (2 : Int))), DV.n (((max (0 : Int) (n - e)) + ((n - (max (0 : Int) (n - e))) - (max (0 : Int) (n - c)))) - (Int.tdiv ((n - (max (0 : Int) (n - e))) - (max (0 : Int) (n - c))) (2 : Int))), DV.n 0] = prR n c e
   unfold prR
   rw [if_neg (by omega), e2]
   try first | (congr 2; congr 1; omega) | (congr 2; congr 2; omega)
set_option maxRecDepth 100000 in
set_option maxHeartbeats 4000000 in
theorem cPrR_ok (N : Nat) (w0 : World) : ConOk Try.prog tb N w0 (cPr 20) := by
 refine con_of_walk (tb := tb) fine (C := []) (noCon) 60 rfl ?_ N w0
 refine fun n _ _ c _ _ e _ _ _ => ?_
 rw [tree_prR]
 show T.res _ (fun y => y = prR n c e) _ _
 refine res_ite (fun h1 => ?_) fun h1 => ?_
 · replace h1 := cvh (b := ((¬ (((0 : Int) ≤ c) ∧ (c ≤ (1073741824 : Int))) ∨ ¬ (((0 : Int) ≤ e) ∧ (e ≤ (1073741824 : Int)))) ∨ ¬ (((0 : Int) ≤ n) ∧ (n ≤ (c + e))))) (by kernel_rfl) h1
   show [DV.n 0, DV.n 0, DV.n 400] = prR n c e
   unfold prR
   rw [if_pos (by omega)]
 · replace h1 := cvh (b := ¬ ((¬ (((0 : Int) ≤ c) ∧ (c ≤ (1073741824 : Int))) ∨ ¬ (((0 : Int) ≤ e) ∧ (e ≤ (1073741824 : Int)))) ∨ ¬ (((0 : Int) ≤ n) ∧ (n ≤ (c + e))))) (by kernel_rfl) h1
   have e2 : (Int.tdiv ((n - (max (0 : Int) (n - e))) - (max (0 : Int) (n - c))) (2 : Int)) = (((n - (max (0 : Int) (n - e))) - (max (0 : Int) (n - c))) / (2 : Int)) := by
    exact Int.tdiv_eq_ediv_of_nonneg (by omega)
   have e3 : (Int.tdiv (((n - (max (0 : Int) (n - e))) - (max (0 : Int) (n - c))) + (1 : Int)) (2 : Int)) = ((((n - (max (0 : Int) (n - e))) - (max (0 : Int) (n - c))) + (1 : Int)) / (2 : Int)) := by
    exact Int.tdiv_eq_ediv_of_nonneg (by omega)
   show [DV.n ((max (0 : Int) (n - e)) + (Int.tdiv ((n - (max (0 : Int) (n - e))) - (max (0 : Int) (n - c))) (2 : Int))), DV.n ((max (0 : Int) (n - e)) + (Int.tdiv (((n - (max (0 : Int) (n - e))) - (max (0 : Int) (n - c))) + (1 : Int)) (2 : Int))), DV.n 0] = prR n c e
   unfold prR
   rw [if_neg (by omega), e3, e2]
   try first | (congr 2; congr 1; omega) | (congr 2; congr 2; omega)
end Go.Proofs.Ytcjdheaaddaagaa
