/- DERIVED. Checks and levels: their contracts. -/
import Derived.Test.YtcjdheaaddaagaaDgarb
import Derived.Test.YtcjdheaaddaagaaDtree
namespace Go.Proofs.Ytcjdheaaddaagaa
open Go.Dx
set_option linter.unusedVariables false
set_option linter.unusedSimpArgs false
theorem lit_succ {p : DV} {i : Int} (h0 : 0 ≤ i) (h : litP p i.toNat) (k : 0 ≤ p.at i 0 ∧ p.at i 0 ≤ 1073741824) : litP p (i + 1).toNat := fun j hj => by
  by_cases e : j = i.toNat
  · subst e; show 0 ≤ p.at _ 0 ∧ p.at _ 0 ≤ _; rw [Int.toNat_of_nonneg h0]; exact k
  · exact h j (by omega)
theorem lit_at {p : DV} {i : Int} {n : Nat} (h : litP p n) (h0 : 0 ≤ i) (h1 : i < n) : 0 ≤ p.at i 0 ∧ p.at i 0 ≤ 1073741824 := by
  have := h i.toNat (by omega)
  unfold el at this
  rwa [Int.toNat_of_nonneg h0] at this
theorem sum_next {f : Nat → Int} {i : Int} (h0 : 0 ≤ i) : sumN f (i + 1).toNat = sumN f i.toNat + f i.toNat := by rw [show (i + 1).toNat = i.toNat + 1 by omega]; rfl
theorem el_at (p : DV) {i : Int} (h0 : 0 ≤ i) : el p i.toNat = p.at i 0 := by unfold el; rw [Int.toNat_of_nonneg h0]
theorem sum_cap {f : Nat → Int} {n : Nat} (h : ∀ i, i < n → f i ≤ 1073741824) (k : n ≤ 664) : sumN f n ≤ 712964571136 := by
  have := sumN_bound h
  have : (n : Int) * 1073741824 ≤ 664 * 1073741824 := Int.mul_le_mul_of_nonneg_right (by omega) (by omega)
  omega
theorem nn_eq (p : DV) : ((nn p : Nat) : Int) = p.len := by unfold nn; have := len_nn p; omega
theorem chk_lim {est : Int} {p : DV} (h : 664 < p.len) : [DV.n 2] = [DV.n (chkF est p)] := by unfold chkF; rw [if_pos h]
theorem chk_bad {est : Int} {p : DV} (h : ¬ 664 < p.len) (k : ¬ (litP p (nn p) ∧ 0 ≤ est ∧ est ≤ sumN (el p) (nn p))) : [DV.n 400] = [DV.n (chkF est p)] := by unfold chkF; rw [if_neg h, if_neg k]
theorem chk_ok {est : Int} {p : DV} (h : ¬ 664 < p.len) (k : litP p (nn p) ∧ 0 ≤ est ∧ est ≤ sumN (el p) (nn p)) : [DV.n 0] = [DV.n (chkF est p)] := by unfold chkF; rw [if_neg h, if_pos k]
theorem chk_in {est : Int} {p : DV} (h : chkF est p = 0) : p.len ≤ 664 ∧ litP p (nn p) ∧ 0 ≤ est ∧ est ≤ sumN (el p) (nn p) := by
  unfold chkF at h
  split at h
  · cases h
  · split at h
    · rename_i h1 h2; exact ⟨by omega, h2⟩
    · cases h
theorem chk_three (est : Int) (p : DV) : chkF est p = 0 ∨ chkF est p = 2 ∨ chkF est p = 400 := by
  unfold chkF
  split
  · exact .inr (.inl rfl)
  · split
    · exact .inl rfl
    · exact .inr (.inr rfl)
theorem chk_est {est : Int} {p : DV} (h : chkF est p = 0) (k : est ≠ 0) : Est est (el p) (nn p) := by
  obtain ⟨h1, h2, h3, h4⟩ := chk_in h
  exact ⟨h2, by have := nn_eq p; omega, by omega, h4⟩
theorem cap_n {p : DV} {i : Int} (h : litP p i.toNat) (h0 : 0 ≤ i) (k : i ≤ 664) : 0 ≤ sumN (el p) i.toNat ∧ sumN (el p) i.toNat ≤ 712964571136 :=
  ⟨sumN_nn fun j hj => (h j hj).1, sum_cap (fun j hj => (h j hj).2) (by omega)⟩
set_option maxRecDepth 100000 in
set_option maxHeartbeats 4000000 in
theorem cChk_ok (N : Nat) (w0 : World) : ConOk Try.prog tb N w0 (cChk 22) := by
 refine con_of_walk (tb := tb) fine (C := [lChk 31 5 13]) (lopCons rfl noCon) 60 rfl ?_ N w0
 refine fun est _ _ p _ _ => ?_
 rw [tree_chk]
 show T.res _ (fun y => y = [.n (chkF est (.sl none 0 p))]) _ _
 refine res_ite (fun h1 => ?_) fun h1 => ?_
 · replace h1 := cvh (b := ((664 : Int) < (DV.sl none 0 p).len)) (by kernel_rfl) h1
   exact chk_lim (by omega)
 · replace h1 := cvh (b := ¬ ((664 : Int) < (DV.sl none 0 p).len)) (by kernel_rfl) h1
   refine res_lop_of rfl (P := (0 : Int) ≤ (DV.sl none 0 p).len ∧ litP (DV.sl none 0 p) ((0 : Int)).toNat ∧ (0 : Int) = sumN (el (DV.sl none 0 p)) ((0 : Int)).toNat) (by kernel_rfl) rfl (⟨len_nn _, fun i hi => absurd hi (Nat.not_lt_zero i), rfl⟩) (fun x2 x20 x21  x3 x30 x31 i4 => ?_)
   replace i4 := cvh (b := x3 ≤ (DV.sl none 0 p).len ∧ litP (DV.sl none 0 p) (x3).toNat ∧ x2 = sumN (el (DV.sl none 0 p)) (x3).toNat) (by kernel_rfl) i4
   obtain ⟨hi, hl, hs⟩ := i4
   have hc := cap_n hl x30 (by omega)
   have hn := sum_next (f := el (DV.sl none 0 p)) x30
   rw [el_at _ x30] at hn
   refine res_ite (fun h5 => ?_) fun h5 => ?_
   · replace h5 := cvh (b := (x3 < (DV.sl none 0 p).len)) (by kernel_rfl) h5
     refine res_ite (fun h6 => ?_) fun h6 => ?_
     · replace h6 := cvh (b := ¬ (((0 : Int) ≤ (DV.sl none 0 p).at (x3) 0) ∧ ((DV.sl none 0 p).at (x3) 0 ≤ (1073741824 : Int)))) (by kernel_rfl) h6
       exact chk_bad (by omega) fun q => h6 (lit_at q.1 x30 (by rw [nn_eq]; omega))
     · replace h6 := cvh (b := ¬ ¬ (((0 : Int) ≤ (DV.sl none 0 p).at (x3) 0) ∧ ((DV.sl none 0 p).at (x3) 0 ≤ (1073741824 : Int)))) (by kernel_rfl) h6
       refine res_ok (cvh (a := (((0 : Int) ≤ (x2 + (DV.sl none 0 p).at (x3) 0)) ∧ ((x2 + (DV.sl none 0 p).at (x3) 0) ≤ (1000000000000 : Int)))) (by kernel_rfl) (by have := Classical.not_not.1 h6; omega)) ?_
       exact res_chk_of rfl (P := (x3 + (1 : Int)) ≤ (DV.sl none 0 p).len ∧ litP (DV.sl none 0 p) ((x3 + (1 : Int))).toNat ∧ (x2 + (DV.sl none 0 p).at (x3) 0) = sumN (el (DV.sl none 0 p)) ((x3 + (1 : Int))).toNat) (a := ((DV.sl none 0 p).len - (x3 + (1 : Int))).toNat) (b := ((DV.sl none 0 p).len - x3).toNat) (by kernel_rfl) (by kernel_rfl) (by kernel_rfl) (⟨by omega, lit_succ x30 hl (Classical.not_not.1 h6), by rw [hn, ← hs]⟩) (by omega)
   · replace h5 := cvh (b := ¬ (x3 < (DV.sl none 0 p).len)) (by kernel_rfl) h5
     refine res_ite (fun h7 => ?_) fun h7 => ?_
     · replace h7 := cvh (b := ((est < (0 : Int)) ∨ (x2 < est))) (by kernel_rfl) h7
       have en : (DV.sl none 0 p).len.toNat = x3.toNat := by omega
       exact chk_bad (by omega) fun q => by
        have q3 := q.2
        unfold nn at q3
        rw [en, ← hs] at q3
        omega
     · replace h7 := cvh (b := ¬ ((est < (0 : Int)) ∨ (x2 < est))) (by kernel_rfl) h7
       have en : (DV.sl none 0 p).len.toNat = x3.toNat := by omega
       refine chk_ok (by omega) ?_
       unfold nn
       rw [en, ← hs]
       exact ⟨hl, by omega, by omega⟩
set_option maxRecDepth 100000 in
set_option maxHeartbeats 4000000 in
theorem cChkR_ok (N : Nat) (w0 : World) : ConOk Try.prog tb N w0 (cChk 26) := by
 refine con_of_walk (tb := tb) fine (C := [lChk 32 5 6]) (lopCons rfl noCon) 60 rfl ?_ N w0
 refine fun est _ _ p _ _ => ?_
 rw [tree_chkR]
 show T.res _ (fun y => y = [.n (chkF est (.sl none 0 p))]) _ _
 refine res_ite (fun h1 => ?_) fun h1 => ?_
 · replace h1 := cvh (b := ((664 : Int) < (DV.sl none 0 p).len)) (by kernel_rfl) h1
   exact chk_lim (by omega)
 · replace h1 := cvh (b := ¬ ((664 : Int) < (DV.sl none 0 p).len)) (by kernel_rfl) h1
   refine res_lop_of rfl (P := (0 : Int) ≤ (DV.sl none 0 p).len ∧ litP (DV.sl none 0 p) ((0 : Int)).toNat ∧ (0 : Int) = sumN (el (DV.sl none 0 p)) ((0 : Int)).toNat) (by kernel_rfl) rfl (⟨len_nn _, fun i hi => absurd hi (Nat.not_lt_zero i), rfl⟩) (fun x2 x20 x21  x3 x30 x31 i4 => ?_)
   replace i4 := cvh (b := x3 ≤ (DV.sl none 0 p).len ∧ litP (DV.sl none 0 p) (x3).toNat ∧ x2 = sumN (el (DV.sl none 0 p)) (x3).toNat) (by kernel_rfl) i4
   obtain ⟨hi, hl, hs⟩ := i4
   have hc := cap_n hl x30 (by omega)
   have hn := sum_next (f := el (DV.sl none 0 p)) x30
   rw [el_at _ x30] at hn
   refine res_ite (fun h5 => ?_) fun h5 => ?_
   · replace h5 := cvh (b := (x3 < (DV.sl none 0 p).len)) (by kernel_rfl) h5
     refine res_ite (fun h6 => ?_) fun h6 => ?_
     · replace h6 := cvh (b := ¬ (((0 : Int) ≤ (DV.sl none 0 p).at (x3) 0) ∧ ((DV.sl none 0 p).at (x3) 0 ≤ (1073741824 : Int)))) (by kernel_rfl) h6
       exact chk_bad (by omega) fun q => h6 (lit_at q.1 x30 (by rw [nn_eq]; omega))
     · replace h6 := cvh (b := ¬ ¬ (((0 : Int) ≤ (DV.sl none 0 p).at (x3) 0) ∧ ((DV.sl none 0 p).at (x3) 0 ≤ (1073741824 : Int)))) (by kernel_rfl) h6
       refine res_ok (cvh (a := (((0 : Int) ≤ (x2 + (DV.sl none 0 p).at (x3) 0)) ∧ ((x2 + (DV.sl none 0 p).at (x3) 0) ≤ (1000000000000 : Int)))) (by kernel_rfl) (by have := Classical.not_not.1 h6; omega)) ?_
       exact res_chk_of rfl (P := (x3 + (1 : Int)) ≤ (DV.sl none 0 p).len ∧ litP (DV.sl none 0 p) ((x3 + (1 : Int))).toNat ∧ (x2 + (DV.sl none 0 p).at (x3) 0) = sumN (el (DV.sl none 0 p)) ((x3 + (1 : Int))).toNat) (a := ((DV.sl none 0 p).len - (x3 + (1 : Int))).toNat) (b := ((DV.sl none 0 p).len - x3).toNat) (by kernel_rfl) (by kernel_rfl) (by kernel_rfl) (⟨by omega, lit_succ x30 hl (Classical.not_not.1 h6), by rw [hn, ← hs]⟩) (by omega)
   · replace h5 := cvh (b := ¬ (x3 < (DV.sl none 0 p).len)) (by kernel_rfl) h5
     refine res_ite (fun h7 => ?_) fun h7 => ?_
     · replace h7 := cvh (b := ¬ (((0 : Int) ≤ est) ∧ (est ≤ x2))) (by kernel_rfl) h7
       have en : (DV.sl none 0 p).len.toNat = x3.toNat := by omega
       exact chk_bad (by omega) fun q => by
        have q3 := q.2
        unfold nn at q3
        rw [en, ← hs] at q3
        omega
     · replace h7 := cvh (b := ¬ ¬ (((0 : Int) ≤ est) ∧ (est ≤ x2))) (by kernel_rfl) h7
       have en : (DV.sl none 0 p).len.toNat = x3.toNat := by omega
       refine chk_ok (by omega) ?_
       unfold nn
       rw [en, ← hs]
       exact ⟨hl, by omega, by omega⟩
set_option maxRecDepth 100000 in
set_option maxHeartbeats 4000000 in
theorem cHas_ok (N : Nat) (w0 : World) : ConOk Try.prog tb N w0 (cHas) := by
 refine con_of_walk (tb := tb) fine (C := []) (noCon) 60 rfl ?_ N w0
 refine fun c c0 c1 b b0 b1 l l0 l1 hp => ?_
 replace hp : 0 ≤ c ∧ c ≤ 1073741824 := hp
 rw [tree_has]
 show T.res _ (fun y => y = [.n (if hasF (!decide (b = 0)) l c then 1 else 0)]) _ _
 refine res_ite (fun h1 => ?_) fun h1 => ?_
 · replace h1 := cvh (b := ¬ (b = (0 : Int))) (by kernel_rfl) h1
   have e2 : (Int.tdiv c (2 : Int)) = (c / (2 : Int)) := by
    exact Int.tdiv_eq_ediv_of_nonneg (by omega)
   have e3 : (IntKind.i64.wrap (Int.tdiv c (2 : Int))) = (c / (2 : Int)) := by
    rw [e2]
    exact wI (by omega) (by omega)
   have e4 : (IntKind.i64.wrap (c - (IntKind.i64.wrap (Int.tdiv c (2 : Int))))) = (c - (c / (2 : Int))) := by
    rw [e3]
    exact wI (by omega) (by omega)
   refine res_ite (fun h5 => ?_) fun h5 => ?_
   · replace h5 := cvh (b := (l ≤ (IntKind.i64.wrap (c - (IntKind.i64.wrap (Int.tdiv c (2 : Int))))))) (by kernel_rfl) h5
     rw [e4] at h5
     have eb : (!decide (b = 0)) = true := by simp; omega
     rw [eb]
     exact yes (by unfold hasF lts; simp; omega)
   · replace h5 := cvh (b := ¬ (l ≤ (IntKind.i64.wrap (c - (IntKind.i64.wrap (Int.tdiv c (2 : Int))))))) (by kernel_rfl) h5
     rw [e4] at h5
     have eb : (!decide (b = 0)) = true := by simp; omega
     rw [eb]
     exact no (by unfold hasF lts; simp; omega)
 · replace h1 := cvh (b := ¬ ¬ (b = (0 : Int))) (by kernel_rfl) h1
   have e6 : (Int.tdiv c (2 : Int)) = (c / (2 : Int)) := by
    exact Int.tdiv_eq_ediv_of_nonneg (by omega)
   have e7 : (IntKind.i64.wrap (Int.tdiv c (2 : Int))) = (c / (2 : Int)) := by
    rw [e6]
    exact wI (by omega) (by omega)
   refine res_ite (fun h8 => ?_) fun h8 => ?_
   · replace h8 := cvh (b := (l ≤ (IntKind.i64.wrap (Int.tdiv c (2 : Int))))) (by kernel_rfl) h8
     rw [e7] at h8
     have eb : (!decide (b = 0)) = false := by simp; omega
     rw [eb]
     exact yes (by unfold hasF lts; simp; omega)
   · replace h8 := cvh (b := ¬ (l ≤ (IntKind.i64.wrap (Int.tdiv c (2 : Int))))) (by kernel_rfl) h8
     rw [e7] at h8
     have eb : (!decide (b = 0)) = false := by simp; omega
     rw [eb]
     exact no (by unfold hasF lts; simp; omega)
set_option maxRecDepth 100000 in
set_option maxHeartbeats 4000000 in
theorem cAh_ok (N : Nat) (w0 : World) : ConOk Try.prog tb N w0 (cAh) := by
 refine con_of_walk (tb := tb) fine (C := []) (noCon) 60 rfl ?_ N w0
 refine fun b b0 b1 c c0 c1 i _ _ d _ _ k _ _ _ => ?_
 rw [tree_ah]
 show T.res _ (fun y => y = [.n (if ahF (!decide (b = 0)) c i d k then 1 else 0)]) _ _
 refine res_ite (fun h1 => ?_) fun h1 => ?_
 · replace h1 := cvh (b := ¬ (b = (0 : Int))) (by kernel_rfl) h1
   refine res_ite (fun h2 => ?_) fun h2 => ?_
   · replace h2 := cvh (b := ((c < d) ∨ ((c = d) ∧ (k ≤ i)))) (by kernel_rfl) h2
     have eb : (!decide (b = 0)) = true := by simp; omega
     rw [eb]
     exact yes (by unfold ahF; simp; omega)
   · replace h2 := cvh (b := ¬ ((c < d) ∨ ((c = d) ∧ (k ≤ i)))) (by kernel_rfl) h2
     have eb : (!decide (b = 0)) = true := by simp; omega
     rw [eb]
     exact no (by unfold ahF; simp; omega)
 · replace h1 := cvh (b := ¬ ¬ (b = (0 : Int))) (by kernel_rfl) h1
   refine res_ite (fun h3 => ?_) fun h3 => ?_
   · replace h3 := cvh (b := ((d < c) ∨ ((c = d) ∧ (i ≤ k)))) (by kernel_rfl) h3
     have eb : (!decide (b = 0)) = false := by simp; omega
     rw [eb]
     exact yes (by unfold ahF; simp; omega)
   · replace h3 := cvh (b := ¬ ((d < c) ∨ ((c = d) ∧ (i ≤ k)))) (by kernel_rfl) h3
     have eb : (!decide (b = 0)) = false := by simp; omega
     rw [eb]
     exact no (by unfold ahF; simp; omega)
theorem to_one {b : Bool} {l c : Int} (hl : 0 ≤ l) (h0 : 0 ≤ c) (h1 : c ≤ 1073741824) : 0 ≤ tF b l c ∧ tF b l c ≤ 1073741825 := by unfold tF; cases b <;> simp <;> omega
theorem to_cap {b : Bool} {l : Int} {p : DV} {n : Nat} (hl : 0 ≤ l) (h : litP p n) (k : n ≤ 664) : 0 ≤ toF b l (el p) n ∧ toF b l (el p) n ≤ 712964571800 := by
  refine ⟨sumN_nn fun i hi => (to_one hl (h i hi).1 (h i hi).2).1, ?_⟩
  have := sumN_bound (f := fun i => tF b l (el p i)) (n := n) (b := 1073741825) fun i hi => (to_one hl (h i hi).1 (h i hi).2).2
  have h2 : (n : Int) * 1073741825 ≤ 664 * 1073741825 := Int.mul_le_mul_of_nonneg_right (by omega) (by omega)
  show sumN _ _ ≤ _
  omega
set_option maxRecDepth 100000 in
set_option maxHeartbeats 4000000 in
theorem cTo_ok (N : Nat) (w0 : World) : ConOk Try.prog tb N w0 (cTo 27) := by
 refine con_of_walk (tb := tb) fine (C := [lTo]) (lopCons rfl noCon) 60 rfl ?_ N w0
 refine fun p _ b b0 b1 l l0 l1 hp => ?_
 replace hp : vP (.sl none 0 p) := hp
 have hp1 : (DV.sl none 0 p).len ≤ 664 := hp.1
 rw [tree_to]
 show T.res _ (fun y => y = [.n (toF (!decide (b = 0)) l (el (.sl none 0 p)) (nn (.sl none 0 p)))]) _ _
 refine res_lop_of rfl (P := (0 : Int) ≤ (DV.sl none 0 p).len ∧ (0 : Int) = toF (!decide (b = 0)) (l) (el (DV.sl none 0 p)) ((0 : Int)).toNat) (by kernel_rfl) rfl (⟨len_nn _, rfl⟩) (fun x1 x10 x11  x2 x20 x21 i3 => ?_)
 replace i3 := cvh (b := x2 ≤ (DV.sl none 0 p).len ∧ x1 = toF (!decide (b = 0)) (l) (el (DV.sl none 0 p)) (x2).toNat) (by kernel_rfl) i3
 obtain ⟨hi, hs⟩ := i3
 have hc := to_cap (b := !decide (b = 0)) l0 (show litP (DV.sl none 0 p) x2.toNat from fun j hj => hp.2 j (by have := nn_eq (DV.sl none 0 p); omega)) (by omega)
 rw [← hs] at hc
 have hn := sum_next (f := fun j => tF (!decide (b = 0)) l (el (DV.sl none 0 p) j)) x20
 refine res_ite (fun h4 => ?_) fun h4 => ?_
 · replace h4 := cvh (b := (x2 < (DV.sl none 0 p).len)) (by kernel_rfl) h4
   have hk := lit_at hp.2 x20 (by rw [nn_eq]; omega)
   have hx : tF (!decide (b = 0)) l (el (DV.sl none 0 p) x2.toNat) = tF (!decide (b = 0)) l ((DV.sl none 0 p).at x2 0) := by rw [el_at _ x20]
   have hy := to_one (b := !decide (b = 0)) (l := l) l0 hk.1 hk.2
   refine res_ite (fun h5 => ?_) fun h5 => ?_
   · replace h5 := cvh (b := ¬ (b = (0 : Int))) (by kernel_rfl) h5
     have eb : (!decide (b = 0)) = true := by simp; omega
     have hz : tF (!decide (b = 0)) l ((DV.sl none 0 p).at x2 0) = ((DV.sl none 0 p).at x2 0) / 2 + max 0 (((DV.sl none 0 p).at x2 0) - ((DV.sl none 0 p).at x2 0) / 2 - l + 1) := by rw [eb]; unfold tF; simp
     have e6 : (Int.tdiv ((DV.sl none 0 p).at (x2) 0) (2 : Int)) = ((DV.sl none 0 p).at (x2) 0 / (2 : Int)) := by
      exact Int.tdiv_eq_ediv_of_nonneg (by omega)
     have e7 : (IntKind.i64.wrap (Int.tdiv ((DV.sl none 0 p).at (x2) 0) (2 : Int))) = ((DV.sl none 0 p).at (x2) 0 / (2 : Int)) := by
      rw [e6]
      exact wI (by omega) (by omega)
     have e8 : (IntKind.i64.wrap (x1 + (IntKind.i64.wrap (Int.tdiv ((DV.sl none 0 p).at (x2) 0) (2 : Int))))) = (x1 + ((DV.sl none 0 p).at (x2) 0 / (2 : Int))) := by
      rw [e7]
      exact wI (by omega) (by omega)
     have e9 : (IntKind.i64.wrap ((DV.sl none 0 p).at (x2) 0 - (IntKind.i64.wrap (Int.tdiv ((DV.sl none 0 p).at (x2) 0) (2 : Int))))) = ((DV.sl none 0 p).at (x2) 0 - ((DV.sl none 0 p).at (x2) 0 / (2 : Int))) := by
      rw [e7]
      exact wI (by omega) (by omega)
     have e10 : (IntKind.i64.wrap ((IntKind.i64.wrap ((DV.sl none 0 p).at (x2) 0 - (IntKind.i64.wrap (Int.tdiv ((DV.sl none 0 p).at (x2) 0) (2 : Int))))) - l)) = (((DV.sl none 0 p).at (x2) 0 - ((DV.sl none 0 p).at (x2) 0 / (2 : Int))) - l) := by
      rw [e9]
      exact wI (by omega) (by omega)
     have e11 : (IntKind.i64.wrap ((IntKind.i64.wrap ((IntKind.i64.wrap ((DV.sl none 0 p).at (x2) 0 - (IntKind.i64.wrap (Int.tdiv ((DV.sl none 0 p).at (x2) 0) (2 : Int))))) - l)) + (1 : Int))) = ((((DV.sl none 0 p).at (x2) 0 - ((DV.sl none 0 p).at (x2) 0 / (2 : Int))) - l) + (1 : Int)) := by
      rw [e10]
      exact wI (by omega) (by omega)
     have e12 : (IntKind.i64.wrap ((IntKind.i64.wrap (x1 + (IntKind.i64.wrap (Int.tdiv ((DV.sl none 0 p).at (x2) 0) (2 : Int))))) + (max (0 : Int) (IntKind.i64.wrap ((IntKind.i64.wrap ((IntKind.i64.wrap ((DV.sl none 0 p).at (x2) 0 - (IntKind.i64.wrap (Int.tdiv ((DV.sl none 0 p).at (x2) 0) (2 : Int))))) - l)) + (1 : Int)))))) = ((x1 + ((DV.sl none 0 p).at (x2) 0 / (2 : Int))) + (max (0 : Int) ((((DV.sl none 0 p).at (x2) 0 - ((DV.sl none 0 p).at (x2) 0 / (2 : Int))) - l) + (1 : Int)))) := by
      rw [e11, e8]
      exact wI (by omega) (by omega)
     refine res_ok (cvh (a := (((0 : Int) ≤ (IntKind.i64.wrap ((IntKind.i64.wrap (x1 + (IntKind.i64.wrap (Int.tdiv ((DV.sl none 0 p).at (x2) 0) (2 : Int))))) + (max (0 : Int) (IntKind.i64.wrap ((IntKind.i64.wrap ((IntKind.i64.wrap ((DV.sl none 0 p).at (x2) 0 - (IntKind.i64.wrap (Int.tdiv ((DV.sl none 0 p).at (x2) 0) (2 : Int))))) - l)) + (1 : Int))))))) ∧ ((IntKind.i64.wrap ((IntKind.i64.wrap (x1 + (IntKind.i64.wrap (Int.tdiv ((DV.sl none 0 p).at (x2) 0) (2 : Int))))) + (max (0 : Int) (IntKind.i64.wrap ((IntKind.i64.wrap ((IntKind.i64.wrap ((DV.sl none 0 p).at (x2) 0 - (IntKind.i64.wrap (Int.tdiv ((DV.sl none 0 p).at (x2) 0) (2 : Int))))) - l)) + (1 : Int)))))) ≤ (1000000000000 : Int)))) (by kernel_rfl) (by rw [e12]; omega)) ?_
     refine res_ok (cvh (a := (((0 : Int) ≤ (x2 + (1 : Int))) ∧ ((x2 + (1 : Int)) ≤ (664 : Int)))) (by kernel_rfl) (by omega)) ?_
     exact res_chk_of rfl (P := (x2 + (1 : Int)) ≤ (DV.sl none 0 p).len ∧ (IntKind.i64.wrap ((IntKind.i64.wrap (x1 + (IntKind.i64.wrap (Int.tdiv ((DV.sl none 0 p).at (x2) 0) (2 : Int))))) + (max (0 : Int) (IntKind.i64.wrap ((IntKind.i64.wrap ((IntKind.i64.wrap ((DV.sl none 0 p).at (x2) 0 - (IntKind.i64.wrap (Int.tdiv ((DV.sl none 0 p).at (x2) 0) (2 : Int))))) - l)) + (1 : Int)))))) = toF (!decide (b = 0)) (l) (el (DV.sl none 0 p)) ((x2 + (1 : Int))).toNat) (a := ((DV.sl none 0 p).len - (x2 + (1 : Int))).toNat) (b := ((DV.sl none 0 p).len - x2).toNat) (by kernel_rfl) (by kernel_rfl) (by kernel_rfl) (by rw [e12]; refine ⟨by omega, ?_⟩; show _ = sumN _ _; rw [hn, hx, hz]; show _ = toF _ _ _ _ + _; rw [← hs]; try omega) (by omega)
   · replace h5 := cvh (b := ¬ ¬ (b = (0 : Int))) (by kernel_rfl) h5
     have eb : (!decide (b = 0)) = false := by simp; omega
     have hz : tF (!decide (b = 0)) l ((DV.sl none 0 p).at x2 0) = max 0 (min (((DV.sl none 0 p).at x2 0) / 2) l) := by rw [eb]; unfold tF; simp
     have e13 : (Int.tdiv ((DV.sl none 0 p).at (x2) 0) (2 : Int)) = ((DV.sl none 0 p).at (x2) 0 / (2 : Int)) := by
      exact Int.tdiv_eq_ediv_of_nonneg (by omega)
     have e14 : (IntKind.i64.wrap (Int.tdiv ((DV.sl none 0 p).at (x2) 0) (2 : Int))) = ((DV.sl none 0 p).at (x2) 0 / (2 : Int)) := by
      rw [e13]
      exact wI (by omega) (by omega)
     refine res_ok (cvh (a := (((0 : Int) ≤ (x1 + (max (0 : Int) (min (IntKind.i64.wrap (Int.tdiv ((DV.sl none 0 p).at (x2) 0) (2 : Int))) l)))) ∧ ((x1 + (max (0 : Int) (min (IntKind.i64.wrap (Int.tdiv ((DV.sl none 0 p).at (x2) 0) (2 : Int))) l))) ≤ (1000000000000 : Int)))) (by kernel_rfl) (by rw [e14]; omega)) ?_
     refine res_ok (cvh (a := (((0 : Int) ≤ (x2 + (1 : Int))) ∧ ((x2 + (1 : Int)) ≤ (664 : Int)))) (by kernel_rfl) (by omega)) ?_
     exact res_chk_of rfl (P := (x2 + (1 : Int)) ≤ (DV.sl none 0 p).len ∧ (x1 + (max (0 : Int) (min (IntKind.i64.wrap (Int.tdiv ((DV.sl none 0 p).at (x2) 0) (2 : Int))) l))) = toF (!decide (b = 0)) (l) (el (DV.sl none 0 p)) ((x2 + (1 : Int))).toNat) (a := ((DV.sl none 0 p).len - (x2 + (1 : Int))).toNat) (b := ((DV.sl none 0 p).len - x2).toNat) (by kernel_rfl) (by kernel_rfl) (by kernel_rfl) (by rw [e14]; refine ⟨by omega, ?_⟩; show _ = sumN _ _; rw [hn, hx, hz]; show _ = toF _ _ _ _ + _; rw [← hs]; try omega) (by omega)
 · replace h4 := cvh (b := ¬ (x2 < (DV.sl none 0 p).len)) (by kernel_rfl) h4
   show [DV.n x1] = [DV.n (toF (!decide (b = 0)) l (el (DV.sl none 0 p)) (nn (DV.sl none 0 p)))]
   rw [hs]
   unfold nn
   rw [show (DV.sl none 0 p).len.toNat = x2.toNat by omega]
theorem lvl_up {est : Int} {c : Nat → Int} {n : Nat} {lo hi : Int} (h : LvL est c n lo hi) (k : lo < hi) (q : est ≤ toF true ((lo + hi + 1) / 2) c n) : LvL est c n ((lo + hi + 1) / 2) hi := by
  obtain ⟨h1, h2, h3, h4, h5⟩ := h
  exact ⟨by omega, by omega, h3, q, h5⟩
theorem lvl_dn {est : Int} {c : Nat → Int} {n : Nat} {lo hi : Int} (h : LvL est c n lo hi) (k : lo < hi) (q : ¬ est ≤ toF true ((lo + hi + 1) / 2) c n) : LvL est c n lo ((lo + hi + 1) / 2 - 1) := by
  obtain ⟨h1, h2, h3, h4, h5⟩ := h
  exact ⟨h1, by omega, by omega, h4, by rw [show (lo + hi + 1) / 2 - 1 + 1 = (lo + hi + 1) / 2 by omega]; omega⟩
set_option maxRecDepth 100000 in
set_option maxHeartbeats 4000000 in
theorem cLvl_ok (N : Nat) (w0 : World) : ConOk Try.prog tb N w0 (cLvl 28) := by
 refine con_of_walk (tb := tb) fine (C := [lLvl, cTo 27]) (lopCons rfl (conCons cTo_ok noCon)) 60 rfl ?_ N w0
 refine fun est _ _ p _ b b0 b1 hpre => ?_
 obtain ⟨hk, hz, hb⟩ : chkF est (.sl none 0 p) = 0 ∧ est ≠ 0 ∧ b = (if latF est (el (.sl none 0 p)) (nn (.sl none 0 p)) = true then 1 else 0) := hpre
 have he := chk_est hk hz
 have hv : vP (.sl none 0 p) := ⟨(chk_in hk).1, (chk_in hk).2.1⟩
 rw [tree_lvl]
 show T.res _ (fun y => y = [.n (lvF (latF est (el (.sl none 0 p)) (nn (.sl none 0 p))) est (el (.sl none 0 p)) (nn (.sl none 0 p)))]) _ _
 refine res_lop_of rfl (P := if b = 0 then LvI false (est) (el (DV.sl none 0 p)) (nn (DV.sl none 0 p)) ((1 : Int)) ((1073741824 : Int)) else LvL (est) (el (DV.sl none 0 p)) (nn (DV.sl none 0 p)) ((1 : Int)) ((1073741824 : Int))) (by kernel_rfl) rfl (by by_cases q : b = 0; (rw [if_pos q]; have := LvI.start he; rw [show latF est (el (DV.sl none 0 p)) (nn (DV.sl none 0 p)) = false by rw [hb] at q; simpa using q] at this; exact this); (rw [if_neg q]; exact LvL.start he (by rw [hb] at q; simpa using q))) (fun x1 x10 x11  x2 x20 x21 i3 => ?_)
 replace i3 := cvh (b := if b = 0 then LvI false (est) (el (DV.sl none 0 p)) (nn (DV.sl none 0 p)) (x1) (x2) else LvL (est) (el (DV.sl none 0 p)) (nn (DV.sl none 0 p)) (x1) (x2)) (by kernel_rfl) i3
 refine res_ite (fun h4 => ?_) fun h4 => ?_
 · replace h4 := cvh (b := (x1 < x2)) (by kernel_rfl) h4
   refine res_ite (fun h5 => ?_) fun h5 => ?_
   · replace h5 := cvh (b := ¬ (b = (0 : Int))) (by kernel_rfl) h5
     rw [if_neg (by omega)] at i3
     have hL := i3
     have hb1 : latF est (el (DV.sl none 0 p)) (nn (DV.sl none 0 p)) = true := by rw [hb] at h5; simpa using h5
     have e6 : (Int.tdiv ((x1 + x2) + (1 : Int)) (2 : Int)) = (((x1 + x2) + (1 : Int)) / (2 : Int)) := by
      exact Int.tdiv_eq_ediv_of_nonneg (by omega)
     refine res_con rfl (cvh (a := vP (DV.sl none 0 p)) (by kernel_rfl) (hv)) (fun y7 y70 y71 p8 => ?_)
     replace p8 := cvh (b := [DV.n y7] = [DV.n (toF (!decide ((1 : Int) = 0)) (Int.tdiv ((x1 + x2) + (1 : Int)) (2 : Int)) (el (DV.sl none 0 p)) (nn (DV.sl none 0 p)))]) (by kernel_rfl) p8
     rw [e6] at p8
     replace p8 := n_inj p8
     have hq : y7 = toF true ((((x1 + x2) + (1 : Int)) / (2 : Int))) (el (DV.sl none 0 p)) (nn (DV.sl none 0 p)) := p8
     refine res_ite (fun h9 => ?_) fun h9 => ?_
     · replace h9 := cvh (b := (est ≤ y7)) (by kernel_rfl) h9
       refine res_ok (cvh (a := (((1 : Int) ≤ (Int.tdiv ((x1 + x2) + (1 : Int)) (2 : Int))) ∧ ((Int.tdiv ((x1 + x2) + (1 : Int)) (2 : Int)) ≤ (1073741824 : Int)))) (by kernel_rfl) (by rw [e6]; omega)) ?_
       exact res_chk_of rfl (P := if b = 0 then LvI false (est) (el (DV.sl none 0 p)) (nn (DV.sl none 0 p)) ((Int.tdiv ((x1 + x2) + (1 : Int)) (2 : Int))) (x2) else LvL (est) (el (DV.sl none 0 p)) (nn (DV.sl none 0 p)) ((Int.tdiv ((x1 + x2) + (1 : Int)) (2 : Int))) (x2)) (a := (x2 - (Int.tdiv ((x1 + x2) + (1 : Int)) (2 : Int))).toNat) (b := (x2 - x1).toNat) (by kernel_rfl) (by kernel_rfl) (by kernel_rfl) (by rw [e6]; rw [if_neg (by omega)]; exact lvl_up hL (by omega) (by rw [← hq]; omega)) (by rw [e6]; omega)
     · replace h9 := cvh (b := ¬ (est ≤ y7)) (by kernel_rfl) h9
       refine res_ok (cvh (a := (((1 : Int) ≤ ((Int.tdiv ((x1 + x2) + (1 : Int)) (2 : Int)) - (1 : Int))) ∧ (((Int.tdiv ((x1 + x2) + (1 : Int)) (2 : Int)) - (1 : Int)) ≤ (1073741824 : Int)))) (by kernel_rfl) (by rw [e6]; omega)) ?_
       exact res_chk_of rfl (P := if b = 0 then LvI false (est) (el (DV.sl none 0 p)) (nn (DV.sl none 0 p)) (x1) (((Int.tdiv ((x1 + x2) + (1 : Int)) (2 : Int)) - (1 : Int))) else LvL (est) (el (DV.sl none 0 p)) (nn (DV.sl none 0 p)) (x1) (((Int.tdiv ((x1 + x2) + (1 : Int)) (2 : Int)) - (1 : Int)))) (a := (((Int.tdiv ((x1 + x2) + (1 : Int)) (2 : Int)) - (1 : Int)) - x1).toNat) (b := (x2 - x1).toNat) (by kernel_rfl) (by kernel_rfl) (by kernel_rfl) (by rw [e6]; rw [if_neg (by omega)]; exact lvl_dn hL (by omega) (by rw [← hq]; omega)) (by rw [e6]; omega)
   · replace h5 := cvh (b := ¬ ¬ (b = (0 : Int))) (by kernel_rfl) h5
     rw [if_pos (by omega)] at i3
     have hL := i3
     have e10 : (Int.tdiv (x1 + x2) (2 : Int)) = ((x1 + x2) / (2 : Int)) := by
      exact Int.tdiv_eq_ediv_of_nonneg (by omega)
     refine res_con rfl (cvh (a := vP (DV.sl none 0 p)) (by kernel_rfl) (hv)) (fun y11 y110 y111 p12 => ?_)
     replace p12 := cvh (b := [DV.n y11] = [DV.n (toF (!decide ((0 : Int) = 0)) (Int.tdiv (x1 + x2) (2 : Int)) (el (DV.sl none 0 p)) (nn (DV.sl none 0 p)))]) (by kernel_rfl) p12
     rw [e10] at p12
     replace p12 := n_inj p12
     have hq : y11 = toF false (((x1 + x2) / (2 : Int))) (el (DV.sl none 0 p)) (nn (DV.sl none 0 p)) := p12
     refine res_ite (fun h13 => ?_) fun h13 => ?_
     · replace h13 := cvh (b := (est ≤ y11)) (by kernel_rfl) h13
       refine res_ok (cvh (a := (((1 : Int) ≤ (Int.tdiv (x1 + x2) (2 : Int))) ∧ ((Int.tdiv (x1 + x2) (2 : Int)) ≤ (1073741824 : Int)))) (by kernel_rfl) (by rw [e10]; omega)) ?_
       exact res_chk_of rfl (P := if b = 0 then LvI false (est) (el (DV.sl none 0 p)) (nn (DV.sl none 0 p)) (x1) ((Int.tdiv (x1 + x2) (2 : Int))) else LvL (est) (el (DV.sl none 0 p)) (nn (DV.sl none 0 p)) (x1) ((Int.tdiv (x1 + x2) (2 : Int)))) (a := ((Int.tdiv (x1 + x2) (2 : Int)) - x1).toNat) (b := (x2 - x1).toNat) (by kernel_rfl) (by kernel_rfl) (by kernel_rfl) (by rw [e10]; rw [if_pos (by omega)]; exact hL.left (by omega) (by show PF _ _ _ _ _; unfold PF; simp; omega)) (by rw [e10]; omega)
     · replace h13 := cvh (b := ¬ (est ≤ y11)) (by kernel_rfl) h13
       exact res_chk_of rfl (P := if b = 0 then LvI false (est) (el (DV.sl none 0 p)) (nn (DV.sl none 0 p)) (((Int.tdiv (x1 + x2) (2 : Int)) + (1 : Int))) (x2) else LvL (est) (el (DV.sl none 0 p)) (nn (DV.sl none 0 p)) (((Int.tdiv (x1 + x2) (2 : Int)) + (1 : Int))) (x2)) (a := (x2 - ((Int.tdiv (x1 + x2) (2 : Int)) + (1 : Int))).toNat) (b := (x2 - x1).toNat) (by kernel_rfl) (by kernel_rfl) (by kernel_rfl) (by rw [e10]; rw [if_pos (by omega)]; exact hL.right (by omega) (by show ¬ PF _ _ _ _ _; unfold PF; simp; omega)) (by rw [e10]; omega)
 · replace h4 := cvh (b := ¬ (x1 < x2)) (by kernel_rfl) h4
   show [DV.n x1] = [DV.n (lvF (latF est (el (DV.sl none 0 p)) (nn (DV.sl none 0 p))) est (el (DV.sl none 0 p)) (nn (DV.sl none 0 p)))]
   cases hq : latF est (el (DV.sl none 0 p)) (nn (DV.sl none 0 p))
   · rw [if_pos (by rw [hb, hq]; rfl)] at i3
     have := LvI.lv he (by rw [hq]; exact i3) (by omega)
     rw [hq] at this
     rw [← this]
   · rw [if_neg (by rw [hb, hq]; decide)] at i3
     have := LvL.lv he hq i3 (by omega)
     rw [hq] at this
     rw [← this]
end Go.Proofs.Ytcjdheaaddaagaa
