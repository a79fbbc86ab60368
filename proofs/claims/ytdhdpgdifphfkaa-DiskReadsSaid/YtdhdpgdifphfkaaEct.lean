/- DERIVED. Contracts of functions of disk, proved. -/
import Derived.Test.YtdhdpgdifphfkaaEmath
import Derived.Test.YtdhdpgdifphfkaaEtree
namespace Go.Proofs.Ytdhdpgdifphfkaa
open Go.Dx
set_option linter.unusedVariables false
set_option linter.unusedSimpArgs false
theorem all_of {Q : List (List DV)} {mx : Nat} {row : List Sh} (h : HasSh (.sl mx row) (.sl none 0 Q)) (hm : mx ≤ 9223372036854775807) : (Q.take (DV.sl none 0 Q).len.toNat).drop 0 = Q := by
  rw [len_of h hm, List.drop_zero, Int.toNat_natCast, List.take_length]
theorem pad_as {D : List (List DV)} {n : Int} (h : n = min 128 (D.length : Int)) : numsOf ((D.take n.toNat).drop 0 ++ (((List.replicate (128 : Int).toNat [DV.n 0]).take (128 : Int).toNat).drop n.toNat)) = padL (numsOf D) := by
  unfold padL numsOf
  rw [List.map_append, List.drop_zero, List.map_take, List.map_drop, List.map_take, List.map_replicate, List.length_map]
  have e : (128 : Int).toNat = 128 := rfl
  rw [e, List.take_of_length_le (l := List.replicate 128 _) (by simp), List.drop_replicate]
  congr 1
  · rw [h]
    by_cases k : D.length ≤ 128
    · rw [List.take_of_length_le (by simp; omega), List.take_of_length_le (by simp; omega)]
    · rw [show (min 128 (D.length : Int)).toNat = 128 by omega]
  · congr 1
    rw [h]; omega
set_option maxRecDepth 100000 in
theorem cPad_ok (N : Nat) (w0 : World) : ConOk Try.prog tb N w0 (cPad 31) := by
  refine con_of_walk (tb := tb) fine (C := []) noCon 120 rfl ?_ N w0
  refine fun D hD _ => ?_
  have lD := len_of hD (Nat.le_refl _)
  rw [tree_pad]
  refine res_dat (.sl none 0 (List.replicate (128 : Int).toNat [.n 0])) (by kernel_rfl) ?_
  refine res_dat (.sl none 0 ((D.take (min 128 (DV.sl none 0 D).len).toNat).drop 0)) (by kernel_rfl) ?_
  refine res_dat (.sl none 0 (((List.replicate (128 : Int).toNat [.n 0]).take (128 : Int).toNat).drop (min 128 (DV.sl none 0 D).len).toNat)) (by kernel_rfl) ?_
  refine res_dat (.sl none 0 ((D.take (min 128 (DV.sl none 0 D).len).toNat).drop 0 ++ (((List.replicate (128 : Int).toNat [.n 0]).take (128 : Int).toNat).drop (min 128 (DV.sl none 0 D).len).toNat))) (by kernel_rfl) ?_
  exact cv (pad_as (D := D) (n := min 128 (DV.sl none 0 D).len) (by rw [lD])) (by kernel_rfl)
set_option maxRecDepth 100000 in
theorem cChk_ok (N : Nat) (w0 : World) : ConOk Try.prog tb N w0 (cChk 15) := by
  refine con_of_walk (tb := tb) fine (C := [lChk, lChk2]) (lopCons rfl (lopCons rfl noCon)) 120 rfl ?_ N w0
  refine fun S hS P hP l _ _ t _ _ _ => ?_
  have lS := len_of hS (Nat.le_refl _)
  have lP := len_of hP (Nat.le_refl _)
  have pS := secs_len S
  have pP := pens_len P
  rw [tree_chk]
  show T.res _ (fun y => y = [.n (chkF (secs (.sl none 0 S), pens (.sl none 0 P), l, t))]) _ _
  refine res_ite (fun h => chk_no fun ok => ?_) fun h => ?_
  · have h : ((((DV.sl none 0 S).len < 1 ∨ 4096 < (DV.sl none 0 S).len) ∨ 4096 < (DV.sl none 0 P).len) ∨ l < -1) ∨ 65536 < l := cv h (by kernel_rfl)
    have ok1 := ok.1.1
    have ok2 := ok.1.2.1
    have ok3 := ok.1.2.2
    simp only at ok1 ok2 ok3
    omega
  have h : ¬ (((((DV.sl none 0 S).len < 1 ∨ 4096 < (DV.sl none 0 S).len) ∨ 4096 < (DV.sl none 0 P).len) ∨ l < -1) ∨ 65536 < l) := cv h (by kernel_rfl)
  refine res_lop_of rfl (P := (0 : Int) ≤ (DV.sl none 0 S).len ∧ allS (secs (.sl none 0 S)) 0) (by kernel_rfl) rfl ⟨len_nn _, allS_0 _⟩ (fun i i0 i1 hI => ?_)
  obtain ⟨hi, hall⟩ := cv hI (by kernel_rfl : _ = (i ≤ (DV.sl none 0 S).len ∧ allS (secs (.sl none 0 S)) i))
  have i0 : 0 ≤ i := i0
  refine res_ite (fun hlt => ?_) fun hge => ?_
  · have hlt : i < (DV.sl none 0 S).len := cv hlt (by kernel_rfl)
    obtain ⟨e1, e2⟩ := sec_at hS i0 (by omega)
    have l2 := bytes_len e2
    refine res_ite (fun k => chk_no fun ok => ?_) fun k => ?_
    · have k : ¬ ((DV.sl none 0 S).cell i 0).len = 128 := cv k (by kernel_rfl)
      have := ok.2.1 _ (getD_in [] (show i.toNat < (secs (.sl none 0 S)).length by omega))
      rw [e1] at this
      omega
    · have k : ¬ ¬ ((DV.sl none 0 S).cell i 0).len = 128 := cv k (by kernel_rfl)
      exact res_chk_of rfl (P := i + 1 ≤ (DV.sl none 0 S).len ∧ allS (secs (.sl none 0 S)) (i + 1)) (a := ((DV.sl none 0 S).len - (i + 1)).toNat) (b := ((DV.sl none 0 S).len - i).toNat) (by kernel_rfl) (by kernel_rfl) (by kernel_rfl) ⟨by omega, allS_next i0 (by omega) hall (by rw [e1]; omega)⟩ (by omega)
  have hge : ¬ i < (DV.sl none 0 S).len := cv hge (by kernel_rfl)
  refine res_lop_of rfl (P := (0 : Int) ≤ (DV.sl none 0 P).len ∧ allW (secs (.sl none 0 S)) (pens (.sl none 0 P)) 0) (by kernel_rfl) rfl ⟨len_nn _, allW_0 _ _⟩ (fun j j0 j1 hJ => ?_)
  obtain ⟨hj, hallW⟩ := cv hJ (by kernel_rfl : _ = (j ≤ (DV.sl none 0 P).len ∧ allW (secs (.sl none 0 S)) (pens (.sl none 0 P)) j))
  have j0 : 0 ≤ j := j0
  refine res_ite (fun hlt => ?_) fun hge2 => ?_
  · have hlt : j < (DV.sl none 0 P).len := cv hlt (by kernel_rfl)
    obtain ⟨e1, e2⟩ := pen_at hP j0 (by omega)
    have l2 := bytes_len e2
    refine res_ite (fun k => chk_no fun ok => ?_) fun k => ?_
    · have k : ¬ (0 ≤ (DV.sl none 0 P).at j 0 ∧ (DV.sl none 0 P).at j 0 < (DV.sl none 0 S).len) ∨ ¬ ((DV.sl none 0 P).cell j 1).len = 128 := cv k (by kernel_rfl)
      have := ok.2.2 _ (getD_in (0, []) (show j.toNat < (pens (.sl none 0 P)).length by omega))
      rw [e1] at this
      unfold inD at this
      simp only at this
      omega
    · have k : ¬ (¬ (0 ≤ (DV.sl none 0 P).at j 0 ∧ (DV.sl none 0 P).at j 0 < (DV.sl none 0 S).len) ∨ ¬ ((DV.sl none 0 P).cell j 1).len = 128) := cv k (by kernel_rfl)
      refine res_chk_of rfl (P := j + 1 ≤ (DV.sl none 0 P).len ∧ allW (secs (.sl none 0 S)) (pens (.sl none 0 P)) (j + 1)) (a := ((DV.sl none 0 P).len - (j + 1)).toNat) (b := ((DV.sl none 0 P).len - j).toNat) (by kernel_rfl) (by kernel_rfl) (by kernel_rfl) ⟨by omega, allW_next j0 (by omega) hallW ?_⟩ (by omega)
      rw [e1]
      simp only
      omega
  · have hge2 : ¬ j < (DV.sl none 0 P).len := cv hge2 (by kernel_rfl)
    exact chk_yes (ok_all (by omega) hall (by omega) hallW (by omega))
set_option maxRecDepth 100000 in
theorem cChkR_ok (N : Nat) (w0 : World) : ConOk Try.prog tb N w0 (cChk 16) := by
  refine con_of_walk (tb := tb) fine (C := [lChkR, lChkR2]) (lopCons rfl (lopCons rfl noCon)) 120 rfl ?_ N w0
  refine fun S hS P hP l _ _ t _ _ _ => ?_
  have lS := len_of hS (Nat.le_refl _)
  have lP := len_of hP (Nat.le_refl _)
  have pS := secs_len S
  have pP := pens_len P
  rw [tree_chkR]
  show T.res _ (fun y => y = [.n (chkF (secs (.sl none 0 S), pens (.sl none 0 P), l, t))]) _ _
  refine res_ite (fun h => chk_no fun ok => ?_) fun h => ?_
  · have h : ((((DV.sl none 0 S).len < 1 ∨ 4096 < (DV.sl none 0 S).len) ∨ 4096 < (DV.sl none 0 P).len) ∨ l < -1) ∨ 65536 < l := cv h (by kernel_rfl)
    have ok1 := ok.1.1
    have ok2 := ok.1.2.1
    have ok3 := ok.1.2.2
    simp only at ok1 ok2 ok3
    omega
  have h : ¬ (((((DV.sl none 0 S).len < 1 ∨ 4096 < (DV.sl none 0 S).len) ∨ 4096 < (DV.sl none 0 P).len) ∨ l < -1) ∨ 65536 < l) := cv h (by kernel_rfl)
  refine res_lop_of rfl (P := (0 : Int) ≤ (DV.sl none 0 S).len ∧ allS (secs (.sl none 0 S)) 0) (by kernel_rfl) rfl ⟨len_nn _, allS_0 _⟩ (fun i i0 i1 hI => ?_)
  obtain ⟨hi, hall⟩ := cv hI (by kernel_rfl : _ = (i ≤ (DV.sl none 0 S).len ∧ allS (secs (.sl none 0 S)) i))
  have i0 : 0 ≤ i := i0
  refine res_ite (fun hlt => ?_) fun hge => ?_
  · have hlt : i < (DV.sl none 0 S).len := cv hlt (by kernel_rfl)
    obtain ⟨e1, e2⟩ := sec_at hS i0 (by omega)
    have l2 := bytes_len e2
    refine res_ite (fun k => chk_no fun ok => ?_) fun k => ?_
    · have k : ¬ ((DV.sl none 0 S).cell i 0).len = 128 := cv k (by kernel_rfl)
      have := ok.2.1 _ (getD_in [] (show i.toNat < (secs (.sl none 0 S)).length by omega))
      rw [e1] at this
      omega
    · have k : ¬ ¬ ((DV.sl none 0 S).cell i 0).len = 128 := cv k (by kernel_rfl)
      exact res_chk_of rfl (P := i + 1 ≤ (DV.sl none 0 S).len ∧ allS (secs (.sl none 0 S)) (i + 1)) (a := ((DV.sl none 0 S).len - (i + 1)).toNat) (b := ((DV.sl none 0 S).len - i).toNat) (by kernel_rfl) (by kernel_rfl) (by kernel_rfl) ⟨by omega, allS_next i0 (by omega) hall (by rw [e1]; omega)⟩ (by omega)
  have hge : ¬ i < (DV.sl none 0 S).len := cv hge (by kernel_rfl)
  refine res_lop_of rfl (P := (0 : Int) ≤ (DV.sl none 0 P).len ∧ allW (secs (.sl none 0 S)) (pens (.sl none 0 P)) 0) (by kernel_rfl) rfl ⟨len_nn _, allW_0 _ _⟩ (fun j j0 j1 hJ => ?_)
  obtain ⟨hj, hallW⟩ := cv hJ (by kernel_rfl : _ = (j ≤ (DV.sl none 0 P).len ∧ allW (secs (.sl none 0 S)) (pens (.sl none 0 P)) j))
  have j0 : 0 ≤ j := j0
  refine res_ite (fun hlt => ?_) fun hge2 => ?_
  · have hlt : j < (DV.sl none 0 P).len := cv hlt (by kernel_rfl)
    obtain ⟨e1, e2⟩ := pen_at hP j0 (by omega)
    have l2 := bytes_len e2
    refine res_ite (fun k => chk_no fun ok => ?_) fun k => ?_
    · have k : ((DV.sl none 0 P).at j 0 < 0 ∨ (DV.sl none 0 S).len ≤ (DV.sl none 0 P).at j 0) ∨ ¬ ((DV.sl none 0 P).cell j 1).len = 128 := cv k (by kernel_rfl)
      have := ok.2.2 _ (getD_in (0, []) (show j.toNat < (pens (.sl none 0 P)).length by omega))
      rw [e1] at this
      unfold inD at this
      simp only at this
      omega
    · have k : ¬ (((DV.sl none 0 P).at j 0 < 0 ∨ (DV.sl none 0 S).len ≤ (DV.sl none 0 P).at j 0) ∨ ¬ ((DV.sl none 0 P).cell j 1).len = 128) := cv k (by kernel_rfl)
      refine res_chk_of rfl (P := j + 1 ≤ (DV.sl none 0 P).len ∧ allW (secs (.sl none 0 S)) (pens (.sl none 0 P)) (j + 1)) (a := ((DV.sl none 0 P).len - (j + 1)).toNat) (b := ((DV.sl none 0 P).len - j).toNat) (by kernel_rfl) (by kernel_rfl) (by kernel_rfl) ⟨by omega, allW_next j0 (by omega) hallW ?_⟩ (by omega)
      rw [e1]
      simp only
      omega
  · have hge2 : ¬ j < (DV.sl none 0 P).len := cv hge2 (by kernel_rfl)
    exact chk_yes (ok_all (by omega) hall (by omega) hallW (by omega))
set_option maxRecDepth 100000 in
theorem cRun_ok (N : Nat) (w0 : World) : ConOk Try.prog tb N w0 (cRun 30) := by
  refine con_of_walk (tb := tb) fine (C := [cChk 15]) (conCons cChk_ok noCon) 120 rfl ?_ N w0
  refine fun S hS P hP l _ _ t _ _ _ => ?_
  rw [tree_run]
  show T.res _ (fun y => y = yn (runD (secs (.sl none 0 S), pens (.sl none 0 P), l, t))) _ _
  refine res_con rfl trivial (fun e _ _ he => ?_)
  have he := chk_in (cv he (by kernel_rfl : _ = ([DV.n e] = [.n (chkF (secs (.sl none 0 S), pens (.sl none 0 P), l, t))])))
  refine res_ite (fun h => yes ?_) fun h => no fun k => h ?_
  · have h : e = 0 ∧ t = 0 := cv h (by kernel_rfl)
    exact ⟨(he.resolve_right fun m => by omega).2, h.2⟩
  · exact cv (⟨(he.resolve_right fun m => m.2 k.1).1, k.2⟩ : e = 0 ∧ t = 0) (by kernel_rfl)
theorem nil_d4 : d4 [DV.sl none 0 [], .sl none 0 [], .n 0, .n 0] 0 = nil4 := rfl
set_option maxRecDepth 100000 in
theorem cStop_ok (N : Nat) (w0 : World) : ConOk Try.prog tb N w0 (cStop 25) := by
  refine con_of_walk (tb := tb) fine (C := [cRun 30]) (conCons cRun_ok noCon) 120 rfl ?_ N w0
  refine fun S hS P hP l _ _ t _ _ m _ _ _ => ?_
  rw [tree_stop]
  show T.res _ (fun y => (d4 y 0, gi y 4) = stopQ (secs (.sl none 0 S), pens (.sl none 0 P), l, t) m) _ _
  refine res_con rfl trivial (fun e _ _ he => ?_)
  have he := yn_01 (cv he (by kernel_rfl : _ = ([DV.n e] = yn (runD (secs (.sl none 0 S), pens (.sl none 0 P), l, t)))))
  refine res_ite (fun h => ?_) fun h => ?_
  · have h : e = 0 := cv h (by kernel_rfl)
    refine res_dat (.sl none 0 []) rfl (res_dat (.sl none 0 []) rfl ?_)
    exact cv (stop_no (he.resolve_left fun m => by omega).2) (by kernel_rfl : (((nil4, 40) : D4 × Int) = stopQ (secs (.sl none 0 S), pens (.sl none 0 P), l, t) m) = _)
  · have h : ¬ e = 0 := cv h (by kernel_rfl)
    have run := (he.resolve_right fun m => h m.1).2
    refine res_ite (fun k => ?_) fun k => ?_
    · have k : m < 0 ∨ 65536 < m := cv k (by kernel_rfl)
      refine res_dat (.sl none 0 []) rfl (res_dat (.sl none 0 []) rfl ?_)
      exact cv (stop_arg run fun n => by omega) (by kernel_rfl : (((nil4, 1) : D4 × Int) = stopQ (secs (.sl none 0 S), pens (.sl none 0 P), l, t) m) = _)
    · have k : ¬ (m < 0 ∨ 65536 < m) := cv k (by kernel_rfl)
      exact cv (stop_yes run (by omega)) (by kernel_rfl : ((((secs (.sl none 0 S), pens (.sl none 0 P), m, t), 0) : D4 × Int) = stopQ (secs (.sl none 0 S), pens (.sl none 0 P), l, t) m) = _)
set_option maxRecDepth 100000 in
theorem cStopR_ok (N : Nat) (w0 : World) : ConOk Try.prog tb N w0 (cStop 26) := by
  refine con_of_walk (tb := tb) fine (C := [cChk 16]) (conCons cChkR_ok noCon) 120 rfl ?_ N w0
  refine fun S hS P hP l _ _ t _ _ m _ _ _ => ?_
  rw [tree_stopR]
  show T.res _ (fun y => (d4 y 0, gi y 4) = stopQ (secs (.sl none 0 S), pens (.sl none 0 P), l, t) m) _ _
  refine res_con rfl trivial (fun e _ _ he => ?_)
  have he := chk_in (cv he (by kernel_rfl : _ = ([DV.n e] = [.n (chkF (secs (.sl none 0 S), pens (.sl none 0 P), l, t))])))
  refine res_ite (fun h => ?_) fun h => ?_
  · have h : ¬ e = 0 ∨ ¬ t = 0 := cv h (by kernel_rfl)
    refine res_dat (.sl none 0 []) rfl (res_dat (.sl none 0 []) rfl ?_)
    refine cv (stop_no fun r => ?_) (by kernel_rfl : (((nil4, 40) : D4 × Int) = stopQ (secs (.sl none 0 S), pens (.sl none 0 P), l, t) m) = _)
    rcases h with h | h
    · exact h (he.resolve_right fun m => m.2 r.1).1
    · exact h r.2
  · have h : ¬ (¬ e = 0 ∨ ¬ t = 0) := cv h (by kernel_rfl)
    have run : runD (secs (.sl none 0 S), pens (.sl none 0 P), l, t) := ⟨(he.resolve_right fun m => h (.inl (by omega))).2, Classical.byContradiction fun x => h (.inr x)⟩
    refine res_ite (fun k => ?_) fun k => ?_
    · have k : m < 0 ∨ 65536 < m := cv k (by kernel_rfl)
      refine res_dat (.sl none 0 []) rfl (res_dat (.sl none 0 []) rfl ?_)
      exact cv (stop_arg run fun n => by omega) (by kernel_rfl : (((nil4, 1) : D4 × Int) = stopQ (secs (.sl none 0 S), pens (.sl none 0 P), l, t) m) = _)
    · have k : ¬ (m < 0 ∨ 65536 < m) := cv k (by kernel_rfl)
      exact cv (stop_yes run (by omega)) (by kernel_rfl : ((((secs (.sl none 0 S), pens (.sl none 0 P), m, t), 0) : D4 × Int) = stopQ (secs (.sl none 0 S), pens (.sl none 0 P), l, t) m) = _)
set_option maxRecDepth 100000 in
theorem cRes_ok (N : Nat) (w0 : World) : ConOk Try.prog tb N w0 (cRes 17) := by
  refine con_of_walk (tb := tb) fine (C := []) noCon 120 rfl ?_ N w0
  refine fun S hS P hP l _ _ t _ _ _ => ?_
  rw [tree_res]
  refine res_dat (.sl none 0 []) rfl ?_
  exact cv rfl (by kernel_rfl : (resQ (secs (.sl none 0 S), pens (.sl none 0 P), l, t) = resQ (secs (.sl none 0 S), pens (.sl none 0 P), l, t)) = _)
set_option maxRecDepth 100000 in
theorem cResR_ok (N : Nat) (w0 : World) : ConOk Try.prog tb N w0 (cRes 18) := by
  refine con_of_walk (tb := tb) fine (C := []) noCon 120 rfl ?_ N w0
  refine fun S hS P hP l _ _ t _ _ _ => ?_
  rw [tree_resR]
  refine res_dat (.sl none 0 []) rfl ?_
  exact cv rfl (by kernel_rfl : (resQ (secs (.sl none 0 S), pens (.sl none 0 P), l, t) = resQ (secs (.sl none 0 S), pens (.sl none 0 P), l, t)) = _)
end Go.Proofs.Ytdhdpgdifphfkaa
