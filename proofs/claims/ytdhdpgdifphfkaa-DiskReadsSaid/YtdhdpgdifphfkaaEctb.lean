/- DERIVED. Reading and writing: the contracts, proved. -/
import Derived.Test.YtdhdpgdifphfkaaEct
import Derived.Test.YtdhdpgdifphfkaaEtreeb
namespace Go.Proofs.Ytdhdpgdifphfkaa
open Go.Dx
set_option linter.unusedVariables false
set_option linter.unusedSimpArgs false
set_option maxRecDepth 100000 in
theorem cFew_ok (N : Nat) (w0 : World) : ConOk Try.prog tb N w0 (cFew 11) := by
  refine con_of_walk (tb := tb) fine (C := [lFew, lFew2]) (lopCons rfl (lopCons rfl noCon)) 120 rfl ?_ N w0
  refine fun S hS P hP l _ _ t _ _ _ => ?_
  rw [tree_few]
  refine res_lop_of rfl (P := (0 : Int) ≤ (DV.sl none 0 S).len) (by kernel_rfl) rfl (len_nn _) (fun c c0 c1 i i0 i1 hI => ?_)
  have hI : i ≤ (DV.sl none 0 S).len := cv hI (by kernel_rfl)
  refine res_ite (fun h => ?_) fun _ => ?_
  · have h : i < (DV.sl none 0 S).len ∧ c ≤ 9000 := cv h (by kernel_rfl)
    exact res_chk_of rfl (P := i + 1 ≤ (DV.sl none 0 S).len) (a := ((DV.sl none 0 S).len - (i + 1)).toNat) (b := ((DV.sl none 0 S).len - i).toNat) (by kernel_rfl) (by kernel_rfl) (by kernel_rfl) (by omega) (by omega)
  refine res_lop_of rfl (P := (0 : Int) ≤ (DV.sl none 0 P).len) (by kernel_rfl) rfl (len_nn _) (fun d d0 d1 j j0 j1 hJ => ?_)
  have hJ : j ≤ (DV.sl none 0 P).len := cv hJ (by kernel_rfl)
  refine res_ite (fun h => ?_) fun _ => ?_
  · have h : j < (DV.sl none 0 P).len ∧ d ≤ 9000 := cv h (by kernel_rfl)
    exact res_chk_of rfl (P := j + 1 ≤ (DV.sl none 0 P).len) (a := ((DV.sl none 0 P).len - (j + 1)).toNat) (b := ((DV.sl none 0 P).len - j).toNat) (by kernel_rfl) (by kernel_rfl) (by kernel_rfl) (by omega) (by omega)
  exact res_ite (fun _ => trivial) fun _ => trivial
set_option maxRecDepth 100000 in
theorem cRead_ok (N : Nat) (w0 : World) : ConOk Try.prog tb N w0 (cRead 21) := by
  refine con_of_walk (tb := tb) fine (C := [cRun 30, cPad 31, lRead]) (conCons cRun_ok (conCons cPad_ok (lopCons rfl noCon))) 120 rfl ?_ N w0
  refine fun S hS P hP l _ _ t _ _ k _ _ _ => ?_
  have lS := len_of hS (Nat.le_refl _)
  have lP := len_of hP (Nat.le_refl _)
  have pS := secs_len S
  have pP := pens_len P
  rw [tree_read]
  show T.res _ (fun y => (bys (gd y 0), gi y 1) = readQ (secs (.sl none 0 S), pens (.sl none 0 P), l, t) k) _ _
  refine res_con rfl trivial (fun e _ _ he => ?_)
  have he := yn_01 (cv he (by kernel_rfl : _ = ([DV.n e] = yn (runD (secs (.sl none 0 S), pens (.sl none 0 P), l, t)))))
  refine res_ite (fun h => ?_) fun h => ?_
  · have h : e = 0 ∨ ¬ (0 ≤ k ∧ k < (DV.sl none 0 S).len) := cv h (by kernel_rfl)
    refine res_dat (.sl none 0 []) rfl ?_
    refine cv (read_no fun m => ?_) (by kernel_rfl : ((([], 40) : List Int × Int) = readQ (secs (.sl none 0 S), pens (.sl none 0 P), l, t) k) = _)
    have m2 := m.2
    unfold inD at m2
    simp only at m2
    rcases h with h | h
    · exact (he.resolve_left fun n => by omega).2 m.1
    · omega
  have h : ¬ (e = 0 ∨ ¬ (0 ≤ k ∧ k < (DV.sl none 0 S).len)) := cv h (by kernel_rfl)
  have run := (he.resolve_right fun m => h (.inl m.1)).2
  have hk : 0 ≤ k ∧ k < (DV.sl none 0 S).len := by omega
  have hin : inD (secs (.sl none 0 S), pens (.sl none 0 P), l, t) k := by unfold inD; simp only; omega
  have hlen := run.1.2.2
  simp only at hlen
  obtain ⟨s1, s2⟩ := sec_at hS hk.1 (by omega)
  have hsl := run.1.2.1 _ (getD_in [] (show k.toNat < (secs (.sl none 0 S)).length by omega))
  refine res_lop_of rfl (P := (DV.sl none 0 P).len - 1 < (DV.sl none 0 P).len ∧ ∀ x ∈ (pens (.sl none 0 P)).drop ((DV.sl none 0 P).len - 1 + 1).toNat, x.1 ≠ k) (by kernel_rfl) rfl ⟨by omega, fun x hx => by
    rw [List.drop_of_length_le (by omega)] at hx; cases hx⟩ (fun i i0 i1 hI => ?_)
  obtain ⟨hi, hI⟩ := cv hI (by kernel_rfl : _ = (i < (DV.sl none 0 P).len ∧ ∀ x ∈ (pens (.sl none 0 P)).drop (i + 1).toNat, x.1 ≠ k))
  have i0 : -1 ≤ i := i0
  refine res_ite (fun hp => ?_) fun hp => ?_
  · have hp : 0 ≤ i := cv hp (by kernel_rfl)
    refine res_ok (cv (⟨hp, hi⟩ : 0 ≤ i ∧ i < (DV.sl none 0 P).len) (by kernel_rfl)) ?_
    obtain ⟨e1, e2⟩ := pen_at hP hp (by omega)
    have hpl := (hlen _ (getD_in (0, []) (show i.toNat < (pens (.sl none 0 P)).length by omega))).2
    refine res_ite (fun hk2 => ?_) fun hk2 => ?_
    · have hk2 : (DV.sl none 0 P).at i 0 = k := cv hk2 (by kernel_rfl)
      refine res_dat (.sl none 0 ((((DV.sl none 0 P).cell i 1).els.take ((DV.sl none 0 P).cell i 1).len.toNat).drop 0)) (by kernel_rfl) ?_
      rw [sub_all e2]
      refine res_con rfl trivial (fun z hz hw => ?_)
      have hw := cv hw (by kernel_rfl : _ = (numsOf z = padL (bys ((DV.sl none 0 P).cell i 1))))
      refine cv (?_ : ((numsOf z, 0) : List Int × Int) = readQ (secs (.sl none 0 S), pens (.sl none 0 P), l, t) k) (by kernel_rfl)
      rw [e1] at hpl
      rw [← read_yes ⟨run, hin⟩, hw, pad_id hpl, last_hit hp (by omega) hI (by rw [e1]; exact hk2), e1]
    · have hk2 : ¬ (DV.sl none 0 P).at i 0 = k := cv hk2 (by kernel_rfl)
      refine res_chk_of rfl (P := i - 1 < (DV.sl none 0 P).len ∧ ∀ x ∈ (pens (.sl none 0 P)).drop (i - 1 + 1).toNat, x.1 ≠ k) (a := (i - 1 + 1).toNat) (b := (i + 1).toNat) (by kernel_rfl) (by kernel_rfl) (by kernel_rfl) ⟨by omega, fun x hx => ?_⟩ (by omega)
      rw [show i - 1 + 1 = i by omega, drop_next (0, []) hp (by omega)] at hx
      rcases List.mem_cons.1 hx with hx | hx
      · rw [hx, e1]; exact hk2
      · exact hI x hx
  · have hp : ¬ 0 ≤ i := cv hp (by kernel_rfl)
    refine res_dat (.sl none 0 ((((DV.sl none 0 S).cell k 0).els.take ((DV.sl none 0 S).cell k 0).len.toNat).drop 0)) (by kernel_rfl) ?_
    rw [sub_all s2]
    refine res_con rfl trivial (fun z hz hw => ?_)
    have hw := cv hw (by kernel_rfl : _ = (numsOf z = padL (bys ((DV.sl none 0 S).cell k 0))))
    refine cv (?_ : ((numsOf z, 0) : List Int × Int) = readQ (secs (.sl none 0 S), pens (.sl none 0 P), l, t) k) (by kernel_rfl)
    rw [s1] at hsl
    rw [show (i + 1).toNat = 0 by omega, List.drop_zero] at hI
    rw [← read_yes ⟨run, hin⟩, hw, pad_id hsl, last_none k _ _ hI, s1]
theorem run_of {d : D4} {e : Int} (he : (e = 0 ∧ okD d) ∨ (e = 40 ∧ ¬ okD d)) (h : e = 0) (k : d.2.2.2 = 0) : runD d := ⟨(he.resolve_right fun m => by omega).2, k⟩
set_option maxRecDepth 100000 in
theorem cReadR_ok (N : Nat) (w0 : World) : ConOk Try.prog tb N w0 (cRead 22) := by
  refine con_of_walk (tb := tb) fine (C := [cChk 16, lReadR]) (conCons cChkR_ok (lopCons rfl noCon)) 120 rfl ?_ N w0
  refine fun S hS P hP l _ _ t _ _ k _ _ _ => ?_
  have lS := len_of hS (Nat.le_refl _)
  have lP := len_of hP (Nat.le_refl _)
  have pS := secs_len S
  have pP := pens_len P
  rw [tree_readR]
  show T.res _ (fun y => (bys (gd y 0), gi y 1) = readQ (secs (.sl none 0 S), pens (.sl none 0 P), l, t) k) _ _
  refine res_con rfl trivial (fun e _ _ he => ?_)
  have he := chk_in (cv he (by kernel_rfl : _ = ([DV.n e] = [.n (chkF (secs (.sl none 0 S), pens (.sl none 0 P), l, t))])))
  refine res_ite (fun h => ?_) fun h => ?_
  · have h : ((¬ e = 0 ∨ ¬ t = 0) ∨ k < 0) ∨ (DV.sl none 0 S).len ≤ k := cv h (by kernel_rfl)
    refine res_dat (.sl none 0 []) rfl ?_
    refine cv (read_no fun m => ?_) (by kernel_rfl : ((([], 40) : List Int × Int) = readQ (secs (.sl none 0 S), pens (.sl none 0 P), l, t) k) = _)
    have m2 := m.2
    have m3 : t = 0 := m.1.2
    have m4 := (he.resolve_right fun n => n.2 m.1.1).1
    unfold inD at m2
    simp only at m2
    omega
  have h : ¬ (((¬ e = 0 ∨ ¬ t = 0) ∨ k < 0) ∨ (DV.sl none 0 S).len ≤ k) := cv h (by kernel_rfl)
  have run : runD (secs (.sl none 0 S), pens (.sl none 0 P), l, t) := run_of he (by omega) (show t = 0 by omega)
  have hk : 0 ≤ k ∧ k < (DV.sl none 0 S).len := by omega
  have hin : inD (secs (.sl none 0 S), pens (.sl none 0 P), l, t) k := by unfold inD; simp only; omega
  obtain ⟨s1, s2⟩ := sec_at hS hk.1 (by omega)
  refine res_dat (.sl none 0 ((((DV.sl none 0 S).cell k 0).els.take ((DV.sl none 0 S).cell k 0).len.toNat).drop 0)) (by kernel_rfl) ?_
  rw [sub_all s2]
  refine res_lop_of rfl (P := (0 : Int) ≤ (DV.sl none 0 P).len ∧ bys ((DV.sl none 0 S).cell k 0) = lastP k ((pens (.sl none 0 P)).take (0 : Int).toNat) ((secs (.sl none 0 S)).getD k.toNat [])) (by kernel_rfl) rfl ⟨len_nn _, s1.symm⟩ (fun z hz i i0 i1 hI => ?_)
  obtain ⟨hi, hI⟩ := cv hI (by kernel_rfl : _ = (i ≤ (DV.sl none 0 P).len ∧ numsOf z = lastP k ((pens (.sl none 0 P)).take i.toNat) ((secs (.sl none 0 S)).getD k.toNat [])))
  have i0 : 0 ≤ i := i0
  refine res_ite (fun hlt => ?_) fun hge => ?_
  · have hlt : i < (DV.sl none 0 P).len := cv hlt (by kernel_rfl)
    have mea : ((DV.sl none 0 P).len - (i + 1)).toNat < ((DV.sl none 0 P).len - i).toNat := by omega
    obtain ⟨e1, e2⟩ := pen_at hP i0 (by omega)
    refine res_ite (fun hk2 => ?_) fun hk2 => ?_
    · have hk2 : (DV.sl none 0 P).at i 0 = k := cv hk2 (by kernel_rfl)
      refine res_dat (.sl none 0 ((((DV.sl none 0 P).cell i 1).els.take ((DV.sl none 0 P).cell i 1).len.toNat).drop 0)) (by kernel_rfl) ?_
      rw [sub_all e2]
      refine res_chk_of rfl (P := i + 1 ≤ (DV.sl none 0 P).len ∧ bys ((DV.sl none 0 P).cell i 1) = lastP k ((pens (.sl none 0 P)).take (i + 1).toNat) ((secs (.sl none 0 S)).getD k.toNat [])) (by kernel_rfl) (by kernel_rfl) (by kernel_rfl) ⟨by omega, ?_⟩ mea
      rw [last_next i0 (by omega), if_pos (by rw [e1]; exact hk2), e1]
    · have hk2 : ¬ (DV.sl none 0 P).at i 0 = k := cv hk2 (by kernel_rfl)
      refine res_chk_of rfl (P := i + 1 ≤ (DV.sl none 0 P).len ∧ numsOf z = lastP k ((pens (.sl none 0 P)).take (i + 1).toNat) ((secs (.sl none 0 S)).getD k.toNat [])) (by kernel_rfl) (by kernel_rfl) (by kernel_rfl) ⟨by omega, ?_⟩ mea
      rw [last_next i0 (by omega), if_neg (by rw [e1]; exact hk2), hI]
  have hge : ¬ i < (DV.sl none 0 P).len := cv hge (by kernel_rfl)
  refine cv (?_ : ((numsOf z, 0) : List Int × Int) = readQ (secs (.sl none 0 S), pens (.sl none 0 P), l, t) k) (by kernel_rfl)
  rw [← read_yes ⟨run, hin⟩, hI, List.take_of_length_le (by omega)]
theorem pens_app (P : List (List DV)) (k : Int) (z : DV) : pens (.sl none 0 (P ++ [[.n k, z]])) = pens (.sl none 0 P) ++ [(k, bys z)] := by simp only [pens, DV.els, List.map_append]; rfl
set_option maxRecDepth 100000 in
theorem cWrite_ok (N : Nat) (w0 : World) : ConOk Try.prog tb N w0 (cWrite 19) := by
  refine con_of_walk (tb := tb) fine (C := [cRun 30, cPad 31]) (conCons cRun_ok (conCons cPad_ok noCon)) 120 rfl ?_ N w0
  refine fun S hS P hP l _ _ t _ _ k _ _ B hB _ => ?_
  have lS := len_of hS (Nat.le_refl _)
  have lP := len_of hP (Nat.le_refl _)
  have lB := len_of hB (Nat.le_refl _)
  have pS := secs_len S
  have pP := pens_len P
  have pB : (numsOf B).length = B.length := by rw [numsOf, List.length_map]
  rw [tree_write]
  show T.res _ (fun y => (d4 y 0, gi y 4) = writeQ (secs (.sl none 0 S), pens (.sl none 0 P), l, t) k (numsOf B)) _ _
  refine res_con rfl trivial (fun e _ _ he => ?_)
  have he := yn_01 (cv he (by kernel_rfl : _ = ([DV.n e] = yn (runD (secs (.sl none 0 S), pens (.sl none 0 P), l, t)))))
  refine res_ite (fun h => ?_) fun h => ?_
  · have h : e = 0 ∨ ¬ (0 ≤ k ∧ k < (DV.sl none 0 S).len) := cv h (by kernel_rfl)
    refine res_dat (.sl none 0 []) rfl (res_dat (.sl none 0 []) rfl ?_)
    refine cv (write_no fun m => ?_) (by kernel_rfl : (((nil4, 40) : D4 × Int) = writeQ (secs (.sl none 0 S), pens (.sl none 0 P), l, t) k (numsOf B)) = _)
    have m2 := m.2
    unfold inD at m2
    simp only at m2
    rcases h with h | h
    · exact (he.resolve_left fun n => by omega).2 m.1
    · omega
  have h : ¬ (e = 0 ∨ ¬ (0 ≤ k ∧ k < (DV.sl none 0 S).len)) := cv h (by kernel_rfl)
  have run := (he.resolve_right fun m => h (.inl m.1)).2
  have hin : inD (secs (.sl none 0 S), pens (.sl none 0 P), l, t) k := by unfold inD; simp only; omega
  have hpl := run.1.1.2.1
  simp only at hpl
  refine res_ite (fun h => ?_) fun h => ?_
  · have h : 128 < (DV.sl none 0 B).len := cv h (by kernel_rfl)
    refine res_dat (.sl none 0 []) rfl (res_dat (.sl none 0 []) rfl ?_)
    exact cv (write_arg ⟨run, hin⟩ (by omega)) (by kernel_rfl : (((nil4, 1) : D4 × Int) = writeQ (secs (.sl none 0 S), pens (.sl none 0 P), l, t) k (numsOf B)) = _)
  have h : ¬ 128 < (DV.sl none 0 B).len := cv h (by kernel_rfl)
  refine res_ite (fun h4 => ?_) fun h4 => ?_
  · have h4 : (DV.sl none 0 P).len = 4096 := cv h4 (by kernel_rfl)
    refine res_dat (.sl none 0 []) rfl (res_dat (.sl none 0 []) rfl ?_)
    exact cv (write_lim ⟨run, hin⟩ (by omega) (by simp only; omega)) (by kernel_rfl : (((nil4, 2) : D4 × Int) = writeQ (secs (.sl none 0 S), pens (.sl none 0 P), l, t) k (numsOf B)) = _)
  have h4 : ¬ (DV.sl none 0 P).len = 4096 := cv h4 (by kernel_rfl)
  have fin : ∀ z, numsOf z = padL (numsOf B) → ∀ ad cap, (((secs (.sl none 0 S), pens (.sl none 0 (P ++ [[.n k, .sl ad cap z]])), l, t), 0) : D4 × Int) = writeQ (secs (.sl none 0 S), pens (.sl none 0 P), l, t) k (numsOf B) := fun z hz ad cap => by
    rw [pens_app, ← write_yes ⟨run, hin⟩ (by omega) (by omega), ← hz]; rfl
  have tail : ∀ z, numsOf z = padL (numsOf B) → True := fun _ _ => trivial
  refine res_both ?_ ?_
  · refine res_dat (.sl none 0 ((P.take (DV.sl none 0 P).len.toNat).drop 0)) (by kernel_rfl) ?_
    rw [all_of hP (Nat.le_refl _)]
    refine res_con rfl trivial (fun z hz hw => ?_)
    have hw := cv hw (by kernel_rfl : _ = (numsOf z = padL (numsOf B)))
    refine fun ad cap => res_ok (cv (by omega : (DV.sl none 0 P).len + 1 ≤ 4264772374403) (by kernel_rfl)) ?_
    refine res_dat (.sl none 0 [[.n k, .sl ad cap z]]) (by kernel_rfl) (res_dat (.sl none 0 (P ++ [[.n k, .sl ad cap z]])) (by kernel_rfl) ?_)
    exact cv (fin z hw ad cap) (by kernel_rfl)
  · refine res_con rfl trivial (fun z hz hw => ?_)
    have hw := cv hw (by kernel_rfl : _ = (numsOf z = padL (numsOf B)))
    refine res_both ?_ ?_
    · refine res_dat (.sl none 0 ((P.take (DV.sl none 0 P).len.toNat).drop 0)) (by kernel_rfl) ?_
      rw [all_of hP (Nat.le_refl _)]
      refine fun ad cap => res_ok (cv (by omega : (DV.sl none 0 P).len + 1 ≤ 4264772374403) (by kernel_rfl)) ?_
      refine res_dat (.sl none 0 [[.n k, .sl ad cap z]]) (by kernel_rfl) (res_dat (.sl none 0 (P ++ [[.n k, .sl ad cap z]])) (by kernel_rfl) ?_)
      exact cv (fin z hw ad cap) (by kernel_rfl)
    · refine fun ad cap => res_dat (.sl none 0 ((P.take (DV.sl none 0 P).len.toNat).drop 0)) (by kernel_rfl) ?_
      rw [all_of hP (Nat.le_refl _)]
      refine res_ok (cv (by omega : (DV.sl none 0 P).len + 1 ≤ 4264772374403) (by kernel_rfl)) ?_
      refine res_dat (.sl none 0 [[.n k, .sl ad cap z]]) (by kernel_rfl) (res_dat (.sl none 0 (P ++ [[.n k, .sl ad cap z]])) (by kernel_rfl) ?_)
      exact cv (fin z hw ad cap) (by kernel_rfl)
theorem pad_rep {b : List Int} {k : Nat} (h : b.length + k = 128) : b ++ List.replicate k 0 = padL b := by
  unfold padL
  rw [List.take_of_length_le (by omega), show k = 128 - b.length by omega]
set_option maxRecDepth 100000 in
theorem cWriteR_ok (N : Nat) (w0 : World) : ConOk Try.prog tb N w0 (cWrite 20) := by
  refine con_of_walk (tb := tb) fine (C := [cChk 16, lWriteR]) (conCons cChkR_ok (lopCons rfl noCon)) 120 rfl ?_ N w0
  refine fun S hS P hP l _ _ t _ _ k _ _ B hB _ => ?_
  have lS := len_of hS (Nat.le_refl _)
  have lP := len_of hP (Nat.le_refl _)
  have lB := len_of hB (Nat.le_refl _)
  have pS := secs_len S
  have pP := pens_len P
  have pB : (numsOf B).length = B.length := by rw [numsOf, List.length_map]
  rw [tree_writeR]
  show T.res _ (fun y => (d4 y 0, gi y 4) = writeQ (secs (.sl none 0 S), pens (.sl none 0 P), l, t) k (numsOf B)) _ _
  refine res_con rfl trivial (fun e _ _ he => ?_)
  have he := chk_in (cv he (by kernel_rfl : _ = ([DV.n e] = [.n (chkF (secs (.sl none 0 S), pens (.sl none 0 P), l, t))])))
  refine res_ite (fun h => ?_) fun h => ?_
  · have h : ((¬ e = 0 ∨ ¬ t = 0) ∨ k < 0) ∨ (DV.sl none 0 S).len ≤ k := cv h (by kernel_rfl)
    refine res_dat (.sl none 0 []) rfl (res_dat (.sl none 0 []) rfl ?_)
    refine cv (write_no fun m => ?_) (by kernel_rfl : (((nil4, 40) : D4 × Int) = writeQ (secs (.sl none 0 S), pens (.sl none 0 P), l, t) k (numsOf B)) = _)
    have m2 := m.2
    have m3 : t = 0 := m.1.2
    have m4 := (he.resolve_right fun n => n.2 m.1.1).1
    unfold inD at m2
    simp only at m2
    omega
  have h : ¬ (((¬ e = 0 ∨ ¬ t = 0) ∨ k < 0) ∨ (DV.sl none 0 S).len ≤ k) := cv h (by kernel_rfl)
  have run : runD (secs (.sl none 0 S), pens (.sl none 0 P), l, t) := run_of he (by omega) (show t = 0 by omega)
  have hin : inD (secs (.sl none 0 S), pens (.sl none 0 P), l, t) k := by unfold inD; simp only; omega
  have hpl := run.1.1.2.1
  simp only at hpl
  refine res_ite (fun h => ?_) fun h => ?_
  · have h : 128 < (DV.sl none 0 B).len := cv h (by kernel_rfl)
    refine res_dat (.sl none 0 []) rfl (res_dat (.sl none 0 []) rfl ?_)
    exact cv (write_arg ⟨run, hin⟩ (by omega)) (by kernel_rfl : (((nil4, 1) : D4 × Int) = writeQ (secs (.sl none 0 S), pens (.sl none 0 P), l, t) k (numsOf B)) = _)
  have h : ¬ 128 < (DV.sl none 0 B).len := cv h (by kernel_rfl)
  refine res_ite (fun h4 => ?_) fun h4 => ?_
  · have h4 : (DV.sl none 0 P).len = 4096 := cv h4 (by kernel_rfl)
    refine res_dat (.sl none 0 []) rfl (res_dat (.sl none 0 []) rfl ?_)
    exact cv (write_lim ⟨run, hin⟩ (by omega) (by simp only; omega)) (by kernel_rfl : (((nil4, 2) : D4 × Int) = writeQ (secs (.sl none 0 S), pens (.sl none 0 P), l, t) k (numsOf B)) = _)
  have h4 : ¬ (DV.sl none 0 P).len = 4096 := cv h4 (by kernel_rfl)
  refine res_lop_of rfl (P := (DV.sl none 0 B).len ≤ 128 ∧ ∃ n, numsOf B = numsOf B ++ List.replicate n 0) (by kernel_rfl) rfl ⟨by omega, 0, by simp⟩ (fun z hz hI => ?_)
  obtain ⟨hz1, n, hz2⟩ := cv hI (by kernel_rfl : _ = ((DV.sl none 0 z).len ≤ 128 ∧ ∃ n, numsOf z = numsOf B ++ List.replicate n 0))
  have lz := len_of hz (Nat.le_refl _)
  have pz : (numsOf z).length = z.length := by rw [numsOf, List.length_map]
  have pz2 := congrArg List.length hz2
  rw [List.length_append, List.length_replicate] at pz2
  refine res_ite (fun hlt => ?_) fun hge => ?_
  · have hlt : (DV.sl none 0 z).len < 128 := cv hlt (by kernel_rfl)
    refine res_dat (.sl none 0 [[.n 0]]) (by kernel_rfl) (res_dat (.sl none 0 (z ++ [[.n 0]])) (by kernel_rfl) ?_)
    have l3 : (z ++ [[DV.n 0]]).length = z.length + 1 := List.length_append
    have l4 : (DV.sl none 0 (z ++ [[DV.n 0]])).len = ((z ++ [[DV.n 0]]).length : Int) := clampL_eq (show (z ++ [[DV.n 0]]).length ≤ 9223372036854775807 by omega)
    refine res_chk_of rfl (P := (DV.sl none 0 (z ++ [[DV.n 0]])).len ≤ 128 ∧ ∃ n, numsOf (z ++ [[DV.n 0]]) = numsOf B ++ List.replicate n 0) (a := (128 - (DV.sl none 0 (z ++ [[DV.n 0]])).len).toNat) (b := (128 - (DV.sl none 0 z).len).toNat) (by kernel_rfl) (by kernel_rfl) (by kernel_rfl) ⟨by omega, n + 1, ?_⟩ (by omega)
    have e : numsOf (z ++ [[DV.n 0]]) = numsOf z ++ [0] := by rw [numsOf, List.map_append]; rfl
    rw [e, hz2, List.append_assoc, List.replicate_succ']
  have hge : ¬ (DV.sl none 0 z).len < 128 := cv hge (by kernel_rfl)
  refine res_ok (cv (by omega : (DV.sl none 0 P).len ≤ 4264772374403) (by kernel_rfl)) ?_
  refine fun ad cap => res_ok (cv (by omega : (DV.sl none 0 P).len + 1 ≤ 4264772374403) (by kernel_rfl)) ?_
  refine res_dat (.sl none 0 [[.n k, .sl ad cap z]]) (by kernel_rfl) (res_dat (.sl none 0 (P ++ [[.n k, .sl ad cap z]])) (by kernel_rfl) ?_)
  refine cv (?_ : (((secs (.sl none 0 S), pens (.sl none 0 (P ++ [[.n k, .sl ad cap z]])), l, t), 0) : D4 × Int) = writeQ (secs (.sl none 0 S), pens (.sl none 0 P), l, t) k (numsOf B)) (by kernel_rfl)
  rw [pens_app, ← write_yes ⟨run, hin⟩ (by omega) (by omega)]
  show (((_, _ ++ [(k, numsOf z)], _), _) : D4 × Int) = _
  rw [hz2, pad_rep (by omega)]
end Go.Proofs.Ytdhdpgdifphfkaa
