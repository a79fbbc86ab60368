/- DERIVED. Validity of the reference, equality, links: the contracts, proved. -/
import Derived.Test.YtmphcgafegmheaaDct
namespace Go.Proofs.Ytmphcgafegmheaa
open Go.Dx
set_option linter.unusedVariables false
set_option linter.unusedSimpArgs false
set_option maxRecDepth 100000 in
theorem cChkR_ok (N : Nat) (w0 : World) : ConOk Try.prog tb N w0 (cChk 14) := by
  refine con_of_walk (tb := tb) fine (C := [lChkR, lChkR2, cVal 30]) (lopCons rfl (lopCons rfl (conCons cValR_ok noCon))) 120 rfl ?_ N w0
  refine fun Q hQ A hA _ => ?_
  rw [tree_chkR]
  show T.res _ (fun y => y = [.n (chkF (pks (.sl none 0 Q)) (prs (.sl none 0 A)))]) _ _
  have lQ := len_of hQ (Nat.le_refl _)
  have lA := len_of hA (Nat.le_refl _)
  have pQ := pks_len Q
  have pA := prs_len A
  refine res_ite (fun h => chk_no fun ok => ?_) fun h => ?_
  · have h : (4096 : Int) < (DV.sl none 0 Q).len := h
    have := ok.1
    omega
  have h : ¬ (4096 : Int) < (DV.sl none 0 Q).len := h
  refine res_lop rfl (show (0 : Int) ≤ (DV.sl none 0 Q).len ∧ allPk (pks (.sl none 0 Q)) 0 from ⟨len_nn _, allPk_0 _⟩) (fun i i0 i1 hI => ?_)
  obtain ⟨hi, hall⟩ : i ≤ (DV.sl none 0 Q).len ∧ allPk (pks (.sl none 0 Q)) i := hI
  refine res_ite (fun hlt => ?_) fun hge => ?_
  · have hlt : i < (DV.sl none 0 Q).len := hlt
    obtain ⟨e1, e2⟩ := pk_at hQ i0 (by omega)
    refine res_dat (.sl none 0 ((((DV.sl none 0 Q).cell i 2).els.take ((DV.sl none 0 Q).cell i 2).len.toNat).drop 0)) (by kernel_rfl) ?_
    rw [sub_all e2]
    refine res_con rfl trivial (fun z _ _ hz => ?_)
    have hz := yn_01 (cv hz (by kernel_rfl : _ = ([DV.n z] = yn (pkP ((DV.sl none 0 Q).at i 0, (DV.sl none 0 Q).at i 1, numsOf ((DV.sl none 0 Q).cell i 2).els)))))
    rw [← e1] at hz
    refine res_ite (fun q => chk_no fun ok => ?_) fun q => ?_
    · have q : z = 0 := cv q (by kernel_rfl)
      have := ok_pk ok i0 (by omega)
      rcases hz with hz | hz
      · omega
      · exact hz.2 this
    · have q : ¬ z = 0 := cv q (by kernel_rfl)
      refine res_chk rfl (show i + 1 ≤ (DV.sl none 0 Q).len ∧ allPk (pks (.sl none 0 Q)) (i + 1) from ⟨by omega, (allPk_next i0 (by omega)).2 ⟨hall, ?_⟩⟩) (show ((DV.sl none 0 Q).len - (i + 1)).toNat < ((DV.sl none 0 Q).len - i).toNat by omega)
      rcases hz with hz | hz
      · exact hz.2
      · exact absurd hz.1 q
  have hge : ¬ i < (DV.sl none 0 Q).len := hge
  refine res_lop_of rfl (P := (0 : Int) ≤ (DV.sl none 0 A).len ∧ allPr (prs (.sl none 0 A)) 0) (by kernel_rfl) rfl ⟨len_nn _, allPr_0 _⟩ (fun j j0 j1 hJ => ?_)
  obtain ⟨hj, hpr⟩ := cv hJ (by kernel_rfl : _ = (j ≤ (DV.sl none 0 A).len ∧ allPr (prs (.sl none 0 A)) j))
  clear hJ
  refine res_ite (fun hlt => ?_) fun hge2 => ?_
  · have hlt : j < (DV.sl none 0 A).len := cv hlt (by kernel_rfl)
    have e1 := pr_at hA j0 (by omega)
    have nx := allPr_next j0 (by omega : j < ((prs (.sl none 0 A)).length : Int)) hpr
    have okj : okP (pks (.sl none 0 Q)) (prs (.sl none 0 A)) → prP ((DV.sl none 0 A).at j 0, (DV.sl none 0 A).at j 1) := fun ok => by rw [← e1]; exact (ok_pr ok j0 (by omega)).1
    refine res_ite (fun k => chk_no fun ok => ?_) fun k => ?_
    · have k : (¬ (0 ≤ (DV.sl none 0 A).at j 0 ∧ (DV.sl none 0 A).at j 0 < 24) ∨ ¬ (0 ≤ (DV.sl none 0 A).at j 1 ∧ (DV.sl none 0 A).at j 1 < 24)) ∨ (DV.sl none 0 A).at j 1 ≤ (DV.sl none 0 A).at j 0 := cv k (by kernel_rfl)
      have := okj ok
      unfold prP siteP at this
      simp only at this
      omega
    have k : ¬ ((¬ (0 ≤ (DV.sl none 0 A).at j 0 ∧ (DV.sl none 0 A).at j 0 < 24) ∨ ¬ (0 ≤ (DV.sl none 0 A).at j 1 ∧ (DV.sl none 0 A).at j 1 < 24)) ∨ (DV.sl none 0 A).at j 1 ≤ (DV.sl none 0 A).at j 0) := cv k (by kernel_rfl)
    have hz : prP ((prs (.sl none 0 A)).getD j.toNat (0, 0)) := by
      rw [e1]
      unfold prP siteP
      simp only
      omega
    refine res_ite (fun m => ?_) fun m => ?_
    · have m : 0 < j := cv m (by kernel_rfl)
      have e0 := pr_at hA (i := j - 1) (by omega) (by omega)
      refine res_ok (cv (⟨by omega, by omega⟩ : 0 ≤ j - 1 ∧ j - 1 < (DV.sl none 0 A).len) (by kernel_rfl)) ?_
      refine res_ite (fun k => chk_no fun ok => ?_) fun k => ?_
      · have k : (DV.sl none 0 A).at j 0 < (DV.sl none 0 A).at (j - 1) 0 ∨ ((DV.sl none 0 A).at j 0 = (DV.sl none 0 A).at (j - 1) 0 ∧ (DV.sl none 0 A).at j 1 ≤ (DV.sl none 0 A).at (j - 1) 1) := cv k (by kernel_rfl)
        have := (ok_pr ok j0 (by omega)).2 m
        rw [e0, e1] at this
        unfold ltP at this
        simp only at this
        omega
      · have k : ¬ ((DV.sl none 0 A).at j 0 < (DV.sl none 0 A).at (j - 1) 0 ∨ ((DV.sl none 0 A).at j 0 = (DV.sl none 0 A).at (j - 1) 0 ∧ (DV.sl none 0 A).at j 1 ≤ (DV.sl none 0 A).at (j - 1) 1)) := cv k (by kernel_rfl)
        refine res_chk_of rfl (P := j + 1 ≤ (DV.sl none 0 A).len ∧ allPr (prs (.sl none 0 A)) (j + 1)) (a := ((DV.sl none 0 A).len - (j + 1)).toNat) (b := ((DV.sl none 0 A).len - j).toNat) (by kernel_rfl) (by kernel_rfl) (by kernel_rfl) ⟨by omega, nx.2 ⟨hz, fun _ => ?_⟩⟩ (by omega)
        rw [e0, e1]
        unfold ltP
        simp only
        omega
    · have m : ¬ 0 < j := cv m (by kernel_rfl)
      refine res_chk_of rfl (P := j + 1 ≤ (DV.sl none 0 A).len ∧ allPr (prs (.sl none 0 A)) (j + 1)) (a := ((DV.sl none 0 A).len - (j + 1)).toNat) (b := ((DV.sl none 0 A).len - j).toNat) (by kernel_rfl) (by kernel_rfl) (by kernel_rfl) ⟨by omega, nx.2 ⟨hz, fun x => absurd x m⟩⟩ (by omega)
  · have hge2 : ¬ j < (DV.sl none 0 A).len := cv hge2 (by kernel_rfl)
    exact chk_yes (ok_all (by omega) hall (by omega) hpr (by omega))
/-! Equality. -/
theorem bytes_in {z : DV} (h : HasSh bytes z) : ∀ x ∈ numsOf z.els, 0 ≤ x ∧ x ≤ 255 := fun x hx => by
  simp only [HasSh] at h
  obtain ⟨e, he, rfl⟩ := List.mem_map.1 hx
  have := h.2 e he
  match e, this with
  | [a], this =>
    simp only [HasShs, HasSh, and_true] at this
    obtain ⟨y, rfl, hy, _⟩ := this
    exact hy
  | [], this => simp [HasShs] at this
  | _ :: _ :: _, this => simp [HasShs] at this
theorem strNums_inj : ∀ {xs ys : List Int}, (∀ x ∈ xs, 0 ≤ x ∧ x ≤ 255) → (∀ y ∈ ys, 0 ≤ y ∧ y ≤ 255) → strOfNums xs = strOfNums ys → xs = ys := fun {xs ys} hx hy h => by
  have h1 : (strOfNums xs).data.toList = (strOfNums ys).data.toList := by rw [h]
  rw [strOfNums_data, strOfNums_data] at h1
  have key : ∀ l : List Int, (∀ x ∈ l, 0 ≤ x ∧ x ≤ 255) → (l.map fun n => UInt8.ofNat n.toNat).map (fun u => (u.toNat : Int)) = l := fun l hl => by
    rw [List.map_map]
    refine (List.map_congr_left fun x hx => ?_).trans (List.map_id l)
    have := hl x hx
    simp only [Function.comp_apply, UInt8.toNat_ofNat', id]
    omega
  rw [← key xs hx, ← key ys hy, h1]
theorem cSameP_ok (N : Nat) (w0 : World) : ConOk Try.prog tb N w0 (cSameP 22) := by
  refine con_of_walk (tb := tb) fine (C := []) noCon 120 rfl ?_ N w0
  refine fun a _ _ b _ _ D hD c _ _ d _ _ F hF _ => ?_
  rw [tree_sameP]
  show T.res _ (fun y => y = yn ((a, b, numsOf D) = (c, d, numsOf F))) _ _
  refine res_ite (fun h => ?_) fun h => no fun k => h ?_
  · obtain ⟨h1, h2⟩ : a = c ∧ b = d := h
    subst h1 h2
    refine res_dat (.s (strOfNums (numsOf D))) rfl (res_dat (.s (strOfNums (numsOf F))) rfl ?_)
    refine res_ite (fun h => yes ?_) fun h => no fun k => h ?_
    · have e : numsOf D = numsOf F := strNums_inj (bytes_in hD) (bytes_in hF) h
      rw [e]
    · show strOfNums (numsOf D) = strOfNums (numsOf F)
      have e : numsOf D = numsOf F := (Prod.mk.inj (Prod.mk.inj k).2).2
      rw [e]
  · exact ⟨(Prod.mk.inj k).1, (Prod.mk.inj (Prod.mk.inj k).2).1⟩
theorem take_eq_next {α : Type} {l m : List α} {i : Int} (d : α) (h0 : 0 ≤ i) (h1 : i < l.length) (h2 : i < m.length) (h : l.take i.toNat = m.take i.toNat) (e : l.getD i.toNat d = m.getD i.toNat d) : l.take (i + 1).toNat = m.take (i + 1).toNat := by
  rw [take_next d h0 h1, take_next d h0 h2, h, e]
set_option maxRecDepth 100000 in
theorem cSame_ok (N : Nat) (w0 : World) : ConOk Try.prog tb N w0 (cSame 15) := by
  refine con_of_walk (tb := tb) fine (C := [lSame, lSame2, cSameP 22]) (lopCons rfl (lopCons rfl (conCons cSameP_ok noCon))) 120 rfl ?_ N w0
  refine fun Q hQ A hA R hR B hB _ => ?_
  rw [tree_same]
  show T.res _ (fun y => y = yn (pks (.sl none 0 Q) = pks (.sl none 0 R) ∧ prs (.sl none 0 A) = prs (.sl none 0 B))) _ _
  have lQ := len_of hQ (Nat.le_refl _); have lA := len_of hA (Nat.le_refl _)
  have lR := len_of hR (Nat.le_refl _); have lB := len_of hB (Nat.le_refl _)
  have pQ := pks_len Q; have pA := prs_len A; have pR := pks_len R; have pB := prs_len B
  refine res_ite (fun h => no fun k => ?_) fun h => ?_
  · have h : ¬ (DV.sl none 0 Q).len = (DV.sl none 0 R).len ∨ ¬ (DV.sl none 0 A).len = (DV.sl none 0 B).len := h
    have k1 := congrArg List.length k.1
    have k2 := congrArg List.length k.2
    omega
  have h : ¬ (¬ (DV.sl none 0 Q).len = (DV.sl none 0 R).len ∨ ¬ (DV.sl none 0 A).len = (DV.sl none 0 B).len) := h
  refine res_lop rfl (show (0 : Int) ≤ (DV.sl none 0 Q).len ∧ (pks (.sl none 0 Q)).take (0 : Int).toNat = (pks (.sl none 0 R)).take (0 : Int).toNat from ⟨len_nn _, rfl⟩) (fun i i0 i1 hI => ?_)
  obtain ⟨hi, hall⟩ : i ≤ (DV.sl none 0 Q).len ∧ (pks (.sl none 0 Q)).take i.toNat = (pks (.sl none 0 R)).take i.toNat := hI
  refine res_ite (fun hlt => ?_) fun hge => ?_
  · have hlt : i < (DV.sl none 0 Q).len := hlt
    obtain ⟨e1, e2⟩ := pk_at hQ i0 (by omega)
    obtain ⟨f1, f2⟩ := pk_at hR i0 (by omega)
    refine res_ok (show 0 ≤ i ∧ i < (DV.sl none 0 R).len by omega) ?_
    refine res_dat (.sl none 0 ((((DV.sl none 0 Q).cell i 2).els.take ((DV.sl none 0 Q).cell i 2).len.toNat).drop 0)) (by kernel_rfl) ?_
    refine res_dat (.sl none 0 ((((DV.sl none 0 R).cell i 2).els.take ((DV.sl none 0 R).cell i 2).len.toNat).drop 0)) (by kernel_rfl) ?_
    rw [sub_all e2, sub_all f2]
    refine res_con rfl trivial (fun z _ _ hz => ?_)
    have hz := yn_01 (cv hz (by kernel_rfl : _ = ([DV.n z] = yn (((DV.sl none 0 Q).at i 0, (DV.sl none 0 Q).at i 1, numsOf ((DV.sl none 0 Q).cell i 2).els) = ((DV.sl none 0 R).at i 0, (DV.sl none 0 R).at i 1, numsOf ((DV.sl none 0 R).cell i 2).els)))))
    rw [← e1, ← f1] at hz
    refine res_ite (fun q => no fun k => ?_) fun q => ?_
    · have q : z = 0 := cv q (by kernel_rfl)
      rcases hz with hz | hz
      · omega
      · exact hz.2 (by rw [k.1])
    · have q : ¬ z = 0 := cv q (by kernel_rfl)
      exact res_chk rfl (show i + 1 ≤ (DV.sl none 0 Q).len ∧ (pks (.sl none 0 Q)).take (i + 1).toNat = (pks (.sl none 0 R)).take (i + 1).toNat from ⟨by omega, take_eq_next zero i0 (by omega) (by omega) hall (hz.resolve_right fun m => q m.1).2⟩) (show ((DV.sl none 0 Q).len - (i + 1)).toNat < ((DV.sl none 0 Q).len - i).toNat by omega)
  have hge : ¬ i < (DV.sl none 0 Q).len := hge
  have hq : pks (.sl none 0 Q) = pks (.sl none 0 R) := by
    have h1 : i.toNat = (pks (.sl none 0 Q)).length := by omega
    have h2 : i.toNat = (pks (.sl none 0 R)).length := by omega
    have h3 := hall
    rw [h1, List.take_length, ← h1, h2, List.take_length] at h3
    exact h3
  refine res_lop_of rfl (P := (0 : Int) ≤ (DV.sl none 0 A).len ∧ (prs (.sl none 0 A)).take (0 : Int).toNat = (prs (.sl none 0 B)).take (0 : Int).toNat) (by kernel_rfl) rfl ⟨len_nn _, rfl⟩ (fun j j0 j1 hJ => ?_)
  obtain ⟨hj, hpr⟩ := cv hJ (by kernel_rfl : _ = (j ≤ (DV.sl none 0 A).len ∧ (prs (.sl none 0 A)).take j.toNat = (prs (.sl none 0 B)).take j.toNat))
  clear hJ
  refine res_ite (fun hlt => ?_) fun hge2 => ?_
  · have hlt : j < (DV.sl none 0 A).len := cv hlt (by kernel_rfl)
    have e1 := pr_at hA j0 (by omega)
    have f1 := pr_at hB j0 (by omega)
    refine res_ok (cv (⟨by omega, by omega⟩ : 0 ≤ j ∧ j < (DV.sl none 0 B).len) (by kernel_rfl)) ?_
    refine res_ite (fun q => no fun k => ?_) fun q => ?_
    · have q : ¬ ((DV.sl none 0 A).at j 0 = (DV.sl none 0 B).at j 0 ∧ (DV.sl none 0 A).at j 1 = (DV.sl none 0 B).at j 1) := cv q (by kernel_rfl)
      rw [k.2, f1] at e1
      exact q ⟨(Prod.mk.inj e1).1.symm, (Prod.mk.inj e1).2.symm⟩
    · have q : ¬ ¬ ((DV.sl none 0 A).at j 0 = (DV.sl none 0 B).at j 0 ∧ (DV.sl none 0 A).at j 1 = (DV.sl none 0 B).at j 1) := cv q (by kernel_rfl)
      have q := Classical.not_not.1 q
      refine res_chk_of rfl (P := j + 1 ≤ (DV.sl none 0 A).len ∧ (prs (.sl none 0 A)).take (j + 1).toNat = (prs (.sl none 0 B)).take (j + 1).toNat) (a := ((DV.sl none 0 A).len - (j + 1)).toNat) (b := ((DV.sl none 0 A).len - j).toNat) (by kernel_rfl) (by kernel_rfl) (by kernel_rfl) ⟨by omega, take_eq_next (0, 0) j0 (by omega) (by omega) hpr ?_⟩ (by omega)
      rw [e1, f1, q.1, q.2]
  · have hge2 : ¬ j < (DV.sl none 0 A).len := cv hge2 (by kernel_rfl)
    refine yes ⟨hq, ?_⟩
    have h1 : j.toNat = (prs (.sl none 0 A)).length := by omega
    have h2 : j.toNat = (prs (.sl none 0 B)).length := by omega
    have h3 := hpr
    rw [h1, List.take_length, ← h1, h2, List.take_length] at h3
    exact h3
theorem cFew_ok (N : Nat) (w0 : World) : ConOk Try.prog tb N w0 (cFew 10) := by
  refine con_of_walk (tb := tb) fine (C := []) noCon 120 rfl ?_ N w0
  refine fun Q hQ A hA _ => ?_
  rw [tree_few]
  exact res_ite (fun h => yes h) fun h => no h
/-! Links. -/
theorem mem_next {α : Type} {l : List α} {i : Int} {x : α} (d : α) (h0 : 0 ≤ i) (h1 : i < l.length) (h : x ∉ l.take i.toNat) (k : ¬ l.getD i.toNat d = x) : x ∉ l.take (i + 1).toNat := fun hm => by
  rw [take_next d h0 h1] at hm
  rcases List.mem_append.1 hm with hm | hm
  · exact h hm
  · exact k (List.mem_singleton.1 hm).symm
theorem mem_here {α : Type} {l : List α} {i : Int} {x : α} (d : α) (h0 : 0 ≤ i) (h1 : i < l.length) (k : l.getD i.toNat d = x) : x ∈ l := by
  have : i.toNat < l.length := by omega
  rw [List.getD_eq_getElem?_getD, List.getElem?_eq_getElem this] at k
  rw [← k]; exact List.getElem_mem this
theorem cIsC_ok (N : Nat) (w0 : World) : ConOk Try.prog tb N w0 (cIsC 38) := by
  refine con_of_walk (tb := tb) fine (C := [lIsC]) (lopCons rfl noCon) 120 rfl ?_ N w0
  refine fun Q hQ A hA a _ _ b _ _ _ => ?_
  rw [tree_isC]
  show T.res _ (fun y => y = yn ((a, b) ∈ prs (.sl none 0 A))) _ _
  have lA := len_of hA (Nat.le_refl _)
  have pA := prs_len A
  refine res_lop rfl (show (0 : Int) ≤ (DV.sl none 0 A).len ∧ (a, b) ∉ (prs (.sl none 0 A)).take (0 : Int).toNat from ⟨len_nn _, by simp⟩) (fun i i0 i1 hI => ?_)
  obtain ⟨hi, hall⟩ : i ≤ (DV.sl none 0 A).len ∧ (a, b) ∉ (prs (.sl none 0 A)).take i.toNat := hI
  refine res_ite (fun hlt => ?_) fun hge => ?_
  · have hlt : i < (DV.sl none 0 A).len := hlt
    have e1 := pr_at hA i0 (by omega)
    refine res_ite (fun q => yes ?_) fun q => ?_
    · obtain ⟨q1, q2⟩ : (DV.sl none 0 A).at i 0 = a ∧ (DV.sl none 0 A).at i 1 = b := q
      exact mem_here (0, 0) i0 (by omega) (by rw [e1, q1, q2])
    · have q : ¬ ((DV.sl none 0 A).at i 0 = a ∧ (DV.sl none 0 A).at i 1 = b) := q
      exact res_chk rfl (show i + 1 ≤ (DV.sl none 0 A).len ∧ (a, b) ∉ (prs (.sl none 0 A)).take (i + 1).toNat from ⟨by omega, mem_next (0, 0) i0 (by omega) hall (by rw [e1]; exact fun e => q ⟨(Prod.mk.inj e).1, (Prod.mk.inj e).2⟩)⟩) (show ((DV.sl none 0 A).len - (i + 1)).toNat < ((DV.sl none 0 A).len - i).toNat by omega)
  · have hge : ¬ i < (DV.sl none 0 A).len := hge
    refine no fun hm => hall ?_
    rw [show i.toNat = (prs (.sl none 0 A)).length by omega, List.take_length]; exact hm
theorem cIsR_ok (N : Nat) (w0 : World) : ConOk Try.prog tb N w0 (cIsR 36) := by
  refine con_of_walk (tb := tb) fine (C := [lIsR]) (lopCons rfl noCon) 120 rfl ?_ N w0
  refine fun Q hQ A hA x _ _ y _ _ _ => ?_
  rw [tree_isR]
  show T.res _ (fun z => z = yn (link x y ∈ prs (.sl none 0 A))) _ _
  have lA := len_of hA (Nat.le_refl _)
  have pA := prs_len A
  refine res_lop rfl (show (0 : Int) ≤ (DV.sl none 0 A).len ∧ link x y ∉ (prs (.sl none 0 A)).take (0 : Int).toNat from ⟨len_nn _, by simp⟩) (fun i i0 i1 hI => ?_)
  obtain ⟨hi, hall⟩ : i ≤ (DV.sl none 0 A).len ∧ link x y ∉ (prs (.sl none 0 A)).take i.toNat := hI
  refine res_ite (fun hlt => ?_) fun hge => ?_
  · have hlt : i < (DV.sl none 0 A).len := hlt
    have e1 := pr_at hA i0 (by omega)
    refine res_ite (fun q => yes ?_) fun q => ?_
    · obtain ⟨q1, q2⟩ : (DV.sl none 0 A).at i 0 = min x y ∧ (DV.sl none 0 A).at i 1 = max x y := q
      exact mem_here (0, 0) i0 (by omega) (by rw [e1, q1, q2]; rfl)
    · have q : ¬ ((DV.sl none 0 A).at i 0 = min x y ∧ (DV.sl none 0 A).at i 1 = max x y) := q
      exact res_chk rfl (show i + 1 ≤ (DV.sl none 0 A).len ∧ link x y ∉ (prs (.sl none 0 A)).take (i + 1).toNat from ⟨by omega, mem_next (0, 0) i0 (by omega) hall (by rw [e1]; exact fun e => q ⟨(Prod.mk.inj e).1, (Prod.mk.inj e).2⟩)⟩) (show ((DV.sl none 0 A).len - (i + 1)).toNat < ((DV.sl none 0 A).len - i).toNat by omega)
  · have hge : ¬ i < (DV.sl none 0 A).len := hge
    refine no fun hm => hall ?_
    rw [show i.toNat = (prs (.sl none 0 A)).length by omega, List.take_length]; exact hm
end Go.Proofs.Ytmphcgafegmheaa
