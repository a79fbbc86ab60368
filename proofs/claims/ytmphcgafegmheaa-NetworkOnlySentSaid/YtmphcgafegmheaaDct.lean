/- DERIVED. Validity, equality: the contracts, proved. -/
import Derived.Test.YtmphcgafegmheaaDmath
import Derived.Test.YtmphcgafegmheaaDtree
import Derived.KernelRfl
namespace Go.Proofs.Ytmphcgafegmheaa
open Go.Dx
set_option linter.unusedVariables false
set_option linter.unusedSimpArgs false
theorem cv {a b : Prop} (h : a) (e : a = b) : b := e ▸ h
theorem yn_if {p q : Prop} (h : q) (e : q → p) : [DV.n 1] = yn p := yes (e h)
theorem pkP_iff {a b : Int} {D : DV} (h : HasSh bytes D) : pkP (a, b, numsOf D.els) ↔ (((0 ≤ a ∧ a < 24) ∧ 0 ≤ b ∧ b < 24) ∧ ¬ a = b) ∧ D.len ≤ 1048576 := by
  have := bytes_len h
  unfold pkP siteP
  simp only
  rw [this]
  omega
theorem cVal_ok (N : Nat) (w0 : World) : ConOk Try.prog tb N w0 (cVal 28) := by
  refine con_of_walk (tb := tb) fine (C := []) noCon 120 rfl ?_ N w0
  refine fun a _ _ b _ _ D hD _ => ?_
  rw [tree_val]
  have e := pkP_iff (a := a) (b := b) hD
  refine res_ite (fun h => yes (e.2 h)) fun h => no fun k => h (e.1 k)
theorem cValR_ok (N : Nat) (w0 : World) : ConOk Try.prog tb N w0 (cVal 30) := by
  refine con_of_walk (tb := tb) fine (C := []) noCon 120 rfl ?_ N w0
  refine fun a _ _ b _ _ D hD _ => ?_
  rw [tree_valR]
  have e := pkP_iff (a := a) (b := b) hD
  refine res_ite (fun h => yes (e.2 h)) fun h => no fun k => h (e.1 k)
theorem cPair_ok (N : Nat) (w0 : World) : ConOk Try.prog tb N w0 (cPair 31) := by
  refine con_of_walk (tb := tb) fine (C := []) noCon 120 rfl ?_ N w0
  refine fun a _ _ b _ _ _ => ?_
  rw [tree_pair]
  exact res_ite (fun h => yes h) fun h => no h
theorem cLess_ok (N : Nat) (w0 : World) : ConOk Try.prog tb N w0 (cLess 32) := by
  refine con_of_walk (tb := tb) fine (C := []) noCon 120 rfl ?_ N w0
  refine fun a _ _ b _ _ c _ _ d _ _ _ => ?_
  rw [tree_less]
  exact res_ite (fun h => yes h) fun h => no h
theorem chk_yes {q : List P3} {a : List (Int × Int)} (h : okP q a) : [DV.n 0] = [DV.n (chkF q a)] := by unfold chkF; rw [if_pos h]
theorem chk_no {q : List P3} {a : List (Int × Int)} (h : ¬ okP q a) : [DV.n 60] = [DV.n (chkF q a)] := by unfold chkF; rw [if_neg h]
theorem chk_in {q : List P3} {a : List (Int × Int)} {x : Int} (h : [DV.n x] = [DV.n (chkF q a)]) : (x = 0 ∧ okP q a) ∨ (x = 60 ∧ ¬ okP q a) := by
  have h := n_inj h
  unfold chkF at h
  by_cases k : okP q a
  · rw [if_pos k] at h; exact .inl ⟨h, k⟩
  · rw [if_neg k] at h; exact .inr ⟨h, k⟩
theorem sub_all {z : DV} (h : HasSh bytes z) : (z.els.take z.len.toNat).drop 0 = z.els := by
  rw [List.drop_zero, bytes_len h]
  simp [numsOf]
theorem ok_pk {q : List P3} {a : List (Int × Int)} {i : Int} (h : okP q a) (h0 : 0 ≤ i) (h1 : i < q.length) : pkP (q.getD i.toNat zero) := by
  refine h.2.1 _ ?_
  have : i.toNat < q.length := by omega
  rw [List.getD_eq_getElem?_getD, List.getElem?_eq_getElem this]
  exact List.getElem_mem this
theorem ok_pr {q : List P3} {a : List (Int × Int)} {i : Int} (h : okP q a) (h0 : 0 ≤ i) (h1 : i < a.length) : prP (a.getD i.toNat (0, 0)) ∧ (0 < i → ltP (a.getD (i - 1).toNat (0, 0)) (a.getD i.toNat (0, 0))) := by
  have k : allPr a (i + 1) := ⟨fun p hp => h.2.2.1 p (List.mem_of_mem_take hp), h.2.2.2.sublist (List.take_sublist _ _)⟩
  have k0 : allPr a i := ⟨fun p hp => h.2.2.1 p (List.mem_of_mem_take hp), h.2.2.2.sublist (List.take_sublist _ _)⟩
  exact (allPr_next h0 h1 k0).1 k
theorem ok_all {q : List P3} {a : List (Int × Int)} {i j : Int} (hl : q.length ≤ 4096) (h : allPk q i) (hi : i = q.length) (k : allPr a j) (hj : j = a.length) : okP q a := by
  unfold allPk allPr at *
  rw [hi] at h
  rw [hj] at k
  rw [Int.toNat_natCast, List.take_length] at h k
  exact ⟨hl, h, k.1, k.2⟩
set_option maxRecDepth 100000 in
theorem cChk_ok (N : Nat) (w0 : World) : ConOk Try.prog tb N w0 (cChk 13) := by
  refine con_of_walk (tb := tb) fine (C := [lChk, lChk2, cVal 28, cPair 31, cLess 32]) (lopCons rfl (lopCons rfl (conCons cVal_ok (conCons cPair_ok (conCons cLess_ok noCon))))) 120 rfl ?_ N w0
  refine fun Q hQ A hA _ => ?_
  rw [tree_chk]
  show T.res _ (fun y => y = [.n (chkF (pks (.sl none 0 Q)) (prs (.sl none 0 A)))]) _ _
  have lQ := len_of hQ (Nat.le_refl _)
  have lA := len_of hA (Nat.le_refl _)
  have pQ := pks_len Q
  have pA := prs_len A
  refine res_ite (fun h => chk_no fun ok => ?_) fun h => ?_
  · have h : (4096 : Int) < (DV.sl none 0 Q).len := h
    have := ok.1
    omega
  have h : ¬ (4096 : Int) < (DV.sl none 0 Q).len := h
  refine res_lop rfl (show (0 : Int) ≤ (DV.sl none 0 Q).len ∧ allPk (pks (.sl none 0 Q)) 0 from ⟨len_nn _, allPk_0 _⟩) (fun i i0 i1 hI => ?_)
  obtain ⟨hi, hall⟩ : i ≤ (DV.sl none 0 Q).len ∧ allPk (pks (.sl none 0 Q)) i := hI
  refine res_ite (fun hlt => ?_) fun hge => ?_
  · have hlt : i < (DV.sl none 0 Q).len := hlt
    obtain ⟨e1, e2⟩ := pk_at hQ i0 (by omega)
    refine res_dat (.sl none 0 ((((DV.sl none 0 Q).cell i 2).els.take ((DV.sl none 0 Q).cell i 2).len.toNat).drop 0)) (by kernel_rfl) ?_
    rw [sub_all e2]
    refine res_con rfl trivial (fun z _ _ hz => ?_)
    have hz := yn_01 (cv hz (by kernel_rfl : _ = ([DV.n z] = yn (pkP ((DV.sl none 0 Q).at i 0, (DV.sl none 0 Q).at i 1, numsOf ((DV.sl none 0 Q).cell i 2).els)))))
    rw [← e1] at hz
    refine res_ite (fun q => chk_no fun ok => ?_) fun q => ?_
    · have q : z = 0 := cv q (by kernel_rfl)
      have := ok_pk ok i0 (by omega)
      rcases hz with hz | hz
      · omega
      · exact hz.2 this
    · have q : ¬ z = 0 := cv q (by kernel_rfl)
      refine res_chk rfl (show i + 1 ≤ (DV.sl none 0 Q).len ∧ allPk (pks (.sl none 0 Q)) (i + 1) from ⟨by omega, (allPk_next i0 (by omega)).2 ⟨hall, ?_⟩⟩) (show ((DV.sl none 0 Q).len - (i + 1)).toNat < ((DV.sl none 0 Q).len - i).toNat by omega)
      rcases hz with hz | hz
      · exact hz.2
      · exact absurd hz.1 q
  have hge : ¬ i < (DV.sl none 0 Q).len := hge
  refine res_lop_of rfl (P := (0 : Int) ≤ (DV.sl none 0 A).len ∧ allPr (prs (.sl none 0 A)) 0) (by kernel_rfl) rfl ⟨len_nn _, allPr_0 _⟩ (fun j j0 j1 hJ => ?_)
  obtain ⟨hj, hpr⟩ := cv hJ (by kernel_rfl : _ = (j ≤ (DV.sl none 0 A).len ∧ allPr (prs (.sl none 0 A)) j))
  clear hJ
  refine res_ite (fun hlt => ?_) fun hge2 => ?_
  · have hlt : j < (DV.sl none 0 A).len := cv hlt (by kernel_rfl)
    have e1 := pr_at hA j0 (by omega)
    have nx := allPr_next j0 (by omega : j < ((prs (.sl none 0 A)).length : Int)) hpr
    refine res_con rfl trivial (fun z _ _ hz => ?_)
    have hz := yn_01 (cv hz (by kernel_rfl : _ = ([DV.n z] = yn (prP ((DV.sl none 0 A).at j 0, (DV.sl none 0 A).at j 1)))))
    rw [← e1] at hz
    refine res_ite (fun q => ?_) fun q => ?_
    · have q : ¬ z = 0 ∧ 0 < j := cv q (by kernel_rfl)
      have hz : prP ((prs (.sl none 0 A)).getD j.toNat (0, 0)) := (hz.resolve_right fun k => q.1 k.1).2
      have e0 := pr_at hA (i := j - 1) (by omega) (by omega)
      refine res_ok (cv (⟨by omega, by omega⟩ : 0 ≤ j - 1 ∧ j - 1 < (DV.sl none 0 A).len) (by kernel_rfl)) ?_
      refine res_ite (fun _ => ?_) fun k => absurd (cv q.2 (by kernel_rfl)) k
      refine res_con rfl trivial (fun y _ _ hy => ?_)
      have hy := yn_01 (cv hy (by kernel_rfl : _ = ([DV.n y] = yn (ltP ((DV.sl none 0 A).at (j - 1) 0, (DV.sl none 0 A).at (j - 1) 1) ((DV.sl none 0 A).at j 0, (DV.sl none 0 A).at j 1)))))
      rw [← e1, ← e0] at hy
      refine res_ite (fun k => chk_no fun ok => ?_) fun k => ?_
      · have k : y = 0 := cv k (by kernel_rfl)
        have := (ok_pr ok j0 (by omega)).2 q.2
        rcases hy with hy | hy
        · omega
        · exact hy.2 this
      · have k : ¬ y = 0 := cv k (by kernel_rfl)
        refine res_chk_of rfl (P := j + 1 ≤ (DV.sl none 0 A).len ∧ allPr (prs (.sl none 0 A)) (j + 1)) (a := ((DV.sl none 0 A).len - (j + 1)).toNat) (b := ((DV.sl none 0 A).len - j).toNat) (by kernel_rfl) (by kernel_rfl) (by kernel_rfl) ⟨by omega, nx.2 ⟨hz, fun _ => (hy.resolve_right fun m => k m.1).2⟩⟩ (by omega)
    · have q : ¬ (¬ z = 0 ∧ 0 < j) := cv q (by kernel_rfl)
      refine res_ite (fun k => absurd (cv k (by kernel_rfl)) q) fun _ => res_ite (fun k => absurd (cv k (by kernel_rfl)) q) fun _ => res_ite (fun k => absurd (cv k (by kernel_rfl)) q) fun _ => ?_
      refine res_ite (fun k => ?_) fun k => chk_no fun ok => ?_
      · have k : ¬ z = 0 := cv k (by kernel_rfl)
        have hz := (hz.resolve_right fun m => k m.1).2
        refine res_ite (fun m => absurd ⟨k, (cv m (by kernel_rfl) : 0 < j)⟩ q) fun m => ?_
        have m : ¬ 0 < j := cv m (by kernel_rfl)
        refine res_chk_of rfl (P := j + 1 ≤ (DV.sl none 0 A).len ∧ allPr (prs (.sl none 0 A)) (j + 1)) (a := ((DV.sl none 0 A).len - (j + 1)).toNat) (b := ((DV.sl none 0 A).len - j).toNat) (by kernel_rfl) (by kernel_rfl) (by kernel_rfl) ⟨by omega, nx.2 ⟨hz, fun x => absurd x m⟩⟩ (by omega)
      · have k : ¬ ¬ z = 0 := cv k (by kernel_rfl)
        have := (ok_pr ok j0 (by omega)).1
        rcases hz with hz | hz
        · omega
        · exact hz.2 this
  · have hge2 : ¬ j < (DV.sl none 0 A).len := cv hge2 (by kernel_rfl)
    exact chk_yes (ok_all (by omega) hall (by omega) hpr (by omega))
end Go.Proofs.Ytmphcgafegmheaa
