/- DERIVED. The reference's clashes and decisions: the contracts, proved. -/
import Derived.Test.YtpaphkpdnmalhaaEctd
namespace Go.Proofs.Ytpaphkpdnmalhaa
open Go.Dx
set_option linter.unusedVariables false
set_option linter.unusedSimpArgs false
set_option maxHeartbeats 1000000 in
set_option maxRecDepth 100000 in
theorem cClashR_ok (N : Nat) (w0 : World) : ConOk Try.prog tb N w0 (cClash 12) := by
  refine con_of_walk (tb := tb) fine (C := [cChk 14, cClg 27, lCl1, lCl2]) (conCons cChkR_ok (conCons cClg_ok (lopCons rfl (lopCons rfl noCon)))) 80 rfl ?_ N w0
  refine fun S hS C hC _ => ?_
  clear hS
  rw [tree_clashR]
  show T.res _ (fun y => y = ClashF (.sl none 0 S) (.sl none 0 C)) _ _
  refine res_con rfl trivial (fun e _ _ he => ?_)
  have he : e = chkF (.sl none 0 S) (.sl none 0 C) := n_inj he
  refine res_ite (fun q => clash_bad he q) fun q => ?_
  have q : ¬ ¬ e = 0 := q
  have hc : chkF (.sl none 0 S) (.sl none 0 C) = 0 := by omega
  have l1 := len_nn (.sl none 0 C)
  refine res_lop rfl (show (0 : Int) ≤ (DV.sl none 0 C).len ∧ ∀ i : Nat, i < (0 : Int).toNat → ¬ cl1 (.sl none 0 C) (DV.sl none 0 C).len.toNat i from ⟨l1, fun k hk => absurd hk (Nat.not_lt_zero k)⟩) (fun i i0 i1 hI => ?_)
  obtain ⟨hi, hn⟩ : i ≤ (DV.sl none 0 C).len ∧ ∀ k : Nat, k < i.toNat → ¬ cl1 (.sl none 0 C) (DV.sl none 0 C).len.toNat k := hI
  have ei : ((i.toNat : Nat) : Int) = i := by omega
  refine res_ite (fun hlt => ?_) fun hge => ?_
  · have hlt : i < (DV.sl none 0 C).len := hlt
    have hcl := cell_len hC i0 hlt
    refine res_lop rfl (show (i + 1 ≤ (DV.sl none 0 C).len ∧ i < i + 1) ∧ ∀ j : Nat, j < (i + 1).toNat → ¬ cl2 (.sl none 0 C) i.toNat j from ⟨⟨by omega, by omega⟩, fun j hj h => by have := h.1; omega⟩) (fun j j0 j1 hJ => ?_)
    obtain ⟨⟨hj, hij⟩, hm⟩ : (j ≤ (DV.sl none 0 C).len ∧ i < j) ∧ ∀ k : Nat, k < j.toNat → ¬ cl2 (.sl none 0 C) i.toNat k := hJ
    have ej : ((j.toNat : Nat) : Int) = j := by omega
    refine res_ite (fun hlj => ?_) fun hgj => ?_
    · have hlj : j < (DV.sl none 0 C).len := hlj
      have hcj := cell_len hC j0 hlj
      refine res_dat (fc (.sl none 0 C) i) (take_all hcl.1) (res_dat (rc (.sl none 0 C) i) (take_all hcl.2) ?_)
      refine res_dat (fc (.sl none 0 C) j) (take_all hcj.1) (res_dat (rc (.sl none 0 C) j) (take_all hcj.2) ?_)
      refine res_con rfl trivial (fun a _ _ ha => ?_)
      have ha := yn_in (c := clC (.sl none 0 C) i j) (show [DV.n a] = _ from ha)
      refine res_ite (fun z => ?_) fun z => ?_
      · have z : ¬ a = 0 := z
        have := clash_some (S := .sl none 0 S) hc (i := i.toNat) (j := j.toNat) (by omega) (by omega) hn hm ⟨by omega, by rw [ei, ej]; exact (ha.resolve_right fun v => z v.1).2⟩
        rw [ei, ej] at this
        exact this
      · have z : ¬ ¬ a = 0 := z
        refine res_chk rfl (show (j + 1 ≤ (DV.sl none 0 C).len ∧ i < j + 1) ∧ ∀ k : Nat, k < (j + 1).toNat → ¬ cl2 (.sl none 0 C) i.toNat k from ⟨⟨by omega, by omega⟩, fun k hk => ?_⟩) ?_
        · by_cases e : k < j.toNat
          · exact hm k e
          · intro y
            have := y.2
            rw [ei, show (k : Int) = j by omega] at this
            exact (ha.resolve_left fun v => z v.1).2 this
        · show ((DV.sl none 0 C).len - (j + 1)).toNat < ((DV.sl none 0 C).len - j).toNat
          omega
    · have hgj : ¬ j < (DV.sl none 0 C).len := hgj
      refine res_chk rfl (show i + 1 ≤ (DV.sl none 0 C).len ∧ ∀ k : Nat, k < (i + 1).toNat → ¬ cl1 (.sl none 0 C) (DV.sl none 0 C).len.toNat k from ⟨by omega, fun k hk => ?_⟩) ?_
      · by_cases e : k < i.toNat
        · exact hn k e
        · rintro ⟨t, ht, h1, h2⟩
          rw [show k = i.toNat by omega] at h1 h2
          exact hm t (by omega) ⟨h1, h2⟩
      · show ((DV.sl none 0 C).len - (i + 1)).toNat < ((DV.sl none 0 C).len - i).toNat
        omega
  · have hge : ¬ i < (DV.sl none 0 C).len := hge
    exact clash_none hc fun k hk => hn k (by omega)
set_option maxRecDepth 100000 in
theorem cMis_ok (N : Nat) (w0 : World) : ConOk Try.prog tb N w0 (cMis 38) := by
  refine con_of_walk (tb := tb) fine (C := [cHas 40, lMis]) (conCons cHas_ok (lopCons rfl noCon)) 80 rfl ?_ N w0
  refine fun S hS C hC no' _ _ ho _ _ w _ _ g hg R hR f hf hpre => ?_
  clear hS hC hg hR hf
  obtain ⟨hsf, hS32⟩ : setP (DV.sl none 0 S).len (.sl none 0 f) (DV.sl none 0 f).len.toNat ∧ (DV.sl none 0 S).len ≤ 32 := hpre
  rw [tree_mis]
  show T.res _ (fun y => y = [.sl none 0 (misK (.sl none 0 S) w (.sl none 0 g) (.sl none 0 f) (DV.sl none 0 f).len.toNat)]) _ _
  have l0 := len_nn (.sl none 0 f)
  have hcard := set_card (len_nn _) hsf
  refine res_dat (.sl none 0 []) rfl ?_
  refine res_lop rfl (show (0 : Int) ≤ (DV.sl none 0 f).len ∧ [] = misK (.sl none 0 S) w (.sl none 0 g) (.sl none 0 f) (0 : Int).toNat from ⟨l0, rfl⟩) (fun o ho i i0 i1 hI => ?_)
  clear ho
  obtain ⟨hi, hoo⟩ : i ≤ (DV.sl none 0 f).len ∧ o = misK (.sl none 0 S) w (.sl none 0 g) (.sl none 0 f) i.toNat := hI
  have ei : ((i.toNat : Nat) : Int) = i := by omega
  have hol := misK_len (.sl none 0 S) w (.sl none 0 g) (.sl none 0 f) i.toNat
  rw [← hoo] at hol
  have lo : (DV.sl none 0 o).len = o.length := clampL_eq (show o.length ≤ 9223372036854775807 by omega)
  refine res_ite (fun hlt => ?_) fun hge => ?_
  · have hlt : i < (DV.sl none 0 f).len := hlt
    have hx2 := (hsf i.toNat (by omega)).1
    unfold el at hx2
    rw [ei] at hx2
    have mea : ((DV.sl none 0 f).len - (i + 1)).toNat < ((DV.sl none 0 f).len - i).toNat := by omega
    have hnx := misK_succ (S := .sl none 0 S) (w := w) (g := .sl none 0 g) (f := .sl none 0 f) i0
    refine res_con rfl trivial (fun a _ _ ha => ?_)
    have ha := yn_in (c := memP (.sl none 0 g) ((DV.sl none 0 f).at i 0)) (show [DV.n a] = _ from ha)
    refine res_ok (show 0 ≤ (DV.sl none 0 f).at i 0 ∧ (DV.sl none 0 f).at i 0 < (DV.sl none 0 S).len from hx2) ?_
    refine res_ite (fun z => ?_) fun z => ?_
    · have z : ¬ (DV.sl none 0 S).at ((DV.sl none 0 f).at i 0) 0 = w ∧ a = 0 := z
      refine res_ok (show (DV.sl none 0 o).len + 1 ≤ 15637498706147 by omega) ?_
      have hl : lackP (.sl none 0 S) w (.sl none 0 g) ((DV.sl none 0 f).at i 0) := ⟨z.1, (ha.resolve_left fun v => v.1 z.2).2⟩
      rw [if_pos hl] at hnx
      refine res_dat (.sl none 0 [[.n ((DV.sl none 0 f).at i 0)]]) rfl ?_
      refine res_dat (.sl none 0 (o ++ [[.n ((DV.sl none 0 f).at i 0)]])) rfl ?_
      exact res_chk rfl (show i + 1 ≤ (DV.sl none 0 f).len ∧ o ++ [[DV.n ((DV.sl none 0 f).at i 0)]] = misK (.sl none 0 S) w (.sl none 0 g) (.sl none 0 f) (i + 1).toNat from ⟨by omega, by rw [hnx, hoo]⟩) mea
    · have z : ¬ (¬ (DV.sl none 0 S).at ((DV.sl none 0 f).at i 0) 0 = w ∧ a = 0) := z
      have hl : ¬ lackP (.sl none 0 S) w (.sl none 0 g) ((DV.sl none 0 f).at i 0) := fun v => z ⟨v.1, (ha.resolve_left fun u => v.2 u.2).1⟩
      rw [if_neg hl] at hnx
      exact res_chk rfl (show i + 1 ≤ (DV.sl none 0 f).len ∧ o = misK (.sl none 0 S) w (.sl none 0 g) (.sl none 0 f) (i + 1).toNat from ⟨by omega, by rw [hnx, hoo]⟩) mea
  have hge : ¬ i < (DV.sl none 0 f).len := hge
  show [DV.sl none 0 o] = _
  rw [hoo, show i = (DV.sl none 0 f).len by omega]
theorem cAskR_ok (N : Nat) (w0 : World) : ConOk Try.prog tb N w0 (cAskR 37) := by
  refine con_of_walk (tb := tb) fine (C := [cChk 14, cSetR 32]) (conCons cChkR_ok (conCons cSetR_ok noCon)) 80 rfl ?_ N w0
  refine fun S hS C hC f hf side _ _ _ => ?_
  clear hS hC hf
  rw [tree_askR]
  show T.res _ (fun y => y = [.n (askF (.sl none 0 S) (.sl none 0 C) (.sl none 0 f) side)]) _ _
  refine res_con rfl trivial (fun e _ _ he => ?_)
  have he : e = chkF (.sl none 0 S) (.sl none 0 C) := n_inj he
  refine res_ite (fun q => ?_) fun q => ?_
  · show [DV.n e] = _
    rw [ask_one he q]
  have q : ¬ ¬ e = 0 := q
  have hc : chkF (.sl none 0 S) (.sl none 0 C) = 0 := by omega
  refine res_con rfl trivial (fun a _ _ ha => ?_)
  have ha := yn_in (c := setP (DV.sl none 0 S).len (.sl none 0 f) (DV.sl none 0 f).len.toNat) (show [DV.n a] = _ from ha)
  refine res_ite (fun z => ?_) fun z => ?_
  · show [DV.n 520] = _
    rw [ask_two hc (ha.resolve_left fun v => v.1 z).2]
  have z : ¬ a = 0 := z
  have hsf := (ha.resolve_right fun v => z v.1).2
  refine res_ite (fun y => ?_) fun y => ?_
  · show [DV.n 1] = _
    rw [ask_three (side := side) hc hsf y]
  · show [DV.n 0] = _
    have y : 0 ≤ side ∧ side ≤ 1 := Classical.not_not.1 y
    rw [ask_ok hc hsf y]
theorem misK_nil {S : DV} {w : Int} {g f : DV} : ∀ {n : Nat}, misK S w g f n = [] ↔ ∀ k, k < n → ¬ lackP S w g (el f k)
  | 0 => ⟨fun _ k hk => absurd hk (Nat.not_lt_zero k), fun _ => rfl⟩
  | n + 1 => by
    unfold misK
    by_cases c : lackP S w g (el f n)
    · rw [if_pos c]
      constructor
      · intro h; simp at h
      · intro h; exact absurd c (h n (by omega))
    · rw [if_neg c, misK_nil]
      constructor
      · intro h k hk
        by_cases e : k = n
        · subst e; exact c
        · exact h k (by omega)
      · intro h k hk; exact h k (by omega)
set_option maxHeartbeats 1000000 in
set_option maxRecDepth 100000 in
theorem cBindsR_ok (N : Nat) (w0 : World) : ConOk Try.prog tb N w0 (cBinds 16) := by
  refine con_of_walk (tb := tb) fine (C := [cAskR 37, cAll 24, cMis 38, lBindsR]) (conCons cAskR_ok (conCons cAll_ok (conCons cMis_ok (lopCons rfl noCon)))) 80 rfl ?_ N w0
  refine fun S hS C hC f hf side _ _ _ => ?_
  clear hS hf
  rw [tree_bindsR]
  show T.res _ (fun y => y = BindsF (.sl none 0 S) (.sl none 0 C) (.sl none 0 f) side) _ _
  refine res_con rfl trivial (fun e _ _ he => ?_)
  have he : e = askF (.sl none 0 S) (.sl none 0 C) (.sl none 0 f) side := n_inj he
  refine res_ite (fun q => binds_bad he q) fun q => ?_
  have q : ¬ ¬ e = 0 := q
  have hz : askF (.sl none 0 S) (.sl none 0 C) (.sl none 0 f) side = 0 := by omega
  obtain ⟨hc, hsf, hs0, hs1⟩ := ask_zero hz
  have hS32 : (DV.sl none 0 S).len ≤ 32 := (chk_zero hc).1.1
  have l1 := len_nn (.sl none 0 C)
  have hcard := set_card (len_nn _) hsf
  refine res_lop rfl (show (0 : Int) ≤ (DV.sl none 0 C).len ∧ ∀ i : Nat, i < (0 : Int).toNat → ¬ bindP (.sl none 0 S) (.sl none 0 C) (.sl none 0 f) side i from ⟨l1, fun k hk => absurd hk (Nat.not_lt_zero k)⟩) (fun i i0 i1 hI => ?_)
  obtain ⟨hi, hn⟩ : i ≤ (DV.sl none 0 C).len ∧ ∀ k : Nat, k < i.toNat → ¬ bindP (.sl none 0 S) (.sl none 0 C) (.sl none 0 f) side k := hI
  have ei : ((i.toNat : Nat) : Int) = i := by omega
  refine res_ite (fun hlt => ?_) fun hge => ?_
  · have hlt : i < (DV.sl none 0 C).len := hlt
    have hcl := cell_len hC i0 hlt
    have mea : ((DV.sl none 0 C).len - (i + 1)).toNat < ((DV.sl none 0 C).len - i).toNat := by omega
    have go : ¬ bindP (.sl none 0 S) (.sl none 0 C) (.sl none 0 f) side i.toNat → i + 1 ≤ (DV.sl none 0 C).len ∧ ∀ k : Nat, k < (i + 1).toNat → ¬ bindP (.sl none 0 S) (.sl none 0 C) (.sl none 0 f) side k := fun h => ⟨by omega, fun k hk => by
      by_cases e : k < i.toNat
      · exact hn k e
      · rw [show k = i.toNat by omega]; exact h⟩
    have split : bindP (.sl none 0 S) (.sl none 0 C) (.sl none 0 f) side i.toNat ↔ (DV.sl none 0 C).at i 2 = side ∧ allP (rc (.sl none 0 C) i) (.sl none 0 f) ∧ misK (.sl none 0 S) ((DV.sl none 0 C).at i 2) (fc (.sl none 0 C) i) (.sl none 0 f) (DV.sl none 0 f).len.toNat = [] := by
      rw [misK_nil]; unfold bindP; rw [ei]
    refine res_ite (fun y1 => ?_) fun y1 => res_chk rfl (go fun h => y1 (split.1 h).1) mea
    refine res_dat (rc (.sl none 0 C) i) (take_all hcl.2) ?_
    refine res_con rfl trivial (fun a _ _ ha => ?_)
    have ha := yn_in (c := allP (rc (.sl none 0 C) i) (.sl none 0 f)) (show [DV.n a] = _ from ha)
    refine res_ite (fun y2 => ?_) fun y2 => res_chk rfl (go fun h => y2 fun z => (ha.resolve_left fun v => v.1 z).2 (split.1 h).2.1) mea
    have y2 : ¬ a = 0 := y2
    refine res_dat (fc (.sl none 0 C) i) (take_all hcl.1) (res_dat (rc (.sl none 0 C) i) (take_all hcl.2) ?_)
    refine res_con rfl (show setP (DV.sl none 0 S).len (.sl none 0 f) (DV.sl none 0 f).len.toNat ∧ (DV.sl none 0 S).len ≤ 32 from ⟨hsf, hS32⟩) (fun o ho hoo => ?_)
    clear ho
    have hoo : [DV.sl none 0 o] = [.sl none 0 (misK (.sl none 0 S) ((DV.sl none 0 C).at i 2) (fc (.sl none 0 C) i) (.sl none 0 f) (DV.sl none 0 f).len.toNat)] := hoo
    simp only [List.cons.injEq, DV.sl.injEq, and_true, true_and] at hoo
    have hol := misK_len (.sl none 0 S) ((DV.sl none 0 C).at i 2) (fc (.sl none 0 C) i) (.sl none 0 f) (DV.sl none 0 f).len.toNat
    rw [← hoo] at hol split
    have lo : (DV.sl none 0 o).len = o.length := clampL_eq (show o.length ≤ 9223372036854775807 by omega)
    refine res_ite (fun y3 => ?_) fun y3 => res_chk rfl (go fun h => y3 ?_) mea
    · have y3 : (DV.sl none 0 o).len = 0 := y3
      have := binds_some hz (i := i.toNat) (by omega) hn (split.2 ⟨y1, (ha.resolve_right fun v => y2 v.1).2, List.length_eq_zero_iff.1 (by omega)⟩)
      rw [ei] at this
      exact this
    · show (DV.sl none 0 o).len = 0
      rw [(split.1 h).2.2]; rfl
  · have hge : ¬ i < (DV.sl none 0 C).len := hge
    exact binds_none hz fun k hk => hn k (by omega)
set_option maxHeartbeats 1000000 in
set_option maxRecDepth 100000 in
theorem cMayR_ok (N : Nat) (w0 : World) : ConOk Try.prog tb N w0 (cMay 18) := by
  refine con_of_walk (tb := tb) fine (C := [cAskR 37, cRea 33, cClg 27, lMayR]) (conCons cAskR_ok (conCons cRea_ok (conCons cClg_ok (lopCons rfl noCon)))) 80 rfl ?_ N w0
  refine fun S hS C hC f hf R hR side _ _ _ => ?_
  clear hS hf hR
  rw [tree_mayR]
  show T.res _ (fun y => y = MayF (.sl none 0 S) (.sl none 0 C) (.sl none 0 f) (.sl none 0 R) side) _ _
  refine res_con rfl trivial (fun e _ _ he => ?_)
  have he : e = askF (.sl none 0 S) (.sl none 0 C) (.sl none 0 f) side := n_inj he
  refine res_ite (fun q => may_bad he q) fun q => ?_
  have q : ¬ ¬ e = 0 := q
  have hz : askF (.sl none 0 S) (.sl none 0 C) (.sl none 0 f) side = 0 := by omega
  have l1 := len_nn (.sl none 0 C)
  refine res_con rfl trivial (fun a _ _ ha => ?_)
  have ha := yn_in (c := reaP (.sl none 0 S) (.sl none 0 f) (.sl none 0 R) side) (show [DV.n a] = _ from ha)
  refine res_ite (fun z => may_wrong hz (ha.resolve_left fun v => v.1 z).2) fun z => ?_
  have z : ¬ a = 0 := z
  have hrea := (ha.resolve_right fun v => z v.1).2
  refine res_lop rfl (show (0 : Int) ≤ (DV.sl none 0 C).len ∧ ∀ i : Nat, i < (0 : Int).toNat → ¬ mayP (.sl none 0 C) (.sl none 0 f) (.sl none 0 R) side i from ⟨l1, fun k hk => absurd hk (Nat.not_lt_zero k)⟩) (fun i i0 i1 hI => ?_)
  obtain ⟨hi, hn⟩ : i ≤ (DV.sl none 0 C).len ∧ ∀ k : Nat, k < i.toNat → ¬ mayP (.sl none 0 C) (.sl none 0 f) (.sl none 0 R) side k := hI
  have ei : ((i.toNat : Nat) : Int) = i := by omega
  refine res_ite (fun hlt => ?_) fun hge => ?_
  · have hlt : i < (DV.sl none 0 C).len := hlt
    have hcl := cell_len hC i0 hlt
    refine res_dat (fc (.sl none 0 C) i) (take_all hcl.1) (res_dat (rc (.sl none 0 C) i) (take_all hcl.2) ?_)
    refine res_con rfl trivial (fun b _ _ hb => ?_)
    have hb := yn_in (c := clP ((DV.sl none 0 C).at i 2) (fc (.sl none 0 C) i) (rc (.sl none 0 C) i) side (.sl none 0 f) (.sl none 0 R)) (show [DV.n b] = _ from hb)
    refine res_ite (fun y => ?_) fun y => ?_
    · have y : ¬ b = 0 := y
      have := may_no hz hrea (i := i.toNat) (by omega) hn (by unfold mayP; rw [ei]; exact (hb.resolve_right fun v => y v.1).2)
      rw [ei] at this
      exact this
    · have y : ¬ ¬ b = 0 := y
      refine res_chk rfl (show i + 1 ≤ (DV.sl none 0 C).len ∧ ∀ k : Nat, k < (i + 1).toNat → ¬ mayP (.sl none 0 C) (.sl none 0 f) (.sl none 0 R) side k from ⟨by omega, fun k hk => ?_⟩) ?_
      · by_cases e : k < i.toNat
        · exact hn k e
        · unfold mayP
          rw [show (k : Int) = i by omega]
          exact (hb.resolve_left fun v => y v.1).2
      · show ((DV.sl none 0 C).len - (i + 1)).toNat < ((DV.sl none 0 C).len - i).toNat
        omega
  · have hge : ¬ i < (DV.sl none 0 C).len := hge
    exact may_yes hz hrea fun k hk => hn k (by omega)
set_option maxHeartbeats 1000000 in
set_option maxRecDepth 100000 in
theorem cDisR_ok (N : Nat) (w0 : World) : ConOk Try.prog tb N w0 (cDis 20) := by
  refine con_of_walk (tb := tb) fine (C := [cAskR 37, cMis 38, cAll 24]) (conCons cAskR_ok (conCons cMis_ok (conCons cAll_ok noCon))) 80 rfl ?_ N w0
  refine fun S hS C hC at' _ _ f hf _ => ?_
  clear hS hf
  rw [tree_disR]
  show T.res _ (fun y => y = DisF (.sl none 0 S) (.sl none 0 C) at' (.sl none 0 f)) _ _
  refine res_con rfl trivial (fun e _ _ he => ?_)
  have he : e = askF (.sl none 0 S) (.sl none 0 C) (.sl none 0 f) 0 := n_inj he
  refine res_ite (fun q => res_dat (.sl none 0 []) rfl (dis_bad he q)) fun q => ?_
  have q : ¬ ¬ e = 0 := q
  have hz : askF (.sl none 0 S) (.sl none 0 C) (.sl none 0 f) 0 = 0 := by omega
  obtain ⟨hc, hsf, _, _⟩ := ask_zero hz
  have hS32 : (DV.sl none 0 S).len ≤ 32 := (chk_zero hc).1.1
  have hcard := set_card (len_nn _) hsf
  have l0 := len_nn (.sl none 0 f)
  refine res_ite (fun y => res_dat (.sl none 0 []) rfl (dis_arg hz fun v => ?_)) fun y => ?_
  · have y : ¬ (0 ≤ at' ∧ at' ≤ (DV.sl none 0 C).len - 1) := y
    omega
  have y : ¬ ¬ (0 ≤ at' ∧ at' ≤ (DV.sl none 0 C).len - 1) := y
  have hat : 0 ≤ at' ∧ at' < (DV.sl none 0 C).len := by omega
  have hcl := cell_len hC hat.1 hat.2
  refine res_ok hat ?_
  refine res_dat (fc (.sl none 0 C) at') (take_all hcl.1) (res_dat (rc (.sl none 0 C) at') (take_all hcl.2) ?_)
  refine res_con rfl (show setP (DV.sl none 0 S).len (.sl none 0 f) (DV.sl none 0 f).len.toNat ∧ (DV.sl none 0 S).len ≤ 32 from ⟨hsf, hS32⟩) (fun o ho hoo => ?_)
  clear ho
  have hoo : [DV.sl none 0 o] = [.sl none 0 (disL (.sl none 0 S) (.sl none 0 C) at' (.sl none 0 f))] := hoo
  simp only [List.cons.injEq, DV.sl.injEq, and_true, true_and] at hoo
  have hol := misK_len (.sl none 0 S) ((DV.sl none 0 C).at at' 2) (fc (.sl none 0 C) at') (.sl none 0 f) (DV.sl none 0 f).len.toNat
  have hol : o.length ≤ (DV.sl none 0 f).len.toNat := by rw [hoo]; exact hol
  have lo : (DV.sl none 0 o).len = o.length := clampL_eq (show o.length ≤ 9223372036854775807 by omega)
  refine res_ite (fun z => ?_) fun z => ?_
  · have z : 0 < (DV.sl none 0 o).len := z
    refine res_dat (rc (.sl none 0 C) at') (take_all hcl.2) ?_
    refine res_con rfl trivial (fun b _ _ hb => ?_)
    have hb : [DV.n b] = yn (allP (rc (.sl none 0 C) at') (.sl none 0 f)) := hb
    show [DV.sl none 0 o, .n b, .n 0] = _
    rw [hoo]
    refine dis_ret hz hat ?_
    have := n_inj hb
    rw [this]
    by_cases c : allP (rc (.sl none 0 C) at') (.sl none 0 f)
    · rw [if_pos c, if_pos ⟨by rw [← hoo]; omega, c⟩]
    · rw [if_neg c, if_neg fun v => c v.2]
  · have z : ¬ 0 < (DV.sl none 0 o).len := z
    show [DV.sl none 0 o, .n 0, .n 0] = _
    rw [hoo]
    refine dis_ret hz hat ?_
    rw [if_neg fun v => z (by have := v.1; rw [← hoo] at this; omega)]
end Go.Proofs.Ytpaphkpdnmalhaa
