/- DERIVED. The reference's sets, checks and clashes: the contracts, proved. -/
import Derived.Test.YtpaphkpdnmalhaaEctc
import Derived.Test.YtpaphkpdnmalhaaEtreeb
namespace Go.Proofs.Ytpaphkpdnmalhaa
open Go.Dx
set_option linter.unusedVariables false
set_option linter.unusedSimpArgs false
theorem cHas_ok (N : Nat) (w0 : World) : ConOk Try.prog tb N w0 (cHas 40) := by
  refine con_of_walk (tb := tb) fine (C := [lHas]) (lopCons rfl noCon) 80 rfl ?_ N w0
  refine fun L hL x _ _ _ => ?_
  clear hL
  rw [tree_has]
  show T.res _ (fun y => y = yn (memP (.sl none 0 L) x)) _ _
  have l0 := len_nn (.sl none 0 L)
  refine res_lop rfl (show (0 : Int) ≤ (DV.sl none 0 L).len ∧ ∀ i : Nat, i < (0 : Int).toNat → ¬ el (.sl none 0 L) i = x from ⟨l0, fun k hk => absurd hk (Nat.not_lt_zero k)⟩) (fun i i0 i1 hI => ?_)
  obtain ⟨hi, hn⟩ : i ≤ (DV.sl none 0 L).len ∧ ∀ k : Nat, k < i.toNat → ¬ el (.sl none 0 L) k = x := hI
  have ei : ((i.toNat : Nat) : Int) = i := by omega
  refine res_ite (fun hlt => ?_) fun hge => ?_
  · have hlt : i < (DV.sl none 0 L).len := hlt
    refine res_ite (fun q => yes ⟨i.toNat, by omega, by unfold el; rw [ei]; exact q⟩) fun q => ?_
    refine res_chk rfl (show i + 1 ≤ (DV.sl none 0 L).len ∧ ∀ k : Nat, k < (i + 1).toNat → ¬ el (.sl none 0 L) k = x from ⟨by omega, fun k hk => ?_⟩) ?_
    · by_cases e : k < i.toNat
      · exact hn k e
      · unfold el; rw [show (k : Int) = i by omega]; exact q
    · show ((DV.sl none 0 L).len - (i + 1)).toNat < ((DV.sl none 0 L).len - i).toNat
      omega
  · have hge : ¬ i < (DV.sl none 0 L).len := hge
    exact no fun ⟨k, hk, e⟩ => hn k (by omega) e
theorem cAll_ok (N : Nat) (w0 : World) : ConOk Try.prog tb N w0 (cAll 24) := by
  refine con_of_walk (tb := tb) fine (C := [cHas 40, lAll]) (conCons cHas_ok (lopCons rfl noCon)) 80 rfl ?_ N w0
  refine fun L hL M hM _ => ?_
  clear hL hM
  rw [tree_all]
  show T.res _ (fun y => y = yn (allP (.sl none 0 L) (.sl none 0 M))) _ _
  have l0 := len_nn (.sl none 0 L)
  refine res_lop rfl (show (0 : Int) ≤ (DV.sl none 0 L).len ∧ ∀ i : Nat, i < (0 : Int).toNat → memP (.sl none 0 M) (el (.sl none 0 L) i) from ⟨l0, fun k hk => absurd hk (Nat.not_lt_zero k)⟩) (fun i i0 i1 hI => ?_)
  obtain ⟨hi, hn⟩ : i ≤ (DV.sl none 0 L).len ∧ ∀ k : Nat, k < i.toNat → memP (.sl none 0 M) (el (.sl none 0 L) k) := hI
  have ei : ((i.toNat : Nat) : Int) = i := by omega
  refine res_ite (fun hlt => ?_) fun hge => ?_
  · have hlt : i < (DV.sl none 0 L).len := hlt
    refine res_con rfl trivial (fun b _ _ hb => ?_)
    have hb := yn_in (c := memP (.sl none 0 M) ((DV.sl none 0 L).at i 0)) (show [DV.n b] = _ from hb)
    refine res_ite (fun q => no fun h => ?_) fun q => ?_
    · have := h i.toNat (by omega)
      unfold el at this
      rw [ei] at this
      exact (hb.resolve_left fun z => z.1 q).2 this
    · have hm := (hb.resolve_right fun z => q z.1).2
      refine res_chk rfl (show i + 1 ≤ (DV.sl none 0 L).len ∧ ∀ k : Nat, k < (i + 1).toNat → memP (.sl none 0 M) (el (.sl none 0 L) k) from ⟨by omega, fun k hk => ?_⟩) ?_
      · by_cases e : k < i.toNat
        · exact hn k e
        · unfold el; rw [show (k : Int) = i by omega]; exact hm
      · show ((DV.sl none 0 L).len - (i + 1)).toNat < ((DV.sl none 0 L).len - i).toNat
        omega
  · have hge : ¬ i < (DV.sl none 0 L).len := hge
    exact yes fun k hk => hn k (by omega)
set_option maxRecDepth 100000 in
theorem cSetR_ok (N : Nat) (w0 : World) : ConOk Try.prog tb N w0 (cSetR 32) := by
  refine con_of_walk (tb := tb) fine (C := [lSetR]) (lopCons rfl noCon) 80 rfl ?_ N w0
  refine fun S hS C hC L hL _ => ?_
  clear hS hC hL
  rw [tree_setR]
  show T.res _ (fun y => y = yn (setP (DV.sl none 0 S).len (.sl none 0 L) (DV.sl none 0 L).len.toNat)) _ _
  have l0 := len_nn (.sl none 0 L)
  refine res_lop rfl (show (0 : Int) ≤ (DV.sl none 0 L).len ∧ setP (DV.sl none 0 S).len (.sl none 0 L) (0 : Int).toNat from ⟨l0, fun k hk => absurd hk (Nat.not_lt_zero k)⟩) (fun i i0 i1 hI => ?_)
  obtain ⟨hi, hs⟩ : i ≤ (DV.sl none 0 L).len ∧ setP (DV.sl none 0 S).len (.sl none 0 L) i.toNat := hI
  refine res_ite (fun hlt => ?_) fun hge => ?_
  · have hlt : i < (DV.sl none 0 L).len := hlt
    have mea : ((DV.sl none 0 L).len - (i + 1)).toNat < ((DV.sl none 0 L).len - i).toNat := by omega
    refine res_ite (fun q => ?_) fun q => ?_
    · have q : (0 ≤ (DV.sl none 0 L).at i 0 ∧ (DV.sl none 0 L).at i 0 ≤ (DV.sl none 0 S).len - 1) ∧ 0 < i := q
      refine res_ok (show 0 ≤ i - 1 ∧ i - 1 < (DV.sl none 0 L).len by omega) ?_
      refine res_ite (fun z => no (setP_no i0 hlt fun y => ?_)) fun z => res_chk rfl (show i + 1 ≤ (DV.sl none 0 L).len ∧ setP (DV.sl none 0 S).len (.sl none 0 L) (i + 1).toNat from ⟨by omega, setP_succ i0 hs (by omega) fun _ => ?_⟩) mea
      · have z : (DV.sl none 0 L).at i 0 ≤ (DV.sl none 0 L).at (i - 1) 0 := z
        have := y.2 q.2
        omega
      · have z : ¬ (DV.sl none 0 L).at i 0 ≤ (DV.sl none 0 L).at (i - 1) 0 := z
        omega
    · have q2 : ¬ ((0 ≤ (DV.sl none 0 L).at i 0 ∧ (DV.sl none 0 L).at i 0 ≤ (DV.sl none 0 S).len - 1) ∧ 0 < i) := q
      refine res_ite (fun z => absurd z q) fun _ => res_ite (fun z => absurd z q) fun _ => ?_
      refine res_ite (fun z => ?_) fun z => no (setP_no i0 hlt fun y => z ?_)
      · have z : 0 ≤ (DV.sl none 0 L).at i 0 ∧ (DV.sl none 0 L).at i 0 ≤ (DV.sl none 0 S).len - 1 := z
        refine res_ite (fun y => ?_) fun y => res_chk rfl (show i + 1 ≤ (DV.sl none 0 L).len ∧ setP (DV.sl none 0 S).len (.sl none 0 L) (i + 1).toNat from ⟨by omega, setP_succ i0 hs (by omega) fun h => absurd h y⟩) mea
        have y : 0 < i := y
        exact absurd ⟨z, y⟩ q2
      · show 0 ≤ (DV.sl none 0 L).at i 0 ∧ (DV.sl none 0 L).at i 0 ≤ (DV.sl none 0 S).len - 1
        have := y.1
        omega
  · have hge : ¬ i < (DV.sl none 0 L).len := hge
    exact yes (by rw [show (DV.sl none 0 L).len = i by omega]; exact hs)
theorem cRea_ok (N : Nat) (w0 : World) : ConOk Try.prog tb N w0 (cRea 33) := by
  refine con_of_walk (tb := tb) fine (C := [cSetR 32, cAll 24, lRea]) (conCons cSetR_ok (conCons cAll_ok (lopCons rfl noCon))) 80 rfl ?_ N w0
  refine fun S hS C hC f hf R hR side _ _ _ => ?_
  clear hS hC hf hR
  rw [tree_rea]
  show T.res _ (fun y => y = yn (reaP (.sl none 0 S) (.sl none 0 f) (.sl none 0 R) side)) _ _
  have l0 := len_nn (.sl none 0 R)
  refine res_con rfl trivial (fun a _ _ ha => ?_)
  have ha := yn_in (c := setP (DV.sl none 0 S).len (.sl none 0 R) (DV.sl none 0 R).len.toNat) (show [DV.n a] = _ from ha)
  refine res_ite (fun q => ?_) fun q => no fun h => ?_
  · have q : ¬ a = 0 := q
    have hs := (ha.resolve_right fun z => q z.1).2
    refine res_con rfl trivial (fun b _ _ hb => ?_)
    have hb := yn_in (c := allP (.sl none 0 R) (.sl none 0 f)) (show [DV.n b] = _ from hb)
    refine res_ite (fun z => no fun h => (hb.resolve_left fun y => y.1 z).2 h.2.1) fun z => ?_
    have hall := (hb.resolve_right fun y => z y.1).2
    refine res_lop rfl (show (0 : Int) ≤ (DV.sl none 0 R).len ∧ favP (.sl none 0 S) (.sl none 0 R) side (0 : Int).toNat from ⟨l0, fun k hk => absurd hk (Nat.not_lt_zero k)⟩) (fun j j0 j1 hJ => ?_)
    obtain ⟨hj, hv⟩ : j ≤ (DV.sl none 0 R).len ∧ favP (.sl none 0 S) (.sl none 0 R) side j.toNat := hJ
    have ej : ((j.toNat : Nat) : Int) = j := by omega
    refine res_ite (fun hlt => ?_) fun hgj => ?_
    · have hlt : j < (DV.sl none 0 R).len := hlt
      have hx := (hs j.toNat (by omega)).1
      unfold el at hx
      rw [ej] at hx
      refine res_ok (show 0 ≤ (DV.sl none 0 R).at j 0 ∧ (DV.sl none 0 R).at j 0 < (DV.sl none 0 S).len from hx) ?_
      refine res_ite (fun y => no fun v => y ?_) fun y => ?_
      · have := v.2.2 j.toNat (by omega)
        unfold el at this
        rwa [ej] at this
      · have y : (DV.sl none 0 S).at ((DV.sl none 0 R).at j 0) 0 = side := Classical.not_not.1 y
        refine res_chk rfl (show j + 1 ≤ (DV.sl none 0 R).len ∧ favP (.sl none 0 S) (.sl none 0 R) side (j + 1).toNat from ⟨by omega, fun k hk => ?_⟩) ?_
        · by_cases e : k < j.toNat
          · exact hv k e
          · unfold el; rw [show (k : Int) = j by omega]; exact y
        · show ((DV.sl none 0 R).len - (j + 1)).toNat < ((DV.sl none 0 R).len - j).toNat
          omega
    · have hgj : ¬ j < (DV.sl none 0 R).len := hgj
      exact yes ⟨hs, hall, by rw [show (DV.sl none 0 R).len = j by omega]; exact hv⟩
  · have q : ¬ ¬ a = 0 := q
    exact (ha.resolve_left fun z => q z.1).2 h.1
set_option maxHeartbeats 1000000 in
set_option maxRecDepth 100000 in
theorem cChkR_ok (N : Nat) (w0 : World) : ConOk Try.prog tb N w0 (cChk 14) := by
  refine con_of_walk (tb := tb) fine (C := [cSetR 32, cRea 33, lChk1, lChk2]) (conCons cSetR_ok (conCons cRea_ok (lopCons rfl (lopCons rfl noCon)))) 80 rfl ?_ N w0
  refine fun S hS C hC _ => ?_
  clear hS
  rw [tree_chkR]
  show T.res _ (fun y => y = [.n (chkF (.sl none 0 S) (.sl none 0 C))]) _ _
  refine res_ite (fun q => chk_long q) fun q => ?_
  have q2 : ¬ (32 < (DV.sl none 0 S).len ∨ 64 < (DV.sl none 0 C).len) := q
  have l0 := len_nn (.sl none 0 S)
  have l1 := len_nn (.sl none 0 C)
  refine res_lop rfl (show (0 : Int) ≤ (DV.sl none 0 S).len ∧ sidesP (.sl none 0 S) (0 : Int).toNat from ⟨l0, fun k hk => absurd hk (Nat.not_lt_zero k)⟩) (fun i i0 i1 hI => ?_)
  obtain ⟨hi, hs⟩ : i ≤ (DV.sl none 0 S).len ∧ sidesP (.sl none 0 S) i.toNat := hI
  refine res_ite (fun hlt => ?_) fun hge => ?_
  · have hlt : i < (DV.sl none 0 S).len := hlt
    refine res_ite (fun y => chk_bad q fun v => sides_no i0 hlt y v.1) fun y => ?_
    · have y : 0 ≤ (DV.sl none 0 S).at i 0 ∧ (DV.sl none 0 S).at i 0 ≤ 1 := Classical.not_not.1 y
      refine res_chk rfl (show i + 1 ≤ (DV.sl none 0 S).len ∧ sidesP (.sl none 0 S) (i + 1).toNat from ⟨by omega, sides_succ i0 hs y⟩) ?_
      show ((DV.sl none 0 S).len - (i + 1)).toNat < ((DV.sl none 0 S).len - i).toNat
      omega
  have hge : ¬ i < (DV.sl none 0 S).len := hge
  have hsides : sidesP (.sl none 0 S) (DV.sl none 0 S).len.toNat := by rw [show (DV.sl none 0 S).len = i by omega]; exact hs
  refine res_lop rfl (show (0 : Int) ≤ (DV.sl none 0 C).len ∧ casesP (.sl none 0 S) (.sl none 0 C) (0 : Int).toNat from ⟨l1, fun k hk => absurd hk (Nat.not_lt_zero k)⟩) (fun k k0 k1 hK => ?_)
  obtain ⟨hk, hcs⟩ : k ≤ (DV.sl none 0 C).len ∧ casesP (.sl none 0 S) (.sl none 0 C) k.toNat := hK
  refine res_ite (fun hlt => ?_) fun hgk => ?_
  · have hlt : k < (DV.sl none 0 C).len := hlt
    have ek : ((k.toNat : Nat) : Int) = k := by omega
    have hcl := cell_len hC k0 hlt
    have mea : ((DV.sl none 0 C).len - (k + 1)).toNat < ((DV.sl none 0 C).len - k).toNat := by omega
    have bad : ¬ caseP (.sl none 0 S) (.sl none 0 C) k.toNat → [DV.n 520] = [DV.n (chkF (.sl none 0 S) (.sl none 0 C))] := fun h => chk_bad q fun v => cases_no k0 hlt h v.2
    refine res_ite (fun y => bad fun u => ?_) fun y => ?_
    · have y : (¬ (0 ≤ (DV.sl none 0 C).at k 0 ∧ (DV.sl none 0 C).at k 0 ≤ 1048576) ∨ ¬ (0 ≤ (DV.sl none 0 C).at k 1 ∧ (DV.sl none 0 C).at k 1 ≤ 4096)) ∨ ¬ (0 ≤ (DV.sl none 0 C).at k 2 ∧ (DV.sl none 0 C).at k 2 ≤ 1) := y
      have := u.1
      rw [ek] at this
      omega
    have y : ¬ ((¬ (0 ≤ (DV.sl none 0 C).at k 0 ∧ (DV.sl none 0 C).at k 0 ≤ 1048576) ∨ ¬ (0 ≤ (DV.sl none 0 C).at k 1 ∧ (DV.sl none 0 C).at k 1 ≤ 4096)) ∨ ¬ (0 ≤ (DV.sl none 0 C).at k 2 ∧ (DV.sl none 0 C).at k 2 ≤ 1)) := y
    have rest : (0 < k → (DV.sl none 0 C).at (k - 1) 0 < (DV.sl none 0 C).at k 0 ∧ (DV.sl none 0 C).at (k - 1) 1 ≤ (DV.sl none 0 C).at k 1) → decP (.sl none 0 S) (fc (.sl none 0 C) k) (rc (.sl none 0 C) k) ((DV.sl none 0 C).at k 2) → k + 1 ≤ (DV.sl none 0 C).len ∧ casesP (.sl none 0 S) (.sl none 0 C) (k + 1).toNat := fun h1 h2 => ⟨by omega, cases_succ k0 hcs (by
      unfold caseP
      rw [ek]
      exact ⟨by omega, fun h => h1 (by omega), h2⟩)⟩
    have nodec : ¬ decP (.sl none 0 S) (fc (.sl none 0 C) k) (rc (.sl none 0 C) k) ((DV.sl none 0 C).at k 2) → ¬ caseP (.sl none 0 S) (.sl none 0 C) k.toNat := fun h u => h (by
      have := u.2.2
      rw [ek] at this
      exact this)
    refine res_ite (fun z => ?_) fun z => ?_
    · have z : 0 < k := z
      refine res_ok (show 0 ≤ k - 1 ∧ k - 1 < (DV.sl none 0 C).len by omega) ?_
      refine res_ite (fun v => bad fun u => ?_) fun v => ?_
      · have v : (DV.sl none 0 C).at k 0 ≤ (DV.sl none 0 C).at (k - 1) 0 ∨ (DV.sl none 0 C).at k 1 < (DV.sl none 0 C).at (k - 1) 1 := v
        have := u.2.1 (by omega)
        rw [ek] at this
        omega
      have v : ¬ ((DV.sl none 0 C).at k 0 ≤ (DV.sl none 0 C).at (k - 1) 0 ∨ (DV.sl none 0 C).at k 1 < (DV.sl none 0 C).at (k - 1) 1) := v
      refine res_dat (fc (.sl none 0 C) k) (take_all hcl.1) ?_
      refine res_con rfl trivial (fun a _ _ ha => ?_)
      have ha := yn_in (c := setP (DV.sl none 0 S).len (fc (.sl none 0 C) k) (fc (.sl none 0 C) k).len.toNat) (show [DV.n a] = _ from ha)
      refine res_ite (fun t => ?_) fun t => bad (nodec fun u => ?_)
      · have t : ¬ a = 0 := t
        have hsf := (ha.resolve_right fun z => t z.1).2
        refine res_dat (fc (.sl none 0 C) k) (take_all hcl.1) (res_dat (rc (.sl none 0 C) k) (take_all hcl.2) ?_)
        refine res_con rfl trivial (fun b _ _ hb => ?_)
        have hb := yn_in (c := reaP (.sl none 0 S) (fc (.sl none 0 C) k) (rc (.sl none 0 C) k) ((DV.sl none 0 C).at k 2)) (show [DV.n b] = _ from hb)
        refine res_ite (fun o => bad (nodec fun u => (hb.resolve_left fun w => w.1 o).2 u.2)) fun o => ?_
        exact res_chk rfl (rest (fun _ => by omega) ⟨hsf, (hb.resolve_right fun w => o w.1).2⟩) mea
      · have t : ¬ ¬ a = 0 := t
        exact (ha.resolve_left fun w => t w.1).2 u.1
    · have z : ¬ 0 < k := z
      refine res_dat (fc (.sl none 0 C) k) (take_all hcl.1) ?_
      refine res_con rfl trivial (fun a _ _ ha => ?_)
      have ha := yn_in (c := setP (DV.sl none 0 S).len (fc (.sl none 0 C) k) (fc (.sl none 0 C) k).len.toNat) (show [DV.n a] = _ from ha)
      refine res_ite (fun t => ?_) fun t => bad (nodec fun u => ?_)
      · have t : ¬ a = 0 := t
        have hsf := (ha.resolve_right fun z => t z.1).2
        refine res_dat (fc (.sl none 0 C) k) (take_all hcl.1) (res_dat (rc (.sl none 0 C) k) (take_all hcl.2) ?_)
        refine res_con rfl trivial (fun b _ _ hb => ?_)
        have hb := yn_in (c := reaP (.sl none 0 S) (fc (.sl none 0 C) k) (rc (.sl none 0 C) k) ((DV.sl none 0 C).at k 2)) (show [DV.n b] = _ from hb)
        refine res_ite (fun o => bad (nodec fun u => (hb.resolve_left fun w => w.1 o).2 u.2)) fun o => ?_
        exact res_chk rfl (rest (fun h => absurd h z) ⟨hsf, (hb.resolve_right fun w => o w.1).2⟩) mea
      · have t : ¬ ¬ a = 0 := t
        exact (ha.resolve_left fun w => t w.1).2 u.1
  · have hgk : ¬ k < (DV.sl none 0 C).len := hgk
    exact chk_fine q ⟨hsides, by rw [show (DV.sl none 0 C).len = k by omega]; exact hcs⟩
theorem cClg_ok (N : Nat) (w0 : World) : ConOk Try.prog tb N w0 (cClg 27) := by
  refine con_of_walk (tb := tb) fine (C := [cAll 24]) (conCons cAll_ok noCon) 80 rfl ?_ N w0
  refine fun n1 _ _ h1 _ _ v _ _ f hf R hR n2 _ _ h2 _ _ w _ _ g hg T' hT _ => ?_
  clear hf hR hg hT
  rw [tree_clg]
  show T.res _ (fun y => y = yn (clP v (.sl none 0 f) (.sl none 0 R) w (.sl none 0 g) (.sl none 0 T'))) _ _
  refine res_ite (fun q => ?_) fun q => no fun h => q h.1
  refine res_con rfl trivial (fun a _ _ ha => ?_)
  have ha := yn_in (c := allP (.sl none 0 R) (.sl none 0 g)) (show [DV.n a] = _ from ha)
  refine res_ite (fun z => ?_) fun z => no fun h => ?_
  · have z : ¬ a = 0 := z
    refine res_con rfl trivial (fun b _ _ hb => ?_)
    have hb : [DV.n b] = yn (allP (.sl none 0 T') (.sl none 0 f)) := hb
    show [DV.n b] = yn (clP v (.sl none 0 f) (.sl none 0 R) w (.sl none 0 g) (.sl none 0 T'))
    rw [hb]
    unfold yn
    by_cases c : allP (.sl none 0 T') (.sl none 0 f)
    · rw [if_pos c, if_pos ⟨q, (ha.resolve_right fun y => z y.1).2, c⟩]
    · rw [if_neg c, if_neg fun y => c y.2.2]
  · have z : ¬ ¬ a = 0 := z
    exact (ha.resolve_left fun y => z y.1).2 h.2.1
end Go.Proofs.Ytpaphkpdnmalhaa
