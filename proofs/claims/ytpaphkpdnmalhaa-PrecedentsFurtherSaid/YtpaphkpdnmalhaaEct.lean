/- DERIVED. Sets, decisions, checks: the contracts, proved. -/
import Derived.Test.YtpaphkpdnmalhaaEmath
import Derived.Test.YtpaphkpdnmalhaaEtree
namespace Go.Proofs.Ytpaphkpdnmalhaa
open Go.Dx
set_option linter.unusedVariables false
set_option linter.unusedSimpArgs false
theorem set_yes {F : Int} {L : DV} (h : setP F L L.len.toNat) : [DV.n (bits L), .n 1] = SetF F L := by unfold SetF; rw [if_pos h]
theorem set_no {F : Int} {L : DV} (h : ¬ setP F L L.len.toNat) : [DV.n 0, .n 0] = SetF F L := by unfold SetF; rw [if_neg h]
theorem set_in {F a b : Int} {L : DV} (h : [DV.n a, .n b] = SetF F L) : (b = 1 ∧ a = bits L ∧ setP F L L.len.toNat) ∨ (b = 0 ∧ ¬ setP F L L.len.toNat) := by
  by_cases c : setP F L L.len.toNat
  · have e := h.trans (set_yes c).symm
    simp only [List.cons.injEq, DV.n.injEq, and_true] at e
    exact .inl ⟨e.2, e.1, c⟩
  · have e := h.trans (set_no c).symm
    simp only [List.cons.injEq, DV.n.injEq, and_true] at e
    exact .inr ⟨e.2, c⟩
set_option maxRecDepth 100000 in
theorem cSet_ok (N : Nat) (w0 : World) : ConOk Try.prog tb N w0 (cSet 42) := by
  refine con_of_walk (tb := tb) fine (C := [lSet]) (lopCons rfl noCon) 80 rfl ?_ N w0
  refine fun L hL F _ _ hpre => ?_
  clear hL
  have hpre : F ≤ 32 := hpre
  rw [tree_set]
  show T.res _ (fun y => y = SetF F (.sl none 0 L)) _ _
  have l0 := len_nn (.sl none 0 L)
  refine res_lop rfl (show (0 : Int) ≤ (DV.sl none 0 L).len ∧ setP F (.sl none 0 L) (0 : Int).toNat ∧ (0 : Int) = bitsK (.sl none 0 L) (0 : Int).toNat from ⟨l0, fun k hk => absurd hk (Nat.not_lt_zero k), rfl⟩) (fun s s0 s1 i i0 i1 hI => ?_)
  obtain ⟨hi, hs, hb⟩ : i ≤ (DV.sl none 0 L).len ∧ setP F (.sl none 0 L) i.toNat ∧ s = bitsK (.sl none 0 L) i.toNat := hI
  refine res_ite (fun hlt => ?_) fun hge => ?_
  · have hlt : i < (DV.sl none 0 L).len := hlt
    have mea : ((DV.sl none 0 L).len - (i + 1)).toNat < ((DV.sl none 0 L).len - i).toNat := by omega
    have go : (0 ≤ (DV.sl none 0 L).at i 0 ∧ (DV.sl none 0 L).at i 0 < F) → (0 < i → (DV.sl none 0 L).at (i - 1) 0 < (DV.sl none 0 L).at i 0) → i + 1 ≤ (DV.sl none 0 L).len ∧ setP F (.sl none 0 L) (i + 1).toNat ∧ bitD 1 .u32 s (IntKind.u32.wrap (1 * 2 ^ (Min.min ((DV.sl none 0 L).at i 0).toNat IntKind.u32.bits))) = bitsK (.sl none 0 L) (i + 1).toNat := fun h1 h2 => by
      refine ⟨by omega, setP_succ i0 hs h1 h2, ?_⟩
      rw [hb, p2_id h1.1 (by omega), or_id (set_lt hpre hs) (Nat.pow_lt_pow_right (by decide) (by omega)), show (i + 1).toNat = i.toNat + 1 by omega]
      show _ = ((bitsK (.sl none 0 L) i.toNat ||| 2 ^ (el (.sl none 0 L) i.toNat).toNat : Nat) : Int)
      unfold el
      rw [show ((i.toNat : Nat) : Int) = i by omega]
    refine res_ite (fun q => ?_) fun q => ?_
    · have q : ¬ ((DV.sl none 0 L).at i 0 < 0 ∨ F ≤ (DV.sl none 0 L).at i 0) ∧ 0 < i := q
      refine res_ok (show 0 ≤ i - 1 ∧ i - 1 < (DV.sl none 0 L).len by omega) ?_
      refine res_ite (fun z => set_no (setP_no i0 hlt fun y => ?_)) fun z => res_chk rfl (go (by omega) fun _ => ?_) mea
      · have z : (DV.sl none 0 L).at i 0 ≤ (DV.sl none 0 L).at (i - 1) 0 := z
        have := y.2 q.2
        omega
      · have z : ¬ (DV.sl none 0 L).at i 0 ≤ (DV.sl none 0 L).at (i - 1) 0 := z
        omega
    · have q2 : ¬ (¬ ((DV.sl none 0 L).at i 0 < 0 ∨ F ≤ (DV.sl none 0 L).at i 0) ∧ 0 < i) := q
      refine res_ite (fun z => absurd z q) fun _ => res_ite (fun z => absurd z q) fun _ => ?_
      refine res_ite (fun z => ?_) fun z => set_no (setP_no i0 hlt fun y => z ?_)
      · have z : ¬ ((DV.sl none 0 L).at i 0 < 0 ∨ F ≤ (DV.sl none 0 L).at i 0) := z
        refine res_ite (fun y => ?_) fun y => res_chk rfl (go (by omega) fun h => absurd h y) mea
        have y : 0 < i := y
        exact absurd ⟨z, y⟩ q2
      · show ¬ ((DV.sl none 0 L).at i 0 < 0 ∨ F ≤ (DV.sl none 0 L).at i 0)
        have := y.1
        omega
  · have hge : ¬ i < (DV.sl none 0 L).len := hge
    show [DV.n s, .n 1] = _
    rw [hb, show i = (DV.sl none 0 L).len by omega]
    exact set_yes (by rw [show (DV.sl none 0 L).len = i by omega]; exact hs)
/-- What decisionOf returns. -/
def DecQ (S f R : DV) (side : Int) (y : List DV) : Prop := (∃ a b c, y = [.n a, .n b, .n c, .n (if decP S f R side then 1 else 0)]) ∧ (decP S f R side → gi y 0 = side ∧ gi y 1 = bits f ∧ gi y 2 = bits R)
theorem dec_no {S f R : DV} {side a b c : Int} (h : ¬ decP S f R side) : DecQ S f R side [.n a, .n b, .n c, .n 0] := ⟨⟨a, b, c, by rw [if_neg h]⟩, fun q => absurd q h⟩
theorem dec_yes {S f R : DV} {side a b c : Int} (h : decP S f R side) (ha : a = side) (hb : b = bits f) (hc : c = bits R) : DecQ S f R side [.n a, .n b, .n c, .n 1] := ⟨⟨a, b, c, by rw [if_pos h]⟩, fun _ => ⟨ha, hb, hc⟩⟩
theorem dec_in {S f R : DV} {side a b c d : Int} (h : DecQ S f R side [.n a, .n b, .n c, .n d]) : (d = 1 ∧ decP S f R side ∧ a = side ∧ b = bits f ∧ c = bits R) ∨ (d = 0 ∧ ¬ decP S f R side) := by
  obtain ⟨⟨a', b', c', e⟩, h2⟩ := h
  simp only [List.cons.injEq, DV.n.injEq, and_true] at e
  by_cases q : decP S f R side
  · rw [if_pos q] at e
    exact .inl ⟨e.2.2.2, q, h2 q⟩
  · rw [if_neg q] at e
    exact .inr ⟨e.2.2.2, q⟩
set_option maxRecDepth 100000 in
theorem cDec_ok (N : Nat) (w0 : World) : ConOk Try.prog tb N w0 (cDec 30) := by
  refine con_of_walk (tb := tb) fine (C := [cSet 42, lDec]) (conCons cSet_ok (lopCons rfl noCon)) 80 rfl ?_ N w0
  refine fun S hS f hf R hR side _ _ hpre => ?_
  clear hS hf hR
  have hpre : (DV.sl none 0 S).len ≤ 32 := hpre
  rw [tree_dec]
  show T.res _ (DecQ (.sl none 0 S) (.sl none 0 f) (.sl none 0 R) side) _ _
  refine res_con rfl (show (DV.sl none 0 S).len ≤ 32 from hpre) (fun a a0 a1 b _ _ h1 => ?_)
  have h1 := set_in (show [DV.n a, .n b] = SetF (DV.sl none 0 S).len (.sl none 0 f) from h1)
  refine res_ite (fun q => dec_no fun y => ?_) fun q => ?_
  · exact (h1.resolve_left fun z => by have q : b = 0 := q; omega).2 y.1
  have q : ¬ b = 0 := q
  obtain ⟨_, ha, hsf⟩ := h1.resolve_right fun z => q z.1
  refine res_con rfl (show (DV.sl none 0 S).len ≤ 32 from hpre) (fun c c0 c1 d _ _ h2 => ?_)
  have h2 := set_in (show [DV.n c, .n d] = SetF (DV.sl none 0 S).len (.sl none 0 R) from h2)
  refine res_ite (fun z => dec_no fun y => ?_) fun z => ?_
  · exact (h2.resolve_left fun v => by have z : d = 0 := z; omega).2 y.2.1
  have z : ¬ d = 0 := z
  obtain ⟨_, hc, hsR⟩ := h2.resolve_right fun v => z v.1
  have l0 := len_nn (.sl none 0 R)
  refine res_lop rfl (show (0 : Int) ≤ (DV.sl none 0 R).len ∧ ∀ i, i < (0 : Int).toNat → memP (.sl none 0 f) (el (.sl none 0 R) i) from ⟨l0, fun k hk => absurd hk (Nat.not_lt_zero k)⟩) (fun i i0 i1 hI => ?_)
  obtain ⟨hi, hm⟩ : i ≤ (DV.sl none 0 R).len ∧ ∀ k, k < i.toNat → memP (.sl none 0 f) (el (.sl none 0 R) k) := hI
  have ei : ((i.toNat : Nat) : Int) = i := by omega
  refine res_ite (fun hlt => ?_) fun hge => ?_
  · have hlt : i < (DV.sl none 0 R).len := hlt
    have hx := (hsR i.toNat (by omega)).1
    unfold el at hx
    rw [ei] at hx
    refine res_ok (show 0 ≤ (DV.sl none 0 R).at i 0 from hx.1) ?_
    have hiff := (has_iff (set_lt hpre hsf) hx.1).trans (mem_bit hsf hx.1)
    have ea : a = ((bitsK (.sl none 0 f) (DV.sl none 0 f).len.toNat : Nat) : Int) := ha
    rw [← ea] at hiff
    refine res_ite (fun y => dec_no fun v => y (hiff.2 ?_)) fun y => ?_
    · have := v.2.2.1 i.toNat (by omega)
      unfold el at this
      rwa [ei] at this
    · have y := hiff.1 (Classical.not_not.1 y)
      refine res_chk rfl (show i + 1 ≤ (DV.sl none 0 R).len ∧ ∀ k, k < (i + 1).toNat → memP (.sl none 0 f) (el (.sl none 0 R) k) from ⟨by omega, fun k hk => ?_⟩) ?_
      · by_cases e : k < i.toNat
        · exact hm k e
        · unfold el; rw [show (k : Int) = i by omega]; exact y
      · show ((DV.sl none 0 R).len - (i + 1)).toNat < ((DV.sl none 0 R).len - i).toNat
        omega
  have hge : ¬ i < (DV.sl none 0 R).len := hge
  have hall : allP (.sl none 0 R) (.sl none 0 f) := fun k hk => hm k (by omega)
  refine res_lop rfl (show (0 : Int) ≤ (DV.sl none 0 R).len ∧ favP (.sl none 0 S) (.sl none 0 R) side (0 : Int).toNat from ⟨l0, fun k hk => absurd hk (Nat.not_lt_zero k)⟩) (fun j j0 j1 hJ => ?_)
  obtain ⟨hj, hv⟩ : j ≤ (DV.sl none 0 R).len ∧ favP (.sl none 0 S) (.sl none 0 R) side j.toNat := hJ
  have ej : ((j.toNat : Nat) : Int) = j := by omega
  refine res_ite (fun hlt => ?_) fun hgj => ?_
  · have hlt : j < (DV.sl none 0 R).len := hlt
    have hx := (hsR j.toNat (by omega)).1
    unfold el at hx
    rw [ej] at hx
    refine res_ok (show 0 ≤ (DV.sl none 0 R).at j 0 ∧ (DV.sl none 0 R).at j 0 < (DV.sl none 0 S).len from hx) ?_
    refine res_ite (fun y => dec_no fun v => y ?_) fun y => ?_
    · have := v.2.2.2 j.toNat (by omega)
      unfold el at this
      rwa [ej] at this
    · have y : (DV.sl none 0 S).at ((DV.sl none 0 R).at j 0) 0 = side := Classical.not_not.1 y
      refine res_chk rfl (show j + 1 ≤ (DV.sl none 0 R).len ∧ favP (.sl none 0 S) (.sl none 0 R) side (j + 1).toNat from ⟨by omega, fun k hk => ?_⟩) ?_
      · by_cases e : k < j.toNat
        · exact hv k e
        · unfold el; rw [show (k : Int) = j by omega]; exact y
      · show ((DV.sl none 0 R).len - (j + 1)).toNat < ((DV.sl none 0 R).len - j).toNat
        omega
  have hgj : ¬ j < (DV.sl none 0 R).len := hgj
  exact dec_yes ⟨hsf, hsR, hall, by rw [show (DV.sl none 0 R).len = j by omega]; exact hv⟩ rfl ha hc
theorem chk_long {S C : DV} (h : 32 < S.len ∨ 64 < C.len) : [DV.n 2] = [DV.n (chkF S C)] := by unfold chkF; rw [if_pos h]
theorem chk_bad {S C : DV} (h : ¬ (32 < S.len ∨ 64 < C.len)) (k : ¬ (sidesP S S.len.toNat ∧ casesP S C C.len.toNat)) : [DV.n 520] = [DV.n (chkF S C)] := by unfold chkF; rw [if_neg h, if_neg k]
theorem chk_fine {S C : DV} (h : ¬ (32 < S.len ∨ 64 < C.len)) (k : sidesP S S.len.toNat ∧ casesP S C C.len.toNat) : [DV.n 0] = [DV.n (chkF S C)] := by unfold chkF; rw [if_neg h, if_pos k]
theorem sides_no {S : DV} {x : Int} (h0 : 0 ≤ x) (h1 : x < S.len) (h : ¬ (0 ≤ S.at x 0 ∧ S.at x 0 ≤ 1)) : ¬ sidesP S S.len.toNat := fun q => h (by
  have := q x.toNat (by omega)
  unfold el at this
  rwa [show ((x.toNat : Nat) : Int) = x by omega] at this)
theorem sides_succ {S : DV} {x : Int} (h0 : 0 ≤ x) (h : sidesP S x.toNat) (hx : 0 ≤ S.at x 0 ∧ S.at x 0 ≤ 1) : sidesP S (x + 1).toNat := fun k hk => by
  by_cases e : k < x.toNat
  · exact h k e
  · unfold el; rw [show (k : Int) = x by omega]; exact hx
theorem cases_no {S C : DV} {x : Int} (h0 : 0 ≤ x) (h1 : x < C.len) (h : ¬ caseP S C x.toNat) : ¬ casesP S C C.len.toNat := fun q => h (q x.toNat (by omega))
theorem cases_succ {S C : DV} {x : Int} (h0 : 0 ≤ x) (h : casesP S C x.toNat) (hx : caseP S C x.toNat) : casesP S C (x + 1).toNat := fun k hk => by
  by_cases e : k < x.toNat
  · exact h k e
  · rw [show k = x.toNat by omega]; exact hx
theorem chk_zero {S C : DV} (h : chkF S C = 0) : (S.len ≤ 32 ∧ C.len ≤ 64) ∧ sidesP S S.len.toNat ∧ casesP S C C.len.toNat := by
  unfold chkF at h
  by_cases c1 : 32 < S.len ∨ 64 < C.len
  · rw [if_pos c1] at h; exact absurd h (by decide)
  rw [if_neg c1] at h
  by_cases c2 : sidesP S S.len.toNat ∧ casesP S C C.len.toNat
  · exact ⟨by omega, c2⟩
  · rw [if_neg c2] at h; exact absurd h (by decide)
set_option maxHeartbeats 1000000 in
set_option maxRecDepth 100000 in
theorem cChk_ok (N : Nat) (w0 : World) : ConOk Try.prog tb N w0 (cChk 13) := by
  refine con_of_walk (tb := tb) fine (C := [cDec 30, lSides, lChk]) (conCons cDec_ok (lopCons rfl (lopCons rfl noCon))) 80 rfl ?_ N w0
  refine fun S hS C hC _ => ?_
  clear hS
  rw [tree_chk]
  show T.res _ (fun y => y = [.n (chkF (.sl none 0 S) (.sl none 0 C))]) _ _
  refine res_ite (fun q => chk_long q) fun q => ?_
  have q2 : ¬ (32 < (DV.sl none 0 S).len ∨ 64 < (DV.sl none 0 C).len) := q
  have l0 := len_nn (.sl none 0 S)
  have l1 := len_nn (.sl none 0 C)
  refine res_lop rfl (show (0 : Int) ≤ (DV.sl none 0 S).len ∧ sidesP (.sl none 0 S) (0 : Int).toNat from ⟨l0, fun k hk => absurd hk (Nat.not_lt_zero k)⟩) (fun i i0 i1 hI => ?_)
  obtain ⟨hi, hs⟩ : i ≤ (DV.sl none 0 S).len ∧ sidesP (.sl none 0 S) i.toNat := hI
  refine res_ite (fun hlt => ?_) fun hge => ?_
  · have hlt : i < (DV.sl none 0 S).len := hlt
    refine res_ite (fun y => chk_bad q fun v => sides_no i0 hlt (fun u => ?_) v.1) fun y => ?_
    · have y : ¬ ((DV.sl none 0 S).at i 0 = 0 ∨ (DV.sl none 0 S).at i 0 = 1) := y
      omega
    · have y : ¬ ¬ ((DV.sl none 0 S).at i 0 = 0 ∨ (DV.sl none 0 S).at i 0 = 1) := y
      refine res_chk rfl (show i + 1 ≤ (DV.sl none 0 S).len ∧ sidesP (.sl none 0 S) (i + 1).toNat from ⟨by omega, sides_succ i0 hs (by omega)⟩) ?_
      show ((DV.sl none 0 S).len - (i + 1)).toNat < ((DV.sl none 0 S).len - i).toNat
      omega
  have hge : ¬ i < (DV.sl none 0 S).len := hge
  have hsides : sidesP (.sl none 0 S) (DV.sl none 0 S).len.toNat := by rw [show (DV.sl none 0 S).len = i by omega]; exact hs
  refine res_dat (.sl none 0 []) rfl (res_dat (.sl none 0 []) rfl ?_)
  refine res_lop rfl (show (0 : Int) ≤ (DV.sl none 0 C).len ∧ casesP (.sl none 0 S) (.sl none 0 C) (0 : Int).toNat ∧ ((0 : Int) = 0 → (-1 : Int) = -1 ∧ (0 : Int) = 0) ∧ ((0 : Int) < 0 → (-1 : Int) = (DV.sl none 0 C).at (0 - 1) 0 ∧ (0 : Int) = (DV.sl none 0 C).at (0 - 1) 1) from ⟨l1, fun k hk => absurd hk (Nat.not_lt_zero k), fun _ => ⟨rfl, rfl⟩, fun h => absurd h (by decide)⟩) (fun k k0 k1 no' _ _ ho _ _ wi _ _ ff hff rr hrr hK => ?_)
  clear hff hrr
  obtain ⟨hk, hcs, hz, hp⟩ : k ≤ (DV.sl none 0 C).len ∧ casesP (.sl none 0 S) (.sl none 0 C) k.toNat ∧ (k = 0 → no' = -1 ∧ ho = 0) ∧ (0 < k → no' = (DV.sl none 0 C).at (k - 1) 0 ∧ ho = (DV.sl none 0 C).at (k - 1) 1) := hK
  refine res_ite (fun hlt => ?_) fun hgk => ?_
  · have hlt : k < (DV.sl none 0 C).len := hlt
    have ek : ((k.toNat : Nat) : Int) = k := by omega
    have hcl := cell_len hC k0 hlt
    refine res_dat (fc (.sl none 0 C) k) (take_all hcl.1) (res_dat (rc (.sl none 0 C) k) (take_all hcl.2) ?_)
    refine res_con rfl (show (DV.sl none 0 S).len ≤ 32 by omega) (fun a _ _ b _ _ c _ _ d _ _ hd => ?_)
    have hd := dec_in (show DecQ (.sl none 0 S) (fc (.sl none 0 C) k) (rc (.sl none 0 C) k) ((DV.sl none 0 C).at k 2) [.n a, .n b, .n c, .n d] from hd)
    have prev : 0 < k → (0 ≤ (DV.sl none 0 C).at (k - 1) 0 ∧ 0 ≤ (DV.sl none 0 C).at (k - 1) 1) := fun h => by
      have := (hcs (k.toNat - 1) (by omega)).1
      rw [show ((k.toNat - 1 : Nat) : Int) = k - 1 by omega] at this
      exact ⟨this.1.1.1, this.1.2.1⟩
    refine res_ite (fun y => chk_bad q fun v => cases_no k0 hlt (fun u => ?_) v.2) fun y => ?_
    · have y : ((((d = 0 ∨ ¬ ((DV.sl none 0 C).at k 2 = 0 ∨ (DV.sl none 0 C).at k 2 = 1)) ∨ (DV.sl none 0 C).at k 0 ≤ no') ∨ 1048576 < (DV.sl none 0 C).at k 0) ∨ (DV.sl none 0 C).at k 1 < ho) ∨ 4096 < (DV.sl none 0 C).at k 1 := y
      obtain ⟨u1, u2, u3⟩ := u
      rw [ek] at u1 u2 u3
      have d1 : d = 1 := (hd.resolve_right fun z => z.2 u3).1
      by_cases e : k = 0
      · have := hz e
        omega
      · have := hp (by omega)
        have := u2 (by omega)
        omega
    · have y : ¬ (((((d = 0 ∨ ¬ ((DV.sl none 0 C).at k 2 = 0 ∨ (DV.sl none 0 C).at k 2 = 1)) ∨ (DV.sl none 0 C).at k 0 ≤ no') ∨ 1048576 < (DV.sl none 0 C).at k 0) ∨ (DV.sl none 0 C).at k 1 < ho) ∨ 4096 < (DV.sl none 0 C).at k 1) := y
      have hdec := (hd.resolve_right fun z => y (.inl (.inl (.inl (.inl (.inl z.1)))))).2.1
      have hcase : caseP (.sl none 0 S) (.sl none 0 C) k.toNat := by
        unfold caseP
        rw [ek]
        by_cases e : k = 0
        · have := hz e
          exact ⟨by omega, fun h => by omega, hdec⟩
        · have h1 := hp (by omega)
          have h2 := prev (by omega)
          exact ⟨by omega, fun h => by omega, hdec⟩
      refine res_dat (fc (.sl none 0 C) k) (take_all hcl.1) (res_dat (rc (.sl none 0 C) k) (take_all hcl.2) ?_)
      refine res_chk rfl (show k + 1 ≤ (DV.sl none 0 C).len ∧ casesP (.sl none 0 S) (.sl none 0 C) (k + 1).toNat ∧ (k + 1 = 0 → (DV.sl none 0 C).at k 0 = -1 ∧ (DV.sl none 0 C).at k 1 = 0) ∧ (0 < k + 1 → (DV.sl none 0 C).at k 0 = (DV.sl none 0 C).at (k + 1 - 1) 0 ∧ (DV.sl none 0 C).at k 1 = (DV.sl none 0 C).at (k + 1 - 1) 1) from ⟨by omega, cases_succ k0 hcs hcase, fun h => by omega, fun _ => by rw [show k + 1 - 1 = k by omega]; exact ⟨rfl, rfl⟩⟩) ?_
      show ((DV.sl none 0 C).len - (k + 1)).toNat < ((DV.sl none 0 C).len - k).toNat
      omega
  · have hgk : ¬ k < (DV.sl none 0 C).len := hgk
    exact chk_fine q ⟨hsides, by rw [show (DV.sl none 0 C).len = k by omega]; exact hcs⟩
end Go.Proofs.Ytpaphkpdnmalhaa
