/- DERIVED. What may be decided, and what distinguishes: the contracts, proved. -/
import Derived.Test.YtpaphkpdnmalhaaEctb
namespace Go.Proofs.Ytpaphkpdnmalhaa
open Go.Dx
set_option linter.unusedVariables false
set_option linter.unusedSimpArgs false
theorem may_bad {S C f R : DV} {side e : Int} (h : e = askF S C f side) (k : e ≠ 0) : [DV.n 0, .n 0, .n e] = MayF S C f R side := by unfold MayF; rw [if_pos (by rw [← h]; exact k), h]
theorem may_wrong {S C f R : DV} {side : Int} (h : askF S C f side = 0) (k : ¬ reaP S f R side) : [DV.n 0, .n 0, .n 520] = MayF S C f R side := by unfold MayF; rw [if_neg (by rw [h]; decide), if_pos k]
theorem may_yes {S C f R : DV} {side : Int} (h : askF S C f side = 0) (q : reaP S f R side) (k : ∀ i, i < C.len.toNat → ¬ mayP C f R side i) : [DV.n 0, .n 1, .n 0] = MayF S C f R side := by
  have e : mayN C f R side = C.len.toNat := first_none k
  unfold MayF; rw [if_neg (by rw [h]; decide), if_neg (fun z => z q), if_neg (by rw [e]; omega)]
theorem may_no {S C f R : DV} {side : Int} (h : askF S C f side = 0) (q : reaP S f R side) {i : Nat} (hi : i < C.len.toNat) (h1 : ∀ k, k < i → ¬ mayP C f R side k) (h2 : mayP C f R side i) : [DV.n i, .n 0, .n 0] = MayF S C f R side := by
  have e : mayN C f R side = i := first_eq h2 h1 hi
  unfold MayF; rw [if_neg (by rw [h]; decide), if_neg (fun z => z q), if_pos (by rw [e]; exact hi), e]
set_option maxHeartbeats 1000000 in
set_option maxRecDepth 100000 in
theorem cMay_ok (N : Nat) (w0 : World) : ConOk Try.prog tb N w0 (cMay 17) := by
  refine con_of_walk (tb := tb) fine (C := [cAsk 34, cDec 30, lMay]) (conCons cAsk_ok (conCons cDec_ok (lopCons rfl noCon))) 80 rfl ?_ N w0
  refine fun S hS C hC f hf R hR side _ _ _ => ?_
  clear hS hf hR
  rw [tree_may]
  show T.res _ (fun y => y = MayF (.sl none 0 S) (.sl none 0 C) (.sl none 0 f) (.sl none 0 R) side) _ _
  refine res_con rfl trivial (fun a _ _ e _ _ he => ?_)
  obtain ⟨he, ha⟩ := ask_in (show [DV.n a, .n e] = [.n (if askF (.sl none 0 S) (.sl none 0 C) (.sl none 0 f) side = 0 then bits (.sl none 0 f) else 0), .n (askF (.sl none 0 S) (.sl none 0 C) (.sl none 0 f) side)] from he)
  refine res_ite (fun q => may_bad he q) fun q => ?_
  have q : ¬ ¬ e = 0 := q
  have hz : askF (.sl none 0 S) (.sl none 0 C) (.sl none 0 f) side = 0 := by omega
  obtain ⟨hc, hsf, hs0, hs1⟩ := ask_zero hz
  have hS32 : (DV.sl none 0 S).len ≤ 32 := (chk_zero hc).1.1
  have l1 := len_nn (.sl none 0 C)
  refine res_con rfl (show (DV.sl none 0 S).len ≤ 32 from hS32) (fun u _ _ v _ _ t _ _ d _ _ hd => ?_)
  have hd := dec_in (show DecQ (.sl none 0 S) (.sl none 0 f) (.sl none 0 R) side [.n u, .n v, .n t, .n d] from hd)
  refine res_ite (fun z => may_wrong hz fun y => ?_) fun z => ?_
  · exact (hd.resolve_left fun w => by have z : d = 0 := z; omega).2 ⟨hsf, y⟩
  have z : ¬ d = 0 := z
  obtain ⟨_, hdec, hu, hv, ht⟩ := hd.resolve_right fun w => z w.1
  refine res_lop rfl (show (0 : Int) ≤ (DV.sl none 0 C).len ∧ ∀ i : Nat, i < (0 : Int).toNat → ¬ mayP (.sl none 0 C) (.sl none 0 f) (.sl none 0 R) side i from ⟨l1, fun k hk => absurd hk (Nat.not_lt_zero k)⟩) (fun i i0 i1 hI => ?_)
  obtain ⟨hi, hn⟩ : i ≤ (DV.sl none 0 C).len ∧ ∀ k : Nat, k < i.toNat → ¬ mayP (.sl none 0 C) (.sl none 0 f) (.sl none 0 R) side k := hI
  have ei : ((i.toNat : Nat) : Int) = i := by omega
  refine res_ite (fun hlt => ?_) fun hge => ?_
  · have hlt : i < (DV.sl none 0 C).len := hlt
    have hcl := cell_len hC i0 hlt
    obtain ⟨hdi, _⟩ := case_dec hc i0 hlt
    refine res_dat (fc (.sl none 0 C) i) (take_all hcl.1) (res_dat (rc (.sl none 0 C) i) (take_all hcl.2) ?_)
    refine res_con rfl (show (DV.sl none 0 S).len ≤ 32 from hS32) (fun a' _ _ b' _ _ c' _ _ d' _ _ hd' => ?_)
    obtain ⟨_, _, ha', hb', hcc'⟩ := (dec_in (show DecQ (.sl none 0 S) (fc (.sl none 0 C) i) (rc (.sl none 0 C) i) ((DV.sl none 0 C).at i 2) [.n a', .n b', .n c', .n d'] from hd')).resolve_right fun w => w.2 hdi
    have hiff : mayP (.sl none 0 C) (.sl none 0 f) (.sl none 0 R) side i.toNat ↔ a' ≠ u ∧ bitD 3 .u32 c' v = 0 ∧ bitD 3 .u32 t b' = 0 := by
      unfold mayP
      rw [ei, cl_iff hS32 hdi.1 hdi.2.1 hdec.1 hdec.2.1, ha', hb', hcc', hu, hv, ht]
    have mea : ((DV.sl none 0 C).len - (i + 1)).toNat < ((DV.sl none 0 C).len - i).toNat := by omega
    have go : ¬ (a' ≠ u ∧ bitD 3 .u32 c' v = 0 ∧ bitD 3 .u32 t b' = 0) → i + 1 ≤ (DV.sl none 0 C).len ∧ ∀ k : Nat, k < (i + 1).toNat → ¬ mayP (.sl none 0 C) (.sl none 0 f) (.sl none 0 R) side k := fun h => ⟨by omega, fun k hk => by
      by_cases e : k < i.toNat
      · exact hn k e
      · rw [show k = i.toNat by omega]
        exact fun w => h (hiff.1 w)⟩
    refine res_ite (fun y1 => ?_) fun y1 => res_chk rfl (go fun h => y1 h.1) mea
    refine res_ite (fun y2 => ?_) fun y2 => res_chk rfl (go fun h => y2 h.2.1) mea
    refine res_ite (fun y3 => ?_) fun y3 => res_chk rfl (go fun h => y3 h.2.2) mea
    have := may_no hz hdec.2 (i := i.toNat) (by omega) hn (hiff.2 ⟨y1, y2, y3⟩)
    rw [ei] at this
    exact this
  · have hge : ¬ i < (DV.sl none 0 C).len := hge
    exact may_yes hz hdec.2 fun k hk => hn k (by omega)
theorem dis_bad {S C f : DV} {i e : Int} (h : e = askF S C f 0) (k : e ≠ 0) : [DV.sl none 0 [], .n 0, .n e] = DisF S C i f := by unfold DisF; rw [if_pos (by rw [← h]; exact k), h]
theorem dis_arg {S C f : DV} {i : Int} (h : askF S C f 0 = 0) (k : ¬ (0 ≤ i ∧ i < C.len)) : [DV.sl none 0 [], .n 0, .n 1] = DisF S C i f := by unfold DisF; rw [if_neg (by rw [h]; decide), if_pos k]
theorem dis_ret {S C f : DV} {i b : Int} (h : askF S C f 0 = 0) (k : 0 ≤ i ∧ i < C.len) (hb : b = if 0 < (disL S C i f).length ∧ allP (rc C i) f then 1 else 0) : [DV.sl none 0 (disL S C i f), .n b, .n 0] = DisF S C i f := by unfold DisF; rw [if_neg (by rw [h]; decide), if_neg (fun z => z k), hb]
theorem misK_len (S : DV) (w : Int) (g f : DV) : ∀ n, (misK S w g f n).length ≤ n
  | 0 => Nat.le_refl _
  | n + 1 => by
    have := misK_len S w g f n
    unfold misK
    split
    · simp only [List.length_append, List.length_cons, List.length_nil]; omega
    · omega
/-- A set has no more elements than there are factors. -/
theorem set_len {F : Int} {L : DV} : ∀ {n : Nat}, setP F L n → ∀ i, i < n → (i : Int) ≤ el L i
  | _, h, 0, hi => (h 0 hi).1.1
  | _, h, i + 1, hi => by
    have ih := set_len h i (by omega)
    have := (h (i + 1) hi).2 (by omega)
    rw [show i + 1 - 1 = i by omega] at this
    omega
theorem set_card {F : Int} {L : DV} (h0 : 0 ≤ F) (h : setP F L L.len.toNat) : L.len ≤ F := by
  have l0 := len_nn L
  by_cases c : L.len = 0
  · omega
  · have h1 := set_len h (L.len.toNat - 1) (by omega)
    have h2 := (h (L.len.toNat - 1) (by omega)).1.2
    omega
theorem misK_succ {S : DV} {w : Int} {g f : DV} {x : Int} (h0 : 0 ≤ x) : misK S w g f (x + 1).toNat = if lackP S w g (f.at x 0) then misK S w g f x.toNat ++ [[.n (f.at x 0)]] else misK S w g f x.toNat := by
  rw [show (x + 1).toNat = x.toNat + 1 by omega]
  show (if lackP S w g (el f x.toNat) then misK S w g f x.toNat ++ [[.n (el f x.toNat)]] else misK S w g f x.toNat) = _
  unfold el
  rw [show ((x.toNat : Nat) : Int) = x by omega]
set_option maxHeartbeats 1000000 in
set_option maxRecDepth 100000 in
theorem cDis_ok (N : Nat) (w0 : World) : ConOk Try.prog tb N w0 (cDis 19) := by
  refine con_of_walk (tb := tb) fine (C := [cAsk 34, cDec 30, lDis]) (conCons cAsk_ok (conCons cDec_ok (lopCons rfl noCon))) 80 rfl ?_ N w0
  refine fun S hS C hC at' _ _ f hf _ => ?_
  clear hS hf
  rw [tree_dis]
  show T.res _ (fun y => y = DisF (.sl none 0 S) (.sl none 0 C) at' (.sl none 0 f)) _ _
  refine res_con rfl trivial (fun a _ _ e _ _ he => ?_)
  obtain ⟨he, ha⟩ := ask_in (show [DV.n a, .n e] = [.n (if askF (.sl none 0 S) (.sl none 0 C) (.sl none 0 f) 0 = 0 then bits (.sl none 0 f) else 0), .n (askF (.sl none 0 S) (.sl none 0 C) (.sl none 0 f) 0)] from he)
  refine res_ite (fun q => res_dat (.sl none 0 []) rfl (dis_bad he q)) fun q => ?_
  have q : ¬ ¬ e = 0 := q
  have hz : askF (.sl none 0 S) (.sl none 0 C) (.sl none 0 f) 0 = 0 := by omega
  have ha := ha (by omega)
  obtain ⟨hc, hsf, _, _⟩ := ask_zero hz
  have hS32 : (DV.sl none 0 S).len ≤ 32 := (chk_zero hc).1.1
  have l0 := len_nn (.sl none 0 f)
  have lS := len_nn (.sl none 0 S)
  have hcard := set_card lS hsf
  refine res_ite (fun y => res_dat (.sl none 0 []) rfl (dis_arg hz fun v => ?_)) fun y => ?_
  · have y : at' < 0 ∨ (DV.sl none 0 C).len ≤ at' := y
    omega
  have y : ¬ (at' < 0 ∨ (DV.sl none 0 C).len ≤ at') := y
  have hat : 0 ≤ at' ∧ at' < (DV.sl none 0 C).len := by omega
  have hcl := cell_len hC hat.1 hat.2
  obtain ⟨hdi, _⟩ := case_dec hc hat.1 hat.2
  refine res_dat (fc (.sl none 0 C) at') (take_all hcl.1) (res_dat (rc (.sl none 0 C) at') (take_all hcl.2) ?_)
  refine res_con rfl (show (DV.sl none 0 S).len ≤ 32 from hS32) (fun x _ _ b _ _ c _ _ d _ _ hd => ?_)
  obtain ⟨_, _, hx, hb, hcc⟩ := (dec_in (show DecQ (.sl none 0 S) (fc (.sl none 0 C) at') (rc (.sl none 0 C) at') ((DV.sl none 0 C).at at' 2) [.n x, .n b, .n c, .n d] from hd)).resolve_right fun w => w.2 hdi
  refine res_dat (.sl none 0 []) rfl ?_
  refine res_lop rfl (show (0 : Int) ≤ (DV.sl none 0 f).len ∧ [] = misK (.sl none 0 S) ((DV.sl none 0 C).at at' 2) (fc (.sl none 0 C) at') (.sl none 0 f) (0 : Int).toNat from ⟨l0, rfl⟩) (fun o ho i i0 i1 hI => ?_)
  clear ho
  obtain ⟨hi, hoo⟩ : i ≤ (DV.sl none 0 f).len ∧ o = misK (.sl none 0 S) ((DV.sl none 0 C).at at' 2) (fc (.sl none 0 C) at') (.sl none 0 f) i.toNat := hI
  have ei : ((i.toNat : Nat) : Int) = i := by omega
  have hol := misK_len (.sl none 0 S) ((DV.sl none 0 C).at at' 2) (fc (.sl none 0 C) at') (.sl none 0 f) i.toNat
  rw [← hoo] at hol
  have lo : (DV.sl none 0 o).len = o.length := clampL_eq (show o.length ≤ 9223372036854775807 by omega)
  refine res_ite (fun hlt => ?_) fun hge => ?_
  · have hlt : i < (DV.sl none 0 f).len := hlt
    have hx2 := (hsf i.toNat (by omega)).1
    unfold el at hx2
    rw [ei] at hx2
    have hiff := (has_iff (set_lt hS32 hdi.1) hx2.1).trans (mem_bit hdi.1 hx2.1)
    have eb : b = ((bitsK (fc (.sl none 0 C) at') (fc (.sl none 0 C) at').len.toNat : Nat) : Int) := hb
    rw [← eb] at hiff
    have mea : ((DV.sl none 0 f).len - (i + 1)).toNat < ((DV.sl none 0 f).len - i).toNat := by omega
    have hnx := misK_succ (S := .sl none 0 S) (w := (DV.sl none 0 C).at at' 2) (g := fc (.sl none 0 C) at') (f := .sl none 0 f) i0
    refine res_ok (show 0 ≤ (DV.sl none 0 f).at i 0 ∧ (DV.sl none 0 f).at i 0 < (DV.sl none 0 S).len from hx2) ?_
    refine res_ite (fun z => ?_) fun z => ?_
    · refine res_ok (show (DV.sl none 0 o).len + 1 ≤ 15637498706147 by omega) ?_
      have hl : lackP (.sl none 0 S) ((DV.sl none 0 C).at at' 2) (fc (.sl none 0 C) at') ((DV.sl none 0 f).at i 0) := ⟨z.1, fun v => z.2 (hiff.2 v)⟩
      rw [if_pos hl] at hnx
      refine res_dat (.sl none 0 [[.n ((DV.sl none 0 f).at i 0)]]) rfl ?_
      refine res_dat (.sl none 0 (o ++ [[.n ((DV.sl none 0 f).at i 0)]])) rfl ?_
      exact res_chk rfl (show i + 1 ≤ (DV.sl none 0 f).len ∧ o ++ [[DV.n ((DV.sl none 0 f).at i 0)]] = misK (.sl none 0 S) ((DV.sl none 0 C).at at' 2) (fc (.sl none 0 C) at') (.sl none 0 f) (i + 1).toNat from ⟨by omega, by rw [hnx, hoo]⟩) mea
    · have hl : ¬ lackP (.sl none 0 S) ((DV.sl none 0 C).at at' 2) (fc (.sl none 0 C) at') ((DV.sl none 0 f).at i 0) := fun v => z ⟨v.1, fun u => v.2 (hiff.1 u)⟩
      rw [if_neg hl] at hnx
      exact res_chk rfl (show i + 1 ≤ (DV.sl none 0 f).len ∧ o = misK (.sl none 0 S) ((DV.sl none 0 C).at at' 2) (fc (.sl none 0 C) at') (.sl none 0 f) (i + 1).toNat from ⟨by omega, by rw [hnx, hoo]⟩) mea
  have hge : ¬ i < (DV.sl none 0 f).len := hge
  have hoo : o = disL (.sl none 0 S) (.sl none 0 C) at' (.sl none 0 f) := by
    rw [hoo, show i = (DV.sl none 0 f).len by omega]; rfl
  have hall := sub_all hS32 hS32 hdi.2.1 hsf
  rw [← hcc, ← ha] at hall
  refine res_ite (fun z => ?_) fun z => ?_
  · have z : 0 < (DV.sl none 0 o).len ∧ bitD 3 .u32 c a = 0 := z
    show [DV.sl none 0 o, .n 1, .n 0] = _
    rw [lo] at z
    rw [hoo] at z ⊢
    exact dis_ret hz hat (by rw [if_pos ⟨by omega, hall.1 z.2⟩])
  · have z : ¬ (0 < (DV.sl none 0 o).len ∧ bitD 3 .u32 c a = 0) := z
    show [DV.sl none 0 o, .n 0, .n 0] = _
    rw [lo] at z
    rw [hoo] at z ⊢
    exact dis_ret hz hat (by rw [if_neg fun v => z ⟨by omega, hall.2 v.2⟩])
end Go.Proofs.Ytpaphkpdnmalhaa
