/- DERIVED. Clashes, what binds: the contracts, proved. -/
import Derived.Test.YtpaphkpdnmalhaaEct
namespace Go.Proofs.Ytpaphkpdnmalhaa
open Go.Dx
set_option linter.unusedVariables false
set_option linter.unusedSimpArgs false
/-- A case of right cases. -/
theorem case_dec {S C : DV} (h : chkF S C = 0) {i : Int} (h0 : 0 ≤ i) (h1 : i < C.len) : decP S (fc C i) (rc C i) (C.at i 2) ∧ 0 ≤ C.at i 2 ∧ C.at i 2 ≤ 1 := by
  have := (chk_zero h).2.2 i.toNat (by omega)
  unfold caseP at this
  rw [show ((i.toNat : Nat) : Int) = i by omega] at this
  exact ⟨this.2.2, this.1.2⟩
theorem cl_iff {F : Int} {f R g T : DV} (hF : F ≤ 32) (h1 : setP F f f.len.toNat) (h2 : setP F R R.len.toNat) (h3 : setP F g g.len.toNat) (h4 : setP F T T.len.toNat) {v w : Int} : clP v f R w g T ↔ v ≠ w ∧ bitD 3 .u32 (bits R) (bits g) = 0 ∧ bitD 3 .u32 (bits T) (bits f) = 0 := by
  rw [sub_all hF hF h2 h3, sub_all hF hF h4 h1]; rfl
theorem clash_bad {S C : DV} {e : Int} (h : e = chkF S C) (k : e ≠ 0) : [DV.n 0, .n 0, .n 0, .n e] = ClashF S C := by unfold ClashF; rw [if_pos (by rw [← h]; exact k), h]
theorem clash_none {S C : DV} (h : chkF S C = 0) (k : ∀ i, i < C.len.toNat → ¬ cl1 C C.len.toNat i) : [DV.n 0, .n 0, .n 0, .n 0] = ClashF S C := by
  have e : cl1N C = C.len.toNat := first_none k
  unfold ClashF; rw [if_neg (by rw [h]; decide), if_neg (by rw [e]; omega)]
theorem clash_some {S C : DV} (h : chkF S C = 0) {i j : Nat} (hi : i < C.len.toNat) (hj : j < C.len.toNat) (h1 : ∀ k, k < i → ¬ cl1 C C.len.toNat k) (h2 : ∀ k, k < j → ¬ cl2 C i k) (h3 : cl2 C i j) : [DV.n i, .n j, .n 1, .n 0] = ClashF S C := by
  have e : cl1N C = i := first_eq (p := cl1 C C.len.toNat) ⟨j, hj, h3⟩ h1 hi
  have e2 : firstN (cl2 C i) C.len.toNat = j := first_eq h3 h2 hj
  unfold ClashF; rw [if_neg (by rw [h]; decide), if_pos (by rw [e]; exact hi), e, e2]
set_option maxHeartbeats 1000000 in
set_option maxRecDepth 100000 in
theorem cClash_ok (N : Nat) (w0 : World) : ConOk Try.prog tb N w0 (cClash 11) := by
  refine con_of_walk (tb := tb) fine (C := [cChk 13, cDec 30, lClash]) (conCons cChk_ok (conCons cDec_ok (lopCons rfl noCon))) 80 rfl ?_ N w0
  refine fun S hS C hC _ => ?_
  clear hS
  rw [tree_clash]
  show T.res _ (fun y => y = ClashF (.sl none 0 S) (.sl none 0 C)) _ _
  refine res_con rfl trivial (fun e _ _ he => ?_)
  have he : e = chkF (.sl none 0 S) (.sl none 0 C) := n_inj he
  refine res_ite (fun q => clash_bad he q) fun q => ?_
  have q : ¬ ¬ e = 0 := q
  have hc : chkF (.sl none 0 S) (.sl none 0 C) = 0 := by omega
  have hz := chk_zero hc
  have hS32 : (DV.sl none 0 S).len ≤ 32 := hz.1.1
  have l1 := len_nn (.sl none 0 C)
  refine res_lop rfl (show (0 : Int) ≤ (DV.sl none 0 C).len ∧ ∀ i : Nat, i < (0 : Int).toNat → ¬ cl1 (.sl none 0 C) (DV.sl none 0 C).len.toNat i from ⟨l1, fun k hk => absurd hk (Nat.not_lt_zero k)⟩) (fun i i0 i1 hI => ?_)
  obtain ⟨hi, hn⟩ : i ≤ (DV.sl none 0 C).len ∧ ∀ k : Nat, k < i.toNat → ¬ cl1 (.sl none 0 C) (DV.sl none 0 C).len.toNat k := hI
  have ei : ((i.toNat : Nat) : Int) = i := by omega
  refine res_ite (fun hlt => ?_) fun hge => ?_
  · have hlt : i < (DV.sl none 0 C).len := hlt
    have hcl := cell_len hC i0 hlt
    obtain ⟨hdi, _⟩ := case_dec hc i0 hlt
    refine res_dat (fc (.sl none 0 C) i) (take_all hcl.1) (res_dat (rc (.sl none 0 C) i) (take_all hcl.2) ?_)
    refine res_con rfl (show (DV.sl none 0 S).len ≤ 32 from hS32) (fun a _ _ b _ _ c _ _ d _ _ hd => ?_)
    obtain ⟨_, _, ha, hb, hcc⟩ := (dec_in (show DecQ (.sl none 0 S) (fc (.sl none 0 C) i) (rc (.sl none 0 C) i) ((DV.sl none 0 C).at i 2) [.n a, .n b, .n c, .n d] from hd)).resolve_right fun z => z.2 hdi
    refine res_lop rfl (show (0 : Int) ≤ (DV.sl none 0 C).len ∧ ∀ j : Nat, j < (0 : Int).toNat → ¬ cl2 (.sl none 0 C) i.toNat j from ⟨l1, fun k hk => absurd hk (Nat.not_lt_zero k)⟩) (fun j j0 j1 hJ => ?_)
    obtain ⟨hj, hm⟩ : j ≤ (DV.sl none 0 C).len ∧ ∀ k : Nat, k < j.toNat → ¬ cl2 (.sl none 0 C) i.toNat k := hJ
    have ej : ((j.toNat : Nat) : Int) = j := by omega
    refine res_ite (fun hlj => ?_) fun hgj => ?_
    · have hlj : j < (DV.sl none 0 C).len := hlj
      have hcj := cell_len hC j0 hlj
      obtain ⟨hdj, _⟩ := case_dec hc j0 hlj
      refine res_dat (fc (.sl none 0 C) j) (take_all hcj.1) (res_dat (rc (.sl none 0 C) j) (take_all hcj.2) ?_)
      refine res_con rfl (show (DV.sl none 0 S).len ≤ 32 from hS32) (fun a' _ _ b' _ _ c' _ _ d' _ _ hd' => ?_)
      obtain ⟨_, _, ha', hb', hcc'⟩ := (dec_in (show DecQ (.sl none 0 S) (fc (.sl none 0 C) j) (rc (.sl none 0 C) j) ((DV.sl none 0 C).at j 2) [.n a', .n b', .n c', .n d'] from hd')).resolve_right fun z => z.2 hdj
      have hiff : clC (.sl none 0 C) i j ↔ a ≠ a' ∧ bitD 3 .u32 c b' = 0 ∧ bitD 3 .u32 c' b = 0 := by
        unfold clC
        rw [cl_iff hS32 hdi.1 hdi.2.1 hdj.1 hdj.2.1, ha, hb, hcc, ha', hb', hcc']
      have mea : ((DV.sl none 0 C).len - (j + 1)).toNat < ((DV.sl none 0 C).len - j).toNat := by omega
      have go : ¬ (i < j ∧ a ≠ a' ∧ bitD 3 .u32 c b' = 0 ∧ bitD 3 .u32 c' b = 0) → j + 1 ≤ (DV.sl none 0 C).len ∧ ∀ k : Nat, k < (j + 1).toNat → ¬ cl2 (.sl none 0 C) i.toNat k := fun h => ⟨by omega, fun k hk => by
        by_cases e : k < j.toNat
        · exact hm k e
        · intro y
          refine h ⟨by have := y.1; omega, hiff.1 ?_⟩
          have := y.2
          rwa [ei, show (k : Int) = j by omega] at this⟩
      refine res_ite (fun y1 => ?_) fun y1 => res_chk rfl (go fun h => y1 h.1) mea
      have y1 : i < j := y1
      refine res_ite (fun y2 => ?_) fun y2 => res_chk rfl (go fun h => y2 h.2.1) mea
      refine res_ite (fun y3 => ?_) fun y3 => res_chk rfl (go fun h => y3 h.2.2.1) mea
      refine res_ite (fun y4 => ?_) fun y4 => res_chk rfl (go fun h => y4 h.2.2.2) mea
      have := clash_some (S := .sl none 0 S) hc (i := i.toNat) (j := j.toNat) (by omega) (by omega) hn hm ⟨by omega, by rw [ei, ej]; exact hiff.2 ⟨y2, y3, y4⟩⟩
      rw [ei, ej] at this
      exact this
    · have hgj : ¬ j < (DV.sl none 0 C).len := hgj
      refine res_chk rfl (show i + 1 ≤ (DV.sl none 0 C).len ∧ ∀ k : Nat, k < (i + 1).toNat → ¬ cl1 (.sl none 0 C) (DV.sl none 0 C).len.toNat k from ⟨by omega, fun k hk => ?_⟩) ?_
      · by_cases e : k < i.toNat
        · exact hn k e
        · rintro ⟨t, ht, h1, h2⟩
          rw [show k = i.toNat by omega] at h1 h2
          exact hm t (by omega) ⟨h1, h2⟩
      · show ((DV.sl none 0 C).len - (i + 1)).toNat < ((DV.sl none 0 C).len - i).toNat
        omega
  · have hge : ¬ i < (DV.sl none 0 C).len := hge
    exact clash_none hc fun k hk => hn k (by omega)
theorem ask_one {S C f : DV} {side e : Int} (h : e = chkF S C) (k : e ≠ 0) : askF S C f side = e := by unfold askF; rw [if_pos (by rw [← h]; exact k), h]
theorem ask_two {S C f : DV} {side : Int} (h : chkF S C = 0) (k : ¬ setP S.len f f.len.toNat) : askF S C f side = 520 := by unfold askF; rw [if_neg (by rw [h]; decide), if_pos k]
theorem ask_three {S C f : DV} {side : Int} (h : chkF S C = 0) (k : setP S.len f f.len.toNat) (q : ¬ (0 ≤ side ∧ side ≤ 1)) : askF S C f side = 1 := by unfold askF; rw [if_neg (by rw [h]; decide), if_neg (fun z => z k), if_pos q]
theorem ask_ok {S C f : DV} {side : Int} (h : chkF S C = 0) (k : setP S.len f f.len.toNat) (q : 0 ≤ side ∧ side ≤ 1) : askF S C f side = 0 := by unfold askF; rw [if_neg (by rw [h]; decide), if_neg (fun z => z k), if_neg (fun z => z q)]
theorem ask_zero {S C f : DV} {side : Int} (h : askF S C f side = 0) : chkF S C = 0 ∧ setP S.len f f.len.toNat ∧ 0 ≤ side ∧ side ≤ 1 := by
  by_cases c1 : chkF S C = 0
  · by_cases c2 : setP S.len f f.len.toNat
    · by_cases c3 : 0 ≤ side ∧ side ≤ 1
      · exact ⟨c1, c2, c3⟩
      · rw [ask_three c1 c2 c3] at h; exact absurd h (by decide)
    · rw [ask_two c1 c2] at h; exact absurd h (by decide)
  · rw [ask_one rfl c1] at h; exact absurd h c1
theorem ask_ret {S C f : DV} {side x : Int} (h : askF S C f side = x) (k : x ≠ 0) : [DV.n 0, .n x] = [.n (if askF S C f side = 0 then bits f else 0), .n (askF S C f side)] := by rw [h, if_neg k]
theorem cAsk_ok (N : Nat) (w0 : World) : ConOk Try.prog tb N w0 (cAsk 34) := by
  refine con_of_walk (tb := tb) fine (C := [cChk 13, cSet 42]) (conCons cChk_ok (conCons cSet_ok noCon)) 80 rfl ?_ N w0
  refine fun S hS C hC f hf side _ _ _ => ?_
  clear hS hC hf
  rw [tree_ask]
  show T.res _ (fun y => y = [.n (if askF (.sl none 0 S) (.sl none 0 C) (.sl none 0 f) side = 0 then bits (.sl none 0 f) else 0), .n (askF (.sl none 0 S) (.sl none 0 C) (.sl none 0 f) side)]) _ _
  refine res_con rfl trivial (fun e _ _ he => ?_)
  have he : e = chkF (.sl none 0 S) (.sl none 0 C) := n_inj he
  refine res_ite (fun q => ask_ret (ask_one he q) q) fun q => ?_
  have q : ¬ ¬ e = 0 := q
  have hc : chkF (.sl none 0 S) (.sl none 0 C) = 0 := by omega
  have hS32 : (DV.sl none 0 S).len ≤ 32 := (chk_zero hc).1.1
  refine res_con rfl (show (DV.sl none 0 S).len ≤ 32 from hS32) (fun a a0 a1 b _ _ h1 => ?_)
  have h1 := set_in (show [DV.n a, .n b] = SetF (DV.sl none 0 S).len (.sl none 0 f) from h1)
  refine res_ite (fun z => ask_ret (ask_two hc (h1.resolve_left fun v => by have z : b = 0 := z; omega).2) (show (520 : Int) ≠ 0 by decide)) fun z => ?_
  have z : ¬ b = 0 := z
  obtain ⟨_, ha, hsf⟩ := h1.resolve_right fun v => z v.1
  refine res_ite (fun y => ask_ret (ask_three hc hsf fun v => ?_) (show (1 : Int) ≠ 0 by decide)) fun y => ?_
  · have y : ¬ (side = 0 ∨ side = 1) := y
    omega
  · have y : ¬ ¬ (side = 0 ∨ side = 1) := y
    show [DV.n a, .n 0] = _
    rw [ask_ok hc hsf (by omega), if_pos rfl, ha]
theorem cFav_ok (N : Nat) (w0 : World) : ConOk Try.prog tb N w0 (cFav 35) := by
  refine con_of_walk (tb := tb) fine (C := [lFav]) (lopCons rfl noCon) 80 rfl ?_ N w0
  refine fun S hS C hC side _ _ hpre => ?_
  clear hS hC
  have hpre : (DV.sl none 0 S).len ≤ 32 := hpre
  rw [tree_fav]
  show T.res _ (fun y => y = [.n (favK (.sl none 0 S) side (DV.sl none 0 S).len.toNat)]) _ _
  have l0 := len_nn (.sl none 0 S)
  refine res_lop rfl (show (0 : Int) ≤ (DV.sl none 0 S).len ∧ (0 : Int) = favK (.sl none 0 S) side (0 : Int).toNat from ⟨l0, rfl⟩) (fun s s0 s1 i i0 i1 hI => ?_)
  obtain ⟨hi, hs⟩ : i ≤ (DV.sl none 0 S).len ∧ s = favK (.sl none 0 S) side i.toNat := hI
  have ei : ((i.toNat : Nat) : Int) = i := by omega
  refine res_ite (fun hlt => ?_) fun hge => ?_
  · have hlt : i < (DV.sl none 0 S).len := hlt
    have mea : ((DV.sl none 0 S).len - (i + 1)).toNat < ((DV.sl none 0 S).len - i).toNat := by omega
    have e1 : (i + 1).toNat = i.toNat + 1 := by omega
    refine res_ite (fun q => ?_) fun q => ?_
    · have q : (DV.sl none 0 S).at i 0 = side := q
      refine res_chk rfl (show i + 1 ≤ (DV.sl none 0 S).len ∧ bitD 1 .u32 s (IntKind.u32.wrap (1 * 2 ^ (Min.min i.toNat IntKind.u32.bits))) = favK (.sl none 0 S) side (i + 1).toNat from ⟨by omega, ?_⟩) mea
      rw [hs, p2_id i0 (by omega), or_id (favK_lt (by omega)) (Nat.pow_lt_pow_right (by decide) (by omega)), e1]
      have : el (.sl none 0 S) i.toNat = side := by unfold el; rw [ei]; exact q
      show _ = ((if el (.sl none 0 S) i.toNat = side then favK (.sl none 0 S) side i.toNat ||| 2 ^ i.toNat else favK (.sl none 0 S) side i.toNat : Nat) : Int)
      rw [if_pos this]
    · have q : ¬ (DV.sl none 0 S).at i 0 = side := q
      refine res_chk rfl (show i + 1 ≤ (DV.sl none 0 S).len ∧ s = favK (.sl none 0 S) side (i + 1).toNat from ⟨by omega, ?_⟩) mea
      have : ¬ el (.sl none 0 S) i.toNat = side := by unfold el; rw [ei]; exact q
      rw [hs, e1]
      show _ = ((if el (.sl none 0 S) i.toNat = side then favK (.sl none 0 S) side i.toNat ||| 2 ^ i.toNat else favK (.sl none 0 S) side i.toNat : Nat) : Int)
      rw [if_neg this]
  · have hge : ¬ i < (DV.sl none 0 S).len := hge
    show [DV.n s] = _
    rw [hs, show i = (DV.sl none 0 S).len by omega]
/-- What binds, in bits. -/
theorem bind_iff {S C f : DV} {side : Int} (ha : askF S C f side = 0) {i : Int} (h0 : 0 ≤ i) (h1 : i < C.len) : bindP S C f side i.toNat ↔ C.at i 2 = side ∧ bitD 3 .u32 (bits (rc C i)) (bits f) = 0 ∧ bitD 3 .u32 (bitD 0 .u32 (bits f) (favK S (1 - side) S.len.toNat)) (bits (fc C i)) = 0 := by
  obtain ⟨hc, hf, hs0, hs1⟩ := ask_zero ha
  obtain ⟨⟨hS, _⟩, hsi, _⟩ := chk_zero hc
  have ls := len_nn S
  obtain ⟨hd, _⟩ := case_dec hc h0 h1
  unfold bindP
  rw [show ((i.toNat : Nat) : Int) = i by omega]
  rw [sub_all hS hS hd.2.1 hf]
  have e1 : bitD 0 .u32 (bits f) (favK S (1 - side) S.len.toNat) = ((bitsK f f.len.toNat &&& favK S (1 - side) S.len.toNat : Nat) : Int) := and_id (set_lt hS hf) (favK_lt (by omega))
  rw [e1]
  unfold bits
  rw [sub_iff (Nat.lt_of_le_of_lt Nat.and_le_left (set_lt hS hf)) (set_lt hS hd.1)]
  refine and_congr_right fun hw => and_congr_right fun _ => ?_
  constructor
  · intro h j hj
    rw [Nat.testBit_and, Bool.and_eq_true] at hj
    obtain ⟨k, hk, e⟩ := bitsK_bit.1 hj.1
    obtain ⟨hj1, hj2⟩ := favK_bit.1 hj.2
    have hx := (hf k hk).1
    have := h k hk
    unfold lackP at this
    have hat : S.at (el f k) 0 = 1 - side := by
      unfold el at hj2
      rw [show ((j : Nat) : Int) = el f k by omega] at hj2
      exact hj2
    have hm : memP (fc C i) (el f k) := Classical.byContradiction fun z => this ⟨by omega, z⟩
    rw [← e]
    exact (mem_bit hd.1 hx.1).2 hm
  · intro h k hk hl
    have hx := (hf k hk).1
    have hsk := hsi (el f k).toNat (by omega)
    unfold el at hsk
    have ek : (((DV.at f k 0).toNat : Nat) : Int) = f.at k 0 := by unfold el at hx; omega
    rw [ek] at hsk
    have h2 := h (el f k).toNat (by
      rw [Nat.testBit_and, Bool.and_eq_true]
      refine ⟨bitsK_bit.2 ⟨k, hk, rfl⟩, favK_bit.2 ⟨by omega, ?_⟩⟩
      have h3 := hl.1
      unfold el at h3 ⊢
      rw [ek]
      omega)
    exact hl.2 ((mem_bit hd.1 hx.1).1 h2)
theorem binds_bad {S C f : DV} {side e : Int} (h : e = askF S C f side) (k : e ≠ 0) : [DV.n 0, .n 0, .n e] = BindsF S C f side := by unfold BindsF; rw [if_pos (by rw [← h]; exact k), h]
theorem binds_none {S C f : DV} {side : Int} (h : askF S C f side = 0) (k : ∀ i, i < C.len.toNat → ¬ bindP S C f side i) : [DV.n 0, .n 0, .n 0] = BindsF S C f side := by
  have e : bindN S C f side = C.len.toNat := first_none k
  unfold BindsF; rw [if_neg (by rw [h]; decide), if_neg (by rw [e]; omega)]
theorem binds_some {S C f : DV} {side : Int} (h : askF S C f side = 0) {i : Nat} (hi : i < C.len.toNat) (h1 : ∀ k, k < i → ¬ bindP S C f side k) (h2 : bindP S C f side i) : [DV.n i, .n 1, .n 0] = BindsF S C f side := by
  have e : bindN S C f side = i := first_eq h2 h1 hi
  unfold BindsF; rw [if_neg (by rw [h]; decide), if_pos (by rw [e]; exact hi), e]
theorem ask_in {S C f : DV} {side a e : Int} (h : [DV.n a, .n e] = [.n (if askF S C f side = 0 then bits f else 0), .n (askF S C f side)]) : e = askF S C f side ∧ (e = 0 → a = bits f) := by
  simp only [List.cons.injEq, DV.n.injEq, and_true] at h
  refine ⟨h.2, fun q => ?_⟩
  rw [h.1, if_pos (by omega)]
set_option maxHeartbeats 1000000 in
set_option maxRecDepth 100000 in
theorem cBinds_ok (N : Nat) (w0 : World) : ConOk Try.prog tb N w0 (cBinds 15) := by
  refine con_of_walk (tb := tb) fine (C := [cAsk 34, cFav 35, cDec 30, lBinds 0]) (conCons cAsk_ok (conCons cFav_ok (conCons cDec_ok (lopCons rfl noCon)))) 80 rfl ?_ N w0
  refine fun S hS C hC f hf side _ _ _ => ?_
  clear hS hf
  rw [tree_binds]
  show T.res _ (fun y => y = BindsF (.sl none 0 S) (.sl none 0 C) (.sl none 0 f) side) _ _
  refine res_con rfl trivial (fun a _ _ e _ _ he => ?_)
  obtain ⟨he, ha⟩ := ask_in (show [DV.n a, .n e] = [.n (if askF (.sl none 0 S) (.sl none 0 C) (.sl none 0 f) side = 0 then bits (.sl none 0 f) else 0), .n (askF (.sl none 0 S) (.sl none 0 C) (.sl none 0 f) side)] from he)
  refine res_ite (fun q => binds_bad he q) fun q => ?_
  have q : ¬ ¬ e = 0 := q
  have hz : askF (.sl none 0 S) (.sl none 0 C) (.sl none 0 f) side = 0 := by omega
  have ha := ha (by omega)
  obtain ⟨hc, hsf, hs0, hs1⟩ := ask_zero hz
  have hS32 : (DV.sl none 0 S).len ≤ 32 := (chk_zero hc).1.1
  have l1 := len_nn (.sl none 0 C)
  have ew : IntKind.i64.wrap (1 - side) = 1 - side := wI (by omega) (by omega)
  refine res_con rfl (show (DV.sl none 0 S).len ≤ 32 from hS32) (fun o _ _ ho => ?_)
  have ho : o = favK (.sl none 0 S) (IntKind.i64.wrap (1 - side)) (DV.sl none 0 S).len.toNat := n_inj ho
  rw [ew] at ho
  refine res_lop rfl (show (0 : Int) ≤ (DV.sl none 0 C).len ∧ ∀ i : Nat, i < (0 : Int).toNat → ¬ bindP (.sl none 0 S) (.sl none 0 C) (.sl none 0 f) side i from ⟨l1, fun k hk => absurd hk (Nat.not_lt_zero k)⟩) (fun i i0 i1 hI => ?_)
  obtain ⟨hi, hn⟩ : i ≤ (DV.sl none 0 C).len ∧ ∀ k : Nat, k < i.toNat → ¬ bindP (.sl none 0 S) (.sl none 0 C) (.sl none 0 f) side k := hI
  refine res_ite (fun hlt => ?_) fun hge => ?_
  · have hlt : i < (DV.sl none 0 C).len := hlt
    have hcl := cell_len hC i0 hlt
    obtain ⟨hdi, _⟩ := case_dec hc i0 hlt
    refine res_dat (fc (.sl none 0 C) i) (take_all hcl.1) (res_dat (rc (.sl none 0 C) i) (take_all hcl.2) ?_)
    refine res_con rfl (show (DV.sl none 0 S).len ≤ 32 from hS32) (fun x _ _ y _ _ z _ _ d _ _ hd => ?_)
    obtain ⟨_, _, hx, hy, hzz⟩ := (dec_in (show DecQ (.sl none 0 S) (fc (.sl none 0 C) i) (rc (.sl none 0 C) i) ((DV.sl none 0 C).at i 2) [.n x, .n y, .n z, .n d] from hd)).resolve_right fun v => v.2 hdi
    have hiff := bind_iff hz i0 hlt
    rw [← hx, ← hy, ← hzz, ← ha, ← ho] at hiff
    have mea : ((DV.sl none 0 C).len - (i + 1)).toNat < ((DV.sl none 0 C).len - i).toNat := by omega
    have go : ¬ (x = side ∧ bitD 3 .u32 z a = 0 ∧ bitD 3 .u32 (bitD 0 .u32 a o) y = 0) → i + 1 ≤ (DV.sl none 0 C).len ∧ ∀ k : Nat, k < (i + 1).toNat → ¬ bindP (.sl none 0 S) (.sl none 0 C) (.sl none 0 f) side k := fun h => ⟨by omega, fun k hk => by
      by_cases e : k < i.toNat
      · exact hn k e
      · rw [show k = i.toNat by omega]
        exact fun v => h (hiff.1 v)⟩
    refine res_ite (fun y1 => ?_) fun y1 => res_chk rfl (go fun h => y1 h.1) mea
    refine res_ite (fun y2 => ?_) fun y2 => res_chk rfl (go fun h => y2 h.2.1) mea
    refine res_ite (fun y3 => ?_) fun y3 => res_chk rfl (go fun h => y3 h.2.2) mea
    have := binds_some hz (i := i.toNat) (by omega) hn (hiff.2 ⟨y1, y2, y3⟩)
    rw [show ((i.toNat : Nat) : Int) = i by omega] at this
    exact this
  · have hge : ¬ i < (DV.sl none 0 C).len := hge
    exact binds_none hz fun k hk => hn k (by omega)
end Go.Proofs.Ytpaphkpdnmalhaa
