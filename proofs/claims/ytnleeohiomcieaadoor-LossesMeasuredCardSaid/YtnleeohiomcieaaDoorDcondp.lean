/- DERIVED. Comparing ratios, their products with litres: the contracts, proved; what follows of Evap and Seep. -/
import Derived.Test.YtnleeohiomcieaaDoorDtreem
import Derived.Test.YtnleeohiomcieaaDoorDsane
namespace Go.Proofs.YtnleeohiomcieaaDoor
open Go.Dx
set_option linter.unusedVariables false
set_option linter.unusedSimpArgs false
theorem cCmp_ok (N : Nat) (w0 : World) : ConOk Tryd.prog tb N w0 cCmp := by
  refine con_of_walk (tb := tb) fine (C := [cChk]) (conCons cChk_ok noCon) 80 rfl ?_ N w0
  refine fun a a0 a1 b b0 b1 c c0 c1 d d0 d1 hp => ?_
  rw [tree_cmp]
  simp only [T.res, B.prop, E.den, E.dat, E.top, E.val, E.isD, DV.canon, DV.int, List.getElem?_cons_zero, List.getElem?_cons_succ, List.getD_cons_zero, List.getD_cons_succ, List.getD_nil, List.map_cons, List.map_nil, List.cons_append, List.nil_append, allB, List.take_succ_cons, List.take_zero, List.length_cons, List.length_nil, Nat.zero_add, Nat.reduceAdd, resB, resL', RSh.l, RC.vd, List.flatMap_cons, List.flatMap_nil, List.append_nil, ev, dv, svy, getZ, cCmp, cChk]
  have hp : Val a b ∧ Val c d := hp
  obtain ⟨v1, v2⟩ := hp
  obtain ⟨w1, w2⟩ := w_cross v1 v2
  rw [w1, w2]
  refine ⟨trivial, fun x _ _ hx => ⟨fun h => ?_, fun h => ⟨trivial, fun y _ _ hy => ⟨fun k => ?_, fun k => ⟨fun l => ?_, fun l => ⟨fun m => ?_, fun m => ?_⟩⟩⟩⟩⟩⟩
  · rcases chk_in hx with ⟨_, e⟩ | ⟨e, _⟩
    · exact absurd e h
    · exact absurd v1 e
  · rcases chk_in hy with ⟨_, e⟩ | ⟨e, _⟩
    · exact absurd e k
    · exact absurd v2 e
  · rw [show cmpI (a * d) (c * b) = -1 by unfold cmpI; rw [if_pos l]]
  · rw [show cmpI (a * d) (c * b) = 1 by unfold cmpI; rw [if_neg l, if_pos m]]
  · rw [show cmpI (a * d) (c * b) = 0 by unfold cmpI; rw [if_neg l, if_neg m]]
theorem up_eq {p d : Int} (hp : 0 ≤ p) (hd : 1 ≤ d) : (p + d - 1) / d = if p % d = 0 then p / d else p / d + 1 := by
  have h1 := Int.emod_add_mul_ediv p d
  have h2 := Int.emod_nonneg p (show d ≠ 0 by omega)
  have h3 := Int.emod_lt_of_pos p (show 0 < d by omega)
  rw [Int.mul_comm d] at h1
  split
  · rename_i h
    rw [show p + d - 1 = (d - 1) + p / d * d by omega, Int.add_mul_ediv_right _ _ (by omega), Int.ediv_eq_zero_of_lt (by omega) (by omega)]
    omega
  · rename_i h
    rw [show p + d - 1 = (p % d - 1) + (p / d + 1) * d by rw [Int.add_mul]; omega, Int.add_mul_ediv_right _ _ (by omega), Int.ediv_eq_zero_of_lt (by omega) (by omega)]
    omega
theorem cTimes_ok (N : Nat) (w0 : World) : ConOk Tryd.prog tb N w0 cTimes := by
  refine con_of_walk (tb := tb) fine (C := [cChk]) (conCons cChk_ok noCon) 80 rfl ?_ N w0
  refine fun a a0 a1 b b0 b1 v v0 v1 hp => ?_
  rw [tree_times]
  simp only [T.res, B.prop, E.den, E.dat, E.top, E.val, E.isD, DV.canon, DV.int, List.getElem?_cons_zero, List.getElem?_cons_succ, List.getD_cons_zero, List.getD_cons_succ, List.getD_nil, List.map_cons, List.map_nil, List.cons_append, List.nil_append, allB, List.take_succ_cons, List.take_zero, List.length_cons, List.length_nil, Nat.zero_add, Nat.reduceAdd, resB, resL', RSh.l, RC.vd, List.flatMap_cons, List.flatMap_nil, List.append_nil, ev, dv, svy, getZ, cTimes, cChk]
  have hv : Val a b := hp
  have p0 := mul_nn a0 v0
  rw [show v * a = a * v from Int.mul_comm _ _, show (0 - a) * v = -(a * v) by rw [Int.zero_sub, Int.neg_mul]]
  generalize a * v = p at *
  rw [td p0, td (show 0 ≤ p + b - 1 by omega), up_eq p0 b0, Int.neg_tdiv, Int.neg_tmod, td p0, Int.tmod_eq_emod_of_nonneg p0]
  have h2 := Int.emod_nonneg p (show b ≠ 0 by omega)
  refine ⟨trivial, fun x _ _ hx => ⟨fun h => ?_, fun h => ⟨fun k => ?_, fun k => ?_⟩⟩⟩
  · rcases chk_in hx with ⟨_, e⟩ | ⟨e, _⟩
    · exact absurd e h
    · exact absurd hv e
  · rw [if_neg (by omega)]
    simp only [List.cons.injEq, DV.n.injEq, and_true, true_and]
    omega
  · rw [if_pos (by omega)]
    simp only [List.cons.injEq, DV.n.injEq, and_true, true_and]
    omega
theorem ev_in {s : Svy} {dl a b e : Int} (h : EvapP s dl [.n a, .n b, .n e]) : e ≠ 0 ∨ (RightS s ∧ Dly dl ∧ a = eLs s dl ∧ b = eHs s dl ∧ ¬ b < a ∧ e = 0) := by
  by_cases c1 : Long s
  · have := h.1 c1
    simp only [List.cons_append, List.nil_append, List.cons.injEq, DV.n.injEq, and_true] at this
    exact .inl (by omega)
  by_cases c2 : RightS s
  · by_cases c3 : Dly dl
    · have := h.2.2.2 c1 c2 c3
      by_cases c4 : eHs s dl < eLs s dl
      · have := this.1 c4
        simp only [List.cons.injEq, DV.n.injEq, and_true] at this
        exact .inl (by omega)
      · have := this.2 c4
        simp only [List.cons.injEq, DV.n.injEq, and_true] at this
        obtain ⟨rfl, rfl, rfl⟩ := this
        exact .inr ⟨c2, c3, rfl, rfl, c4, rfl⟩
    · have := h.2.2.1 c1 c2 c3
      simp only [List.cons_append, List.nil_append, List.cons.injEq, DV.n.injEq, and_true] at this
      exact .inl (by omega)
  · have := h.2.1 c1 c2
    simp only [List.cons_append, List.nil_append, List.cons.injEq, DV.n.injEq, and_true] at this
    exact .inl (by omega)
theorem sp_in {s : Svy} {dl a b c d e : Int} (h : SeepP s dl [.n a, .n b, .n c, .n d, .n e]) : e ≠ 0 ∨ (RightS s ∧ Dly dl ∧ ¬ sHs s dl < sLs s dl ∧ a = mN (sLs s dl) ∧ b = mD (sLs s dl) ∧ c = mN (sHs s dl) ∧ d = mD (sHs s dl) ∧ e = 0) := by
  by_cases c1 : Long s
  · have := h.1 c1
    simp only [List.cons_append, List.nil_append, List.cons.injEq, DV.n.injEq, and_true] at this
    exact .inl (by omega)
  by_cases c2 : RightS s
  · by_cases c3 : Dly dl
    · have := h.2.2.2 c1 c2 c3
      by_cases c4 : sHs s dl < sLs s dl
      · have := this.1 c4
        simp only [List.cons.injEq, DV.n.injEq, and_true] at this
        exact .inl (by omega)
      · have := this.2 c4
        simp only [List.cons.injEq, DV.n.injEq, and_true] at this
        obtain ⟨rfl, rfl, rfl, rfl, rfl⟩ := this
        exact .inr ⟨c2, c3, c4, rfl, rfl, rfl, rfl, rfl⟩
    · have := h.2.2.1 c1 c2 c3
      simp only [List.cons_append, List.nil_append, List.cons.injEq, DV.n.injEq, and_true] at this
      exact .inl (by omega)
  · have := h.2.1 c1 c2
    simp only [List.cons_append, List.nil_append, List.cons.injEq, DV.n.injEq, and_true] at this
    exact .inl (by omega)
theorem err_one {s : Svy} {dl : Int} {z x y : List DV} {f g : Prop} (h : ErrP s dl z f x) (k : ErrP s dl z g y) (l : f → g → x = y) : x = y := by
  by_cases c1 : Long s
  · rw [h.1 c1, k.1 c1]
  by_cases c2 : RightS s
  · by_cases c3 : Dly dl
    · exact l (h.2.2.2 c1 c2 c3) (k.2.2.2 c1 c2 c3)
    · rw [h.2.2.1 c1 c2 c3, k.2.2.1 c1 c2 c3]
  · rw [h.2.1 c1 c2, k.2.1 c1 c2]
theorem ev_one {s : Svy} {dl : Int} {x y : List DV} (h : EvapP s dl x) (k : EvapP s dl y) : x = y := err_one h k fun f g => by
  by_cases c : eHs s dl < eLs s dl
  · rw [f.1 c, g.1 c]
  · rw [f.2 c, g.2 c]
theorem sp_one {s : Svy} {dl : Int} {x y : List DV} (h : SeepP s dl x) (k : SeepP s dl y) : x = y := err_one h k fun f g => by
  by_cases c : sHs s dl < sLs s dl
  · rw [f.1 c, g.1 c]
  · rw [f.2 c, g.2 c]
/-- Evap returns a range of litres. -/
theorem eLs_nn {s : Svy} {dl : Int} (h : RightS s) (l : Dly dl) : 0 ≤ eLs s dl := by
  unfold eLs
  split
  · have c := h.1.cf.1
    have hs := h.1.1.1
    exact (ev_w c (x := 0) (by omega) (by omega) hs.1 hs.2 l.1 l.2).2.2.2.2.2.2.2.2.1
  · exact evL_nn s dl _
theorem evH_le (s : Svy) (dl : Int) : ∀ k, evH s dl k ≤ 1073741824
  | 0 => by simp [evH]
  | k + 1 => by have := evH_le s dl k; simp only [evH]; omega
theorem eHs_le (s : Svy) (dl : Int) : eHs s dl ≤ 1073741824 := by
  unfold eHs
  split
  · omega
  · exact evH_le s dl _
theorem sLs_bd {s : Svy} {dl : Int} (l : Dly dl) : 0 ≤ sLs s dl ∧ sLs s dl ≤ 1048576 := by
  have := spL_nn s l.1 s.po.len.toNat
  unfold sLs; omega
theorem sHs_bd {s : Svy} {dl : Int} (h : RightS s) (l : Dly dl) : 0 ≤ sHs s dl ∧ sHs s dl ≤ 1048576 := by
  have := spH_nn (s := s) l s.po.len.toNat fun k h0 h1 => h.2.2 k h0 (by have := len_nn s.po; omega)
  unfold sHs; omega
/-- n / 2^20 in lowest terms. -/
theorem mk_val {n : Int} (h : 0 ≤ n) (k : n ≤ 1048576) : Val (mN n) (mD n) ∧ (0 ≤ mN n ∧ mN n ≤ mD n) ∧ (1 ≤ mD n ∧ mD n ≤ 1048576) ∧ mN n * 1048576 = n * mD n := by
  obtain ⟨x, rfl⟩ : ∃ x : Nat, n = x := ⟨n.toNat, by omega⟩
  have e : gcdI (x : Int) 1048576 = (Nat.gcd x 1048576 : Nat) := by unfold gcdI; rw [Int.natAbs_natCast]; rfl
  have hp : 0 < Nat.gcd x 1048576 := Nat.gcd_pos_of_pos_right _ (by decide)
  have d1 := Nat.gcd_dvd_left x 1048576
  have d2 := Nat.gcd_dvd_right x 1048576
  have g1 : Nat.gcd (x / Nat.gcd x 1048576) (1048576 / Nat.gcd x 1048576) = 1 := by rw [Nat.gcd_div d1 d2, Nat.div_self hp]
  have q1 := Nat.div_mul_cancel d1
  have q2 := Nat.div_mul_cancel d2
  have eN : mN (x : Int) = ((x / Nat.gcd x 1048576 : Nat) : Int) := by unfold mN; rw [e]; exact (Int.natCast_ediv _ _).symm
  have eD : mD (x : Int) = ((1048576 / Nat.gcd x 1048576 : Nat) : Int) := by unfold mD; rw [e]; exact (Int.natCast_ediv _ _).symm
  rw [eN, eD]
  generalize hg : Nat.gcd x 1048576 = g at *
  generalize x / g = a at *
  generalize hb : 1048576 / g = b at *
  have hab : a ≤ b := by
    by_cases c : a ≤ b
    · exact c
    · exfalso
      have := Nat.mul_le_mul_right g (show b + 1 ≤ a by omega)
      rw [Nat.add_mul, Nat.one_mul] at this
      omega
  have hb1 : 1 ≤ b := by
    by_cases c : b = 0
    · subst c; omega
    · omega
  have hb2 : b ≤ 1048576 := by
    have := Nat.mul_le_mul_left b (show 1 ≤ g from hp)
    omega
  refine ⟨⟨by omega, by omega, by omega, by omega, by unfold gcdI; rw [Int.natAbs_natCast, Int.natAbs_natCast, g1]; rfl⟩, ⟨by omega, by omega⟩, ⟨by omega, by omega⟩, ?_⟩
  have h1 : a * 1048576 = x * b := by
    have h2 : a * (b * g) = (a * g) * b := by rw [Nat.mul_assoc, Nat.mul_comm g b]
    rw [q1, q2] at h2
    exact h2
  have h3 : ((a * 1048576 : Nat) : Int) = ((x * b : Nat) : Int) := by rw [h1]
  rw [Int.natCast_mul, Int.natCast_mul] at h3
  exact h3
theorem mk_cross {a b : Int} (ha : 0 ≤ a) (hab : a ≤ b) (hb : b ≤ 1048576) : mN a * mD b ≤ mN b * mD a := by
  obtain ⟨_, _, ⟨d1, _⟩, e1⟩ := mk_val ha (show a ≤ 1048576 by omega)
  obtain ⟨_, _, ⟨d2, _⟩, e2⟩ := mk_val (show 0 ≤ b by omega) hb
  have k1 : mN a * mD b * 1048576 = a * (mD a * mD b) := by
    rw [Int.mul_right_comm, e1, Int.mul_assoc]
  have k2 : mN b * mD a * 1048576 = b * (mD a * mD b) := by
    rw [Int.mul_right_comm, e2, Int.mul_assoc, Int.mul_comm (mD b)]
  have k3 : a * (mD a * mD b) ≤ b * (mD a * mD b) := Int.mul_le_mul_of_nonneg_right hab (mul_nn (by omega) (by omega))
  omega
/-- What Evap and Seep return are right losses. -/
theorem sv_ok {s : Svy} {dl : Int} (h : RightS s) (l : Dly dl) (k : ¬ eHs s dl < eLs s dl) (m : ¬ sHs s dl < sLs s dl) : OkR ⟨eLs s dl, eHs s dl, mN (sLs s dl), mD (sLs s dl), mN (sHs s dl), mD (sHs s dl)⟩ := by
  have a := sLs_bd (s := s) l
  have b := sHs_bd h l
  obtain ⟨v1, n1, _, _⟩ := mk_val a.1 a.2
  obtain ⟨v2, n2, _, _⟩ := mk_val b.1 b.2
  refine ⟨⟨eLs_nn h l, ?_, eHs_le s dl⟩, v1, v2, mk_cross a.1 (by omega) b.2, n1.1, n2.2⟩
  simp only
  omega
end Go.Proofs.YtnleeohiomcieaaDoor
