/- DERIVED. Elements, their products and powers: the contracts, proved. -/
import Derived.Test.YtbkjjehfidnagaaDoorDct
import Derived.Test.YtbkjjehfidnagaaDoorDgrp
namespace Go.Proofs.YtbkjjehfidnagaaDoor
open Go.Dx
set_option linter.unusedVariables false
set_option linter.unusedSimpArgs false
theorem td {x y : Int} (h : 0 ≤ x) : x.tmod y = x % y := Int.tmod_eq_emod_of_nonneg h
theorem prod_go {a b : Int} (ha : 0 ≤ a) (hb : 0 ≤ b) : (a * b).tmod 2147483579 = prodF a b := td (Int.mul_nonneg ha hb)
theorem mul_wrap {a b : Int} (h1 : 0 ≤ a) (h2 : a ≤ 2147483579) (h3 : 0 ≤ b) (h4 : b ≤ 2147483579) : IntKind.i64.wrap (a * b) = a * b := by
  have h5 := Int.mul_nonneg h1 h3
  have h6 := Int.mul_le_mul h2 h4 h3 (by omega)
  exact wI (by omega) (by omega)
theorem V_js {x : Int} (h1 : 1 ≤ x) (h2 : x < 2147483579) : js x.toNat PP = 1 ↔ V x := by
  have e : PP = 2147483579 := rfl
  rw [js_euler (by omega) (by omega)]
  exact ⟨fun h => ⟨h1, h2, h⟩, fun h => h.2.2⟩
set_option maxRecDepth 100000 in
theorem cVal_ok (N : Nat) (w0 : World) : ConOk Tryd.prog tb N w0 (cVal 15) := by
  refine con_of_walk (tb := tb) fine (C := [cJac 32]) (conCons cJac_ok noCon) 120 rfl ?_ N w0
  refine fun x x0 x1 _ => ?_
  rw [tree_val]
  show T.res _ (fun y => y = yn (V x)) _ _
  refine res_ite (fun h => no fun k => ?_) fun h => ?_
  · have h : x < 1 ∨ 2147483579 ≤ x := cv h (by kernel_rfl)
    have := k.1; have := k.2.1; omega
  have h : ¬ (x < 1 ∨ 2147483579 ≤ x) := cv h (by kernel_rfl)
  refine res_con rfl (cv (⟨by omega, by omega, rfl⟩ : 1 ≤ x ∧ x < 2147483579 ∧ (2147483579 : Int) = 2147483579) (by kernel_rfl)) (fun s s0 s1 hs => ?_)
  have hs := n_inj (cv hs (by kernel_rfl : _ = ([DV.n s] = [.n (js x.toNat PP)])))
  refine res_ite (fun k => yes ?_) fun k => no fun m => ?_
  · have k : s = 1 := cv k (by kernel_rfl)
    exact (V_js (by omega) (by omega)).1 (hs.symm.trans k)
  · have k : ¬ s = 1 := cv k (by kernel_rfl)
    exact k (hs.trans ((V_js (by omega) (by omega)).2 m))
theorem pw_step {a n : Int} (ha : 0 ≤ a) (hn : 0 < n) : pwF a n = if n % 2 = 1 then prodF a (pwF (prodF a a) (n / 2)) else pwF (prodF a a) (n / 2) := by
  obtain ⟨A, rfl⟩ := Int.eq_ofNat_of_zero_le ha
  obtain ⟨M, rfl⟩ := Int.eq_ofNat_of_zero_le (show 0 ≤ n by omega)
  have e0 : ((M : Int) / 2).toNat = M / 2 := by omega
  have e1 : pwF (prodF A A) ((M : Int) / 2) = ((A ^ (2 * (M / 2)) % PP : Nat) : Int) := by
    unfold pwF
    rw [pr_nat, e0, Int.toNat_natCast, ← Nat.pow_mod, Nat.pow_mul, Nat.pow_two]
  rw [e1]
  by_cases h : (M : Int) % 2 = 1
  · rw [if_pos h, pr_nat]
    unfold pwF
    rw [Int.toNat_natCast, Int.toNat_natCast, Nat.mul_mod_mod, Nat.mul_comm, ← Nat.pow_succ, show (2 * (M / 2)).succ = M by omega]
  · rw [if_neg h]
    unfold pwF
    rw [Int.toNat_natCast, Int.toNat_natCast, show 2 * (M / 2) = M by omega]
theorem pr_lt {a b : Int} : prodF a b < 2147483579 := Int.emod_lt_of_pos _ (by decide)
theorem pr_id {a : Int} (h0 : 0 ≤ a) (h : a < 2147483579) : prodF a 1 = a := by unfold prodF; rw [Int.mul_one]; exact Int.emod_eq_of_lt h0 h
theorem one_pr {a : Int} (h0 : 0 ≤ a) (h : a < 2147483579) : prodF 1 a = a := by rw [pr_comm]; exact pr_id h0 h
/-- One round of the powers. -/
theorem pw_odd {a n c : Int} (ha : 0 ≤ a) (hn : 0 < n) (h : n % 2 = 1) : prodF (prodF c a) (pwF (prodF a a) (n / 2)) = prodF c (pwF a n) := by
  rw [pw_step ha hn, if_pos h, pr_assoc]
theorem pw_even {a n c : Int} (ha : 0 ≤ a) (hn : 0 < n) (h : ¬ n % 2 = 1) : prodF c (pwF (prodF a a) (n / 2)) = prodF c (pwF a n) := by
  rw [pw_step ha hn, if_neg h]
set_option maxRecDepth 100000 in
theorem cPw_ok (N : Nat) (w0 : World) : ConOk Tryd.prog tb N w0 (cPw 30) := by
  refine con_of_walk (tb := tb) fine (C := [lPw]) (lopCons rfl noCon) 120 rfl ?_ N w0
  refine fun x x0 x1 m m0 m1 _ => ?_
  rw [tree_pw]
  show T.res _ (fun y => y = [.n (pwF x m)]) _ _
  refine res_lop_of rfl (P := (1 : Int) < 2147483579 ∧ prodF 1 (pwF x m) = pwF x m) (by kernel_rfl) rfl ⟨by decide, one_pr (pw_rng x m).1 (pw_rng x m).2⟩ (fun a a0 a1 n n0 n1 c c0 c1 hI => ?_)
  obtain ⟨hc, hI⟩ := cv hI (by kernel_rfl : _ = (c < 2147483579 ∧ prodF c (pwF a n) = pwF x m))
  have a0 : 0 ≤ a := a0
  have n0 : 0 ≤ n := n0
  have c0 : 0 ≤ c := c0
  refine res_ite (fun h => ?_) fun h => ?_
  · have h : 0 < n := cv h (by kernel_rfl)
    have e2 : n.tdiv 2 = n / 2 := Int.tdiv_eq_ediv_of_nonneg n0
    have mea : (n.tdiv 2).toNat < n.toNat := by rw [e2]; omega
    refine res_ite (fun k => ?_) fun k => ?_
    · have k : n.tmod 2 = 1 := cv k (by kernel_rfl)
      rw [td n0] at k
      refine res_chk_of rfl (P := (c * a).tmod 2147483579 < 2147483579 ∧ prodF ((c * a).tmod 2147483579) (pwF ((a * a).tmod 2147483579) (n.tdiv 2)) = pwF x m) (a := (n.tdiv 2).toNat) (b := n.toNat) (by kernel_rfl) (by kernel_rfl) (by kernel_rfl) ?_ mea
      rw [prod_go c0 a0, prod_go a0 a0, e2]
      exact ⟨pr_lt, (pw_odd a0 h k).trans hI⟩
    · have k : ¬ n.tmod 2 = 1 := cv k (by kernel_rfl)
      rw [td n0] at k
      refine res_chk_of rfl (P := c < 2147483579 ∧ prodF c (pwF ((a * a).tmod 2147483579) (n.tdiv 2)) = pwF x m) (a := (n.tdiv 2).toNat) (b := n.toNat) (by kernel_rfl) (by kernel_rfl) (by kernel_rfl) ?_ mea
      rw [prod_go a0 a0, e2]
      exact ⟨hc, (pw_even a0 h k).trans hI⟩
  · have h : ¬ 0 < n := cv h (by kernel_rfl)
    refine cv (?_ : [DV.n c] = [.n (pwF x m)]) (by kernel_rfl)
    rw [show n = 0 by omega, pw_0, pr_id c0 hc] at hI
    rw [hI]
theorem V_pwF {x : Int} (h1 : 1 ≤ x) (h2 : x < 2147483579) : pwF x 1073741789 = 1 ↔ V x := by
  unfold pwF
  have e : (1073741789 : Int).toNat = QQ := rfl
  rw [e]
  constructor
  · intro h; exact ⟨h1, h2, by omega⟩
  · intro h; have := h.2.2; omega
set_option maxRecDepth 100000 in
theorem cValR_ok (N : Nat) (w0 : World) : ConOk Tryd.prog tb N w0 (cVal 16) := by
  refine con_of_walk (tb := tb) fine (C := [cPw 30]) (conCons cPw_ok noCon) 120 rfl ?_ N w0
  refine fun x x0 x1 _ => ?_
  rw [tree_valR]
  show T.res _ (fun y => y = yn (V x)) _ _
  refine res_ite (fun h => ?_) fun h => no fun k => ?_
  · have h : 1 ≤ x ∧ x < 2147483579 := cv h (by kernel_rfl)
    refine res_con rfl trivial (fun s s0 s1 hs => ?_)
    have hs := n_inj (cv hs (by kernel_rfl : _ = ([DV.n s] = [.n (pwF x 1073741789)])))
    refine res_ite (fun k => yes ?_) fun k => no fun m => ?_
    · have k : s = 1 := cv k (by kernel_rfl)
      exact (V_pwF h.1 h.2).1 (hs.symm.trans k)
    · have k : ¬ s = 1 := cv k (by kernel_rfl)
      exact k (hs.trans ((V_pwF h.1 h.2).2 m))
  · have h : ¬ (1 ≤ x ∧ x < 2147483579) := cv h (by kernel_rfl)
    exact h ⟨k.1, k.2.1⟩
theorem mul_yes {a b : Int} (ha : V a) (hb : V b) : [DV.n (prodF a b), .n 0] = mulQ a b := by unfold mulQ; rw [if_pos ⟨ha, hb⟩]
theorem mul_no {a b : Int} (h : ¬ (V a ∧ V b)) : [DV.n 0, .n 100] = mulQ a b := by unfold mulQ; rw [if_neg h]
theorem pow_yes {a n : Int} (ha : V a) : [DV.n (pwF a (expF n)), .n 0] = powQ a n := by unfold powQ; rw [if_pos ha]
theorem pow_no {a n : Int} (h : ¬ V a) : [DV.n 0, .n 100] = powQ a n := by unfold powQ; rw [if_neg h]
set_option maxRecDepth 100000 in
theorem cMul_ok (N : Nat) (w0 : World) : ConOk Tryd.prog tb N w0 (cMul 11) := by
  refine con_of_walk (tb := tb) fine (C := [cVal 15]) (conCons cVal_ok noCon) 120 rfl ?_ N w0
  refine fun a a0 a1 b b0 b1 _ => ?_
  rw [tree_mul]
  show T.res _ (fun y => y = mulQ a b) _ _
  refine res_con rfl trivial (fun v _ _ hv => ?_)
  have hv := yn_01 (cv hv (by kernel_rfl : _ = ([DV.n v] = yn (V a))))
  refine res_ite (fun h => ?_) fun h => ?_
  · have h : ¬ v = 0 := cv h (by kernel_rfl)
    have hV : V a := (hv.resolve_right fun m => h m.1).2
    refine res_con rfl trivial (fun u _ _ hu => ?_)
    have hu := yn_01 (cv hu (by kernel_rfl : _ = ([DV.n u] = yn (V b))))
    refine res_ite (fun k => ?_) fun k => ?_
    · have k : u = 0 := cv k (by kernel_rfl)
      exact cv (mul_no (a := a) fun q => (hu.resolve_left fun m => by omega).2 q.2) (by kernel_rfl)
    · have k : ¬ u = 0 := cv k (by kernel_rfl)
      have hW : V b := (hu.resolve_right fun m => k m.1).2
      have e : (IntKind.i64.wrap (a * b)).tmod 2147483579 = prodF a b := by
        rw [mul_wrap (V_pos hV) (by have := hV.2.1; omega) (V_pos hW) (by have := hW.2.1; omega)]
        exact prod_go (V_pos hV) (V_pos hW)
      have r := pr_rng (V_pos hV) (V_pos hW)
      refine res_ok (cv (by rw [e]; omega : 0 ≤ (IntKind.i64.wrap (a * b)).tmod 2147483579 ∧ (IntKind.i64.wrap (a * b)).tmod 2147483579 ≤ 2147483579) (by kernel_rfl)) ?_
      exact cv (by rw [e]; exact mul_yes hV hW : [DV.n ((IntKind.i64.wrap (a * b)).tmod 2147483579), .n 0] = mulQ a b) (by kernel_rfl)
  · have h : ¬ ¬ v = 0 := cv h (by kernel_rfl)
    exact cv (mul_no (b := b) fun q => (hv.resolve_left fun m => by omega).2 q.1) (by kernel_rfl)
set_option maxRecDepth 100000 in
theorem cMulR_ok (N : Nat) (w0 : World) : ConOk Tryd.prog tb N w0 (cMul 12) := by
  refine con_of_walk (tb := tb) fine (C := [cVal 16]) (conCons cValR_ok noCon) 120 rfl ?_ N w0
  refine fun a a0 a1 b b0 b1 _ => ?_
  rw [tree_mulR]
  show T.res _ (fun y => y = mulQ a b) _ _
  refine res_con rfl trivial (fun v _ _ hv => ?_)
  have hv := yn_01 (cv hv (by kernel_rfl : _ = ([DV.n v] = yn (V a))))
  refine res_ite (fun h => ?_) fun h => ?_
  · have h : ¬ v = 0 := cv h (by kernel_rfl)
    have hV : V a := (hv.resolve_right fun m => h m.1).2
    refine res_con rfl trivial (fun u _ _ hu => ?_)
    have hu := yn_01 (cv hu (by kernel_rfl : _ = ([DV.n u] = yn (V b))))
    refine res_ite (fun k => ?_) fun k => ?_
    · have k : u = 0 := cv k (by kernel_rfl)
      exact cv (mul_no (a := a) fun q => (hu.resolve_left fun m => by omega).2 q.2) (by kernel_rfl)
    · have k : ¬ u = 0 := cv k (by kernel_rfl)
      have hW : V b := (hu.resolve_right fun m => k m.1).2
      have e : (IntKind.i64.wrap (a * b)).tmod 2147483579 = prodF a b := by
        rw [mul_wrap (V_pos hV) (by have := hV.2.1; omega) (V_pos hW) (by have := hW.2.1; omega)]
        exact prod_go (V_pos hV) (V_pos hW)
      have r := pr_rng (V_pos hV) (V_pos hW)
      refine res_ok (cv (by rw [e]; omega : 0 ≤ (IntKind.i64.wrap (a * b)).tmod 2147483579 ∧ (IntKind.i64.wrap (a * b)).tmod 2147483579 ≤ 2147483579) (by kernel_rfl)) ?_
      exact cv (by rw [e]; exact mul_yes hV hW : [DV.n ((IntKind.i64.wrap (a * b)).tmod 2147483579), .n 0] = mulQ a b) (by kernel_rfl)
  · have h : ¬ ¬ v = 0 := cv h (by kernel_rfl)
    exact cv (mul_no (b := b) fun q => (hv.resolve_left fun m => by omega).2 q.1) (by kernel_rfl)
theorem ex_ref {n : Int} : (n.tmod 1073741789 < 0 → n.tmod 1073741789 + 1073741789 = expF n) ∧ (¬ n.tmod 1073741789 < 0 → n.tmod 1073741789 = expF n) := by
  unfold expF
  by_cases h : 0 ≤ n
  · rw [td h]
    have := Int.emod_nonneg n (show (1073741789 : Int) ≠ 0 by decide)
    exact ⟨fun k => by omega, fun _ => rfl⟩
  · have e : n.tmod 1073741789 = -((-n) % 1073741789) := by
      have := Int.neg_tmod (-n) 1073741789
      rw [Int.neg_neg, td (show 0 ≤ -n by omega)] at this
      exact this
    rw [e]
    constructor <;> omega
theorem ex_go {n : Int} : (n.tmod 1073741789 + 1073741789).tmod 1073741789 = expF n := by
  have r := ex_rng n
  by_cases h : n.tmod 1073741789 < 0
  · have := ex_ref.1 h
    rw [this, td r.1]
    exact Int.emod_eq_of_lt r.1 r.2
  · have := ex_ref.2 h
    rw [this, td (by omega), Int.add_emod_right]
    exact Int.emod_eq_of_lt r.1 r.2
set_option maxRecDepth 100000 in
theorem cPowR_ok (N : Nat) (w0 : World) : ConOk Tryd.prog tb N w0 (cPow 14) := by
  refine con_of_walk (tb := tb) fine (C := [cVal 16, cPw 30]) (conCons cValR_ok (conCons cPw_ok noCon)) 120 rfl ?_ N w0
  refine fun a a0 a1 n n0 n1 _ => ?_
  rw [tree_powR]
  show T.res _ (fun y => y = powQ a n) _ _
  refine res_con rfl trivial (fun v _ _ hv => ?_)
  have hv := yn_01 (cv hv (by kernel_rfl : _ = ([DV.n v] = yn (V a))))
  refine res_ite (fun h => ?_) fun h => ?_
  · have h : v = 0 := cv h (by kernel_rfl)
    exact cv (pow_no (n := n) (hv.resolve_left fun m => by omega).2) (by kernel_rfl)
  have h : ¬ v = 0 := cv h (by kernel_rfl)
  have hV : V a := (hv.resolve_right fun m => h m.1).2
  have hb : 0 ≤ a ∧ a ≤ 2147483579 := ⟨V_pos hV, by have := hV.2.1; omega⟩
  refine res_ite (fun k => ?_) fun k => ?_
  · have k : n.tmod 1073741789 < 0 := cv k (by kernel_rfl)
    refine res_ok (cv hb (by kernel_rfl)) (res_con rfl trivial (fun c _ _ hc => ?_))
    have hc := n_inj (cv hc (by kernel_rfl : _ = ([DV.n c] = [.n (pwF a (n.tmod 1073741789 + 1073741789))])))
    rw [ex_ref.1 k] at hc
    exact cv ((congrArg (fun z => [DV.n z, .n 0]) hc).trans (pow_yes hV)) (by kernel_rfl)
  · have k : ¬ n.tmod 1073741789 < 0 := cv k (by kernel_rfl)
    refine res_ok (cv hb (by kernel_rfl)) (res_con rfl trivial (fun c _ _ hc => ?_))
    have hc := n_inj (cv hc (by kernel_rfl : _ = ([DV.n c] = [.n (pwF a (n.tmod 1073741789))])))
    rw [ex_ref.2 k] at hc
    exact cv ((congrArg (fun z => [DV.n z, .n 0]) hc).trans (pow_yes hV)) (by kernel_rfl)
theorem two_half {k : Int} (h : k < 30) : (2 : Int) ^ (30 - k).toNat = 2 * 2 ^ (30 - (k + 1)).toNat := by
  rw [show (30 - k).toNat = (30 - (k + 1)).toNat + 1 by omega, Int.pow_succ, Int.mul_comm]
set_option maxRecDepth 100000 in
theorem cPow_ok (N : Nat) (w0 : World) : ConOk Tryd.prog tb N w0 (cPow 13) := by
  refine con_of_walk (tb := tb) fine (C := [cVal 15, lPow]) (conCons cVal_ok (lopCons rfl noCon)) 160 rfl ?_ N w0
  refine fun a a0 a1 n n0 n1 _ => ?_
  rw [tree_pow]
  show T.res _ (fun y => y = powQ a n) _ _
  refine res_con rfl trivial (fun v _ _ hv => ?_)
  have hv := yn_01 (cv hv (by kernel_rfl : _ = ([DV.n v] = yn (V a))))
  refine res_ite (fun h => ?_) fun h => ?_
  · have h : v = 0 := cv h (by kernel_rfl)
    exact cv (pow_no (n := n) (hv.resolve_left fun m => by omega).2) (by kernel_rfl)
  have h : ¬ v = 0 := cv h (by kernel_rfl)
  have hV : V a := (hv.resolve_right fun m => h m.1).2
  have hb : 0 ≤ a ∧ a ≤ 2147483579 := ⟨V_pos hV, by have := hV.2.1; omega⟩
  refine res_ok (cv hb (by kernel_rfl)) ?_
  have hr := ex_rng n
  refine res_lop_of rfl (P := PowI a (expF n) 0 a 1 ((n.tmod 1073741789 + 1073741789).tmod 1073741789)) (by kernel_rfl) rfl (by
    rw [ex_go]
    refine ⟨by decide, ?_, one_pr (pw_rng _ _).1 (pw_rng _ _).2⟩
    have e : (2 : Int) ^ ((30 : Int) - 0).toNat = 1073741824 := rfl
    rw [e]; omega) (fun q q0 q1 k k0 k1 c c0 c1 m m0 m1 hI => ?_)
  obtain ⟨hc, hm, hI⟩ := cv hI (by kernel_rfl : _ = PowI a (expF n) k q c m)
  have q0 : 0 ≤ q := q0
  have m0 : 0 ≤ m := m0
  have c0 : 0 ≤ c := c0
  have k0 : 0 ≤ k := k0
  have e2 : m.tdiv 2 = m / 2 := Int.tdiv_eq_ediv_of_nonneg m0
  have done : ∀ z : Int, z = pwF a (expF n) → [DV.n z, .n 0] = powQ a n := fun z hz => by rw [hz]; exact pow_yes hV
  refine res_ite (fun hk => ?_) fun hk => ?_
  · have hk : k < 30 := cv hk (by kernel_rfl)
    have h2 := two_half hk
    have mea : (30 - (k + 1)).toNat < (30 - k).toNat := by omega
    refine res_ite (fun o => ?_) fun o => ?_
    · have o : m.tmod 2 = 1 := cv o (by kernel_rfl)
      rw [td m0] at o
      have key := (pw_odd (c := c) q0 (show 0 < m by omega) o).trans hI
      refine res_ite (fun z => ?_) fun z => ?_
      · have z : m.tdiv 2 = 0 := cv z (by kernel_rfl)
        rw [e2] at z
        rw [z, pw_0, pr_id (pr_rng c0 q0).1 pr_lt] at key
        exact cv (done ((c * q).tmod 2147483579) (by rw [prod_go c0 q0]; exact key)) (by kernel_rfl)
      · refine res_chk_of rfl (P := PowI a (expF n) (k + 1) ((q * q).tmod 2147483579) ((c * q).tmod 2147483579) (m.tdiv 2)) (a := (30 - (k + 1)).toNat) (b := (30 - k).toNat) (by kernel_rfl) (by kernel_rfl) (by kernel_rfl) ?_ mea
        rw [prod_go c0 q0, prod_go q0 q0, e2]
        exact ⟨pr_lt, by omega, key⟩
    · have o : ¬ m.tmod 2 = 1 := cv o (by kernel_rfl)
      rw [td m0] at o
      have key : prodF c (pwF (prodF q q) (m / 2)) = pwF a (expF n) := by
        by_cases z : 0 < m
        · exact (pw_even q0 z o).trans hI
        · have z : m = 0 := by omega
          rw [z] at hI ⊢
          rw [pw_0] at hI
          rw [show (0 : Int) / 2 = 0 from rfl, pw_0]; exact hI
      refine res_ite (fun z => ?_) fun z => ?_
      · have z : m.tdiv 2 = 0 := cv z (by kernel_rfl)
        rw [e2] at z
        rw [z, pw_0, pr_id c0 hc] at key
        exact cv (done c key) (by kernel_rfl)
      · refine res_chk_of rfl (P := PowI a (expF n) (k + 1) ((q * q).tmod 2147483579) c (m.tdiv 2)) (a := (30 - (k + 1)).toNat) (b := (30 - k).toNat) (by kernel_rfl) (by kernel_rfl) (by kernel_rfl) ?_ mea
        rw [prod_go q0 q0, e2]
        exact ⟨hc, by omega, key⟩
  · have hk : ¬ k < 30 := cv hk (by kernel_rfl)
    have k1 : k ≤ 30 := k1
    rw [show k = 30 by omega, show (2 : Int) ^ ((30 : Int) - 30).toNat = 1 from rfl] at hm
    rw [show m = 0 by omega, pw_0, pr_id c0 hc] at hI
    exact cv (done c hI) (by kernel_rfl)
theorem el_no {n : Int} (h : ¬ (1 ≤ n ∧ n ≤ 1073741789)) : [DV.n 0, .n 1] = elQ n := by unfold elQ; rw [if_neg h]
theorem el_yes {n : Int} (h : 1 ≤ n ∧ n ≤ 1073741789) : [DV.n (elV n), .n 0] = elQ n := by unfold elQ; rw [if_pos h]
theorem elV_yes {n : Int} (h : V n) : elV n = n := by unfold elV; rw [if_pos h]
theorem elV_no {n : Int} (h : ¬ V n) : elV n = 2147483579 - n := by unfold elV; rw [if_neg h]
theorem num_no {n : Int} (h : ¬ V n) : [DV.n 0, .n 100] = numQ n := by unfold numQ; rw [if_neg h]
theorem num_yes {n : Int} (h : V n) : [DV.n (min n (2147483579 - n)), .n 0] = numQ n := by unfold numQ; rw [if_pos h]
set_option maxRecDepth 100000 in
theorem cEl_ok (N : Nat) (w0 : World) : ConOk Tryd.prog tb N w0 (cEl 17) := by
  refine con_of_walk (tb := tb) fine (C := [cVal 15]) (conCons cVal_ok noCon) 120 rfl ?_ N w0
  refine fun n n0 n1 _ => ?_
  rw [tree_el]
  show T.res _ (fun y => y = elQ n) _ _
  refine res_ite (fun h => ?_) fun h => ?_
  · have h : n < 1 ∨ 1073741789 < n := cv h (by kernel_rfl)
    exact cv (el_no (n := n) (by omega)) (by kernel_rfl)
  have h : ¬ (n < 1 ∨ 1073741789 < n) := cv h (by kernel_rfl)
  refine res_con rfl trivial (fun v _ _ hv => ?_)
  have hv := yn_01 (cv hv (by kernel_rfl : _ = ([DV.n v] = yn (V n))))
  refine res_ite (fun k => ?_) fun k => ?_
  · have k : ¬ v = 0 := cv k (by kernel_rfl)
    exact cv (by rw [← el_yes (by omega), elV_yes (hv.resolve_right fun m => k m.1).2] : [DV.n n, .n 0] = elQ n) (by kernel_rfl)
  · have k : ¬ ¬ v = 0 := cv k (by kernel_rfl)
    exact cv (by rw [← el_yes (by omega), elV_no (hv.resolve_left fun m => by omega).2] : [DV.n (2147483579 - n), .n 0] = elQ n) (by kernel_rfl)
set_option maxRecDepth 100000 in
theorem cElR_ok (N : Nat) (w0 : World) : ConOk Tryd.prog tb N w0 (cEl 18) := by
  refine con_of_walk (tb := tb) fine (C := [cVal 16]) (conCons cValR_ok noCon) 120 rfl ?_ N w0
  refine fun n n0 n1 _ => ?_
  rw [tree_elR]
  show T.res _ (fun y => y = elQ n) _ _
  refine res_ite (fun h => ?_) fun h => ?_
  · have h : n < 1 ∨ 1073741789 < n := cv h (by kernel_rfl)
    exact cv (el_no (n := n) (by omega)) (by kernel_rfl)
  have h : ¬ (n < 1 ∨ 1073741789 < n) := cv h (by kernel_rfl)
  refine res_con rfl trivial (fun v _ _ hv => ?_)
  have hv := yn_01 (cv hv (by kernel_rfl : _ = ([DV.n v] = yn (V n))))
  refine res_ite (fun k => ?_) fun k => ?_
  · have k : ¬ v = 0 := cv k (by kernel_rfl)
    exact cv (by rw [← el_yes (by omega), elV_yes (hv.resolve_right fun m => k m.1).2] : [DV.n n, .n 0] = elQ n) (by kernel_rfl)
  · have k : ¬ ¬ v = 0 := cv k (by kernel_rfl)
    exact cv (by rw [← el_yes (by omega), elV_no (hv.resolve_left fun m => by omega).2] : [DV.n (2147483579 - n), .n 0] = elQ n) (by kernel_rfl)
set_option maxRecDepth 100000 in
theorem cNum_ok (N : Nat) (w0 : World) : ConOk Tryd.prog tb N w0 (cNum 19) := by
  refine con_of_walk (tb := tb) fine (C := [cVal 15]) (conCons cVal_ok noCon) 120 rfl ?_ N w0
  refine fun x x0 x1 _ => ?_
  rw [tree_num]
  show T.res _ (fun y => y = numQ x) _ _
  refine res_con rfl trivial (fun v _ _ hv => ?_)
  have hv := yn_01 (cv hv (by kernel_rfl : _ = ([DV.n v] = yn (V x))))
  refine res_ite (fun k => ?_) fun k => ?_
  · have k : v = 0 := cv k (by kernel_rfl)
    exact cv (num_no (hv.resolve_left fun m => by omega).2) (by kernel_rfl)
  · have k : ¬ v = 0 := cv k (by kernel_rfl)
    have hV := (hv.resolve_right fun m => k m.1).2
    have h1 := hV.1; have h2 := hV.2.1
    have e := wI (x := 2147483579 - x) (by omega) (by omega)
    refine res_ok (cv (by rw [e]; omega : 0 ≤ min x (IntKind.i64.wrap (2147483579 - x)) ∧ min x (IntKind.i64.wrap (2147483579 - x)) ≤ 2147483579) (by kernel_rfl)) ?_
    exact cv (by rw [e]; exact num_yes hV : [DV.n (min x (IntKind.i64.wrap (2147483579 - x))), .n 0] = numQ x) (by kernel_rfl)
set_option maxRecDepth 100000 in
theorem cNumR_ok (N : Nat) (w0 : World) : ConOk Tryd.prog tb N w0 (cNum 20) := by
  refine con_of_walk (tb := tb) fine (C := [cVal 16]) (conCons cValR_ok noCon) 120 rfl ?_ N w0
  refine fun x x0 x1 _ => ?_
  rw [tree_numR]
  show T.res _ (fun y => y = numQ x) _ _
  refine res_con rfl trivial (fun v _ _ hv => ?_)
  have hv := yn_01 (cv hv (by kernel_rfl : _ = ([DV.n v] = yn (V x))))
  refine res_ite (fun k => ?_) fun k => ?_
  · have k : v = 0 := cv k (by kernel_rfl)
    exact cv (num_no (hv.resolve_left fun m => by omega).2) (by kernel_rfl)
  · have k : ¬ v = 0 := cv k (by kernel_rfl)
    have hV := (hv.resolve_right fun m => k m.1).2
    have h1 := hV.1; have h2 := hV.2.1
    refine res_ite (fun l => ?_) fun l => ?_
    · have l : x ≤ 1073741789 := cv l (by kernel_rfl)
      refine res_ok (cv (by omega : 0 ≤ x ∧ x ≤ 2147483579) (by kernel_rfl)) ?_
      exact cv (by rw [← num_yes hV, show min x (2147483579 - x) = x by omega] : [DV.n x, .n 0] = numQ x) (by kernel_rfl)
    · have l : ¬ x ≤ 1073741789 := cv l (by kernel_rfl)
      refine res_ok (cv (by omega : 0 ≤ 2147483579 - x ∧ 2147483579 - x ≤ 2147483579) (by kernel_rfl)) ?_
      exact cv (by rw [← num_yes hV, show min x (2147483579 - x) = 2147483579 - x by omega] : [DV.n (2147483579 - x), .n 0] = numQ x) (by kernel_rfl)
theorem mulV_yes {a b : Int} (ha : V a) (hb : V b) : mulV a b = prodF a b := by unfold mulV; rw [if_pos ⟨ha, hb⟩]
theorem mulV_no {a b : Int} (h : ¬ (V a ∧ V b)) : mulV a b = 0 := by unfold mulV; rw [if_neg h]
theorem powV_yes {a n : Int} (ha : V a) : powV a n = pwF a (expF n) := by unfold powV; rw [if_pos ha]
theorem powV_no {a n : Int} (h : ¬ V a) : powV a n = 0 := by unfold powV; rw [if_neg h]
theorem q2_in {a b c d : Int} (h : [DV.n a, .n b] = [.n c, .n d]) : a = c ∧ b = d := by simpa using h
theorem mul_in {a b c e : Int} (h : [DV.n c, .n e] = mulQ a b) : (e = 0 ∧ (V a ∧ V b) ∧ c = prodF a b) ∨ (e = 100 ∧ ¬ (V a ∧ V b) ∧ c = 0) := by
  by_cases k : V a ∧ V b
  · obtain ⟨h1, h2⟩ := q2_in (h.trans (mul_yes k.1 k.2).symm); exact .inl ⟨h2, k, h1⟩
  · obtain ⟨h1, h2⟩ := q2_in (h.trans (mul_no k).symm); exact .inr ⟨h2, k, h1⟩
theorem pow_in {a n c e : Int} (h : [DV.n c, .n e] = powQ a n) : (e = 0 ∧ V a ∧ c = pwF a (expF n)) ∨ (e = 100 ∧ ¬ V a ∧ c = 0) := by
  by_cases k : V a
  · obtain ⟨h1, h2⟩ := q2_in (h.trans (pow_yes k).symm); exact .inl ⟨h2, k, h1⟩
  · obtain ⟨h1, h2⟩ := q2_in (h.trans (pow_no k).symm); exact .inr ⟨h2, k, h1⟩
set_option maxRecDepth 100000 in
theorem cPowL_ok (N : Nat) (w0 : World) : ConOk Tryd.prog tb N w0 (cPowL 25) := by
  refine con_of_walk (tb := tb) fine (C := [cPow 13]) (conCons cPow_ok noCon) 120 rfl ?_ N w0
  refine fun a a0 a1 n n0 n1 _ => ?_
  rw [tree_powL]
  show T.res _ (fun y => y = [.n (powV a n)]) _ _
  refine res_con rfl trivial (fun c _ _ e _ _ h => ?_)
  have h := pow_in (cv h (by kernel_rfl : _ = ([DV.n c, .n e] = powQ a n)))
  refine res_ite (fun k => ?_) fun k => ?_
  · have k : ¬ e = 0 := cv k (by kernel_rfl)
    rcases h with h | h
    · exact absurd h.1 k
    · exact cv (by rw [powV_no h.2.1] : [DV.n 0] = [.n (powV a n)]) (by kernel_rfl)
  · have k : ¬ ¬ e = 0 := cv k (by kernel_rfl)
    rcases h with h | h
    · exact cv (by rw [powV_yes h.2.1, h.2.2] : [DV.n c] = [.n (powV a n)]) (by kernel_rfl)
    · omega
theorem el_in {n c e : Int} (h : [DV.n c, .n e] = elQ n) (hn : 1 ≤ n ∧ n ≤ 1073741789) : c = elV n ∧ e = 0 := q2_in (h.trans (el_yes hn).symm)
set_option maxRecDepth 100000 in
theorem cElL_ok (N : Nat) (w0 : World) : ConOk Tryd.prog tb N w0 (cElL 23) := by
  refine con_of_walk (tb := tb) fine (C := [cEl 17]) (conCons cEl_ok noCon) 120 rfl ?_ N w0
  refine fun n n0 n1 _ => ?_
  have r := ex_rng n
  rw [tree_elL]
  show T.res _ (fun y => y = [.n (elV (expF n + 1))]) _ _
  refine res_ite (fun h => ?_) fun h => ?_
  · have h : n.tmod 1073741789 < 0 := cv h (by kernel_rfl)
    have h := ex_ref.1 h
    refine res_con rfl trivial (fun c _ _ e _ _ k => ?_)
    have k := cv k (by kernel_rfl : _ = ([DV.n c, .n e] = elQ (n.tmod 1073741789 + 1073741790)))
    rw [show n.tmod 1073741789 + 1073741790 = expF n + 1 by omega] at k
    exact cv (by rw [(el_in k (by omega)).1] : [DV.n c] = [.n (elV (expF n + 1))]) (by kernel_rfl)
  · have h : ¬ n.tmod 1073741789 < 0 := cv h (by kernel_rfl)
    have h := ex_ref.2 h
    refine res_con rfl trivial (fun c _ _ e _ _ k => ?_)
    have k := cv k (by kernel_rfl : _ = ([DV.n c, .n e] = elQ (n.tmod 1073741789 + 1)))
    rw [h] at k
    exact cv (by rw [(el_in k (by omega)).1] : [DV.n c] = [.n (elV (expF n + 1))]) (by kernel_rfl)
set_option maxRecDepth 100000 in
theorem cMulL_ok (N : Nat) (w0 : World) : ConOk Tryd.prog tb N w0 (cMulL 24) := by
  refine con_of_walk (tb := tb) fine (C := [cMul 11, lMul]) (conCons cMul_ok (lopCons rfl noCon)) 120 rfl ?_ N w0
  refine fun S hS hp => ?_
  have hp : S.length = 2 := hp
  have lS := len_of hS (Nat.le_refl _)
  rw [tree_mulL]
  show T.res _ (fun y => y = [.n (mulV ((DV.sl none 0 S).at 0 0) ((DV.sl none 0 S).at 1 0))]) _ _
  refine res_lop_of rfl (P := MulI ((DV.sl none 0 S).at 0 0) ((DV.sl none 0 S).at 1 0) 0 1) (by kernel_rfl) rfl (.inl ⟨rfl, rfl⟩) (fun c c0 c1 i i0 i1 hI => ?_)
  have hI := cv hI (by kernel_rfl : _ = MulI ((DV.sl none 0 S).at 0 0) ((DV.sl none 0 S).at 1 0) i c)
  have i0 : 0 ≤ i := i0
  refine res_ite (fun h => ?_) fun h => ?_
  · have h : i < (DV.sl none 0 S).len := cv h (by kernel_rfl)
    refine res_con rfl trivial (fun d _ _ e _ _ k => ?_)
    have k := mul_in (cv k (by kernel_rfl : _ = ([DV.n d, .n e] = mulQ c ((DV.sl none 0 S).at i 0))))
    generalize hx : (DV.sl none 0 S).at 0 0 = x at *
    generalize hy : (DV.sl none 0 S).at 1 0 = y at *
    refine res_ite (fun z => ?_) fun z => ?_
    · have z : ¬ e = 0 := cv z (by kernel_rfl)
      refine cv (?_ : [DV.n 0] = [.n (mulV x y)]) (by kernel_rfl)
      rcases k with k | k
      · exact absurd k.1 z
      · rcases hI with ⟨rfl, rfl⟩ | ⟨rfl, rfl, hv⟩ | ⟨rfl, _⟩
        · rw [hx] at k
          rw [mulV_no fun m => k.2.1 ⟨V_one, m.1⟩]
        · rw [hy] at k
          rw [mulV_no fun m => k.2.1 ⟨hv, m.2⟩]
        · omega
    · have z : ¬ ¬ e = 0 := cv z (by kernel_rfl)
      rcases k with k | k
      · refine res_chk_of rfl (P := MulI ((DV.sl none 0 S).at 0 0) ((DV.sl none 0 S).at 1 0) (i + 1) d) (a := (2 - (i + 1)).toNat) (b := (2 - i).toNat) (by kernel_rfl) (by kernel_rfl) (by kernel_rfl) ?_ (by omega)
        rw [hx, hy]
        rcases hI with ⟨rfl, rfl⟩ | ⟨rfl, rfl, hv⟩ | ⟨rfl, _⟩
        · rw [hx] at k
          exact .inr (.inl ⟨rfl, by rw [k.2.2, pr_comm]; exact pr_one k.2.1.2, k.2.1.2⟩)
        · rw [hy] at k
          exact .inr (.inr ⟨rfl, k.2.1.1, k.2.1.2, k.2.2⟩)
        · omega
      · omega
  · have h : ¬ i < (DV.sl none 0 S).len := cv h (by kernel_rfl)
    refine cv (?_ : [DV.n c] = [.n (mulV ((DV.sl none 0 S).at 0 0) ((DV.sl none 0 S).at 1 0))]) (by kernel_rfl)
    rcases hI with ⟨rfl, rfl⟩ | ⟨rfl, rfl, hv⟩ | ⟨rfl, hx, hy, rfl⟩
    · omega
    · omega
    · rw [mulV_yes hx hy]
end Go.Proofs.YtbkjjehfidnagaaDoor
