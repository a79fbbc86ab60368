/- DERIVED. The laws on powers, squares, numbers of elements, walked. -/
import Derived.Test.YtbkjjehfidnagaaDoorDlaw
namespace Go.Proofs.YtbkjjehfidnagaaDoor
open Go.Dx Go.RowKit
set_option linter.unusedVariables false
set_option linter.unusedSimpArgs false
theorem ex_id {n : Int} (h : 0 ≤ n ∧ n < 1073741789) : expF n = n := Int.emod_eq_of_lt h.1 h.2
theorem ex_plus (n : Int) : expF (n + 1073741789) = expF n := Int.add_emod_right ..
theorem ex_minus (n : Int) : expF (n - 1073741789) = expF n := by
  have := ex_plus (n - 1073741789)
  rw [show n - 1073741789 + 1073741789 = n by omega] at this
  exact this.symm
set_option maxRecDepth 100000 in
theorem GroupPowers_any (x y i k : Int) (w : World) (hG : Glb tb w) (hx : -9223372036854775808 ≤ x ∧ x ≤ 9223372036854775807) (hy : -9223372036854775808 ≤ y ∧ y ≤ 9223372036854775807) (hi : -2147483648 ≤ i ∧ i ≤ 2147483647) (hk : -2147483648 ≤ k ∧ k ≤ 2147483647) :
    Calls Tryd.prog 6 #[.int .i64 x, .int .i64 y, .int .i32 i, .int .i32 k] w fun e w' => e = .returned (.bool true) ∧ Below w.heap.size w w' := by
  refine law_of_walk (tb := tb) (P := Tryd.prog) fine (C := [lawCon 10 [], cVal 15, cElL 23, cMulL 24, cPowL 25]) (conCons cSane_ok (conCons cVal_ok (conCons cElL_ok (conCons cMulL_ok (conCons cPowL_ok noCon))))) 200 6 [aI, aI, aM, aM] rfl (w := w) hG
    (xs := [.n x, .n y, .n i, .n k]) ⟨cell_int hx, cell_int hy, cell_i32 hi, cell_i32 hk, by simp [ArgsV]⟩ ?_
  rw [tree_powers]
  refine res_con rfl trivial (fun o _ _ ho => ?_)
  obtain rfl := n_inj (show [DV.n o] = [DV.n 1] from ho)
  refine res_ite (fun h => absurd (show (1 : Int) = 0 from h) (by decide)) fun _ => ?_
  refine res_con rfl trivial (fun a _ _ h5 => res_con rfl trivial (fun b _ _ h6 => ?_))
  have va := elL_V (cv h5 (by kernel_rfl : _ = ([DV.n a] = [.n (elV (expF x + 1))])))
  have vb := elL_V (cv h6 (by kernel_rfl : _ = ([DV.n b] = [.n (elV (expF y + 1))])))
  clear h5 h6
  refine res_con rfl trivial (fun p7 _ _ hp7 => ?_)
  have hp7 := powL_V (cv hp7 (by kernel_rfl : _ = ([DV.n p7] = [.n (powV a 0)]))) va
  refine res_ite (fun _ => ?_) fun k => absurd (cv (by rw [hp7]; exact pw_0 : p7 = 1) (by kernel_rfl)) k
  refine res_con rfl trivial (fun p8 _ _ hp8 => ?_)
  have hp8 := powL_V (cv hp8 (by kernel_rfl : _ = ([DV.n p8] = [.n (powV a 1)]))) va
  refine res_ite (fun _ => ?_) fun k => absurd (cv (by rw [hp8]; exact pw_1 va : p8 = a) (by kernel_rfl)) k
  refine res_con rfl trivial (fun p9 _ _ hp9 => ?_)
  have hp9 := powL_V (cv hp9 (by kernel_rfl : _ = ([DV.n p9] = [.n (powV a 2)]))) va
  refine res_dat (.sl none 0 [[.n a], [.n a]]) (by kernel_rfl) (res_con rfl (cv (rfl : (2 : Nat) = 2) (by kernel_rfl)) (fun m11 _ _ hm11 => ?_))
  have hm11 := mulL_V (cv hm11 (by kernel_rfl : _ = ([DV.n m11] = [.n (mulL2 a a)]))) va va
  refine res_ite (fun _ => ?_) fun k => absurd (cv (by rw [hp9, hm11]; exact pw_2 va : p9 = m11) (by kernel_rfl)) k
  refine res_con rfl trivial (fun p12 _ _ hp12 => ?_)
  have hp12 := powL_V (cv hp12 (by kernel_rfl : _ = ([DV.n p12] = [.n (powV a 1073741789)]))) va
  refine res_ite (fun _ => ?_) fun k => absurd (cv (by rw [hp12]; exact pw_0 : p12 = 1) (by kernel_rfl)) k
  refine res_con rfl trivial (fun p13 _ _ hp13 => ?_)
  have hp13 := powL_V (cv hp13 (by kernel_rfl : _ = ([DV.n p13] = [.n (powV a (i + 1073741789))]))) va
  refine res_con rfl trivial (fun p14 _ _ hp14 => ?_)
  have hp14 := powL_V (cv hp14 (by kernel_rfl : _ = ([DV.n p14] = [.n (powV a i)]))) va
  refine res_ite (fun _ => ?_) fun k => absurd (cv (by rw [hp13, hp14, ex_plus] : p13 = p14) (by kernel_rfl)) k
  refine res_con rfl trivial (fun p15 _ _ hp15 => ?_)
  have hp15 := powL_V (cv hp15 (by kernel_rfl : _ = ([DV.n p15] = [.n (powV a (i - 1073741789))]))) va
  refine res_con rfl trivial (fun p16 _ _ hp16 => ?_)
  have hp16 := powL_V (cv hp16 (by kernel_rfl : _ = ([DV.n p16] = [.n (powV a i)]))) va
  refine res_ite (fun k => absurd (by rw [hp15, hp16, ex_minus] : p15 = p16) (cv k (by kernel_rfl : _ = (¬ p15 = p16)))) fun _ => ?_
  refine res_con rfl trivial (fun p17 _ _ hp17 => ?_)
  have hp17 := powL_V (cv hp17 (by kernel_rfl : _ = ([DV.n p17] = [.n (powV a i)]))) va
  have v17 : V p17 := by rw [hp17]; exact V_pow va
  refine res_con rfl trivial (fun p18 _ _ hp18 => ?_)
  have hp18 := powL_V (cv hp18 (by kernel_rfl : _ = ([DV.n p18] = [.n (powV a k)]))) va
  have v18 : V p18 := by rw [hp18]; exact V_pow va
  refine res_dat (.sl none 0 [[.n p17], [.n p18]]) (by kernel_rfl) (res_con rfl (cv (rfl : (2 : Nat) = 2) (by kernel_rfl)) (fun m20 _ _ hm20 => ?_))
  have hm20 := mulL_V (cv hm20 (by kernel_rfl : _ = ([DV.n m20] = [.n (mulL2 p17 p18)]))) v17 v18
  refine res_con rfl trivial (fun p21 _ _ hp21 => ?_)
  have hp21 := powL_V (cv hp21 (by kernel_rfl : _ = ([DV.n p21] = [.n (powV a (i + k))]))) va
  refine res_ite (fun _ => ?_) fun k => absurd (cv (by rw [hm20, hp17, hp18, hp21, P_of va] : m20 = p21) (by kernel_rfl)) k
  refine res_con rfl trivial (fun p22 _ _ hp22 => ?_)
  have hp22 := powL_V (cv hp22 (by kernel_rfl : _ = ([DV.n p22] = [.n (powV a i)]))) va
  have v22 : V p22 := by rw [hp22]; exact V_pow va
  refine res_con rfl trivial (fun p23 _ _ hp23 => ?_)
  have hp23 := powL_V (cv hp23 (by kernel_rfl : _ = ([DV.n p23] = [.n (powV p22 k)]))) v22
  refine res_con rfl trivial (fun p24 _ _ hp24 => ?_)
  have hp24 := powL_V (cv hp24 (by kernel_rfl : _ = ([DV.n p24] = [.n (powV a (i * k))]))) va
  refine res_ite (fun _ => ?_) fun k => absurd (cv (by rw [hp23, hp22, hp24, PP_of va] : p23 = p24) (by kernel_rfl)) k
  refine res_dat (.sl none 0 [[.n a], [.n b]]) (by kernel_rfl) (res_con rfl (cv (rfl : (2 : Nat) = 2) (by kernel_rfl)) (fun m26 _ _ hm26 => ?_))
  have hm26 := mulL_V (cv hm26 (by kernel_rfl : _ = ([DV.n m26] = [.n (mulL2 a b)]))) va vb
  have v26 : V m26 := by rw [hm26]; exact V_mul va vb
  refine res_con rfl trivial (fun p27 _ _ hp27 => ?_)
  have hp27 := powL_V (cv hp27 (by kernel_rfl : _ = ([DV.n p27] = [.n (powV m26 i)]))) v26
  refine res_con rfl trivial (fun p28 _ _ hp28 => ?_)
  have hp28 := powL_V (cv hp28 (by kernel_rfl : _ = ([DV.n p28] = [.n (powV a i)]))) va
  have v28 : V p28 := by rw [hp28]; exact V_pow va
  refine res_con rfl trivial (fun p29 _ _ hp29 => ?_)
  have hp29 := powL_V (cv hp29 (by kernel_rfl : _ = ([DV.n p29] = [.n (powV b i)]))) vb
  have v29 : V p29 := by rw [hp29]; exact V_pow vb
  refine res_dat (.sl none 0 [[.n p28], [.n p29]]) (by kernel_rfl) (res_con rfl (cv (rfl : (2 : Nat) = 2) (by kernel_rfl)) (fun m31 _ _ hm31 => ?_))
  have hm31 := mulL_V (cv hm31 (by kernel_rfl : _ = ([DV.n m31] = [.n (mulL2 p28 p29)]))) v28 v29
  exact res_ite (fun _ => rfl) fun k => absurd (cv (by rw [hp27, hm26, hm31, hp28, hp29, pw_both va vb] : p27 = m31) (by kernel_rfl)) k
theorem sq_int {n : Int} (h1 : 1 ≤ n) (h2 : n < 2147483579) : V (prodF n n) := by
  obtain ⟨m, rfl⟩ := Int.eq_ofNat_of_zero_le (show 0 ≤ n by omega)
  rw [pr_nat]
  have e : PP = 2147483579 := rfl
  exact sq_V (by omega) (by omega)
theorem V_emod {x : Int} (h : V x) : x % 2147483579 = x := Int.emod_eq_of_lt (V_pos h) h.2.1
theorem P_ref {n : Int} : (n.tmod 2147483579 < 0 → n.tmod 2147483579 + 2147483579 = n % 2147483579) ∧ (¬ n.tmod 2147483579 < 0 → n.tmod 2147483579 = n % 2147483579) := by
  by_cases h : 0 ≤ n
  · rw [td h]
    have := Int.emod_nonneg n (show (2147483579 : Int) ≠ 0 by decide)
    exact ⟨fun k => by omega, fun _ => rfl⟩
  · have e : n.tmod 2147483579 = -((-n) % 2147483579) := by
      have := Int.neg_tmod (-n) 2147483579
      rw [Int.neg_neg, td (show 0 ≤ -n by omega)] at this
      exact this
    rw [e]
    constructor <;> omega
set_option maxRecDepth 100000 in
theorem GroupSquares_any (x : Int) (w : World) (hG : Glb tb w) (hx : -9223372036854775808 ≤ x ∧ x ≤ 9223372036854775807) :
    Calls Tryd.prog 7 #[.int .i64 x] w fun e w' => e = .returned (.bool true) ∧ Below w.heap.size w w' := by
  refine law_of_walk (tb := tb) (P := Tryd.prog) fine (C := [lawCon 10 [], cVal 15, cPowL 25]) (conCons cSane_ok (conCons cVal_ok (conCons cPowL_ok noCon))) 200 7 [aI] rfl (w := w) hG
    (xs := [.n x]) ⟨cell_int hx, by simp [ArgsV]⟩ ?_
  rw [tree_squares]
  refine res_con rfl trivial (fun o _ _ ho => ?_)
  obtain rfl := n_inj (show [DV.n o] = [DV.n 1] from ho)
  refine res_ite (fun h => absurd (show (1 : Int) = 0 from h) (by decide)) fun _ => ?_
  have hm := Int.emod_nonneg x (show (2147483579 : Int) ≠ 0 by decide)
  have hl := Int.emod_lt_of_pos x (show (0 : Int) < 2147483579 by decide)
  have hout : x % 2147483579 ≠ x → ¬ V x := fun h k => h (V_emod k)
  refine res_ite (fun h => ?_) fun h => ?_
  · have h : x.tmod 2147483579 < 0 := cv h (by kernel_rfl)
    have hh := P_ref.1 h
    obtain ⟨n, hn⟩ : ∃ n, x.tmod 2147483579 + 2147483579 = n := ⟨_, rfl⟩
    have hne : n = x % 2147483579 := by rw [← hn]; exact hh
    have hgt : -2147483579 < x.tmod 2147483579 := by
      have := Int.natAbs_tmod x 2147483579
      have := Nat.mod_lt x.natAbs (show 0 < (2147483579 : Int).natAbs by decide)
      omega
    have n1 : 1 ≤ n := by omega
    have n2 : n < 2147483579 := by omega
    have sq : ((x.tmod 2147483579 + 2147483579) * (x.tmod 2147483579 + 2147483579)).tmod 2147483579 = prodF n n := by rw [hn]; exact prod_go (by omega) (by omega)
    have vs := sq_int n1 n2
    have vn := V_neg n1 n2
    have out : n ≠ x → ¬ V x := by rw [hne]; exact hout
    have root : V n → ∀ p q : Int, [DV.n p] = [.n (powV n 536870895)] → [DV.n q] = [.n (powV p 2)] → q = n := fun hv p q hp hq => by
      have hp := powL_V hp hv
      have vp : V p := by rw [hp]; exact V_pow hv
      have hq := powL_V hq vp
      rw [hq, hp]; exact root_of hv
    refine res_con rfl trivial (fun v2 _ _ h2 => ?_)
    have h2 := yn_01 (cv h2 (by kernel_rfl : _ = ([DV.n v2] = yn (V ((x.tmod 2147483579 + 2147483579))))))
    rw [hn] at h2
    refine res_con rfl trivial (fun v3 _ _ h3 => ?_)
    have h3 := yn_01 (cv h3 (by kernel_rfl : _ = ([DV.n v3] = yn (V (2147483579 - ((x.tmod 2147483579 + 2147483579)))))))
    rw [hn] at h3
    have n23 : ¬ ((¬ v2 = 0 ∧ ¬ v3 = 0) ∨ (v2 = 0 ∧ v3 = 0)) := by
      rcases h2 with ⟨e2, k2⟩ | ⟨e2, k2⟩ <;> rcases h3 with ⟨e3, k3⟩ | ⟨e3, k3⟩
      · exact absurd k2 (vn.1 k3)
      · omega
      · omega
      · exact absurd (vn.2 k2) k3
    refine res_ite (fun _ => ?_) fun k => absurd (cv n23 (by kernel_rfl)) k
    refine res_con rfl trivial (fun v4 _ _ h4 => ?_)
    have h4 := hold (cv h4 (by kernel_rfl : _ = ([DV.n v4] = yn (V (((x.tmod 2147483579 + 2147483579) * (x.tmod 2147483579 + 2147483579)).tmod 2147483579))))) (by rw [sq]; exact vs)
    refine res_ite (fun k => ?_) fun k => ?_
    · have k : ¬ v4 = 0 ∧ ¬ (x.tmod 2147483579 + 2147483579) = x := cv k (by kernel_rfl)
      rw [hn] at k
      refine res_con rfl trivial (fun v5 _ _ h5 => ?_)
      have h5 := yn_01 (cv h5 (by kernel_rfl : _ = ([DV.n v5] = yn (V x))))
      refine res_ite (fun m => absurd (h5.resolve_right fun q => (cv m (by kernel_rfl : _ = (¬ v5 = 0))) q.1).2 (out k.2)) fun _ => ?_
      refine res_con rfl trivial (fun v6 _ _ h6 => ?_)
      have h6 := yn_01 (cv h6 (by kernel_rfl : _ = ([DV.n v6] = yn (V ((x.tmod 2147483579 + 2147483579))))))
      rw [hn] at h6
      refine res_ite (fun m => ?_) fun _ => rfl
      have hv := (h6.resolve_right fun q => (cv m (by kernel_rfl : _ = (¬ v6 = 0))) q.1).2
      refine res_con rfl trivial (fun p _ _ hp => res_con rfl trivial (fun q _ _ hq => ?_))
      have hp := cv hp (by kernel_rfl : _ = ([DV.n p] = [.n (powV ((x.tmod 2147483579 + 2147483579)) 536870895)]))
      rw [hn] at hp
      have := root hv p q hp (cv hq (by kernel_rfl))
      exact res_ite (fun _ => rfl) fun z => absurd (cv (by rw [hn]; exact this : q = (x.tmod 2147483579 + 2147483579)) (by kernel_rfl)) z
    · have k : ¬ (¬ v4 = 0 ∧ ¬ (x.tmod 2147483579 + 2147483579) = x) := cv k (by kernel_rfl)
      rw [hn] at k
      refine res_ite (fun _ => ?_) fun m => absurd (cv (by omega : ¬ v4 = 0) (by kernel_rfl)) m
      refine res_ite (fun m => ?_) fun _ => ?_
      · have m : ¬ (x.tmod 2147483579 + 2147483579) = x := cv m (by kernel_rfl)
        rw [hn] at m
        exact absurd ⟨by omega, m⟩ k
      refine res_con rfl trivial (fun v5 _ _ h5 => ?_)
      have h5 := yn_01 (cv h5 (by kernel_rfl : _ = ([DV.n v5] = yn (V ((x.tmod 2147483579 + 2147483579))))))
      rw [hn] at h5
      refine res_ite (fun m => ?_) fun _ => rfl
      have hv := (h5.resolve_right fun q => (cv m (by kernel_rfl : _ = (¬ v5 = 0))) q.1).2
      refine res_con rfl trivial (fun p _ _ hp => res_con rfl trivial (fun q _ _ hq => ?_))
      have hp := cv hp (by kernel_rfl : _ = ([DV.n p] = [.n (powV ((x.tmod 2147483579 + 2147483579)) 536870895)]))
      rw [hn] at hp
      have := root hv p q hp (cv hq (by kernel_rfl))
      exact res_ite (fun _ => rfl) fun z => absurd (cv (by rw [hn]; exact this : q = (x.tmod 2147483579 + 2147483579)) (by kernel_rfl)) z
  · have h : ¬ x.tmod 2147483579 < 0 := cv h (by kernel_rfl)
    have hh := P_ref.2 h
    obtain ⟨n, hn⟩ : ∃ n, x.tmod 2147483579 = n := ⟨_, rfl⟩
    have hne : n = x % 2147483579 := by rw [← hn]; exact hh
    refine res_ite (fun z => ?_) fun z => ?_
    · refine res_con rfl trivial (fun v2 _ _ h2 => ?_)
      have h2 := yn_01 (cv h2 (by kernel_rfl : _ = ([DV.n v2] = yn (V 0))))
      refine res_ite (fun _ => ?_) fun k => absurd (cv ((h2.resolve_left fun m => absurd m.2.1 (by decide)).1 : v2 = 0) (by kernel_rfl)) k
      refine res_con rfl trivial (fun v3 _ _ h3 => ?_)
      have h3 := yn_01 (cv h3 (by kernel_rfl : _ = ([DV.n v3] = yn (V 2147483579))))
      refine res_ite (fun _ => ?_) fun k => absurd (cv ((h3.resolve_left fun m => absurd m.2.2.1 (by decide)).1 : v3 = 0) (by kernel_rfl)) k
      refine res_con rfl trivial (fun v4 _ _ h4 => ?_)
      have h4 := yn_01 (cv h4 (by kernel_rfl : _ = ([DV.n v4] = yn (V (-4)))))
      exact res_ite (fun _ => rfl) fun k => absurd (cv ((h4.resolve_left fun m => absurd m.2.1 (by decide)).1 : v4 = 0) (by kernel_rfl)) k
    have z : ¬ x.tmod 2147483579 = 0 := cv z (by kernel_rfl)
    have n1 : 1 ≤ n := by omega
    have n2 : n < 2147483579 := by omega
    have sq : (x.tmod 2147483579 * x.tmod 2147483579).tmod 2147483579 = prodF n n := by rw [hn]; exact prod_go (by omega) (by omega)
    have vs := sq_int n1 n2
    have vn := V_neg n1 n2
    have out : n ≠ x → ¬ V x := by rw [hne]; exact hout
    have root : V n → ∀ p q : Int, [DV.n p] = [.n (powV n 536870895)] → [DV.n q] = [.n (powV p 2)] → q = n := fun hv p q hp hq => by
      have hp := powL_V hp hv
      have vp : V p := by rw [hp]; exact V_pow hv
      have hq := powL_V hq vp
      rw [hq, hp]; exact root_of hv
    refine res_con rfl trivial (fun v2 _ _ h2 => ?_)
    have h2 := yn_01 (cv h2 (by kernel_rfl : _ = ([DV.n v2] = yn (V (x.tmod 2147483579)))))
    rw [hn] at h2
    refine res_con rfl trivial (fun v3 _ _ h3 => ?_)
    have h3 := yn_01 (cv h3 (by kernel_rfl : _ = ([DV.n v3] = yn (V (2147483579 - (x.tmod 2147483579))))))
    rw [hn] at h3
    have n23 : ¬ ((¬ v2 = 0 ∧ ¬ v3 = 0) ∨ (v2 = 0 ∧ v3 = 0)) := by
      rcases h2 with ⟨e2, k2⟩ | ⟨e2, k2⟩ <;> rcases h3 with ⟨e3, k3⟩ | ⟨e3, k3⟩
      · exact absurd k2 (vn.1 k3)
      · omega
      · omega
      · exact absurd (vn.2 k2) k3
    refine res_ite (fun _ => ?_) fun k => absurd (cv n23 (by kernel_rfl)) k
    refine res_con rfl trivial (fun v4 _ _ h4 => ?_)
    have h4 := hold (cv h4 (by kernel_rfl : _ = ([DV.n v4] = yn (V ((x.tmod 2147483579 * x.tmod 2147483579).tmod 2147483579))))) (by rw [sq]; exact vs)
    refine res_ite (fun k => ?_) fun k => ?_
    · have k : ¬ v4 = 0 ∧ ¬ x.tmod 2147483579 = x := cv k (by kernel_rfl)
      rw [hn] at k
      refine res_con rfl trivial (fun v5 _ _ h5 => ?_)
      have h5 := yn_01 (cv h5 (by kernel_rfl : _ = ([DV.n v5] = yn (V x))))
      refine res_ite (fun m => absurd (h5.resolve_right fun q => (cv m (by kernel_rfl : _ = (¬ v5 = 0))) q.1).2 (out k.2)) fun _ => ?_
      refine res_con rfl trivial (fun v6 _ _ h6 => ?_)
      have h6 := yn_01 (cv h6 (by kernel_rfl : _ = ([DV.n v6] = yn (V (x.tmod 2147483579)))))
      rw [hn] at h6
      refine res_ite (fun m => ?_) fun _ => rfl
      have hv := (h6.resolve_right fun q => (cv m (by kernel_rfl : _ = (¬ v6 = 0))) q.1).2
      refine res_con rfl trivial (fun p _ _ hp => res_con rfl trivial (fun q _ _ hq => ?_))
      have hp := cv hp (by kernel_rfl : _ = ([DV.n p] = [.n (powV (x.tmod 2147483579) 536870895)]))
      rw [hn] at hp
      have := root hv p q hp (cv hq (by kernel_rfl))
      exact res_ite (fun _ => rfl) fun z => absurd (cv (by rw [hn]; exact this : q = x.tmod 2147483579) (by kernel_rfl)) z
    · have k : ¬ (¬ v4 = 0 ∧ ¬ x.tmod 2147483579 = x) := cv k (by kernel_rfl)
      rw [hn] at k
      refine res_ite (fun _ => ?_) fun m => absurd (cv (by omega : ¬ v4 = 0) (by kernel_rfl)) m
      refine res_ite (fun m => ?_) fun _ => ?_
      · have m : ¬ x.tmod 2147483579 = x := cv m (by kernel_rfl)
        rw [hn] at m
        exact absurd ⟨by omega, m⟩ k
      refine res_con rfl trivial (fun v5 _ _ h5 => ?_)
      have h5 := yn_01 (cv h5 (by kernel_rfl : _ = ([DV.n v5] = yn (V (x.tmod 2147483579)))))
      rw [hn] at h5
      refine res_ite (fun m => ?_) fun _ => rfl
      have hv := (h5.resolve_right fun q => (cv m (by kernel_rfl : _ = (¬ v5 = 0))) q.1).2
      refine res_con rfl trivial (fun p _ _ hp => res_con rfl trivial (fun q _ _ hq => ?_))
      have hp := cv hp (by kernel_rfl : _ = ([DV.n p] = [.n (powV (x.tmod 2147483579) 536870895)]))
      rw [hn] at hp
      have := root hv p q hp (cv hq (by kernel_rfl))
      exact res_ite (fun _ => rfl) fun z => absurd (cv (by rw [hn]; exact this : q = x.tmod 2147483579) (by kernel_rfl)) z
theorem num_el {n : Int} (h : 1 ≤ n ∧ n ≤ 1073741789) : min (elV n) (2147483579 - elV n) = n := by
  by_cases k : V n
  · rw [elV_yes k]; omega
  · rw [elV_no k]; omega
theorem el_num {n : Int} (h : V n) : (1 ≤ min n (2147483579 - n) ∧ min n (2147483579 - n) ≤ 1073741789) ∧ elV (min n (2147483579 - n)) = n := by
  have h1 := h.1; have h2 := h.2.1
  refine ⟨by omega, ?_⟩
  by_cases k : n ≤ 1073741789
  · rw [show min n (2147483579 - n) = n by omega, elV_yes h]
  · rw [show min n (2147483579 - n) = 2147483579 - n by omega, elV_no fun m => (V_neg h1 h2).1 m h]; omega
theorem el_inj {n m : Int} (hn : 1 ≤ n ∧ n ≤ 1073741789) (hm : 1 ≤ m ∧ m ≤ 1073741789) (h : elV n = elV m) : n = m := by
  rw [← num_el hn, ← num_el hm, h]
theorem num_in {n c e : Int} (h : [DV.n c, .n e] = numQ n) : (e = 0 ∧ V n ∧ c = min n (2147483579 - n)) ∨ (e = 100 ∧ ¬ V n ∧ c = 0) := by
  by_cases k : V n
  · obtain ⟨h1, h2⟩ := q2_in (h.trans (num_yes k).symm); exact .inl ⟨h2, k, h1⟩
  · obtain ⟨h1, h2⟩ := q2_in (h.trans (num_no k).symm); exact .inr ⟨h2, k, h1⟩
theorem el_any {n c e : Int} (h : [DV.n c, .n e] = elQ n) : (e = 0 ∧ (1 ≤ n ∧ n ≤ 1073741789) ∧ c = elV n) ∨ (e = 1 ∧ ¬ (1 ≤ n ∧ n ≤ 1073741789) ∧ c = 0) := by
  by_cases k : 1 ≤ n ∧ n ≤ 1073741789
  · obtain ⟨h1, h2⟩ := q2_in (h.trans (el_yes k).symm); exact .inl ⟨h2, k, h1⟩
  · obtain ⟨h1, h2⟩ := q2_in (h.trans (el_no k).symm); exact .inr ⟨h2, k, h1⟩
set_option maxRecDepth 100000 in
theorem GroupInverse_any (n m : Int) (w : World) (hG : Glb tb w) (hn : -9223372036854775808 ≤ n ∧ n ≤ 9223372036854775807) (hm : -9223372036854775808 ≤ m ∧ m ≤ 9223372036854775807) :
    Calls Tryd.prog 8 #[.int .i64 n, .int .i64 m] w fun e w' => e = .returned (.bool true) ∧ Below w.heap.size w w' := by
  refine law_of_walk (tb := tb) (P := Tryd.prog) fine (C := [lawCon 10 [], cVal 15, cEl 17, cNum 19]) (conCons cSane_ok (conCons cVal_ok (conCons cEl_ok (conCons cNum_ok noCon)))) 200 8 [aI, aI] rfl (w := w) hG
    (xs := [.n n, .n m]) ⟨cell_int hn, cell_int hm, by simp [ArgsV]⟩ ?_
  rw [tree_inverse]
  refine res_con rfl trivial (fun o _ _ ho => ?_)
  obtain rfl := n_inj (show [DV.n o] = [DV.n 1] from ho)
  refine res_ite (fun h => absurd (show (1 : Int) = 0 from h) (by decide)) fun _ => ?_
  refine res_con rfl trivial (fun x _ _ e _ _ h3 => ?_)
  have h3 := el_any (cv h3 (by kernel_rfl : _ = ([DV.n x, .n e] = elQ n)))
  refine res_ite (fun k => ?_) fun _ => ?_
  · have k : (¬ ((e = 0 ∧ (1 ≤ n ∧ n ≤ 1073741789)) ∨ (¬ e = 0 ∧ ¬ (1 ≤ n ∧ n ≤ 1073741789)))) ∨ (¬ e = 0 ∧ (¬ e = 1 ∨ ¬ x = 0)) := cv k (by kernel_rfl)
    omega
  refine res_ite (fun k => ?_) fun k => ?_
  · have k : e = 0 := cv k (by kernel_rfl)
    have hx := (h3.resolve_right fun q => by omega).2
    have vx : V x := by rw [hx.2]; exact el_V hx.1
    refine res_con rfl trivial (fun c _ _ f _ _ h5 => ?_)
    have h5 := num_in (cv h5 (by kernel_rfl : _ = ([DV.n c, .n f] = numQ x)))
    have h5 := h5.resolve_right fun q => q.2.1 vx
    have hc : c = n := by rw [h5.2.2, hx.2]; exact num_el hx.1
    refine res_ite (fun _ => ?_) fun q => absurd (cv (by omega : ¬ ((¬ f = 0) ∨ ¬ c = n)) (by kernel_rfl)) q
    refine res_con rfl trivial (fun v7 _ _ h7 => ?_)
    have h7 := hold (cv h7 (by kernel_rfl : _ = ([DV.n v7] = yn (V x)))) vx
    have hxn : x = n ∨ x = 2147483579 - n := by
      rw [hx.2]
      by_cases q : V n
      · exact .inl (elV_yes q)
      · exact .inr (elV_no q)
    refine res_ite (fun q => ?_) fun _ => ?_
    · have q : v7 = 0 ∨ (¬ x = n ∧ ¬ x = 2147483579 - n) := cv q (by kernel_rfl)
      omega
    refine res_con rfl trivial (fun y _ _ g _ _ h8 => ?_)
    have h8 := el_any (cv h8 (by kernel_rfl : _ = ([DV.n y, .n g] = elQ m)))
    refine res_ite (fun q => ?_) fun _ => ?_
    · have q : g = 0 ∧ ¬ ((x = y ∧ n = m) ∨ (¬ x = y ∧ ¬ n = m)) := cv q (by kernel_rfl)
      have h8 := (h8.resolve_right fun z => by omega).2
      exact absurd (by
        by_cases z : n = m
        · exact .inl ⟨by rw [hx.2, h8.2, z], z⟩
        · exact .inr ⟨fun u => z (el_inj hx.1 h8.1 (by rw [← hx.2, ← h8.2, u])), z⟩) q.2
    refine res_con rfl trivial (fun d _ _ f _ _ h10 => ?_)
    have h10 := num_in (cv h10 (by kernel_rfl : _ = ([DV.n d, .n f] = numQ n)))
    refine res_con rfl trivial (fun v12 _ _ h12 => ?_)
    have h12 := yn_01 (cv h12 (by kernel_rfl : _ = ([DV.n v12] = yn (V n))))
    have hfv : (f = 0 ∧ ¬ v12 = 0) ∨ (¬ f = 0 ∧ v12 = 0) := by
      rcases h10 with q | q <;> rcases h12 with z | z
      · omega
      · exact absurd q.2.1 z.2
      · exact absurd z.2 q.2.1
      · omega
    refine res_ite (fun q => absurd hfv (cv q (by kernel_rfl))) fun _ => ?_
    refine res_ite (fun q => ?_) fun q => ?_
    · have q : ¬ f = 0 := cv q (by kernel_rfl)
      have h10 := h10.resolve_left fun z => q z.1
      exact res_ite (fun _ => rfl) fun z => absurd (cv (⟨h10.1, h10.2.2⟩ : f = 100 ∧ d = 0) (by kernel_rfl)) z
    have q : ¬ ¬ f = 0 := cv q (by kernel_rfl)
    have h10 := h10.resolve_right fun z => by omega
    obtain ⟨r1, r2⟩ := el_num h10.2.1
    rw [← h10.2.2] at r1 r2
    refine res_con rfl trivial (fun y2 _ _ g2 _ _ h13 => ?_)
    have h13 := (el_any (cv h13 (by kernel_rfl : _ = ([DV.n y2, .n g2] = elQ d)))).resolve_right fun z => z.2.1 r1
    exact res_ite (fun _ => rfl) fun z => absurd (cv (⟨⟨⟨h13.1, by rw [h13.2.2, r2]⟩, r1.1⟩, r1.2⟩ : ((g2 = 0 ∧ y2 = n) ∧ 1 ≤ d) ∧ d ≤ 1073741789) (by kernel_rfl)) z
  · have k : ¬ e = 0 := cv k (by kernel_rfl)
    refine res_con rfl trivial (fun d _ _ f _ _ h10 => ?_)
    have h10 := num_in (cv h10 (by kernel_rfl : _ = ([DV.n d, .n f] = numQ n)))
    refine res_con rfl trivial (fun v12 _ _ h12 => ?_)
    have h12 := yn_01 (cv h12 (by kernel_rfl : _ = ([DV.n v12] = yn (V n))))
    have hfv : (f = 0 ∧ ¬ v12 = 0) ∨ (¬ f = 0 ∧ v12 = 0) := by
      rcases h10 with q | q <;> rcases h12 with z | z
      · omega
      · exact absurd q.2.1 z.2
      · exact absurd z.2 q.2.1
      · omega
    refine res_ite (fun q => absurd hfv (cv q (by kernel_rfl))) fun _ => ?_
    refine res_ite (fun q => ?_) fun q => ?_
    · have q : ¬ f = 0 := cv q (by kernel_rfl)
      have h10 := h10.resolve_left fun z => q z.1
      exact res_ite (fun _ => rfl) fun z => absurd (cv (⟨h10.1, h10.2.2⟩ : f = 100 ∧ d = 0) (by kernel_rfl)) z
    have q : ¬ ¬ f = 0 := cv q (by kernel_rfl)
    have h10 := h10.resolve_right fun z => by omega
    obtain ⟨r1, r2⟩ := el_num h10.2.1
    rw [← h10.2.2] at r1 r2
    refine res_con rfl trivial (fun y2 _ _ g2 _ _ h13 => ?_)
    have h13 := (el_any (cv h13 (by kernel_rfl : _ = ([DV.n y2, .n g2] = elQ d)))).resolve_right fun z => z.2.1 r1
    exact res_ite (fun _ => rfl) fun z => absurd (cv (⟨⟨⟨h13.1, by rw [h13.2.2, r2]⟩, r1.1⟩, r1.2⟩ : ((g2 = 0 ∧ y2 = n) ∧ 1 ≤ d) ∧ d ≤ 1073741789) (by kernel_rfl)) z
end Go.Proofs.YtbkjjehfidnagaaDoor
