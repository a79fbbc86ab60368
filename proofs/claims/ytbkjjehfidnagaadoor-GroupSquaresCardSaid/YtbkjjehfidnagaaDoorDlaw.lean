/- DERIVED. The laws of the group, walked. -/
import Derived.Test.YtbkjjehfidnagaaDoorDctb
import Derived.Test.YtbkjjehfidnagaaDoorDtreel
import Derived.Test.YtbkjjehfidnagaaDoorDtrees
import Derived.OpenShut
import Derived.Test.YtbkjjehfidnagaaDoorRows
namespace Go.Proofs.YtbkjjehfidnagaaDoor
open Go.Dx Go.RowKit
set_option linter.unusedVariables false
set_option linter.unusedSimpArgs false
theorem i64_arg {a : Int} (h : (Go.Lit.int .i64 a).wf = true) : -9223372036854775808 ≤ a ∧ a ≤ 9223372036854775807 := by
  simp [Go.Lit.wf, IntKind.min, IntKind.max, IntKind.signed, IntKind.bits] at h
  exact ⟨by omega, by omega⟩
theorem i32_arg {a : Int} (h : (Go.Lit.int .i32 a).wf = true) : -2147483648 ≤ a ∧ a ≤ 2147483647 := by
  simp [Go.Lit.wf, IntKind.min, IntKind.max, IntKind.signed, IntKind.bits] at h
  exact ⟨by omega, by omega⟩
theorem cell_int {w : World} {a : Int} (h : -9223372036854775808 ≤ a ∧ a ≤ 9223372036854775807) : cellA w i64s (.n a) (.int .i64 a) :=
  ⟨by simp only [HasSh]; exact ⟨a, rfl, h, by simpa [kmin, IntKind.signed, IntKind.bits] using h.1, by simpa [kmax, IntKind.signed, IntKind.bits] using h.2⟩, rfl⟩
theorem cell_i32 {w : World} {a : Int} (h : -2147483648 ≤ a ∧ a ≤ 2147483647) : cellA w (.int .i32 (-2147483648) 2147483647) (.n a) (.int .i32 a) :=
  ⟨by simp only [HasSh]; exact ⟨a, rfl, h, by simpa [kmin, IntKind.signed, IntKind.bits] using h.1, by simpa [kmax, IntKind.signed, IntKind.bits] using h.2⟩, rfl⟩
theorem cSane_ok (N : Nat) (w0 : World) : ConOk Tryd.prog tb N w0 (lawCon 10 []) :=
  trueCon_ok fun w hG => law_of_walk (tb := tb) (P := Tryd.prog) fine (C := []) noCon 400 10 [] rfl (w := w) hG (xs := []) (by simp [ArgsV]) (by rw [tree_sane]; exact rfl)
/-- What the row's list says of the package-level variables. -/
theorem glb {W : World} (h : laidMet Tryd.prog [("math/bits.deBruijn32tab", Rows.laid_math_bits_deBruijn32tab), ("math/bits.deBruijn64tab", Rows.laid_math_bits_deBruijn64tab)] W) : Glb tb W :=
  glb_of_laid (P := Tryd.prog) (tb := tb) h ⟨⟨37, List.replicate 32 (.int .u8 0 255), by kernel_rfl, by kernel_rfl, by kernel_rfl, by kernel_rfl, by kernel_rfl⟩, ⟨65, List.replicate 64 (.int .u8 0 255), by kernel_rfl, by kernel_rfl, by kernel_rfl, by kernel_rfl, by kernel_rfl⟩, trivial⟩
set_option maxRecDepth 100000 in
theorem GroupSpec_any (a b n : Int) (w : World) (hG : Glb tb w) (ha : -9223372036854775808 ≤ a ∧ a ≤ 9223372036854775807) (hb : -9223372036854775808 ≤ b ∧ b ≤ 9223372036854775807) (hn : -9223372036854775808 ≤ n ∧ n ≤ 9223372036854775807) :
    Calls Tryd.prog 3 #[.int .i64 a, .int .i64 b, .int .i64 n] w fun e w' => e = .returned (.bool true) ∧ Below w.heap.size w w' := by
  refine law_of_walk (tb := tb) (P := Tryd.prog) fine (C := [lawCon 10 [], cMul 11, cMul 12, cPow 13, cPow 14, cVal 15, cVal 16]) (conCons cSane_ok (conCons cMul_ok (conCons cMulR_ok (conCons cPow_ok (conCons cPowR_ok (conCons cVal_ok (conCons cValR_ok noCon))))))) 200 3 [aI, aI, aI] rfl (w := w) hG
    (xs := [.n a, .n b, .n n]) ⟨cell_int ha, cell_int hb, cell_int hn, by simp [ArgsV]⟩ ?_
  rw [tree_spec]
  refine res_con rfl trivial (fun z _ _ hz => ?_)
  obtain rfl := n_inj (show [DV.n z] = [DV.n 1] from hz)
  refine res_ite (fun h => absurd (show (1 : Int) = 0 from h) (by decide)) fun _ => ?_
  refine res_con rfl trivial (fun c _ _ e _ _ h1 => res_con rfl trivial (fun d _ _ f _ _ h2 => res_con rfl trivial (fun x _ _ g _ _ h3 => res_con rfl trivial (fun y _ _ h _ _ h4 => res_con rfl trivial (fun v _ _ h5 => res_con rfl trivial (fun u _ _ h6 => ?_))))))
  have h1 := cv h1 (by kernel_rfl : _ = ([DV.n c, .n e] = mulQ a b))
  have h2 := cv h2 (by kernel_rfl : _ = ([DV.n d, .n f] = mulQ a b))
  have h3 := cv h3 (by kernel_rfl : _ = ([DV.n x, .n g] = powQ a n))
  have h4 := cv h4 (by kernel_rfl : _ = ([DV.n y, .n h] = powQ a n))
  have h5 := cv h5 (by kernel_rfl : _ = ([DV.n v] = yn (V a)))
  have h6 := cv h6 (by kernel_rfl : _ = ([DV.n u] = yn (V a)))
  obtain ⟨k1, k2⟩ := q2_in (h1.trans h2.symm)
  obtain ⟨k3, k4⟩ := q2_in (h3.trans h4.symm)
  have k5 := n_inj (h5.trans h6.symm)
  exact res_ite (fun _ => rfl) fun k => absurd (cv (⟨⟨⟨⟨by omega, k1⟩, k2⟩, k3⟩, k4⟩ : (((((¬ v = 0 ∧ ¬ u = 0) ∨ (v = 0 ∧ u = 0)) ∧ c = d) ∧ e = f) ∧ x = y) ∧ g = h) (by kernel_rfl)) k
theorem el_V {n : Int} (h : 1 ≤ n ∧ n ≤ 1073741789) : V (elV n) := by
  by_cases k : V n
  · rw [elV_yes k]; exact k
  · rw [elV_no k]; exact (V_neg (by omega) (by omega)).2 k
noncomputable def mulL2 (a b : Int) : Int := mulV ((DV.sl none 0 [[.n a], [.n b]]).at 0 0) ((DV.sl none 0 [[.n a], [.n b]]).at 1 0)
theorem mulL_eq {a b : Int} (ha : 0 ≤ a ∧ a ≤ 2147483579) (hb : 0 ≤ b ∧ b ≤ 2147483579) : mulL2 a b = mulV a b := by
  have e1 : (DV.sl none 0 [[.n a], [.n b]]).at 0 0 = clampB a := rfl
  have e2 : (DV.sl none 0 [[.n a], [.n b]]).at 1 0 = clampB b := rfl
  unfold mulL2
  rw [e1, e2, clampB_i64 (by omega) (by omega), clampB_i64 (by omega) (by omega)]
theorem V_in {a : Int} (h : V a) : 0 ≤ a ∧ a ≤ 2147483579 := ⟨V_pos h, by have := h.2.1; omega⟩
theorem mulL_V {a b z : Int} (h : [DV.n z] = [.n (mulL2 a b)]) (ha : V a) (hb : V b) : z = prodF a b := by
  have := n_inj h
  rw [mulL_eq (V_in ha) (V_in hb), mulV_yes ha hb] at this
  exact this
theorem powL_V {a n z : Int} (h : [DV.n z] = [.n (powV a n)]) (ha : V a) : z = pwF a (expF n) := by
  have := n_inj h
  rw [powV_yes ha] at this
  exact this
theorem elL_V {n z : Int} (h : [DV.n z] = [.n (elV (expF n + 1))]) : V z := by
  have := n_inj h
  have r := ex_rng n
  rw [this]
  exact el_V (by omega)
set_option maxRecDepth 100000 in
theorem GroupLaws_any (x y z : Int) (w : World) (hG : Glb tb w) (hx : -9223372036854775808 ≤ x ∧ x ≤ 9223372036854775807) (hy : -9223372036854775808 ≤ y ∧ y ≤ 9223372036854775807) (hz : -9223372036854775808 ≤ z ∧ z ≤ 9223372036854775807) :
    Calls Tryd.prog 5 #[.int .i64 x, .int .i64 y, .int .i64 z] w fun e w' => e = .returned (.bool true) ∧ Below w.heap.size w w' := by
  refine law_of_walk (tb := tb) (P := Tryd.prog) fine (C := [lawCon 10 [], cVal 15, cElL 23, cMulL 24, cPowL 25]) (conCons cSane_ok (conCons cVal_ok (conCons cElL_ok (conCons cMulL_ok (conCons cPowL_ok noCon))))) 200 5 [aI, aI, aI] rfl (w := w) hG
    (xs := [.n x, .n y, .n z]) ⟨cell_int hx, cell_int hy, cell_int hz, by simp [ArgsV]⟩ ?_
  rw [tree_laws]
  refine res_con rfl trivial (fun o _ _ ho => ?_)
  obtain rfl := n_inj (show [DV.n o] = [DV.n 1] from ho)
  refine res_ite (fun h => absurd (show (1 : Int) = 0 from h) (by decide)) fun _ => ?_
  refine res_con rfl trivial (fun a _ _ h4 => res_con rfl trivial (fun b _ _ h5 => res_con rfl trivial (fun c _ _ h6 => ?_)))
  have va := elL_V (cv h4 (by kernel_rfl : _ = ([DV.n a] = [.n (elV (expF x + 1))])))
  have vb := elL_V (cv h5 (by kernel_rfl : _ = ([DV.n b] = [.n (elV (expF y + 1))])))
  have vc := elL_V (cv h6 (by kernel_rfl : _ = ([DV.n c] = [.n (elV (expF z + 1))])))
  clear h4 h5 h6
  refine res_dat (.sl none 0 [[.n a], [.n b]]) (by kernel_rfl) (res_con rfl (cv (rfl : (2 : Nat) = 2) (by kernel_rfl)) (fun ab _ _ h8 => ?_))
  have h8 := mulL_V (cv h8 (by kernel_rfl : _ = ([DV.n ab] = [.n (mulL2 a b)]))) va vb
  have vab : V ab := by rw [h8]; exact V_mul va vb
  refine res_con rfl trivial (fun v9 _ _ h9 => ?_)
  have h9 := hold (cv h9 (by kernel_rfl : _ = ([DV.n v9] = yn (V a)))) va
  refine res_ite (fun _ => ?_) fun k => absurd (cv (by omega : ¬ v9 = 0) (by kernel_rfl)) k
  refine res_con rfl trivial (fun v10 _ _ h10 => ?_)
  have h10 := hold (cv h10 (by kernel_rfl : _ = ([DV.n v10] = yn (V ab)))) vab
  refine res_ite (fun _ => ?_) fun k => absurd (cv (by omega : ¬ v10 = 0) (by kernel_rfl)) k
  refine res_dat (.sl none 0 [[.n b], [.n a]]) (by kernel_rfl) (res_con rfl (cv (rfl : (2 : Nat) = 2) (by kernel_rfl)) (fun ba _ _ h12 => ?_))
  have h12 := mulL_V (cv h12 (by kernel_rfl : _ = ([DV.n ba] = [.n (mulL2 b a)]))) vb va
  refine res_ite (fun _ => ?_) fun k => absurd (cv (by rw [h8, h12, pr_comm] : ab = ba) (by kernel_rfl)) k
  refine res_dat (.sl none 0 [[.n ab], [.n c]]) (by kernel_rfl) (res_con rfl (cv (rfl : (2 : Nat) = 2) (by kernel_rfl)) (fun l14 _ _ h14 => ?_))
  have h14 := mulL_V (cv h14 (by kernel_rfl : _ = ([DV.n l14] = [.n (mulL2 ab c)]))) vab vc
  refine res_dat (.sl none 0 [[.n b], [.n c]]) (by kernel_rfl) (res_con rfl (cv (rfl : (2 : Nat) = 2) (by kernel_rfl)) (fun bc _ _ h16 => ?_))
  have h16 := mulL_V (cv h16 (by kernel_rfl : _ = ([DV.n bc] = [.n (mulL2 b c)]))) vb vc
  have vbc : V bc := by rw [h16]; exact V_mul vb vc
  refine res_dat (.sl none 0 [[.n a], [.n bc]]) (by kernel_rfl) (res_con rfl (cv (rfl : (2 : Nat) = 2) (by kernel_rfl)) (fun l18 _ _ h18 => ?_))
  have h18 := mulL_V (cv h18 (by kernel_rfl : _ = ([DV.n l18] = [.n (mulL2 a bc)]))) va vbc
  refine res_ite (fun _ => ?_) fun k => absurd (cv (by rw [h14, h18, h16, h8, pr_assoc] : l14 = l18) (by kernel_rfl)) k
  refine res_dat (.sl none 0 [[.n a], [.n 1]]) (by kernel_rfl) (res_con rfl (cv (rfl : (2 : Nat) = 2) (by kernel_rfl)) (fun l20 _ _ h20 => ?_))
  have h20 := mulL_V (cv h20 (by kernel_rfl : _ = ([DV.n l20] = [.n (mulL2 a 1)]))) va V_one
  refine res_ite (fun k => absurd (by rw [h20, pr_one va] : l20 = a) (cv k (by kernel_rfl : _ = (¬ l20 = a)))) fun _ => ?_
  refine res_con rfl trivial (fun ia _ _ h21 => ?_)
  have h21 := powL_V (cv h21 (by kernel_rfl : _ = ([DV.n ia] = [.n (powV a (-1))]))) va
  have via : V ia := by rw [h21]; exact V_pow va
  refine res_dat (.sl none 0 [[.n a], [.n ia]]) (by kernel_rfl) (res_con rfl (cv (rfl : (2 : Nat) = 2) (by kernel_rfl)) (fun l23 _ _ h23 => ?_))
  have h23 := mulL_V (cv h23 (by kernel_rfl : _ = ([DV.n l23] = [.n (mulL2 a ia)]))) va via
  refine res_ite (fun _ => ?_) fun k => absurd (cv (by rw [h23, h21, inv_of va] : l23 = 1) (by kernel_rfl)) k
  refine res_dat (.sl none 0 [[.n a], [.n b]]) (by kernel_rfl) (res_con rfl (cv (rfl : (2 : Nat) = 2) (by kernel_rfl)) (fun l25 _ _ h25 => ?_))
  have h25 := mulL_V (cv h25 (by kernel_rfl : _ = ([DV.n l25] = [.n (mulL2 a b)]))) va vb
  have v25 : V l25 := by rw [h25]; exact V_mul va vb
  refine res_con rfl trivial (fun ib _ _ h26 => ?_)
  have h26 := powL_V (cv h26 (by kernel_rfl : _ = ([DV.n ib] = [.n (powV b (-1))]))) vb
  have vib : V ib := by rw [h26]; exact V_pow vb
  refine res_dat (.sl none 0 [[.n l25], [.n ib]]) (by kernel_rfl) (res_con rfl (cv (rfl : (2 : Nat) = 2) (by kernel_rfl)) (fun l28 _ _ h28 => ?_))
  have h28 := mulL_V (cv h28 (by kernel_rfl : _ = ([DV.n l28] = [.n (mulL2 l25 ib)]))) v25 vib
  refine res_ite (fun _ => ?_) fun k => absurd (cv (by rw [h28, h25, h26, pr_assoc, inv_of vb, pr_one va] : l28 = a) (by kernel_rfl)) k
  refine res_con rfl trivial (fun iab _ _ h29 => ?_)
  have h29 := powL_V (cv h29 (by kernel_rfl : _ = ([DV.n iab] = [.n (powV ab (-1))]))) vab
  refine res_con rfl trivial (fun ja _ _ h30 => ?_)
  have h30 := powL_V (cv h30 (by kernel_rfl : _ = ([DV.n ja] = [.n (powV a (-1))]))) va
  have vja : V ja := by rw [h30]; exact V_pow va
  refine res_con rfl trivial (fun jb _ _ h31 => ?_)
  have h31 := powL_V (cv h31 (by kernel_rfl : _ = ([DV.n jb] = [.n (powV b (-1))]))) vb
  have vjb : V jb := by rw [h31]; exact V_pow vb
  refine res_dat (.sl none 0 [[.n ja], [.n jb]]) (by kernel_rfl) (res_con rfl (cv (rfl : (2 : Nat) = 2) (by kernel_rfl)) (fun l33 _ _ h33 => ?_))
  have h33 := mulL_V (cv h33 (by kernel_rfl : _ = ([DV.n l33] = [.n (mulL2 ja jb)]))) vja vjb
  exact res_ite (fun _ => rfl) fun k => absurd (cv (by rw [h29, h33, h30, h31, h8, pw_both va vb] : iab = l33) (by kernel_rfl)) k
end Go.Proofs.YtbkjjehfidnagaaDoor
