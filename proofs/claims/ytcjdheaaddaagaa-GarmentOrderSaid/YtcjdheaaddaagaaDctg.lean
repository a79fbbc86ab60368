/- DERIVED. Estates of the laws: their contracts. -/
import Derived.Test.YtcjdheaaddaagaaDctb
import Derived.Test.YtcjdheaaddaagaaDtreee
namespace Go.Proofs.Ytcjdheaaddaagaa
open Go.Dx
set_option linter.unusedVariables false
set_option linter.unusedSimpArgs false
theorem shr_16 (x : Int) : Int.tdiv (x - Int.tmod (Int.tmod x 65536 + 65536) 65536) 65536 = x / 65536 := by
  rw [← fdiv_terms x (by decide)]
  exact Int.fdiv_eq_ediv_of_nonneg _ (by decide)
theorem share_in {s x : Int} (h0 : 0 ≤ s) (h1 : s ≤ 65535) (hx : 0 ≤ x) : 0 ≤ s * (x / 65536) ∧ s * (x / 65536) ≤ x := by
  have hq : 0 ≤ x / 65536 := by omega
  have h2 := Int.mul_nonneg h0 hq
  have h3 : s * (x / 65536) ≤ 65535 * (x / 65536) := Int.mul_le_mul_of_nonneg_right h1 hq
  omega
set_option maxRecDepth 100000 in
set_option maxHeartbeats 4000000 in
theorem cEst_ok (N : Nat) (w0 : World) : ConOk Try.prog tb N w0 cEst := by
  refine con_of_walk (tb := tb) fine (C := [lEst]) (lopCons rfl noCon) 60 rfl ?_ N w0
  refine fun p hp s s0 s1 _ => ?_
  clear hp
  rw [tree_est]
  show T.res _ (fun y => y = [.n (gi y 0), .n (if litP (.sl none 0 p) (nn (.sl none 0 p)) ∧ (DV.sl none 0 p).len ≤ 60 then 1 else 0)] ∧ (gi y 1 = 1 → 0 ≤ gi y 0 ∧ gi y 0 ≤ sumN (el (.sl none 0 p)) (nn (.sl none 0 p)))) _ _
  have l0 := len_nn (.sl none 0 p)
  have hnn := nn_eq (.sl none 0 p)
  refine res_lop_of rfl (P := (0 : Int) ≤ (DV.sl none 0 p).len ∧ litP (.sl none 0 p) ((0 : Int)).toNat ∧ ((0 : Int) ≤ 664 → (0 : Int) = sumN (el (.sl none 0 p)) ((0 : Int)).toNat)) (by kernel_rfl) rfl ⟨l0, fun k hk => absurd hk (Nat.not_lt_zero k), fun _ => rfl⟩ (fun x x0 x1 i i0 i1 hI => ?_)
  obtain ⟨hi, hl, hs⟩ := cvh (b := i ≤ (DV.sl none 0 p).len ∧ litP (.sl none 0 p) (i).toNat ∧ (i ≤ 664 → x = sumN (el (.sl none 0 p)) (i).toNat)) (by kernel_rfl) hI
  refine res_ite (fun h => ?_) fun h => ?_
  · have h := cvh (b := i < (DV.sl none 0 p).len) (by kernel_rfl) h
    refine res_ite (fun h2 => ?_) fun h2 => ?_
    · have h2 := cvh (b := (DV.sl none 0 p).at i 0 < 0 ∨ 1073741824 < (DV.sl none 0 p).at i 0) (by kernel_rfl) h2
      show [DV.n 0, DV.n 0] = [DV.n 0, .n (if litP (.sl none 0 p) (nn (.sl none 0 p)) ∧ (DV.sl none 0 p).len ≤ 60 then 1 else 0)] ∧ ((0 : Int) = 1 → (0 : Int) ≤ 0 ∧ 0 ≤ sumN (el (.sl none 0 p)) (nn (.sl none 0 p)))
      rw [if_neg]
      · exact ⟨rfl, fun z => absurd z (by decide)⟩
      · intro z
        have := lit_at z.1 i0 (by omega)
        omega
    · have h2 := cvh (b := ¬ ((DV.sl none 0 p).at i 0 < 0 ∨ 1073741824 < (DV.sl none 0 p).at i 0)) (by kernel_rfl) h2
      exact res_chk_of rfl (P := i + 1 ≤ (DV.sl none 0 p).len ∧ litP (.sl none 0 p) (i + 1).toNat ∧ (i + 1 ≤ 664 → IntKind.i64.wrap (x + (DV.sl none 0 p).at i 0) = sumN (el (.sl none 0 p)) (i + 1).toNat)) (a := ((DV.sl none 0 p).len - (i + 1)).toNat) (b := ((DV.sl none 0 p).len - i).toNat) (by kernel_rfl) (by kernel_rfl) (by kernel_rfl) ⟨by omega, lit_succ i0 hl (by omega), fun hle => by
        have hc := cap_n hl i0 (by omega)
        rw [sum_next i0, el_at _ i0, ← hs (by omega)]
        rw [← hs (by omega)] at hc
        exact wI (by omega) (by omega)⟩ (by omega)
  · have h := cvh (b := ¬ i < (DV.sl none 0 p).len) (by kernel_rfl) h
    have en : nn (.sl none 0 p) = i.toNat := by omega
    refine res_ite (fun h2 => ?_) fun h2 => ?_
    · have h2 := cvh (b := (DV.sl none 0 p).len ≤ 60) (by kernel_rfl) h2
      have hc := cap_n hl i0 (by omega)
      rw [← hs (by omega)] at hc
      have hin := share_in s0 s1 hc.1
      have w1 : IntKind.i64.wrap (s * Int.tdiv (x - Int.tmod (Int.tmod x 65536 + 65536) 65536) 65536) = s * (x / 65536) := by rw [shr_16]; exact wI (by omega) (by omega)
      show [DV.n (IntKind.i64.wrap (s * Int.tdiv (x - Int.tmod (Int.tmod x 65536 + 65536) 65536) 65536)), DV.n 1] = [DV.n (IntKind.i64.wrap (s * Int.tdiv (x - Int.tmod (Int.tmod x 65536 + 65536) 65536) 65536)), .n (if litP (.sl none 0 p) (nn (.sl none 0 p)) ∧ (DV.sl none 0 p).len ≤ 60 then 1 else 0)] ∧ ((1 : Int) = 1 → (0 : Int) ≤ IntKind.i64.wrap (s * Int.tdiv (x - Int.tmod (Int.tmod x 65536 + 65536) 65536) 65536) ∧ IntKind.i64.wrap (s * Int.tdiv (x - Int.tmod (Int.tmod x 65536 + 65536) 65536) 65536) ≤ sumN (el (.sl none 0 p)) (nn (.sl none 0 p)))
      rw [w1, if_pos ⟨by rw [en]; exact hl, h2⟩, en, ← hs (by omega)]
      exact ⟨rfl, fun _ => hin⟩
    · have h2 := cvh (b := ¬ (DV.sl none 0 p).len ≤ 60) (by kernel_rfl) h2
      show [DV.n (IntKind.i64.wrap (s * Int.tdiv (x - Int.tmod (Int.tmod x 65536 + 65536) 65536) 65536)), DV.n 0] = [DV.n (IntKind.i64.wrap (s * Int.tdiv (x - Int.tmod (Int.tmod x 65536 + 65536) 65536) 65536)), .n (if litP (.sl none 0 p) (nn (.sl none 0 p)) ∧ (DV.sl none 0 p).len ≤ 60 then 1 else 0)] ∧ ((0 : Int) = 1 → (0 : Int) ≤ IntKind.i64.wrap (s * Int.tdiv (x - Int.tmod (Int.tmod x 65536 + 65536) 65536) 65536) ∧ IntKind.i64.wrap (s * Int.tdiv (x - Int.tmod (Int.tmod x 65536 + 65536) 65536) 65536) ≤ sumN (el (.sl none 0 p)) (nn (.sl none 0 p)))
      rw [if_neg fun z => h2 z.2]
      exact ⟨rfl, fun z => absurd z (by decide)⟩
set_option maxRecDepth 100000 in
set_option maxHeartbeats 4000000 in
theorem cNear_ok (N : Nat) (w0 : World) : ConOk Try.prog tb N w0 cNear := by
  refine con_of_walk (tb := tb) fine (C := [lNear, cEst]) (lopCons rfl (conCons cEst_ok noCon)) 60 rfl ?_ N w0
  refine fun p hp s s0 s1 m m0 m1 _ => ?_
  clear hp
  rw [tree_near]
  show T.res _ (fun y => y = [.n (gi y 0), .n (if litP (.sl none 0 p) (nn (.sl none 0 p)) ∧ (DV.sl none 0 p).len ≤ 60 then 1 else 0)] ∧ (gi y 1 = 1 → 0 ≤ gi y 0 ∧ gi y 0 ≤ sumN (el (.sl none 0 p)) (nn (.sl none 0 p)))) _ _
  have l0 := len_nn (.sl none 0 p)
  have hnn := nn_eq (.sl none 0 p)
  refine res_con rfl trivial (fun a a0 a1 ok k0 k1 q => ?_)
  have q := (cvh (b := [DV.n a, .n ok] = [DV.n a, .n (if litP (.sl none 0 p) (nn (.sl none 0 p)) ∧ (DV.sl none 0 p).len ≤ 60 then 1 else 0)] ∧ (ok = 1 → 0 ≤ a ∧ a ≤ sumN (el (.sl none 0 p)) (nn (.sl none 0 p)))) (by kernel_rfl) q).1
  have q : [DV.n ok] = [.n (if litP (.sl none 0 p) (nn (.sl none 0 p)) ∧ (DV.sl none 0 p).len ≤ 60 then 1 else 0)] := by
    simp only [List.cons.injEq, true_and] at q ⊢
    exact q
  have hok := y01 q
  refine res_lop_of rfl (P := (0 : Int) ≤ (DV.sl none 0 p).len ∧ (ok = 1 → (0 : Int) = sumN (el (.sl none 0 p)) ((0 : Int)).toNat)) (by kernel_rfl) rfl ⟨l0, fun _ => rfl⟩ (fun x x0 x1 i i0 i1 hI => ?_)
  obtain ⟨hi, hs⟩ := cvh (b := i ≤ (DV.sl none 0 p).len ∧ (ok = 1 → x = sumN (el (.sl none 0 p)) (i).toNat)) (by kernel_rfl) hI
  refine res_ite (fun h => ?_) fun h => ?_
  · have h := cvh (b := i < (DV.sl none 0 p).len) (by kernel_rfl) h
    exact res_chk_of rfl (P := i + 1 ≤ (DV.sl none 0 p).len ∧ (ok = 1 → IntKind.i64.wrap (x + max 0 (min ((DV.sl none 0 p).at i 0) 1073741824)) = sumN (el (.sl none 0 p)) (i + 1).toNat)) (a := ((DV.sl none 0 p).len - (i + 1)).toNat) (b := ((DV.sl none 0 p).len - i).toNat) (by kernel_rfl) (by kernel_rfl) (by kernel_rfl) ⟨by omega, fun ho => by
      have hv := (hok.resolve_right fun z => by omega).2
      have hl : litP (.sl none 0 p) i.toNat := fun j hj => hv.1 j (by omega)
      have hc := cap_n hl i0 (by omega)
      have ha := lit_at hv.1 i0 (by omega)
      rw [sum_next i0, el_at _ i0, ← hs ho]
      rw [← hs ho] at hc
      rw [show max 0 (min ((DV.sl none 0 p).at i 0) 1073741824) = (DV.sl none 0 p).at i 0 by omega]
      exact wI (by omega) (by omega)⟩ (by omega)
  · have h := cvh (b := ¬ i < (DV.sl none 0 p).len) (by kernel_rfl) h
    have en : nn (.sl none 0 p) = i.toNat := by omega
    show [DV.n (max 0 (min x (IntKind.i64.wrap (a + m)))), DV.n ok] = [DV.n (max 0 (min x (IntKind.i64.wrap (a + m)))), .n (if litP (.sl none 0 p) (nn (.sl none 0 p)) ∧ (DV.sl none 0 p).len ≤ 60 then 1 else 0)] ∧ (ok = 1 → 0 ≤ max 0 (min x (IntKind.i64.wrap (a + m))) ∧ max 0 (min x (IntKind.i64.wrap (a + m))) ≤ sumN (el (.sl none 0 p)) (nn (.sl none 0 p)))
    refine ⟨by rw [n_inj q], fun ho => ?_⟩
    have hv := (hok.resolve_right fun z => by omega).2
    have hl : litP (.sl none 0 p) i.toNat := fun j hj => hv.1 j (by omega)
    have hc := cap_n hl i0 (by omega)
    rw [en, ← hs ho]
    rw [← hs ho] at hc
    omega
end Go.Proofs.Ytcjdheaaddaagaa
