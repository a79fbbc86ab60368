/- DERIVED. The laws of order and of some of the claimants, walked. -/
import Derived.Test.YtcjdheaaddaagaaDlawb
import Derived.Test.YtcjdheaaddaagaaDtreeg
namespace Go.Proofs.Ytcjdheaaddaagaa
open Go.Dx Go.RowKit
set_option linter.unusedVariables false
set_option linter.unusedSimpArgs false
theorem same_yes' {x : Int} {a : DV} (h : [DV.n x] = [DV.n (if sameP a a then 1 else 0)]) : [DV.n x] = [DV.n 1] := by
  rw [if_pos ⟨rfl, fun _ _ => rfl⟩] at h
  exact h
set_option maxHeartbeats 4000000 in
set_option maxRecDepth 100000 in
theorem GarmentOrder_any (v0 : Value) (s m f : Int) (w : World) (hG : Glb tb w) (g0 : ∃ d, cellA w ints (.sl none 0 d) v0) (hs : 0 ≤ s ∧ s ≤ 65535) (hm : -32768 ≤ m ∧ m ≤ 32767) (hf : 0 ≤ f ∧ f ≤ 65535) :
    Calls Try.prog 8 #[v0, .int .u16 s, .int .i16 m, .int .u16 f] w fun e w' => e = .returned (.bool true) ∧ Below w.heap.size w w' := by
  obtain ⟨p, h0⟩ := g0
  refine law_of_walk (tb := tb) (P := Try.prog) fine (C := [lawCon 10 [], cNear, cAw 12, lO0, lO1, lO2]) (conCons cSane_ok (conCons cNear_ok (conCons cAw_ok (lopCons rfl (lopCons rfl (lopCons rfl noCon)))))) 100 8 [.c ints, aU16, aI16, aU16] rfl (w := w) hG
    (xs := [.sl none 0 p, .n s, .n m, .n f]) ?_ ?_
  · exact ⟨h0, cell_u16 hs, cell_i16 hm, cell_u16 hf, by simp [ArgsV]⟩
  clear h0
  rw [tree_lord]
  refine res_con rfl trivial (fun z z0 z1 hz => ?_)
  obtain rfl := n_inj (cvh (b := [DV.n z] = [DV.n 1]) (by kernel_rfl) hz)
  refine res_ite (fun h => absurd (cvh (b := (1 : Int) = 0) (by kernel_rfl) h) (by decide)) fun _ => ?_
  refine res_con rfl trivial (fun n n0 n1 ok ok0 ok1 q1 => ?_)
  replace q1 := cvh (b := [DV.n n, .n ok] = [DV.n n, .n (if litP (.sl none 0 p) (nn (.sl none 0 p)) ∧ (DV.sl none 0 p).len ≤ 60 then 1 else 0)] ∧ (ok = 1 → 0 ≤ n ∧ n ≤ sumN (el (.sl none 0 p)) (nn (.sl none 0 p)))) (by kernel_rfl) q1
  refine res_ite (fun _ => rfl) fun h => ?_
  replace h := cvh (b := ¬ ok = 0) (by kernel_rfl) h
  obtain ⟨hk, h60⟩ := near_ok q1 h
  clear q1 h
  have hi := chk_in hk
  have hnn := nn_eq (.sl none 0 p)
  have l0 := len_nn (.sl none 0 p)
  refine res_lop_of rfl (P := (0 : Int) ≤ (DV.sl none 0 p).len ∧ (0 : Int) = sumN (el (.sl none 0 p)) ((0 : Int)).toNat) (by kernel_rfl) rfl ⟨l0, rfl⟩ (fun x x0 x1 j j0 j1 hI => ?_)
  obtain ⟨hj, hx⟩ := cvh (b := j ≤ (DV.sl none 0 p).len ∧ x = sumN (el (.sl none 0 p)) (j).toNat) (by kernel_rfl) hI
  have hcap := cap_n (p := .sl none 0 p) (i := j) (fun k hk => hi.2.1 k (by omega)) j0 (by omega)
  rw [← hx] at hcap
  refine res_ite (fun h => ?_) fun h => ?_
  · replace h := cvh (b := j < (DV.sl none 0 p).len) (by kernel_rfl) h
    have rk := lit_at hi.2.1 j0 (by omega)
    exact res_chk_of rfl (P := j + 1 ≤ (DV.sl none 0 p).len ∧ IntKind.i64.wrap (x + (DV.sl none 0 p).at j 0) = sumN (el (.sl none 0 p)) (j + 1).toNat) (a := ((DV.sl none 0 p).len - (j + 1)).toNat) (b := ((DV.sl none 0 p).len - j).toNat) (by kernel_rfl) (by kernel_rfl) (by kernel_rfl) ⟨by omega, by
      rw [sum_next j0, el_at _ j0, ← hx]
      exact wI (by omega) (by omega)⟩ (by omega)
  · replace h := cvh (b := ¬ j < (DV.sl none 0 p).len) (by kernel_rfl) h
    have en : j.toNat = nn (.sl none 0 p) := by omega
    rw [en] at hx
    have es : min x (IntKind.i64.wrap (n + f)) = min x (n + f) := by rw [wI (by omega) (by omega)]
    have hk2 : chkF (min x (n + f)) (.sl none 0 p) = 0 := by
      unfold chkF
      rw [if_neg (by omega), if_pos ⟨hi.2.1, by omega, by omega⟩]
    refine res_con rfl trivial (fun a ha e e0 e1 q2 => ?_)
    replace q2 := cvh (b := [DV.sl none 0 a, .n e] = awF n (.sl none 0 p)) (by kernel_rfl) q2
    obtain ⟨rfl, hal, hae⟩ := aw_facts hk q2
    refine res_con rfl trivial (fun b hb e2 _ _ q3 => ?_)
    replace q3 := cvh (b := [DV.sl none 0 b, .n e2] = awF (min x (IntKind.i64.wrap (n + f))) (.sl none 0 p)) (by kernel_rfl) q3
    rw [es] at q3
    obtain ⟨rfl, hbl, hbe⟩ := aw_facts hk2 q3
    refine res_ite (fun h2 => ?_) fun _ => ?_
    · replace h2 := cvh (b := ((¬ (0 : Int) = 0 ∨ ¬ (0 : Int) = 0) ∨ ¬ (DV.sl none 0 a).len = (DV.sl none 0 p).len) ∨ ¬ (DV.sl none 0 b).len = (DV.sl none 0 p).len) (by kernel_rfl) h2
      omega
    have hE : ∀ c, (fun c : Int => 0 ≤ c) c → 0 ≤ c := fun c h => h
    have hmono := Cut.mono hE (vec_cut hk _) (vec_cut hk2 _) (c := el (.sl none 0 p)) (n := nn (.sl none 0 p)) (fun i hlt => (hi.2.1 i hlt).1) (by rw [vec_sum hk, vec_sum hk2]; omega)
    have hord : ∀ i k, i < nn (.sl none 0 p) → k < nn (.sl none 0 p) → el (.sl none 0 p) k < el (.sl none 0 p) i → el (.sl none 0 a) k ≤ el (.sl none 0 a) i ∧ el (.sl none 0 p) k - el (.sl none 0 a) k ≤ el (.sl none 0 p) i - el (.sl none 0 a) i := fun i k h1 h2 h3 => by
      rw [(hae i h1).1, (hae k h2).1]
      exact Cut.order hE (vec_cut hk _) (hi.2.1 i h1).1 (hi.2.1 k h2).1 h3
    refine res_lop_of rfl (P := (0 : Int) ≤ (DV.sl none 0 p).len) (by kernel_rfl) rfl l0 (fun i i0 i1 hI => ?_)
    replace hI := cvh (b := i ≤ (DV.sl none 0 p).len) (by kernel_rfl) hI
    refine res_ite (fun h3 => ?_) fun _ => rfl
    replace h3 := cvh (b := i < (DV.sl none 0 p).len) (by kernel_rfl) h3
    have hin : i.toNat < nn (.sl none 0 p) := by omega
    have ra := hae _ hin
    have rb := hbe _ hin
    have rs := hmono _ hin
    have rc := hi.2.1 _ hin
    rw [← ra.1, ← rb.1] at rs
    rw [el_at _ i0, el_at _ i0] at rs
    rw [el_at _ i0, el_at _ i0] at ra rb
    rw [el_at _ i0] at rc
    have inner : ∀ k, 0 ≤ k → k < (DV.sl none 0 p).len → (DV.sl none 0 p).at k 0 < (DV.sl none 0 p).at i 0 → ¬ ((DV.sl none 0 a).at i 0 < (DV.sl none 0 a).at k 0 ∨ IntKind.i64.wrap ((DV.sl none 0 p).at i 0 - (DV.sl none 0 a).at i 0) < IntKind.i64.wrap ((DV.sl none 0 p).at k 0 - (DV.sl none 0 a).at k 0)) := fun k k0 k1 hlt => by
      have hkn : k.toNat < nn (.sl none 0 p) := by omega
      have rk := hae _ hkn
      have rkc := hi.2.1 _ hkn
      have ho := hord i.toNat k.toNat hin hkn (by rw [el_at _ i0, el_at _ k0]; exact hlt)
      rw [el_at _ k0, el_at _ k0] at rk
      rw [el_at _ k0] at rkc
      rw [el_at _ i0, el_at _ i0, el_at _ k0, el_at _ k0] at ho
      rw [wI (by omega) (by omega), wI (by omega) (by omega)]
      omega
    refine res_both ?_ ?_
    · refine res_ok (cvh (a := 0 ≤ i ∧ i < (DV.sl none 0 b).len) (by kernel_rfl) (by omega)) ?_
      refine res_ok (cvh (a := 0 ≤ i ∧ i < (DV.sl none 0 a).len) (by kernel_rfl) (by omega)) ?_
      refine res_ite (fun h4 => ?_) fun _ => ?_
      · replace h4 := cvh (b := (DV.sl none 0 b).at i 0 < (DV.sl none 0 a).at i 0) (by kernel_rfl) h4
        omega
      · refine res_lop_of rfl (P := (0 : Int) ≤ (DV.sl none 0 p).len) (by kernel_rfl) rfl l0 (fun k k0 k1 hK => ?_)
        replace hK := cvh (b := k ≤ (DV.sl none 0 p).len) (by kernel_rfl) hK
        refine res_ite (fun h5 => ?_) fun _ => ?_
        · replace h5 := cvh (b := k < (DV.sl none 0 p).len) (by kernel_rfl) h5
          refine res_ite (fun h6 => ?_) fun _ => ?_
          · replace h6 := cvh (b := (DV.sl none 0 p).at k 0 < (DV.sl none 0 p).at i 0) (by kernel_rfl) h6
            refine res_ok (cvh (a := 0 ≤ k ∧ k < (DV.sl none 0 a).len) (by kernel_rfl) (by omega)) ?_
            refine res_ite (fun h7 => absurd (cvh (b := (DV.sl none 0 a).at i 0 < (DV.sl none 0 a).at k 0 ∨ IntKind.i64.wrap ((DV.sl none 0 p).at i 0 - (DV.sl none 0 a).at i 0) < IntKind.i64.wrap ((DV.sl none 0 p).at k 0 - (DV.sl none 0 a).at k 0)) (by kernel_rfl) h7) (inner k k0 h5 h6)) fun _ => ?_
            exact res_chk_of rfl (P := k + 1 ≤ (DV.sl none 0 p).len) (a := ((DV.sl none 0 p).len - (k + 1)).toNat) (b := ((DV.sl none 0 p).len - k).toNat) (by kernel_rfl) (by kernel_rfl) (by kernel_rfl) (by omega) (by omega)
          · exact res_chk_of rfl (P := k + 1 ≤ (DV.sl none 0 p).len) (a := ((DV.sl none 0 p).len - (k + 1)).toNat) (b := ((DV.sl none 0 p).len - k).toNat) (by kernel_rfl) (by kernel_rfl) (by kernel_rfl) (by omega) (by omega)
        · exact res_chk_of rfl (P := i + 1 ≤ (DV.sl none 0 p).len) (a := ((DV.sl none 0 p).len - (i + 1)).toNat) (b := ((DV.sl none 0 p).len - i).toNat) (by kernel_rfl) (by kernel_rfl) (by kernel_rfl) (by omega) (by omega)
    · refine res_ok (cvh (a := 0 ≤ i ∧ i < (DV.sl none 0 a).len) (by kernel_rfl) (by omega)) ?_
      refine res_ok (cvh (a := 0 ≤ i ∧ i < (DV.sl none 0 b).len) (by kernel_rfl) (by omega)) ?_
      refine res_ite (fun h4 => ?_) fun _ => ?_
      · replace h4 := cvh (b := (DV.sl none 0 b).at i 0 < (DV.sl none 0 a).at i 0) (by kernel_rfl) h4
        omega
      · refine res_lop_of rfl (P := (0 : Int) ≤ (DV.sl none 0 p).len) (by kernel_rfl) rfl l0 (fun k k0 k1 hK => ?_)
        replace hK := cvh (b := k ≤ (DV.sl none 0 p).len) (by kernel_rfl) hK
        refine res_ite (fun h5 => ?_) fun _ => ?_
        · replace h5 := cvh (b := k < (DV.sl none 0 p).len) (by kernel_rfl) h5
          refine res_ite (fun h6 => ?_) fun _ => ?_
          · replace h6 := cvh (b := (DV.sl none 0 p).at k 0 < (DV.sl none 0 p).at i 0) (by kernel_rfl) h6
            refine res_ok (cvh (a := 0 ≤ k ∧ k < (DV.sl none 0 a).len) (by kernel_rfl) (by omega)) ?_
            refine res_ite (fun h7 => absurd (cvh (b := (DV.sl none 0 a).at i 0 < (DV.sl none 0 a).at k 0 ∨ IntKind.i64.wrap ((DV.sl none 0 p).at i 0 - (DV.sl none 0 a).at i 0) < IntKind.i64.wrap ((DV.sl none 0 p).at k 0 - (DV.sl none 0 a).at k 0)) (by kernel_rfl) h7) (inner k k0 h5 h6)) fun _ => ?_
            exact res_chk_of rfl (P := k + 1 ≤ (DV.sl none 0 p).len) (a := ((DV.sl none 0 p).len - (k + 1)).toNat) (b := ((DV.sl none 0 p).len - k).toNat) (by kernel_rfl) (by kernel_rfl) (by kernel_rfl) (by omega) (by omega)
          · exact res_chk_of rfl (P := k + 1 ≤ (DV.sl none 0 p).len) (a := ((DV.sl none 0 p).len - (k + 1)).toNat) (b := ((DV.sl none 0 p).len - k).toNat) (by kernel_rfl) (by kernel_rfl) (by kernel_rfl) (by omega) (by omega)
        · exact res_chk_of rfl (P := i + 1 ≤ (DV.sl none 0 p).len) (a := ((DV.sl none 0 p).len - (i + 1)).toNat) (b := ((DV.sl none 0 p).len - i).toNat) (by kernel_rfl) (by kernel_rfl) (by kernel_rfl) (by omega) (by omega)
set_option maxHeartbeats 4000000 in
set_option maxRecDepth 100000 in
theorem GarmentConsistent_any (v0 : Value) (s m who : Int) (w : World) (hG : Glb tb w) (g0 : ∃ d, cellA w ints (.sl none 0 d) v0) (hs : 0 ≤ s ∧ s ≤ 65535) (hm : -32768 ≤ m ∧ m ≤ 32767) (hw : 0 ≤ who ∧ who ≤ 18446744073709551615) :
    Calls Try.prog 6 #[v0, .int .u16 s, .int .i16 m, .int .u64 who] w fun e w' => e = .returned (.bool true) ∧ Below w.heap.size w w' := by
  obtain ⟨p, h0⟩ := g0
  refine law_of_walk (tb := tb) (P := Try.prog) fine (C := [lawCon 10 [], cNear, cAw 12, cSame, lCons]) (conCons cSane_ok (conCons cNear_ok (conCons cAw_ok (conCons cSame_ok (lopCons rfl noCon))))) 100 6 [.c ints, aU16, aI16, aU64] rfl (w := w) hG
    (xs := [.sl none 0 p, .n s, .n m, .n who]) ?_ ?_
  · exact ⟨h0, cell_u16 hs, cell_i16 hm, cell_u64 hw, by simp [ArgsV]⟩
  clear h0
  rw [tree_lcons]
  refine res_con rfl trivial (fun z z0 z1 hz => ?_)
  obtain rfl := n_inj (cvh (b := [DV.n z] = [DV.n 1]) (by kernel_rfl) hz)
  refine res_ite (fun h => absurd (cvh (b := (1 : Int) = 0) (by kernel_rfl) h) (by decide)) fun _ => ?_
  refine res_con rfl trivial (fun n n0 n1 ok ok0 ok1 q1 => ?_)
  replace q1 := cvh (b := [DV.n n, .n ok] = [DV.n n, .n (if litP (.sl none 0 p) (nn (.sl none 0 p)) ∧ (DV.sl none 0 p).len ≤ 60 then 1 else 0)] ∧ (ok = 1 → 0 ≤ n ∧ n ≤ sumN (el (.sl none 0 p)) (nn (.sl none 0 p)))) (by kernel_rfl) q1
  refine res_ite (fun _ => rfl) fun h => ?_
  replace h := cvh (b := ¬ ok = 0) (by kernel_rfl) h
  obtain ⟨hk, h60⟩ := near_ok q1 h
  clear q1 h
  have hi := chk_in hk
  have hnn := nn_eq (.sl none 0 p)
  have l0 := len_nn (.sl none 0 p)
  refine res_con rfl trivial (fun a ha e e0 e1 q2 => ?_)
  replace q2 := cvh (b := [DV.sl none 0 a, .n e] = awF n (.sl none 0 p)) (by kernel_rfl) q2
  obtain ⟨rfl, hal, hae⟩ := aw_facts hk q2
  refine res_ite (fun h2 => ?_) fun _ => ?_
  · replace h2 := cvh (b := ¬ (0 : Int) = 0 ∨ ¬ (DV.sl none 0 a).len = (DV.sl none 0 p).len) (by kernel_rfl) h2
    omega
  refine res_dat (.sl none 0 []) (by kernel_rfl) (res_dat (.sl none 0 []) (by kernel_rfl) ?_)
  refine res_lop_of rfl (P := (0 : Int) ≤ (DV.sl none 0 p).len ∧ ([] : List (List DV)) = gSel (el (.sl none 0 p)) (selI (whoS who) ((0 : Int)).toNat) ∧ ([] : List (List DV)) = gSel (el (.sl none 0 a)) (selI (whoS who) ((0 : Int)).toNat) ∧ (0 : Int) = sumN (fun j => if whoS who j = true then el (.sl none 0 a) j else 0) ((0 : Int)).toNat) (by kernel_rfl) rfl ⟨l0, rfl, rfl, rfl⟩ (fun o ho t ht x x0 x1 i i0 i1 hI => ?_)
  obtain ⟨hi1, ho1, ht1, hx1⟩ := cvh (b := i ≤ (DV.sl none 0 p).len ∧ o = gSel (el (.sl none 0 p)) (selI (whoS who) (i).toNat) ∧ t = gSel (el (.sl none 0 a)) (selI (whoS who) (i).toNat) ∧ x = sumN (fun j => if whoS who j = true then el (.sl none 0 a) j else 0) (i).toNat) (by kernel_rfl) hI
  clear ho ht hI
  have hsl := selI_len (whoS who) i.toNat
  have hol : (DV.sl none 0 o).len = (selI (whoS who) i.toNat).length := by rw [ho1]; exact gSel_len _ (by omega)
  have htl : (DV.sl none 0 t).len = (selI (whoS who) i.toNat).length := by rw [ht1]; exact gSel_len _ (by omega)
  have hb0 : ∀ j, j < nn (.sl none 0 p) → 0 ≤ (if whoS who j = true then el (.sl none 0 a) j else 0) ∧ (if whoS who j = true then el (.sl none 0 a) j else 0) ≤ 1073741824 := fun j hj => by
    have h1 := hae j hj
    have h2 := hi.2.1 j hj
    split <;> omega
  have hxb : 0 ≤ x ∧ x ≤ (i.toNat : Int) * 1073741824 := by
    rw [hx1]
    exact ⟨sumN_nn fun j hj => (hb0 j (by omega)).1, sumN_bound fun j hj => (hb0 j (by omega)).2⟩
  refine res_ite (fun h => ?_) fun h => ?_
  · replace h := cvh (b := i < (DV.sl none 0 p).len) (by kernel_rfl) h
    have hin : i.toNat < nn (.sl none 0 p) := by omega
    have ra := hae _ hin
    have rc := hi.2.1 _ hin
    rw [el_at _ i0, el_at _ i0] at ra
    rw [el_at _ i0] at rc
    have ei : (i + 1).toNat = i.toNat + 1 := by omega
    refine res_ite (fun h2 => ?_) fun h2 => ?_
    · replace h2 := cvh (b := Int.tmod (Int.tdiv who (2 ^ min i.toNat IntKind.u64.bits)) 2 = 1) (by kernel_rfl) h2
      have hw1 : whoS who i.toNat = true := by unfold whoS; simpa using h2
      have hnew : i + 1 ≤ (DV.sl none 0 p).len ∧ (o ++ [[DV.n ((DV.sl none 0 p).at i 0)]]) = gSel (el (.sl none 0 p)) (selI (whoS who) (i + 1).toNat) ∧ (t ++ [[DV.n ((DV.sl none 0 a).at i 0)]]) = gSel (el (.sl none 0 a)) (selI (whoS who) (i + 1).toNat) ∧ IntKind.i64.wrap (x + (DV.sl none 0 a).at i 0) = sumN (fun j => if whoS who j = true then el (.sl none 0 a) j else 0) (i + 1).toNat := by
        refine ⟨by omega, ?_, ?_, ?_⟩
        · rw [ei, selI_succ, if_pos hw1, ho1]
          unfold gSel
          rw [List.map_append, List.map_singleton, el_at _ i0]
        · rw [ei, selI_succ, if_pos hw1, ht1]
          unfold gSel
          rw [List.map_append, List.map_singleton, el_at _ i0]
        · rw [sum_next i0, if_pos hw1, el_at _ i0, ← hx1]
          exact wI (by omega) (by omega)
      refine res_both ?_ ?_
      · refine res_dat (.sl none 0 [[.n ((DV.sl none 0 p).at i 0)]]) (by kernel_rfl) (res_dat (.sl none 0 (o ++ [[.n ((DV.sl none 0 p).at i 0)]])) (by kernel_rfl) ?_)
        refine res_ok (cvh (a := 0 ≤ i ∧ i < (DV.sl none 0 a).len) (by kernel_rfl) (by omega)) ?_
        refine res_dat (.sl none 0 [[.n ((DV.sl none 0 a).at i 0)]]) (by kernel_rfl) (res_dat (.sl none 0 (t ++ [[.n ((DV.sl none 0 a).at i 0)]])) (by kernel_rfl) ?_)
        refine res_ok (cvh (a := (DV.sl none 0 o).len + 1 ≤ 664) (by kernel_rfl) (by omega)) ?_
        refine res_ok (cvh (a := (DV.sl none 0 t).len + 1 ≤ 664) (by kernel_rfl) (by omega)) ?_
        refine res_ok (cvh (a := 0 ≤ i + 1 ∧ i + 1 ≤ 664) (by kernel_rfl) (by omega)) ?_
        exact res_chk_of rfl (P := i + 1 ≤ (DV.sl none 0 p).len ∧ (o ++ [[DV.n ((DV.sl none 0 p).at i 0)]]) = gSel (el (.sl none 0 p)) (selI (whoS who) (i + 1).toNat) ∧ (t ++ [[DV.n ((DV.sl none 0 a).at i 0)]]) = gSel (el (.sl none 0 a)) (selI (whoS who) (i + 1).toNat) ∧ IntKind.i64.wrap (x + (DV.sl none 0 a).at i 0) = sumN (fun j => if whoS who j = true then el (.sl none 0 a) j else 0) (i + 1).toNat) (a := ((DV.sl none 0 p).len - (i + 1)).toNat) (b := ((DV.sl none 0 p).len - i).toNat) (by kernel_rfl) (by kernel_rfl) (by kernel_rfl) hnew (by omega)
      · refine res_ok (cvh (a := 0 ≤ i ∧ i < (DV.sl none 0 a).len) (by kernel_rfl) (by omega)) ?_
        refine res_dat (.sl none 0 [[.n ((DV.sl none 0 p).at i 0)]]) (by kernel_rfl) (res_dat (.sl none 0 (o ++ [[.n ((DV.sl none 0 p).at i 0)]])) (by kernel_rfl) ?_)
        refine res_dat (.sl none 0 [[.n ((DV.sl none 0 a).at i 0)]]) (by kernel_rfl) (res_dat (.sl none 0 (t ++ [[.n ((DV.sl none 0 a).at i 0)]])) (by kernel_rfl) ?_)
        refine res_ok (cvh (a := (DV.sl none 0 o).len + 1 ≤ 664) (by kernel_rfl) (by omega)) ?_
        refine res_ok (cvh (a := (DV.sl none 0 t).len + 1 ≤ 664) (by kernel_rfl) (by omega)) ?_
        refine res_ok (cvh (a := 0 ≤ i + 1 ∧ i + 1 ≤ 664) (by kernel_rfl) (by omega)) ?_
        exact res_chk_of rfl (P := i + 1 ≤ (DV.sl none 0 p).len ∧ (o ++ [[DV.n ((DV.sl none 0 p).at i 0)]]) = gSel (el (.sl none 0 p)) (selI (whoS who) (i + 1).toNat) ∧ (t ++ [[DV.n ((DV.sl none 0 a).at i 0)]]) = gSel (el (.sl none 0 a)) (selI (whoS who) (i + 1).toNat) ∧ IntKind.i64.wrap (x + (DV.sl none 0 a).at i 0) = sumN (fun j => if whoS who j = true then el (.sl none 0 a) j else 0) (i + 1).toNat) (a := ((DV.sl none 0 p).len - (i + 1)).toNat) (b := ((DV.sl none 0 p).len - i).toNat) (by kernel_rfl) (by kernel_rfl) (by kernel_rfl) hnew (by omega)
    · replace h2 := cvh (b := ¬ Int.tmod (Int.tdiv who (2 ^ min i.toNat IntKind.u64.bits)) 2 = 1) (by kernel_rfl) h2
      have hw0 : ¬ whoS who i.toNat = true := by unfold whoS; simpa using h2
      refine res_ok (cvh (a := 0 ≤ i + 1 ∧ i + 1 ≤ 664) (by kernel_rfl) (by omega)) ?_
      exact res_chk_of rfl (P := i + 1 ≤ (DV.sl none 0 p).len ∧ o = gSel (el (.sl none 0 p)) (selI (whoS who) (i + 1).toNat) ∧ t = gSel (el (.sl none 0 a)) (selI (whoS who) (i + 1).toNat) ∧ x = sumN (fun j => if whoS who j = true then el (.sl none 0 a) j else 0) (i + 1).toNat) (a := ((DV.sl none 0 p).len - (i + 1)).toNat) (b := ((DV.sl none 0 p).len - i).toNat) (by kernel_rfl) (by kernel_rfl) (by kernel_rfl) ⟨by omega, by rw [ei, selI_succ, if_neg hw0, List.append_nil]; exact ho1, by rw [ei, selI_succ, if_neg hw0, List.append_nil]; exact ht1, by rw [sum_next i0, if_neg hw0, ← hx1]; omega⟩ (by omega)
  · replace h := cvh (b := ¬ i < (DV.sl none 0 p).len) (by kernel_rfl) h
    have en : i.toNat = nn (.sl none 0 p) := by omega
    rw [en] at ho1 ht1 hx1
    have hss := some_same hk (whoS who) (q := .sl none 0 o) (by rw [ho1]) (sum := x) (by rw [hx1]; exact sumN_congr fun j hj => by rw [(hae j hj).1])
    refine res_con rfl trivial (fun b hb e2 _ _ q3 => ?_)
    replace q3 := cvh (b := [DV.sl none 0 b, .n e2] = awF x (.sl none 0 o)) (by kernel_rfl) q3
    obtain ⟨hb1, rfl⟩ := two_of q3 hss.2
    have hbt : b = t := by
      rw [hb1, ht1]
      unfold gSel
      exact List.map_congr_left fun j hj => by rw [(hae j (selI_lt hj)).1]
    subst hbt
    refine res_ite (fun _ => ?_) fun h => absurd (cvh (a := (0 : Int) = 0) (by kernel_rfl) rfl) h
    refine res_con rfl trivial (fun r _ _ q4 => ?_)
    exact same_yes' (cvh (b := [DV.n r] = [DV.n (if sameP (.sl none 0 b) (.sl none 0 b) then 1 else 0)]) (by kernel_rfl) q4)
end Go.Proofs.Ytcjdheaaddaagaa
