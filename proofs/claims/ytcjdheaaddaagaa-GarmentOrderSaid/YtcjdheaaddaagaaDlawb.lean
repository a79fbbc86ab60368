/- DERIVED. The laws of what everybody sees, of pairs and of duals, walked. -/
import Derived.Test.YtcjdheaaddaagaaDsane
import Derived.Test.YtcjdheaaddaagaaDctg
import Derived.Test.YtcjdheaaddaagaaDtreef
namespace Go.Proofs.Ytcjdheaaddaagaa
open Go.Dx Go.RowKit
set_option linter.unusedVariables false
set_option linter.unusedSimpArgs false
theorem near_ok {n ok : Int} {p : List (List DV)} (h : [DV.n n, .n ok] = [DV.n n, .n (if litP (.sl none 0 p) (nn (.sl none 0 p)) ∧ (DV.sl none 0 p).len ≤ 60 then 1 else 0)] ∧ (ok = 1 → 0 ≤ n ∧ n ≤ sumN (el (.sl none 0 p)) (nn (.sl none 0 p)))) (k : ¬ ok = 0) : chkF n (.sl none 0 p) = 0 ∧ (DV.sl none 0 p).len ≤ 60 := by
  have q : [DV.n ok] = [.n (if litP (.sl none 0 p) (nn (.sl none 0 p)) ∧ (DV.sl none 0 p).len ≤ 60 then 1 else 0)] := by
    have := h.1
    simp only [List.cons.injEq, true_and] at this ⊢
    exact this
  have hv := (y01 q).resolve_right fun z => k z.1
  have hr := h.2 hv.1
  refine ⟨?_, hv.2.2⟩
  unfold chkF
  rw [if_neg (by omega), if_pos ⟨hv.2.1, hr.1, hr.2⟩]
theorem aw_facts {n : Int} {p a : List (List DV)} {e : Int} (hk : chkF n (.sl none 0 p) = 0) (h : [DV.sl none 0 a, .n e] = awF n (.sl none 0 p)) : e = 0 ∧ (DV.sl none 0 a).len = (DV.sl none 0 p).len ∧ ∀ i, i < nn (.sl none 0 p) → el (.sl none 0 a) i = vecF n (.sl none 0 p) (el (.sl none 0 p) i) i ∧ 0 ≤ el (.sl none 0 a) i ∧ el (.sl none 0 a) i ≤ el (.sl none 0 p) i := by
  have hi := chk_in hk
  have hnn := nn_eq (.sl none 0 p)
  have l0 := len_nn (.sl none 0 p)
  obtain ⟨rfl, rfl⟩ := two_of h (aw_vec hk)
  refine ⟨rfl, by rw [gLen _ (by omega)]; exact hnn, fun i hlt => ?_⟩
  have hc := hi.2.1 i hlt
  have hr := Cut.rng (E := fun c => 0 ≤ c) (fun _ h => h) (vec_cut hk _) (c := el (.sl none 0 p) i) (i := i) hc.1
  have e1 : el (.sl none 0 (gRows (fun i => vecF n (.sl none 0 p) (el (.sl none 0 p) i) i) (nn (.sl none 0 p)))) i = vecF n (.sl none 0 p) (el (.sl none 0 p) i) i := gRows_el (fun i => vecF n (.sl none 0 p) (el (.sl none 0 p) i) i) hlt (by omega) (by omega)
  rw [e1]
  exact ⟨rfl, hr.1, hr.2⟩
theorem slice_arg {w : World} {v : Value} (h : ∃ d, cellA w ints (.sl none 0 d) v) : ∃ d, cellA w ints (.sl none 0 d) v := h
set_option maxHeartbeats 4000000 in
set_option maxRecDepth 100000 in
theorem GarmentPublic_any (v0 : Value) (s m : Int) (w : World) (hG : Glb tb w) (g0 : ∃ d, cellA w ints (.sl none 0 d) v0) (hs : 0 ≤ s ∧ s ≤ 65535) (hm : -32768 ≤ m ∧ m ≤ 32767) :
    Calls Try.prog 5 #[v0, .int .u16 s, .int .i16 m] w fun e w' => e = .returned (.bool true) ∧ Below w.heap.size w w' := by
  obtain ⟨p, h0⟩ := g0
  refine law_of_walk (tb := tb) (P := Try.prog) fine (C := [lawCon 10 [], cNear, cAw 12, cThr 14, cOwn 17, lPub]) (conCons cSane_ok (conCons cNear_ok (conCons cAw_ok (conCons cThr_ok (conCons cOwn_ok (lopCons rfl noCon)))))) 100 5 [.c ints, aU16, aI16] rfl (w := w) hG
    (xs := [.sl none 0 p, .n s, .n m]) ?_ ?_
  · exact ⟨h0, cell_u16 hs, cell_i16 hm, by simp [ArgsV]⟩
  clear h0
  rw [tree_lpub]
  refine res_con rfl trivial (fun z z0 z1 hz => ?_)
  obtain rfl := n_inj (cvh (b := [DV.n z] = [DV.n 1]) (by kernel_rfl) hz)
  refine res_ite (fun h => absurd (cvh (b := (1 : Int) = 0) (by kernel_rfl) h) (by decide)) fun _ => ?_
  refine res_con rfl trivial (fun n n0 n1 ok ok0 ok1 q1 => ?_)
  replace q1 := cvh (b := [DV.n n, .n ok] = [DV.n n, .n (if litP (.sl none 0 p) (nn (.sl none 0 p)) ∧ (DV.sl none 0 p).len ≤ 60 then 1 else 0)] ∧ (ok = 1 → 0 ≤ n ∧ n ≤ sumN (el (.sl none 0 p)) (nn (.sl none 0 p)))) (by kernel_rfl) q1
  refine res_ite (fun _ => rfl) fun h => ?_
  replace h := cvh (b := ¬ ok = 0) (by kernel_rfl) h
  obtain ⟨hk, h60⟩ := near_ok q1 h
  clear q1 h
  have hi := chk_in hk
  have hnn := nn_eq (.sl none 0 p)
  have l0 := len_nn (.sl none 0 p)
  refine res_con rfl trivial (fun a ha e e0 e1 q2 => ?_)
  replace q2 := cvh (b := [DV.sl none 0 a, .n e] = awF n (.sl none 0 p)) (by kernel_rfl) q2
  obtain ⟨rfl, hal, hae⟩ := aw_facts hk q2
  have hsum : sumN (el (.sl none 0 a)) (nn (.sl none 0 p)) = n := by
    rw [← vec_sum hk]; exact sumN_congr fun i hlt => (hae i hlt).1
  refine res_con rfl trivial (fun b b0 b1 l _ _ c _ _ i _ _ e2 _ _ q3 => ?_)
  replace q3 := cvh (b := [DV.n b, .n l, .n c, .n i, .n e2] = mkD (thF n (.sl none 0 p)) ++ [DV.n (chkF n (.sl none 0 p))]) (by kernel_rfl) q3
  obtain ⟨hmk, he2, _, _, _⟩ := mk_back q3
  refine res_ite (fun h => ?_) fun _ => ?_
  · replace h := cvh (b := (¬ (0 : Int) = 0 ∨ ¬ e2 = 0) ∨ ¬ (DV.sl none 0 a).len = (DV.sl none 0 p).len) (by kernel_rfl) h
    omega
  refine res_lop_of rfl (P := (0 : Int) ≤ (DV.sl none 0 a).len ∧ (0 : Int) = sumN (el (.sl none 0 a)) ((0 : Int)).toNat) (by kernel_rfl) rfl ⟨len_nn _, rfl⟩ (fun x x0 x1 j j0 j1 hI => ?_)
  obtain ⟨hj, hx⟩ := cvh (b := j ≤ (DV.sl none 0 a).len ∧ x = sumN (el (.sl none 0 a)) (j).toNat) (by kernel_rfl) hI
  refine res_ite (fun h => ?_) fun h => ?_
  · replace h := cvh (b := j < (DV.sl none 0 a).len) (by kernel_rfl) h
    refine res_ok (cvh (a := 0 ≤ j ∧ j < (DV.sl none 0 p).len) (by kernel_rfl) (by omega)) ?_
    have hjn : j.toNat < nn (.sl none 0 p) := by omega
    have hcj := hi.2.1 _ hjn
    have haj := hae _ hjn
    rw [el_at _ j0] at hcj
    rw [el_at _ j0, el_at _ j0, Int.toNat_of_nonneg j0] at haj
    refine res_con rfl trivial (fun o _ _ g _ _ q4 => ?_)
    replace q4 := cvh (b := [DV.n o, .n g] = ownR ⟨!decide (b = 0), l, c, i⟩ j ((DV.sl none 0 p).at j 0)) (by kernel_rfl) q4
    rw [hmk] at q4
    obtain ⟨ho, hg⟩ := nums2 q4 (own_ok (mk_valid hk) (by omega) rfl).symm
    have ho : o = (DV.sl none 0 a).at j 0 := ho.trans haj.1.symm
    refine res_ite (fun h2 => ?_) fun _ => ?_
    · replace h2 := cvh (b := ((¬ g = 0 ∨ ¬ o = (DV.sl none 0 a).at j 0) ∨ (DV.sl none 0 a).at j 0 < 0) ∨ (DV.sl none 0 p).at j 0 < (DV.sl none 0 a).at j 0) (by kernel_rfl) h2
      omega
    · have hb1 : 0 ≤ sumN (el (.sl none 0 a)) j.toNat := sumN_nn fun k hkl => (hae k (by omega)).2.1
      have hb2 : sumN (el (.sl none 0 a)) j.toNat ≤ (j.toNat : Int) * 1073741824 := sumN_bound fun k hkl => by have := hae k (by omega); have := hi.2.1 k (by omega); omega
      exact res_chk_of rfl (P := j + 1 ≤ (DV.sl none 0 a).len ∧ IntKind.i64.wrap (x + (DV.sl none 0 a).at j 0) = sumN (el (.sl none 0 a)) (j + 1).toNat) (a := ((DV.sl none 0 a).len - (j + 1)).toNat) (b := ((DV.sl none 0 a).len - j).toNat) (by kernel_rfl) (by kernel_rfl) (by kernel_rfl) ⟨by omega, by
        rw [sum_next j0, el_at _ j0, ← hx]
        exact wI (by omega) (by omega)⟩ (by omega)
  · replace h := cvh (b := ¬ j < (DV.sl none 0 a).len) (by kernel_rfl) h
    refine res_ite (fun _ => rfl) fun h2 => absurd (cvh (a := x = n) (by kernel_rfl) ?_) h2
    rw [hx, show j.toNat = nn (.sl none 0 p) by omega, hsum]
theorem el_two {a b : Int} (ha : 0 ≤ a ∧ a ≤ 1073741824) (hb : 0 ≤ b ∧ b ≤ 1073741824) : nn (.sl none 0 [[.n a], [.n b]]) = 2 ∧ (DV.sl none 0 [[.n a], [.n b]]).len = 2 ∧ el (.sl none 0 [[.n a], [.n b]]) 0 = a ∧ el (.sl none 0 [[.n a], [.n b]]) 1 = b := by
  refine ⟨rfl, rfl, ?_, ?_⟩
  · show clampB a = a; exact clampB_i64 (by omega) (by omega)
  · show clampB b = b; exact clampB_i64 (by omega) (by omega)
set_option maxHeartbeats 4000000 in
set_option maxRecDepth 100000 in
theorem GarmentPair_any (c d s m : Int) (w : World) (hG : Glb tb w) (hc : 0 ≤ c ∧ c ≤ 4294967295) (hd : 0 ≤ d ∧ d ≤ 4294967295) (hs : 0 ≤ s ∧ s ≤ 65535) (hm : -32768 ≤ m ∧ m ≤ 32767) :
    Calls Try.prog 7 #[.int .u32 c, .int .u32 d, .int .u16 s, .int .i16 m] w fun e w' => e = .returned (.bool true) ∧ Below w.heap.size w w' := by
  refine law_of_walk (tb := tb) (P := Try.prog) fine (C := [lawCon 10 [], cNear, cAw 12, cPr 19]) (conCons cSane_ok (conCons cNear_ok (conCons cAw_ok (conCons cPr_ok noCon)))) 100 7 [aU32, aU32, aU16, aI16] rfl (w := w) hG
    (xs := [.n c, .n d, .n s, .n m]) ?_ ?_
  · exact ⟨cell_u32 hc, cell_u32 hd, cell_u16 hs, cell_i16 hm, by simp [ArgsV]⟩
  rw [tree_lpair]
  refine res_con rfl trivial (fun z z0 z1 hz => ?_)
  obtain rfl := n_inj (cvh (b := [DV.n z] = [DV.n 1]) (by kernel_rfl) hz)
  refine res_ite (fun h => absurd (cvh (b := (1 : Int) = 0) (by kernel_rfl) h) (by decide)) fun _ => ?_
  obtain ⟨x, hx⟩ : ∃ x, x = Int.tdiv c 4 := ⟨_, rfl⟩
  obtain ⟨y, hy⟩ : ∃ y, y = Int.tdiv d 4 := ⟨_, rfl⟩
  have ex : x = c / 4 := by rw [hx]; exact Int.tdiv_eq_ediv_of_nonneg hc.1
  have ey : y = d / 4 := by rw [hy]; exact Int.tdiv_eq_ediv_of_nonneg hd.1
  have bx : 0 ≤ x ∧ x ≤ 1073741824 := by omega
  have bY : 0 ≤ y ∧ y ≤ 1073741824 := by omega
  refine res_dat (.sl none 0 [[.n x], [.n y]]) (by rw [hx, hy]; kernel_rfl) ?_
  refine res_con rfl trivial (fun n n0 n1 ok ok0 ok1 q1 => ?_)
  replace q1 := cvh (b := [DV.n n, .n ok] = [DV.n n, .n (if litP (.sl none 0 [[.n x], [.n y]]) (nn (.sl none 0 [[.n x], [.n y]])) ∧ (DV.sl none 0 [[.n x], [.n y]]).len ≤ 60 then 1 else 0)] ∧ (ok = 1 → 0 ≤ n ∧ n ≤ sumN (el (.sl none 0 [[.n x], [.n y]])) (nn (.sl none 0 [[.n x], [.n y]])))) (by kernel_rfl) q1
  obtain ⟨hn2, hl2, he0, he1⟩ := el_two bx bY
  have hlit : litP (.sl none 0 [[.n x], [.n y]]) (nn (.sl none 0 [[.n x], [.n y]])) := fun k hk => by
    rw [hn2] at hk
    rcases (show k = 0 ∨ k = 1 by omega) with rfl | rfl
    · rw [he0]; exact bx
    · rw [he1]; exact bY
  have hok : ¬ ok = 0 := by
    have := q1.1
    rw [if_pos ⟨hlit, by omega⟩] at this
    simp only [List.cons.injEq, DV.n.injEq, true_and, and_true] at this
    omega
  obtain ⟨hk, _⟩ := near_ok q1 hok
  refine res_dat (.sl none 0 [[.n x], [.n y]]) (by rw [hx, hy]; kernel_rfl) ?_
  refine res_con rfl trivial (fun a ha e e0 e1 q2 => ?_)
  replace q2 := cvh (b := [DV.sl none 0 a, .n e] = awF n (.sl none 0 [[.n x], [.n y]])) (by kernel_rfl) q2
  obtain ⟨rfl, hal, hae⟩ := aw_facts hk q2
  have hsum : sumN (el (.sl none 0 a)) (nn (.sl none 0 [[.n x], [.n y]])) = n := by
    rw [← vec_sum hk]; exact sumN_congr fun i hlt => (hae i hlt).1
  have hi := chk_in hk
  rw [hn2] at hsum hae
  have a0 := hae 0 (by omega)
  have a1 := hae 1 (by omega)
  rw [he0] at a0
  rw [he1] at a1
  have hsum : el (.sl none 0 a) 0 + el (.sl none 0 a) 1 = n := by
    have : sumN (el (.sl none 0 a)) 2 = 0 + el (.sl none 0 a) 0 + el (.sl none 0 a) 1 := rfl
    omega
  have hcut := vec_cut hk fun c => 0 ≤ c
  have r0 := pair_in (fun _ h => h) hcut (c := x) (d := y) (i := ((0 : Nat) : Int)) (k := ((1 : Nat) : Int)) bx.1 bY.1 (n := n) (by rw [← a0.1, ← a1.1]; exact hsum)
  have r1 := pair_in (fun _ h => h) hcut (c := y) (d := x) (i := ((1 : Nat) : Int)) (k := ((0 : Nat) : Int)) bY.1 bx.1 (n := n) (by rw [← a0.1, ← a1.1]; omega)
  rw [← a0.1] at r0
  rw [← a1.1] at r1
  have hnxy : 0 ≤ n ∧ n ≤ x + y := by
    have h1 := hi.2.2
    rw [hn2] at h1
    have : sumN (el (.sl none 0 [[.n x], [.n y]])) 2 = 0 + el (.sl none 0 [[.n x], [.n y]]) 0 + el (.sl none 0 [[.n x], [.n y]]) 1 := rfl
    rw [he0, he1] at this
    omega
  have p1 : prR n x y = [.n (max 0 (n - y) + (n - max 0 (n - y) - max 0 (n - x)) / 2), .n (max 0 (n - y) + (n - max 0 (n - y) - max 0 (n - x)) - (n - max 0 (n - y) - max 0 (n - x)) / 2), .n 0] := by
    unfold prR
    rw [if_neg (by omega)]
  have p2 : prR n y x = [.n (max 0 (n - x) + (n - max 0 (n - x) - max 0 (n - y)) / 2), .n (max 0 (n - x) + (n - max 0 (n - x) - max 0 (n - y)) - (n - max 0 (n - x) - max 0 (n - y)) / 2), .n 0] := by
    unfold prR
    rw [if_neg (by omega)]
  refine res_con rfl trivial (fun b1 _ _ b2 _ _ e2 _ _ q3 => ?_)
  replace q3 := cvh (b := [DV.n b1, .n b2, .n e2] = prR n (Int.tdiv c 4) (Int.tdiv d 4)) (by kernel_rfl) q3
  rw [← hx, ← hy] at q3
  obtain ⟨h1, h2, h3⟩ := nums3 q3 p1
  refine res_con rfl trivial (fun c1 _ _ c2 _ _ e3 _ _ q4 => ?_)
  replace q4 := cvh (b := [DV.n c1, .n c2, .n e3] = prR n (Int.tdiv d 4) (Int.tdiv c 4)) (by kernel_rfl) q4
  rw [← hx, ← hy] at q4
  obtain ⟨h4, h5, h6⟩ := nums3 q4 p2
  have z0 : (DV.sl none 0 a).at 0 0 = el (.sl none 0 a) 0 := rfl
  have z1 : (DV.sl none 0 a).at 1 0 = el (.sl none 0 a) 1 := rfl
  refine res_ite (fun h => ?_) fun _ => ?_
  · replace h := cvh (b := ((¬ (0 : Int) = 0 ∨ ¬ e2 = 0) ∨ ¬ e3 = 0) ∨ ¬ (DV.sl none 0 a).len = 2) (by kernel_rfl) h
    omega
  · refine res_ite (fun _ => rfl) fun h => absurd (cvh (a := ((b1 ≤ (DV.sl none 0 a).at 0 0 ∧ (DV.sl none 0 a).at 0 0 ≤ b2) ∧ c1 ≤ (DV.sl none 0 a).at 1 0) ∧ (DV.sl none 0 a).at 1 0 ≤ c2) (by kernel_rfl) ?_) h
    rw [z0, z1, h1, h2, h4, h5]
    exact ⟨⟨⟨r0.1, r0.2⟩, r1.1⟩, r1.2⟩
set_option maxHeartbeats 4000000 in
set_option maxRecDepth 100000 in
theorem GarmentDual_any (v0 : Value) (s m : Int) (w : World) (hG : Glb tb w) (g0 : ∃ d, cellA w ints (.sl none 0 d) v0) (hs : 0 ≤ s ∧ s ≤ 65535) (hm : -32768 ≤ m ∧ m ≤ 32767) :
    Calls Try.prog 9 #[v0, .int .u16 s, .int .i16 m] w fun e w' => e = .returned (.bool true) ∧ Below w.heap.size w w' := by
  obtain ⟨p, h0⟩ := g0
  refine law_of_walk (tb := tb) (P := Try.prog) fine (C := [lawCon 10 [], cNear, cAw 12, lD0, lD1]) (conCons cSane_ok (conCons cNear_ok (conCons cAw_ok (lopCons rfl (lopCons rfl noCon))))) 100 9 [.c ints, aU16, aI16] rfl (w := w) hG
    (xs := [.sl none 0 p, .n s, .n m]) ?_ ?_
  · exact ⟨h0, cell_u16 hs, cell_i16 hm, by simp [ArgsV]⟩
  clear h0
  rw [tree_ldual]
  refine res_con rfl trivial (fun z z0 z1 hz => ?_)
  obtain rfl := n_inj (cvh (b := [DV.n z] = [DV.n 1]) (by kernel_rfl) hz)
  refine res_ite (fun h => absurd (cvh (b := (1 : Int) = 0) (by kernel_rfl) h) (by decide)) fun _ => ?_
  refine res_con rfl trivial (fun n n0 n1 ok ok0 ok1 q1 => ?_)
  replace q1 := cvh (b := [DV.n n, .n ok] = [DV.n n, .n (if litP (.sl none 0 p) (nn (.sl none 0 p)) ∧ (DV.sl none 0 p).len ≤ 60 then 1 else 0)] ∧ (ok = 1 → 0 ≤ n ∧ n ≤ sumN (el (.sl none 0 p)) (nn (.sl none 0 p)))) (by kernel_rfl) q1
  refine res_ite (fun _ => rfl) fun h => ?_
  replace h := cvh (b := ¬ ok = 0) (by kernel_rfl) h
  obtain ⟨hk, h60⟩ := near_ok q1 h
  clear q1 h
  have hi := chk_in hk
  have hnn := nn_eq (.sl none 0 p)
  have l0 := len_nn (.sl none 0 p)
  refine res_lop_of rfl (P := (0 : Int) ≤ (DV.sl none 0 p).len ∧ (0 : Int) = sumN (el (.sl none 0 p)) ((0 : Int)).toNat ∧ ∀ j : Nat, j < ((0 : Int)).toNat → el (.sl none 0 p) j % 2 = 0) (by kernel_rfl) rfl ⟨l0, rfl, fun k hk => absurd hk (Nat.not_lt_zero k)⟩ (fun x x0 x1 j j0 j1 hI => ?_)
  obtain ⟨hj, hx, hev⟩ := cvh (b := j ≤ (DV.sl none 0 p).len ∧ x = sumN (el (.sl none 0 p)) (j).toNat ∧ ∀ k : Nat, k < (j).toNat → el (.sl none 0 p) k % 2 = 0) (by kernel_rfl) hI
  have hcap := cap_n (p := .sl none 0 p) (i := j) (fun k hk => hi.2.1 k (by omega)) j0 (by omega)
  rw [← hx] at hcap
  refine res_ite (fun h => ?_) fun h => ?_
  · replace h := cvh (b := j < (DV.sl none 0 p).len) (by kernel_rfl) h
    have rk := lit_at hi.2.1 j0 (by omega)
    have em : Int.tmod ((DV.sl none 0 p).at j 0) 2 = (DV.sl none 0 p).at j 0 % 2 := Int.tmod_eq_emod_of_nonneg rk.1
    refine res_ite (fun _ => rfl) fun h2 => ?_
    replace h2 := cvh (b := ¬ ¬ Int.tmod ((DV.sl none 0 p).at j 0) 2 = 0) (by kernel_rfl) h2
    rw [em] at h2
    exact res_chk_of rfl (P := j + 1 ≤ (DV.sl none 0 p).len ∧ IntKind.i64.wrap (x + (DV.sl none 0 p).at j 0) = sumN (el (.sl none 0 p)) (j + 1).toNat ∧ ∀ k : Nat, k < (j + 1).toNat → el (.sl none 0 p) k % 2 = 0) (a := ((DV.sl none 0 p).len - (j + 1)).toNat) (b := ((DV.sl none 0 p).len - j).toNat) (by kernel_rfl) (by kernel_rfl) (by kernel_rfl) ⟨by omega, by
      rw [sum_next j0, el_at _ j0, ← hx]
      exact wI (by omega) (by omega), fun k hkl => by
      by_cases q : k < j.toNat
      · exact hev k q
      · rw [show k = j.toNat by omega, el_at _ j0]; omega⟩ (by omega)
  · replace h := cvh (b := ¬ j < (DV.sl none 0 p).len) (by kernel_rfl) h
    have en : j.toNat = nn (.sl none 0 p) := by omega
    rw [en] at hx hev
    have es : IntKind.i64.wrap (x - n) = x - n := wI (by omega) (by omega)
    have hk2 : chkF (x - n) (.sl none 0 p) = 0 := by
      unfold chkF
      rw [if_neg (by omega), if_pos ⟨hi.2.1, by omega, by omega⟩]
    refine res_con rfl trivial (fun a ha e e0 e1 q2 => ?_)
    replace q2 := cvh (b := [DV.sl none 0 a, .n e] = awF n (.sl none 0 p)) (by kernel_rfl) q2
    obtain ⟨rfl, hal, hae⟩ := aw_facts hk q2
    refine res_con rfl trivial (fun b hb e2 _ _ q3 => ?_)
    replace q3 := cvh (b := [DV.sl none 0 b, .n e2] = awF (IntKind.i64.wrap (x - n)) (.sl none 0 p)) (by kernel_rfl) q3
    rw [es] at q3
    obtain ⟨rfl, hbl, hbe⟩ := aw_facts hk2 q3
    refine res_ite (fun h2 => ?_) fun _ => ?_
    · replace h2 := cvh (b := ((¬ (0 : Int) = 0 ∨ ¬ (0 : Int) = 0) ∨ ¬ (DV.sl none 0 a).len = (DV.sl none 0 p).len) ∨ ¬ (DV.sl none 0 b).len = (DV.sl none 0 p).len) (by kernel_rfl) h2
      omega
    have hE : ∀ c, Evn c → 0 ≤ c := fun c h => h.1
    have hevn : ∀ i, i < nn (.sl none 0 p) → Evn (el (.sl none 0 p) i) := fun i hlt => ⟨(hi.2.1 i hlt).1, (hi.2.1 i hlt).2, hev i hlt⟩
    have hsame := Cut.same hE (vec_cut hk2 Evn) (Cut.dual (vec_cut hk Evn)) (c := el (.sl none 0 p)) hevn (by
      rw [vec_sum hk2, show (fun i : Nat => (el (.sl none 0 p) i - vecF n (.sl none 0 p) (el (.sl none 0 p) i) i)) = fun i : Nat => el (.sl none 0 p) i + (-1) * vecF n (.sl none 0 p) (el (.sl none 0 p) i) i from funext fun i => by omega, sumN_add (el (.sl none 0 p)) fun i => (-1) * vecF n (.sl none 0 p) (el (.sl none 0 p) i) i, sumN_mul (-1) fun i => vecF n (.sl none 0 p) (el (.sl none 0 p) i) i, vec_sum hk, ← hx]
      omega)
    refine res_lop_of rfl (P := (0 : Int) ≤ (DV.sl none 0 p).len) (by kernel_rfl) rfl l0 (fun i i0 i1 hI => ?_)
    replace hI := cvh (b := i ≤ (DV.sl none 0 p).len) (by kernel_rfl) hI
    refine res_ite (fun h3 => ?_) fun _ => rfl
    replace h3 := cvh (b := i < (DV.sl none 0 p).len) (by kernel_rfl) h3
    have hin : i.toNat < nn (.sl none 0 p) := by omega
    have ra := hae _ hin
    have rb := hbe _ hin
    have rs := hsame _ hin
    have rc := hi.2.1 _ hin
    rw [← ra.1, ← rb.1] at rs
    rw [el_at _ i0, el_at _ i0] at ra rb
    rw [el_at _ i0] at rc
    rw [el_at _ i0, el_at _ i0, el_at _ i0] at rs
    have ew : IntKind.i64.wrap ((DV.sl none 0 a).at i 0 + (DV.sl none 0 b).at i 0) = (DV.sl none 0 a).at i 0 + (DV.sl none 0 b).at i 0 := wI (by omega) (by omega)
    refine res_both ?_ ?_
    · refine res_ok (cvh (a := 0 ≤ i ∧ i < (DV.sl none 0 a).len) (by kernel_rfl) (by omega)) ?_
      refine res_ok (cvh (a := 0 ≤ i ∧ i < (DV.sl none 0 b).len) (by kernel_rfl) (by omega)) ?_
      refine res_ite (fun h4 => ?_) fun _ => ?_
      · replace h4 := cvh (b := ¬ IntKind.i64.wrap ((DV.sl none 0 a).at i 0 + (DV.sl none 0 b).at i 0) = (DV.sl none 0 p).at i 0) (by kernel_rfl) h4
        rw [ew] at h4
        omega
      · exact res_chk_of rfl (P := i + 1 ≤ (DV.sl none 0 p).len) (a := ((DV.sl none 0 p).len - (i + 1)).toNat) (b := ((DV.sl none 0 p).len - i).toNat) (by kernel_rfl) (by kernel_rfl) (by kernel_rfl) (by omega) (by omega)
    · refine res_ok (cvh (a := 0 ≤ i ∧ i < (DV.sl none 0 b).len) (by kernel_rfl) (by omega)) ?_
      refine res_ok (cvh (a := 0 ≤ i ∧ i < (DV.sl none 0 a).len) (by kernel_rfl) (by omega)) ?_
      refine res_ite (fun h4 => ?_) fun _ => ?_
      · replace h4 := cvh (b := ¬ IntKind.i64.wrap ((DV.sl none 0 a).at i 0 + (DV.sl none 0 b).at i 0) = (DV.sl none 0 p).at i 0) (by kernel_rfl) h4
        rw [ew] at h4
        omega
      · exact res_chk_of rfl (P := i + 1 ≤ (DV.sl none 0 p).len) (a := ((DV.sl none 0 p).len - (i + 1)).toNat) (b := ((DV.sl none 0 p).len - i).toNat) (by kernel_rfl) (by kernel_rfl) (by kernel_rfl) (by omega) (by omega)
end Go.Proofs.Ytcjdheaaddaagaa
