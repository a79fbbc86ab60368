/- DERIVED. WellsSpec and WellsAll. -/
import Derived.Test.YtcidomlhmdefaaaDwel
import Derived.Test.YtcidomlhmdefaaaDsane
namespace Go.Proofs.Ytcidomlhmdefaaa
open Go.Dx Go.RowKit
set_option linter.unusedVariables false
theorem shs_nn {k : IntKind} {hi : Int} : ∀ {x : List DV}, HasShs [.int k 0 hi] x → 0 ≤ clampB (x.getD 0 (.n 0)).int
  | [], h => by simp only [HasShs] at h
  | e :: _, h => by
    simp only [HasShs, HasSh] at h
    obtain ⟨⟨v, rfl, ⟨h0, _⟩, _⟩, _⟩ := h
    show 0 ≤ clampB v
    unfold clampB
    split <;> omega
theorem u32_at {P : List (List DV)} (h : HasSh (slS u32s) (dl P)) (i : Int) : 0 ≤ (dl P).at i 0 := by
  show 0 ≤ clampB ((P.getD i.toNat []).getD 0 (.n 0)).int
  by_cases hl : i.toNat < P.length
  · rw [show P.getD i.toNat [] = P[i.toNat] by rw [List.getD_eq_getElem?_getD, List.getElem?_eq_getElem hl]; rfl]
    have hm := h.2 P[i.toNat] (List.getElem_mem hl)
    exact shs_nn hm
  · rw [show P.getD i.toNat [] = [] by rw [List.getD_eq_getElem?_getD, List.getElem?_eq_none (by omega)]; rfl]
    decide
theorem lit_app {l : List (List DV)} {v : Int} {n : Nat} (hl : l.length = n) (h : litP (dl l) n) (hv : 0 ≤ v ∧ v ≤ 1073741824) : litP (dl (l ++ [[.n v]])) (n + 1) := fun k hk => by
  by_cases c : k < n
  · have := h k c
    have e : el (dl (l ++ [[.n v]])) k = el (dl l) k := by
      show ((((l ++ [[DV.n v]]).getD (k : Int).toNat []).getD 0 (.n 0))).cint = (((l.getD (k : Int).toNat []).getD 0 (.n 0))).cint
      rw [Int.toNat_natCast, show (l ++ [[DV.n v]]).getD k [] = l.getD k [] by rw [List.getD_eq_getElem?_getD, List.getElem?_append_left (by omega), List.getD_eq_getElem?_getD]]
    rw [e]; exact this
  · have e : el (dl (l ++ [[.n v]])) k = v := by
      show ((((l ++ [[DV.n v]]).getD (k : Int).toNat []).getD 0 (.n 0))).cint = v
      rw [Int.toNat_natCast, show (l ++ [[DV.n v]]).getD k [] = [DV.n v] by rw [List.getD_eq_getElem?_getD, List.getElem?_append_right (by omega), show k - l.length = 0 by omega]; rfl]
      show clampB v = v
      exact clampB_i64 (by omega) (by omega)
    rw [e]; exact hv
theorem isw_wide {w : WO} {a b : Int} (h : isW w a b) (ha : a ≤ 600) (hb : b ≤ 64) : isW w 600 64 := ⟨⟨⟨h.1.1.1, by have := h.1.1.2; omega⟩, h.1.2.1, by have := h.1.2.2; omega⟩, h.2⟩
set_option maxRecDepth 100000 in
set_option maxHeartbeats 1000000 in
theorem walk_all (nm : ByteArray) (H ca st : Int) (R F C G U Wl P : List (List DV)) (hW : HasSh (slS well) (dl Wl)) (hP : HasSh (slS u32s) (dl P)) : (runC tb [lawCon 10 [], cFewW 11, cWel 12, cDis 21, lLit9, cOwe 15, lWls9] 80 (lawCon 9 [.agg distS, .c (slS u32s)])).res [lawCon 10 [], cFewW 11, cWel 12, cDis 21, lLit9, cOwe 15, lWls9] (fun ys => ys = [.n 1]) [.s nm, .n H, .n ca, .n st, dl R, dl F, dl C, dl G, dl U, dl Wl, dl P] := by
  rw [tree_lwall]
  have nW0 := len_nn (dl Wl)
  have nP0 := len_nn (dl P)
  refine res_con rfl trivial (fun z _ _ hz => ?_)
  obtain rfl := n_inj (show [DV.n z] = [.n 1] from hz)
  refine res_ite (fun h => absurd (show (1 : Int) = 0 from h) (by decide)) fun _ => ?_
  refine res_con rfl trivial (fun f _ _ _ => ?_)
  refine res_ite (fun h => ?_) fun _ => rfl
  have h30 : ¬ (f = 0 ∨ 30 < (dl P).len) := cvh (by kernel_rfl) h
  clear h
  refine res_con rfl trivial (fun x _ _ hx => ?_)
  replace hx := n_inj (cvh (b := [DV.n x] = [.n (welF [.s nm, .n H, .n ca, .n st, dl R, dl F, dl C, dl G, dl U, dl Wl])]) (by kernel_rfl) hx)
  refine res_ite (fun _ => rfl) fun h => ?_
  have x0 : x = 0 := Classical.not_not.1 (cvh (b := ¬ ¬ x = 0) (by kernel_rfl) h)
  rw [x0] at hx
  obtain ⟨big, vld, nol, wls⟩ := wel_in hx.symm
  have big : ¬ (64 < (dl R).len ∨ 600 < (dl F).len ∨ 32 < (dl C).len ∨ 256 < (dl G).len ∨ 256 < (dl U).len) := big
  have nol : ¬ (64 < (dl Wl).len ∨ ¬ ShoP (dl Wl) (dl Wl).len) := nol
  have wls : WlsP (dl Wl) (dl F).len (dl R).len (dl Wl).len := wls
  refine res_con rfl trivial (fun y _ _ hy => ?_)
  rcases dis_in (cvh (b := DisP [.s nm, .n H, .n ca, .n st, dl R, dl F, dl C, dl G, dl U, dl Wl] [.n y]) (by kernel_rfl) hy) with ⟨q, _⟩ | ⟨_, q, _⟩ | ⟨_, _, rfl⟩
  · exact absurd q big
  · exact absurd vld q
  refine res_ite (fun h => absurd rfl (cvh (b := ¬ (0 : Int) = 0) (by kernel_rfl) h)) fun _ => ?_
  clear hy hx vld
  refine res_dat (dl []) (by kernel_rfl) ?_
  refine res_lop rfl (cvh (a := 0 ≤ (dl P).len ∧ (dl []).len = 0 ∧ litP (dl []) 0) (by kernel_rfl) ⟨nP0, rfl, fun k hk => absurd hk (Nat.not_lt_zero k)⟩) (fun l hl i i0 _ hi => ?_)
  replace hi := cvh (b := i ≤ (dl P).len ∧ (dl l).len = i ∧ litP (dl l) i.toNat) (by kernel_rfl) hi
  have ll : (dl l).len = l.length := clampL_eq (show l.length ≤ 9223372036854775807 from hl.1)
  clear hl
  obtain ⟨hi1, hi2, hi3⟩ := hi
  refine res_ite (fun z => ?_) fun z => ?_
  · replace z := cvh (b := i < (dl P).len) (by kernel_rfl) z
    refine res_ok (cvh (a := (dl l).len + 1 ≤ 15637498706147) (by kernel_rfl) (by omega)) ?_
    refine res_dat (dl [[.n (((dl P).at i 0).tmod 1073741825)]]) (by kernel_rfl) ?_
    refine res_dat (dl (l ++ [[.n (((dl P).at i 0).tmod 1073741825)]])) (by kernel_rfl) ?_
    have p0 := u32_at hP i
    have v0 : 0 ≤ ((dl P).at i 0).tmod 1073741825 ∧ ((dl P).at i 0).tmod 1073741825 ≤ 1073741824 := by
      rw [Int.tmod_eq_emod_of_nonneg p0]
      omega
    have e1 : (dl (l ++ [[.n (((dl P).at i 0).tmod 1073741825)]])).len = i + 1 := by
      have : (dl (l ++ [[.n (((dl P).at i 0).tmod 1073741825)]])).len = ((l ++ [[DV.n (((dl P).at i 0).tmod 1073741825)]]).length : Nat) := clampL_eq (show (l ++ [[DV.n (((dl P).at i 0).tmod 1073741825)]]).length ≤ 9223372036854775807 by simp; omega)
      rw [this]; simp; omega
    have e2 := lit_app (l := l) (n := i.toNat) (by omega) hi3 v0
    rw [show i.toNat + 1 = (i + 1).toNat by omega] at e2
    generalize ((dl P).at i 0).tmod 1073741825 = v at *
    have hp : i + 1 ≤ (dl P).len ∧ (dl (l ++ [[.n v]])).len = i + 1 ∧ litP (dl (l ++ [[.n v]])) (i + 1).toNat := ⟨by omega, e1, e2⟩
    exact res_chk rfl (cvh (by kernel_rfl) hp) (cvh (a := ((dl P).len - (i + 1)).toNat < ((dl P).len - i).toNat) (by kernel_rfl) (by omega))
  replace z := cvh (b := ¬ i < (dl P).len) (by kernel_rfl) z
  have lit : litP (dl l) (dl l).len.toNat := by rw [hi2]; exact hi3
  refine res_lop rfl (cvh (a := 0 ≤ (dl Wl).len) (by kernel_rfl) nW0) (fun j j0 _ hj => ?_)
  replace hj := cvh (b := j ≤ (dl Wl).len) (by kernel_rfl) hj
  refine res_ite (fun z => ?_) fun z => cvh (a := [DV.n 1] = [DV.n 1]) (by kernel_rfl) rfl
  replace z := cvh (b := j < (dl Wl).len) (by kernel_rfl) z
  refine res_dat (.sl none 0 ((((dl Wl).cell j 3).els.take ((dl Wl).cell j 3).len.toNat).drop (0 : Int).toNat)) (by kernel_rfl) ?_
  rw [ker_cut (ker_len hW j0 z)]
  refine res_con rfl trivial (fun o ho e _ _ h => ?_)
  replace h := cvh (b := [dl o, DV.n e] = OwedF ⟨(dl Wl).at j 0, (dl Wl).at j 1, (dl Wl).at j 2, .sl none 0 ((dl Wl).cell j 3).els⟩ (dl l)) (by kernel_rfl) h
  have wj : isW (wAt (dl Wl) j) (dl F).len (dl R).len := wls j j0 z
  have sj : ((dl Wl).cell j 3).len ≤ 64 := by
    have : ShoP (dl Wl) (dl Wl).len := Classical.not_not.1 fun q => nol (.inr q)
    exact this j j0 z
  have c0 : chkF ⟨(dl Wl).at j 0, (dl Wl).at j 1, (dl Wl).at j 2, .sl none 0 ((dl Wl).cell j 3).els⟩ (dl l) = 0 := by
    unfold chkF
    rw [if_neg (by
      intro q
      have q : 64 < ((dl Wl).cell j 3).len ∨ 400 < (dl l).len := q
      omega), if_pos ⟨isw_els.2 (isw_wide wj (by omega) (by omega)), lit⟩]
  obtain rfl : e = 0 := by
    unfold OwedF at h
    rw [if_neg (fun q => q c0)] at h
    simp only [List.cons.injEq, DV.n.injEq, and_true] at h
    exact h.2
  have ix : (0 ≤ (dl Wl).at j 0 ∧ (dl Wl).at j 0 < (dl F).len) ∧ 0 ≤ (dl Wl).at j 1 ∧ (dl Wl).at j 1 < (dl R).len := wj.1
  refine res_ite (fun k => ?_) fun _ => ?_
  · have k := cvh (b := (((¬ (0 : Int) = 0 ∨ (dl Wl).at j 0 < 0) ∨ (dl F).len ≤ (dl Wl).at j 0) ∨ (dl Wl).at j 1 < 0) ∨ (dl R).len ≤ (dl Wl).at j 1) (by kernel_rfl) k
    exfalso
    omega
  · exact res_chk rfl (cvh (a := j + 1 ≤ (dl Wl).len) (by kernel_rfl) (by omega)) (cvh (a := ((dl Wl).len - (j + 1)).toNat < ((dl Wl).len - j).toNat) (by kernel_rfl) (by omega))
end Go.Proofs.Ytcidomlhmdefaaa
