/- DERIVED. The law of what is paid, walked. -/
import Derived.Test.YtcidomlhmdefaaaDlawc
namespace Go.Proofs.Ytcidomlhmdefaaa
open Go.Dx Go.RowKit
set_option linter.unusedVariables false
set_option linter.unusedSimpArgs false
/-- What Repaid returns. -/
theorem rep_in {w : WO} {p R : DV} {L : List (List DV)} {e : Int} (hc : chkF w p = 0) (h : [DV.sl none 0 L, .n e] = RepF w p R) : (e ≠ 0 ∧ L = [] ∧ (R.len ≠ days w p ∨ ¬ litP R R.len.toNat)) ∨ (e = 0 ∧ L = gRows (rpF w p R) (days w p) ∧ R.len = days w p ∧ litP R R.len.toNat) := by
  by_cases c : R.len ≠ days w p ∨ ¬ litP R R.len.toNat
  · have e := h.trans (rep_wrong hc c).symm
    simp only [List.cons.injEq, DV.sl.injEq, DV.n.injEq, true_and, and_true] at e
    exact .inl ⟨by omega, e.1, c⟩
  · have e := h.trans (rep_fine hc c).symm
    simp only [List.cons.injEq, DV.sl.injEq, DV.n.injEq, true_and, and_true] at e
    exact .inr ⟨e.2, e.1, Classical.not_not.1 fun y => c (.inl y), Classical.not_not.1 fun y => c (.inr y)⟩
theorem rp_bound {w : WO} {p R : DV} (h : Val w p) {n : Nat} (hR : litP R n) (k : Nat) (hk : k < n) : 0 ≤ rpF w p R k ∧ rpF w p R k ≤ 451485862643892224 := by
  have := unt_bound h k
  have : 0 ≤ sumN (el R) (k + 1) := sumN_nn fun i hi => (hR i (by omega)).1
  unfold rpF; omega
theorem el_row {L : List (List DV)} {i : Nat} {y : DV} (h : L[i]? = some [y]) : el (.sl none 0 L) i = clampB y.int := by
  have e : L.getD i [] = [y] := by rw [List.getD_eq_getElem?_getD, h]; rfl
  show clampB (((L.getD (i : Int).toNat []).getD 0 (.n 0)).int) = _
  rw [Int.toNat_natCast, e]; rfl
theorem el_more {R : List (List DV)} (hR : ∀ e ∈ R, HasShs [i64s] e) {k : Nat} {v : Int} (hv : clampB v = v) {i : Nat} (hi : i < R.length) : el (.sl none 0 (R.modify k fun e => layG e 0 [.n v])) i = if i = k then v else el (.sl none 0 R) i := by
  have row : ∃ y, R[i]? = some [y] := by
    have he := (hR R[i] (List.getElem_mem hi)).len
    rw [List.getElem?_eq_getElem hi]
    obtain ⟨y, hy⟩ := List.length_eq_one_iff.1 he
    exact ⟨y, by rw [hy]⟩
  obtain ⟨y, hy⟩ := row
  by_cases c : i = k
  · rw [if_pos c]
    have : (R.modify k fun e => layG e 0 [DV.n v])[i]? = some [.n v] := by rw [List.getElem?_modify, hy]; show some (if k = i then layG [y] 0 [DV.n v] else [y]) = _; rw [if_pos c.symm]; rfl
    rw [el_row this]; exact hv
  · rw [if_neg c]
    have : (R.modify k fun e => layG e 0 [DV.n v])[i]? = some [y] := by rw [List.getElem?_modify, hy]; show some (if k = i then layG [y] 0 [DV.n v] else [y]) = _; rw [if_neg (fun z : k = i => c z.symm)]
    rw [el_row this, el_row hy]
set_option maxHeartbeats 8000000 in
set_option maxRecDepth 100000 in
theorem WellsPaid_any (v0 v1 v2 : Value) (m x : Int) (w : World) (hG : Glb tb w) (g0 : WellA w v0) (g1 : ∃ d, cellA w ints (.sl none 0 d) v1) (g2 : ∃ d, cellA w ints (.sl none 0 d) v2) (hm : 0 ≤ m ∧ m ≤ 255) (hx : 0 ≤ x ∧ x ≤ 65535) :
    Calls Try.prog 8 #[v0, v1, v2, .int .u8 m, .int .u16 x] w fun e w' => e = .returned (.bool true) ∧ Below w.heap.size w w' := by
  obtain ⟨f, r, d, K, c0, rfl, h0⟩ := g0
  obtain ⟨p, h1⟩ := g1
  obtain ⟨R, h2⟩ := g2
  have hRs : ∀ e ∈ R, HasShs [i64s] e := h2.1.2
  have hRl : R.length ≤ 9223372036854775807 := h2.1.1
  refine law_of_walk (tb := tb) (P := Try.prog) fine (C := [lawCon 10 [], cOwe 15, cRep 17, xSmall, xNone, xLess]) (conCons cSane_ok (conCons cOwe_ok (conCons cRep_ok (lopCons rfl (lopCons rfl (lopCons rfl noCon)))))) 80 8 [.agg well, .c ints, .c ints, .c (.int .u8 0 255), .c (.int .u16 0 65535)] rfl (w := w) hG
    (xs := [.n f, .n r, .n d, .sl none 0 K, .sl none 0 p, .sl none 0 R, .n m, .n x]) ?_ ?_
  · exact ⟨_, [.sl none 0 p, .sl none 0 R, .n m, .n x], c0, rfl, rfl, h0, h1, h2, cell_byte hm, cell_u16 hx, by simp [ArgsV]⟩
  clear h0 h1 h2
  rw [tree_lpaid]
  refine res_con rfl trivial (fun z z0 z1 hz => ?_)
  obtain rfl := n_inj (show [DV.n z] = [DV.n 1] from hz)
  refine res_ite (fun h => absurd (show (1 : Int) = 0 from h) (by decide)) fun _ => res_ite (fun _ => rfl) fun hfew => ?_
  clear hfew
  refine res_con rfl trivial (fun a ha e _ _ h1 => ?_)
  clear ha
  have h1 : [DV.sl none 0 a, .n e] = OwedF ⟨f, r, d, .sl none 0 K⟩ (.sl none 0 p) := h1
  refine res_ite (fun _ => rfl) fun q => ?_
  have q : ¬ ¬ e = 0 := q
  obtain ⟨_, hc, ha⟩ := (owed_in h1).resolve_left fun y => q y.1
  have hv := chk_val hc
  generalize hw : WO.mk f r d (.sl none 0 K) = w at *
  have hn := days_le hv
  have la : (DV.sl none 0 a).len = days w (.sl none 0 p) := by rw [ha]; exact gLen _ (by omega)
  have hlita := ow_lit hv ha (Nat.le_refl _)
  refine res_lop rfl (show (0 : Int) ≤ (DV.sl none 0 a).len by omega) (fun s s0 s1 i i0 i1 hI => ?_)
  have hI : i ≤ (DV.sl none 0 a).len := hI
  refine res_ite (fun hlt => ?_) fun _ => ?_
  · have hlt : i < (DV.sl none 0 a).len := hlt
    have mea : ((DV.sl none 0 a).len - (i + 1)).toNat < ((DV.sl none 0 a).len - i).toNat := by omega
    have prei : i + 1 ≤ (DV.sl none 0 a).len := by omega
    exact res_ite (fun _ => res_chk rfl prei mea) fun _ => res_chk rfl prei mea
  refine res_con rfl trivial (fun o ho g _ _ h2 => ?_)
  clear ho
  have h2 : [DV.sl none 0 o, .n g] = RepF (WO.mk f r d (.sl none 0 K)) (.sl none 0 p) (.sl none 0 a) := h2
  rw [hw] at h2
  obtain ⟨hg, ho, _, _⟩ := (rep_in hc h2).resolve_left fun y => y.2.2.elim (fun y => y la) fun y => y (by rw [show (DV.sl none 0 a).len.toNat = days w (.sl none 0 p) by omega]; exact hlita)
  have lo : (DV.sl none 0 o).len = days w (.sl none 0 p) := by rw [ho]; exact gLen _ (by omega)
  refine res_ite (fun y => ?_) fun _ => ?_
  · have y : ¬ s = 0 ∧ (¬ g = 0 ∨ ¬ (DV.sl none 0 o).len = (DV.sl none 0 a).len) := y
    omega
  refine res_lop rfl (show (0 : Int) ≤ (DV.sl none 0 o).len by omega) (fun j j0 j1 hJ => ?_)
  have hJ : j ≤ (DV.sl none 0 o).len := hJ
  refine res_ite (fun hlt => ?_) fun _ => ?_
  · have hlt : j < (DV.sl none 0 o).len := hlt
    have ej : ((j.toNat : Nat) : Int) = j := by omega
    have hz : rpF w (.sl none 0 p) (.sl none 0 a) j.toNat = 0 := by
      have := ow_pre hv ha (k := j.toNat) (by omega)
      unfold preF at this
      unfold rpF; rw [this]; omega
    have hat := gAt (rpF w (.sl none 0 p) (.sl none 0 a)) (n := days w (.sl none 0 p)) (k := j.toNat) (by omega) (by omega) (by omega)
    rw [← ho, ej, hz] at hat
    refine res_ite (fun y => absurd hat y) fun _ => res_chk rfl (show j + 1 ≤ (DV.sl none 0 o).len by omega) ?_
    show ((DV.sl none 0 o).len - (j + 1)).toNat < ((DV.sl none 0 o).len - j).toNat
    omega
  refine res_con rfl trivial (fun b hb e2 _ _ h3 => ?_)
  clear hb
  have h3 : [DV.sl none 0 b, .n e2] = RepF (WO.mk f r d (.sl none 0 K)) (.sl none 0 p) (.sl none 0 R) := h3
  rw [hw] at h3
  have h3 := rep_in hc h3
  refine res_ite (fun y => ?_) fun y => ?_
  · have y : ¬ e2 = 0 := y
    obtain ⟨_, hb, _⟩ := h3.resolve_right fun z => y z.1
    subst hb
    exact res_ite (fun _ => rfl) fun z => absurd (show (DV.sl none 0 []).len = 0 from rfl) z
  have y : ¬ ¬ e2 = 0 := y
  obtain ⟨_, hb, hRd, hlit⟩ := h3.resolve_left fun z => y z.1
  have lb : (DV.sl none 0 b).len = days w (.sl none 0 p) := by rw [hb]; exact gLen _ (by omega)
  rw [show (DV.sl none 0 R).len.toNat = days w (.sl none 0 p) by omega] at hlit
  refine res_ite (fun z => ?_) fun _ => ?_
  · have z : ¬ (DV.sl none 0 b).len = (DV.sl none 0 R).len ∨ ¬ (DV.sl none 0 b).len = (DV.sl none 0 a).len := z
    omega
  refine res_ite (fun _ => rfl) fun hnz => ?_
  have hnz : ¬ (DV.sl none 0 R).len = 0 := hnz
  have lR : (DV.sl none 0 R).len = R.length := clampL_eq hRl
  refine res_ok (show (DV.sl none 0 R).len ≤ 15637498706147 by omega) ?_
  have t0 := Int.tmod_nonneg (DV.sl none 0 R).len hm.1
  have t1 := Int.tmod_lt_of_pos m (show 0 < (DV.sl none 0 R).len by omega)
  refine res_ok (show 0 ≤ Int.tmod m (DV.sl none 0 R).len ∧ Int.tmod m (DV.sl none 0 R).len < (DV.sl none 0 R).len from ⟨t0, t1⟩) ?_
  obtain ⟨k, hk⟩ : ∃ k, Int.tmod m (DV.sl none 0 R).len = k := ⟨_, rfl⟩
  rw [hk] at t0 t1
  have ek : ((k.toNat : Nat) : Int) = k := by omega
  have hRk := hlit k.toNat (by omega)
  unfold el at hRk
  rw [ek] at hRk
  have ew : IntKind.i64.wrap ((DV.sl none 0 R).at k 0 + x) = (DV.sl none 0 R).at k 0 + x := wI (by omega) (by omega)
  refine res_dat (.sl none 0 (R.modify k.toNat fun e => layG e 0 [.n ((DV.sl none 0 R).at k 0 + x)])) (by
    show DV.sl none 0 (R.modify (Int.tmod m (DV.sl none 0 R).len).toNat fun e => layG e 0 [.n (IntKind.i64.wrap ((DV.sl none 0 R).at (Int.tmod m (DV.sl none 0 R).len) 0 + x))]) = _
    rw [hk, ew]) ?_
  have elG : ∀ i : Nat, i < days w (.sl none 0 p) → el (.sl none 0 (R.modify k.toNat fun e => layG e 0 [.n ((DV.sl none 0 R).at k 0 + x)])) i = if i = k.toNat then el (.sl none 0 R) i + x else el (.sl none 0 R) i := fun i hi => by
    rw [el_more hRs (v := (DV.sl none 0 R).at k 0 + x) (by rw [clampB_i64 (by omega) (by omega)]) (show i < R.length by omega)]
    by_cases c : i = k.toNat
    · rw [if_pos c, if_pos c]; unfold el; rw [show (i : Int) = k by omega]
    · rw [if_neg c, if_neg c]
  have lG : (DV.sl none 0 (R.modify k.toNat fun e => layG e 0 [.n ((DV.sl none 0 R).at k 0 + x)])).len = days w (.sl none 0 p) := by
    show clampL (R.modify k.toNat _).length = _
    rw [List.length_modify, clampL_eq hRl]; omega
  generalize (R.modify k.toNat fun e => layG e 0 [DV.n ((DV.sl none 0 R).at k 0 + x)]) = G at *
  refine res_con rfl trivial (fun u hu e3 _ _ h4 => ?_)
  clear hu
  have h4 : [DV.sl none 0 u, .n e3] = RepF (WO.mk f r d (.sl none 0 K)) (.sl none 0 p) (.sl none 0 G) := h4
  rw [hw] at h4
  have h4 := rep_in hc h4
  have hGk := elG k.toNat (by omega)
  rw [if_pos rfl] at hGk
  unfold el at hGk
  rw [ek] at hGk
  refine res_ite (fun y => ?_) fun y => ?_
  · have y : ¬ e3 = 0 := y
    obtain ⟨_, _, hbad⟩ := h4.resolve_right fun z => y z.1
    refine res_ite (fun _ => rfl) fun z => ?_
    have z : ¬ 1073741824 < (DV.sl none 0 G).at (Int.tmod m (DV.sl none 0 R).len) 0 := z
    rw [hk, hGk] at z
    refine absurd (fun i hi => ?_) (hbad.resolve_left fun q => q lG)
    rw [elG i (by omega)]
    have := hlit i (by omega)
    by_cases c : i = k.toNat
    · rw [if_pos c]; unfold el at *; rw [show (i : Int) = k by omega] at *; omega
    · rw [if_neg c]; exact this
  have y : ¬ ¬ e3 = 0 := y
  obtain ⟨_, hu, _, hlitG⟩ := h4.resolve_left fun z => y z.1
  rw [show (DV.sl none 0 G).len.toNat = days w (.sl none 0 p) by omega] at hlitG
  have lu : (DV.sl none 0 u).len = days w (.sl none 0 p) := by rw [hu]; exact gLen _ (by omega)
  refine res_ite (fun z => ?_) fun _ => ?_
  · have z : ¬ (DV.sl none 0 u).len = (DV.sl none 0 b).len := z
    omega
  refine res_lop rfl (show (0 : Int) ≤ (DV.sl none 0 u).len by omega) (fun t tt0 tt1 hT => ?_)
  have hT : t ≤ (DV.sl none 0 u).len := hT
  refine res_ite (fun hlt => ?_) fun _ => rfl
  have hlt : t < (DV.sl none 0 u).len := hlt
  have et : ((t.toNat : Nat) : Int) = t := by omega
  have bu := rp_bound hv hlitG t.toNat (by omega)
  have bb := rp_bound hv hlit t.toNat (by omega)
  have au := gAt (rpF w (.sl none 0 p) (.sl none 0 G)) (n := days w (.sl none 0 p)) (k := t.toNat) (by omega) (by omega) (by omega)
  have ab := gAt (rpF w (.sl none 0 p) (.sl none 0 R)) (n := days w (.sl none 0 p)) (k := t.toNat) (by omega) (by omega) (by omega)
  rw [← hu, et] at au
  rw [← hb, et] at ab
  have hmore := sum_more (R := .sl none 0 R) (R' := .sl none 0 G) (k := k.toNat) (m := x) (n := days w (.sl none 0 p)) elG (t.toNat + 1) (by omega)
  have rel : rpF w (.sl none 0 p) (.sl none 0 G) t.toNat = max 0 (untF w (.sl none 0 p) t.toNat - (sumN (el (.sl none 0 R)) (t.toNat + 1) + if k.toNat < t.toNat + 1 then x else 0)) := by unfold rpF; rw [hmore]
  have relb : rpF w (.sl none 0 p) (.sl none 0 R) t.toNat = max 0 (untF w (.sl none 0 p) t.toNat - sumN (el (.sl none 0 R)) (t.toNat + 1)) := rfl
  have mea : ((DV.sl none 0 u).len - (t + 1)).toNat < ((DV.sl none 0 u).len - t).toNat := by omega
  refine res_ite (fun _ => ?_) fun z => absurd (show 0 ≤ (DV.sl none 0 u).at t 0 by omega) z
  refine res_ok (show 0 ≤ t ∧ t < (DV.sl none 0 b).len by omega) ?_
  refine res_ite (fun z => ?_) fun _ => res_chk rfl (show t + 1 ≤ (DV.sl none 0 u).len by omega) mea
  have z : ((DV.sl none 0 b).at t 0 < (DV.sl none 0 u).at t 0 ∨ x < (DV.sl none 0 b).at t 0 - (DV.sl none 0 u).at t 0) ∨ t < Int.tmod m (DV.sl none 0 R).len ∧ ¬ (DV.sl none 0 u).at t 0 = (DV.sl none 0 b).at t 0 := z
  rw [hk, au, ab, rel, relb] at z
  by_cases c : k.toNat < t.toNat + 1
  · rw [if_pos c] at z; omega
  · rw [if_neg c] at z; omega
end Go.Proofs.Ytcidomlhmdefaaa
