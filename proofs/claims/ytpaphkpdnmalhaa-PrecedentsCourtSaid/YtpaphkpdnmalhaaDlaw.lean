/- DERIVED. The laws of both sides, walked. -/
import Derived.Test.YtpaphkpdnmalhaaDsane
import Derived.Test.YtpaphkpdnmalhaaDtreee
namespace Go.Proofs.Ytpaphkpdnmalhaa
open Go.Dx Go.RowKit
set_option linter.unusedVariables false
set_option linter.unusedSimpArgs false
set_option maxHeartbeats 8000000 in
set_option maxRecDepth 100000 in
theorem PrecedentsSpec_any (v0 : Value) (w : World) (hG : Glb tb w) (g0 : BookA w v0) :
    Calls Try.prog 3 #[v0] w fun e w' => e = .returned (.bool true) ∧ Below w.heap.size w w' := by
  obtain ⟨S, C, c0, rfl, h0⟩ := g0
  refine law_of_walk (tb := tb) (P := Try.prog) fine (C := [lawCon 9 [], lFew 3, cClash 11, cClash 12, cChk 13, cChk 14]) (conCons cSane_ok (lopCons rfl (conCons cClash_ok (conCons cClashR_ok (conCons cChk_ok (conCons cChkR_ok noCon)))))) 200 3 [.agg book] rfl (w := w) hG
    (xs := [.sl none 0 S, .sl none 0 C]) ?_ ?_
  · exact ⟨_, [], c0, rfl, rfl, h0, by simp [ArgsV]⟩
  clear h0
  rw [tree_lspec]
  refine res_con rfl trivial (fun z z0 z1 hz => ?_)
  obtain rfl := n_inj (show [DV.n z] = [DV.n 1] from hz)
  refine res_ite (fun h => absurd (show (1 : Int) = 0 from h) (by decide)) fun _ => res_ite (fun _ => rfl) fun _ => ?_
  have l0 := len_nn (.sl none 0 C)
  refine res_lop rfl (show (0 : Int) ≤ (DV.sl none 0 C).len from l0) (fun i i0 i1 hI => ?_)
  have hI : i ≤ (DV.sl none 0 C).len := hI
  refine res_ite (fun hlt => ?_) fun _ => ?_
  · have hlt : i < (DV.sl none 0 C).len := hlt
    refine res_ite (fun _ => rfl) fun _ => ?_
    exact res_chk rfl (show i + 1 ≤ (DV.sl none 0 C).len by omega) (show ((DV.sl none 0 C).len - (i + 1)).toNat < ((DV.sl none 0 C).len - i).toNat by omega)
  refine res_con rfl trivial (fun a1 _ _ a2 _ _ a3 _ _ a4 _ _ ha => ?_)
  have ha : [DV.n a1, .n a2, .n a3, .n a4] = ClashF (.sl none 0 S) (.sl none 0 C) := ha
  refine res_con rfl trivial (fun b1 _ _ b2 _ _ b3 _ _ b4 _ _ hb => ?_)
  have hb : [DV.n b1, .n b2, .n b3, .n b4] = ClashF (.sl none 0 S) (.sl none 0 C) := hb
  refine res_con rfl trivial (fun c _ _ hc => ?_)
  have hc : c = chkF (.sl none 0 S) (.sl none 0 C) := n_inj hc
  refine res_con rfl trivial (fun d _ _ hd => ?_)
  have hd : d = chkF (.sl none 0 S) (.sl none 0 C) := n_inj hd
  have e := ha.trans hb.symm
  simp only [List.cons.injEq, DV.n.injEq, and_true] at e
  obtain ⟨e1, e2, e3, e4⟩ := e
  refine res_ite (fun _ => rfl) fun y => absurd (?_ : (((c = d ∧ a1 = b1) ∧ a2 = b2) ∧ ((¬ a3 = 0 ∧ ¬ b3 = 0) ∨ (a3 = 0 ∧ b3 = 0))) ∧ a4 = b4) y
  refine ⟨⟨⟨⟨hc.trans hd.symm, e1⟩, e2⟩, ?_⟩, e4⟩
  rw [e3]
  by_cases q : b3 = 0
  · exact Or.inr ⟨q, q⟩
  · exact Or.inl ⟨q, q⟩
theorem i64_arg {a : Int} (h : (Go.Lit.int .i64 a).wf = true) : -9223372036854775808 ≤ a ∧ a ≤ 9223372036854775807 := by
  simp [Go.Lit.wf, IntKind.min, IntKind.max, IntKind.signed, IntKind.bits] at h
  exact ⟨by omega, by omega⟩
theorem bool_same {a b : Int} (h : a = b) : (¬ a = 0 ∧ ¬ b = 0) ∨ (a = 0 ∧ b = 0) := by
  subst h
  by_cases q : a = 0
  · exact Or.inr ⟨q, q⟩
  · exact Or.inl ⟨q, q⟩
set_option maxHeartbeats 8000000 in
set_option maxRecDepth 100000 in
theorem PrecedentsBindsSpec_any (v0 v1 v2 : Value) (a b : Int) (w : World) (hG : Glb tb w) (g0 : BookA w v0) (g1 : ∃ d, cellA w ints (.sl none 0 d) v1) (g2 : ∃ d, cellA w ints (.sl none 0 d) v2) (ha : -9223372036854775808 ≤ a ∧ a ≤ 9223372036854775807) (hb : -9223372036854775808 ≤ b ∧ b ≤ 9223372036854775807) :
    Calls Try.prog 4 #[v0, v1, v2, .int .i64 a, .int .i64 b] w fun e w' => e = .returned (.bool true) ∧ Below w.heap.size w w' := by
  obtain ⟨S, C, c0, rfl, h0⟩ := g0
  obtain ⟨f, h1⟩ := g1
  obtain ⟨g, h2⟩ := g2
  have ca := cell_int (w := w) ha
  have cb := cell_int (w := w) hb
  refine law_of_walk (tb := tb) (P := Try.prog) fine (C := [lawCon 9 [], lFew 7, cBinds 15, cBinds 16, cMay 17, cMay 18, cDis 19, cDis 20, cSame 21]) (conCons cSane_ok (lopCons rfl (conCons cBinds_ok (conCons cBindsR_ok (conCons cMay_ok (conCons cMayR_ok (conCons cDis_ok (conCons cDisR_ok (conCons cSame_ok noCon))))))))) 300 4 [.agg book, .c ints, .c ints, aI, aI] rfl (w := w) hG
    (xs := [.sl none 0 S, .sl none 0 C, .sl none 0 f, .sl none 0 g, .n a, .n b]) ?_ ?_
  · exact ⟨_, [.sl none 0 f, .sl none 0 g, .n a, .n b], c0, rfl, rfl, h0, h1, h2, ca, cb, by simp [ArgsV]⟩
  clear h0 h1 h2 ca cb
  rw [tree_lbinds]
  refine res_con rfl trivial (fun z z0 z1 hz => ?_)
  obtain rfl := n_inj (show [DV.n z] = [DV.n 1] from hz)
  refine res_ite (fun h => absurd (show (1 : Int) = 0 from h) (by decide)) fun _ => res_ite (fun _ => rfl) fun _ => ?_
  have l0 := len_nn (.sl none 0 C)
  refine res_lop rfl (show (0 : Int) ≤ (DV.sl none 0 C).len from l0) (fun i i0 i1 hI => ?_)
  have hI : i ≤ (DV.sl none 0 C).len := hI
  refine res_ite (fun hlt => ?_) fun _ => ?_
  · have hlt : i < (DV.sl none 0 C).len := hlt
    refine res_ite (fun _ => rfl) fun _ => ?_
    exact res_chk rfl (show i + 1 ≤ (DV.sl none 0 C).len by omega) (show ((DV.sl none 0 C).len - (i + 1)).toNat < ((DV.sl none 0 C).len - i).toNat by omega)
  refine res_ite (fun _ => rfl) fun _ => ?_
  refine res_con rfl trivial (fun a1 _ _ a2 _ _ a3 _ _ h1 => ?_)
  have h1 : [DV.n a1, .n a2, .n a3] = BindsF (.sl none 0 S) (.sl none 0 C) (.sl none 0 f) a := h1
  refine res_con rfl trivial (fun b1 _ _ b2 _ _ b3 _ _ h2 => ?_)
  have h2 : [DV.n b1, .n b2, .n b3] = BindsF (.sl none 0 S) (.sl none 0 C) (.sl none 0 f) a := h2
  refine res_con rfl trivial (fun c1 _ _ c2 _ _ c3 _ _ h3 => ?_)
  have h3 : [DV.n c1, .n c2, .n c3] = MayF (.sl none 0 S) (.sl none 0 C) (.sl none 0 f) (.sl none 0 g) a := h3
  refine res_con rfl trivial (fun d1 _ _ d2 _ _ d3 _ _ h4 => ?_)
  have h4 : [DV.n d1, .n d2, .n d3] = MayF (.sl none 0 S) (.sl none 0 C) (.sl none 0 f) (.sl none 0 g) a := h4
  refine res_con rfl trivial (fun x hx x2 _ _ x3 _ _ h5 => ?_)
  have h5 : [DV.sl none 0 x, .n x2, .n x3] = DisF (.sl none 0 S) (.sl none 0 C) b (.sl none 0 f) := h5
  refine res_con rfl trivial (fun y hy y2 _ _ y3 _ _ h6 => ?_)
  have h6 : [DV.sl none 0 y, .n y2, .n y3] = DisF (.sl none 0 S) (.sl none 0 C) b (.sl none 0 f) := h6
  clear hx hy
  have e := h1.trans h2.symm
  have e' := h3.trans h4.symm
  have e'' := h5.trans h6.symm
  simp only [List.cons.injEq, DV.n.injEq, DV.sl.injEq, true_and, and_true] at e e' e''
  obtain ⟨e1, e2, e3⟩ := e
  obtain ⟨f1, f2, f3⟩ := e'
  obtain ⟨k1, k2, k3⟩ := e''
  refine res_ite (fun _ => ?_) fun y => absurd (?_ : ((((a1 = b1 ∧ ((¬ a2 = 0 ∧ ¬ b2 = 0) ∨ (a2 = 0 ∧ b2 = 0))) ∧ a3 = b3) ∧ c1 = d1) ∧ ((¬ c2 = 0 ∧ ¬ d2 = 0) ∨ (c2 = 0 ∧ d2 = 0))) ∧ c3 = d3) y
  · refine res_con rfl trivial (fun s _ _ hs => ?_)
    have hs := yn_in (c := sameP (.sl none 0 x) (.sl none 0 y)) (show [DV.n s] = _ from hs)
    have hs := (hs.resolve_right fun v => v.2 (by rw [k1]; exact ⟨rfl, fun _ _ => rfl⟩)).1
    exact res_ite (fun _ => rfl) fun y => absurd (show (¬ s = 0 ∧ ((¬ x2 = 0 ∧ ¬ y2 = 0) ∨ (x2 = 0 ∧ y2 = 0))) ∧ x3 = y3 from ⟨⟨hs, bool_same k2⟩, k3⟩) y
  · exact ⟨⟨⟨⟨⟨e1, bool_same e2⟩, e3⟩, f1⟩, bool_same f2⟩, f3⟩
end Go.Proofs.Ytpaphkpdnmalhaa
