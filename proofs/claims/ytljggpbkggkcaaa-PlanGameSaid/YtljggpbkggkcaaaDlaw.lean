/- DERIVED. Laws of plans, walked. -/
import Derived.Test.YtljggpbkggkcaaaDsane
import Derived.Test.YtljggpbkggkcaaaDtreel
namespace Go.Proofs.Ytljggpbkggkcaaa
open Go.Dx Go.RowKit
set_option linter.unusedVariables false
set_option linter.unusedSimpArgs false
theorem rob_two {c : CO} {s t : Int} {L M : List (List DV)} (h : [DV.sl none 0 L, .n s] = RobustF c) (k : [DV.sl none 0 M, .n t] = RobustF c) : M = L ∧ t = s := by
  have e := k.trans h.symm
  simp only [List.cons.injEq, DV.sl.injEq, DV.n.injEq, true_and, and_true] at e
  exact e
theorem PlanSpec_any (v0 : Value) (w : World) (hG : Glb tb w) (g0 : CourseA w v0) :
    Calls Try.prog 3 #[v0] w fun e w' => e = .returned (.bool true) ∧ Below w.heap.size w w' := by
  obtain ⟨cap, st, fl, P, c0, rfl, h0⟩ := g0
  refine law_of_walk (tb := tb) (P := Try.prog) fine (C := [lawCon 11 [], cRobust 12, cRobust 13, cChk 14, cChk 15, lSame 11 5]) (conCons cSane_ok (conCons cRobust_ok (conCons cRobustR_ok (conCons cChk_ok (conCons cChkR_ok (lopCons rfl noCon)))))) 80 3 [.agg course] rfl (w := w) hG
    (xs := [.n cap, .n st, .n fl, .sl none 0 P]) ?_ ?_
  · exact ⟨_, [], c0, rfl, rfl, h0, by simp [ArgsV]⟩
  · clear h0
    rw [tree_lspec]
    refine res_con rfl trivial (fun z z0 z1 hz => ?_)
    obtain rfl := n_inj (show [DV.n z] = [DV.n 1] from hz)
    refine res_ite (fun h => absurd (show (1 : Int) = 0 from h) (by decide)) fun _ => ?_
    refine res_con rfl trivial (fun L hL e1 _ _ h1 => res_con rfl trivial (fun M hM e2 _ _ h2 => ?_))
    clear hL hM
    have h1 : [DV.sl none 0 L, .n e1] = RobustF ⟨cap, st, fl, .sl none 0 P⟩ := h1
    have h2 : [DV.sl none 0 M, .n e2] = RobustF ⟨cap, st, fl, .sl none 0 P⟩ := h2
    obtain ⟨rfl, rfl⟩ := rob_two h1 h2
    refine res_con rfl trivial (fun a1 _ _ k1 => res_con rfl trivial (fun a2 _ _ k2 => ?_))
    have k1 : [DV.n a1] = [DV.n (chkF ⟨cap, st, fl, .sl none 0 P⟩)] := k1
    have k2 : [DV.n a2] = [DV.n (chkF ⟨cap, st, fl, .sl none 0 P⟩)] := k2
    obtain rfl := n_inj (k1.trans k2.symm)
    refine res_ite (fun _ => ?_) (fun h => absurd rfl h)
    refine res_ite (fun h => absurd rfl h) fun _ => ?_
    have lM := len_nn (.sl none 0 M)
    refine res_lop rfl (show (0 : Int) ≤ (DV.sl none 0 M).len from lM) (fun i i0 i1 hI => ?_)
    have hI : i ≤ (DV.sl none 0 M).len := hI
    refine res_ite (fun hlt => ?_) fun _ => ?_
    · have hlt : i < (DV.sl none 0 M).len := hlt
      refine res_ok ⟨i0, hlt⟩ (res_ite (fun h => absurd ⟨rfl, rfl⟩ h) fun _ => res_chk rfl ?_ ?_)
      · show i + 1 ≤ (DV.sl none 0 M).len
        omega
      · show ((DV.sl none 0 M).len - (i + 1)).toNat < ((DV.sl none 0 M).len - i).toNat
        omega
    · exact res_ite (fun _ => rfl) (fun h => absurd rfl h)
theorem PlanStepSpec_any (v0 v1 v2 v3 v4 : Value) (w : World) (hG : Glb tb w) (g0 : CourseA w v0) (g1 : IntA v1) (g2 : IntA v2) (g3 : IntA v3) (g4 : IntA v4) :
    Calls Try.prog 4 #[v0, v1, v2, v3, v4] w fun e w' => e = .returned (.bool true) ∧ Below w.heap.size w w' := by
  obtain ⟨cap, st, fl, P, c0, rfl, h0⟩ := g0
  obtain ⟨t, rfl, ht⟩ := g1
  obtain ⟨s, rfl, hs⟩ := g2
  obtain ⟨o, rfl, ho⟩ := g3
  obtain ⟨i, rfl, hi⟩ := g4
  refine law_of_walk (tb := tb) (P := Try.prog) fine (C := [lawCon 11 [], cRel 17, cRel 18, cNext 19, cNext 20, cSpo 21, cSpo 22]) (conCons cSane_ok (conCons cRel_ok (conCons cRelR_ok (conCons cNext_ok (conCons cNextR_ok (conCons cSpo_ok (conCons cSpoR_ok noCon))))))) 80 4 [.agg course, aI, aI, aI, aI] rfl (w := w) hG
    (xs := [.n cap, .n st, .n fl, .sl none 0 P, .n t, .n s, .n o, .n i]) ?_ ?_
  · refine ⟨_, [.n t, .n s, .n o, .n i], c0, rfl, rfl, h0, ?_⟩
    exact ⟨cell_int ht, cell_int hs, cell_int ho, cell_int hi, by simp [ArgsV]⟩
  · clear h0
    rw [tree_lstep]
    clear ht hs ho hi
    refine res_con rfl trivial (fun z z0 z1 hz => ?_)
    obtain rfl := n_inj (show [DV.n z] = [DV.n 1] from hz)
    refine res_ite (fun h => absurd (show (1 : Int) = 0 from h) (by decide)) fun _ => ?_
    refine res_con rfl trivial (fun a1 _ _ a2 _ _ ha => res_con rfl trivial (fun b1 _ _ b2 _ _ hb => ?_))
    have ha : [DV.n a1, .n a2] = RelF ⟨cap, st, fl, .sl none 0 P⟩ t s := ha
    have hb : [DV.n b1, .n b2] = RelF ⟨cap, st, fl, .sl none 0 P⟩ t s := hb
    have e1 := ha.trans hb.symm
    simp only [List.cons.injEq, DV.n.injEq, and_true] at e1
    obtain ⟨rfl, rfl⟩ := e1
    refine res_con rfl trivial (fun c1 _ _ c2 _ _ c3 _ _ c4 _ _ hc => res_con rfl trivial (fun d1 _ _ d2 _ _ d3 _ _ d4 _ _ hd => ?_))
    have hc : [DV.n c1, .n c2, .n c3, .n c4] = NextF ⟨cap, st, fl, .sl none 0 P⟩ t s o i := hc
    have hd : [DV.n d1, .n d2, .n d3, .n d4] = NextF ⟨cap, st, fl, .sl none 0 P⟩ t s o i := hd
    have e2 := hc.trans hd.symm
    simp only [List.cons.injEq, DV.n.injEq, and_true] at e2
    obtain ⟨rfl, rfl, rfl, rfl⟩ := e2
    refine res_con rfl trivial (fun f1 _ _ f2 _ _ hf => res_con rfl trivial (fun g1 _ _ g2 _ _ hg => ?_))
    have hf : [DV.n f1, .n f2] = SpoF ⟨cap, st, fl, .sl none 0 P⟩ t s o := hf
    have hg : [DV.n g1, .n g2] = SpoF ⟨cap, st, fl, .sl none 0 P⟩ t s o := hg
    have e3 := hf.trans hg.symm
    simp only [List.cons.injEq, DV.n.injEq, and_true] at e3
    obtain ⟨rfl, rfl⟩ := e3
    refine res_ite (fun _ => rfl) (fun h => absurd ?_ h)
    simp only [B.prop, E.den, List.cons_append, List.nil_append, List.getD_cons_zero, List.getD_cons_succ, and_self, iff_self]
    exact ⟨⟨⟨⟨trivial, (Classical.em _).symm⟩, trivial⟩, trivial⟩, trivial⟩
end Go.Proofs.Ytljggpbkggkcaaa
