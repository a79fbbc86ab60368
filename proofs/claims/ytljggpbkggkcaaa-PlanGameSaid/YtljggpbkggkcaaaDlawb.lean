/- DERIVED. The law of firm demands, walked. -/
import Derived.Test.YtljggpbkggkcaaaDctj
import Derived.Test.YtljggpbkggkcaaaDlaw
import Derived.Test.YtljggpbkggkcaaaDtreep
namespace Go.Proofs.Ytljggpbkggkcaaa
open Go.Dx Go.RowKit
set_option linter.unusedVariables false
set_option linter.unusedSimpArgs false
theorem PlanFirmSpec_any (v0 v1 : Value) (w : World) (hG : Glb tb w) (g0 : CourseA w v0) (g1 : ∃ d, cellA w ints (.sl none 0 d) v1) :
    Calls Try.prog 5 #[v0, v1] w fun e w' => e = .returned (.bool true) ∧ Below w.heap.size w w' := by
  obtain ⟨cap, st, fl, P, c0, rfl, h0⟩ := g0
  obtain ⟨S, h1⟩ := g1
  refine law_of_walk (tb := tb) (P := Try.prog) fine (C := [lawCon 11 [], cFirm 23, cFirm 24]) (conCons cSane_ok (conCons cFirm_ok (conCons cFirmR_ok noCon))) 80 5 [.agg course, .c ints] rfl (w := w) hG
    (xs := [.n cap, .n st, .n fl, .sl none 0 P, .sl none 0 S]) ?_ ?_
  · exact ⟨_, [.sl none 0 S], c0, rfl, rfl, h0, h1, by simp [ArgsV]⟩
  · clear h0 h1
    rw [tree_lfirm]
    refine res_con rfl trivial (fun z z0 z1 hz => ?_)
    obtain rfl := n_inj (show [DV.n z] = [DV.n 1] from hz)
    refine res_ite (fun h => absurd (show (1 : Int) = 0 from h) (by decide)) fun _ => res_ite (fun _ => rfl) fun _ => ?_
    refine res_con rfl trivial (fun a1 _ _ a2 _ _ a3 _ _ ha => res_con rfl trivial (fun b1 _ _ b2 _ _ b3 _ _ hb => ?_))
    have ha : [DV.n a1, .n a2, .n a3] = FirmF ⟨cap, st, fl, .sl none 0 P⟩ (.sl none 0 S) := ha
    have hb : [DV.n b1, .n b2, .n b3] = FirmF ⟨cap, st, fl, .sl none 0 P⟩ (.sl none 0 S) := hb
    have e1 := ha.trans hb.symm
    simp only [List.cons.injEq, DV.n.injEq, and_true] at e1
    obtain ⟨rfl, rfl, rfl⟩ := e1
    refine res_ite (fun _ => rfl) (fun h => absurd ?_ h)
    simp only [B.prop, E.den, List.cons_append, List.nil_append, List.getD_cons_zero, List.getD_cons_succ, and_self]
    exact ⟨⟨trivial, (Classical.em _).symm⟩, trivial⟩
end Go.Proofs.Ytljggpbkggkcaaa
