/- DERIVED. The laws on sets, walked. -/
import Derived.Test.YtdffnmhpkapbkaaDoorElen
import Derived.Test.YtdffnmhpkapbkaaDoorEtreej
import Derived.Test.YtdffnmhpkapbkaaDoorEtreek
import Derived.Test.YtdffnmhpkapbkaaDoorEtreel8
namespace Go.Proofs.YtdffnmhpkapbkaaDoor
open Go.Dx
set_option linter.unusedVariables false
theorem res_adr {C : List Con} {post : List DV → Prop} {x : E} {k : T (List E)} {r : List DV} (h : ∀ a cap, T.res C post k (r ++ [.sl none 0 [[.sl a cap (x.dat r).els]]])) : T.res C post (.adr x k) r := h
theorem yn_one {p : Prop} {x : Int} (h : [DV.n x] = yn p) (hp : p) : x = 1 := (yn_in h).elim (fun z => z.1) fun z => absurd hp z.2
theorem cmb (o : Int) {x y z : DV} {e : Int} (h : (fun xs y => CombP o (dv xs 0) (dv xs 1) y) [x, y] [z, .n e]) : CombP o x y [z, .n e] := h
set_option maxRecDepth 100000 in
theorem walk_sets (a b : List (List DV)) : (runC tb [lawCon 9 [], cUni 23 1, cUni 24 1, cUni 25 2, cUni 26 2, cUni 27 3, cUni 28 3, cSam 29] 80 (lawCon 5 [.c spans, .c spans])).res [lawCon 9 [], cUni 23 1, cUni 24 1, cUni 25 2, cUni 26 2, cUni 27 3, cUni 28 3, cSam 29] (fun ys => ys = [.n 1]) [dl a, dl b] := by
  rw [tree_lsets]
  refine res_con rfl trivial (fun z _ _ hz => ?_)
  obtain rfl : z = 1 := by
    have hz : [DV.n z] = [.n 1] := hz
    simpa using hz
  refine res_ite (fun h => absurd (show (1 : Int) = 0 from h) (by decide)) fun _ => ?_
  refine res_ite (fun _ => rfl) fun _ => ?_
  refine res_con rfl trivial (fun u _ e1 _ _ h1 => ?_)
  refine res_con rfl trivial (fun x _ e2 _ _ h2 => ?_)
  refine res_con rfl trivial (fun m _ e3 _ _ h3 => ?_)
  refine res_con rfl trivial (fun y _ e4 _ _ h4 => ?_)
  refine res_con rfl trivial (fun w _ e5 _ _ h5 => ?_)
  refine res_con rfl trivial (fun v _ e6 _ _ h6 => ?_)
  obtain ⟨q1, rfl⟩ := comb_one (o := 1) (a := a) (b := b) (L := u) (M := x) h1 h2
  obtain ⟨q2, rfl⟩ := comb_one (o := 2) (a := a) (b := b) (L := m) (M := y) h3 h4
  obtain ⟨q3, rfl⟩ := comb_one (o := 3) (a := a) (b := b) (L := w) (M := v) h5 h6
  clear h1 h2 h3 h4 h5 h6
  refine res_con rfl trivial (fun s _ _ hs => ?_)
  obtain rfl : s = 1 := yn_one (p := spn (dl u) = spn (dl x)) hs q1
  refine res_ite (fun _ => ?_) fun h => absurd (cvh (b := ¬ (¬ (1 : Int) = 0 ∧ e1 = e1)) (by kernel_rfl) h) (fun k => k ⟨by decide, rfl⟩)
  refine res_con rfl trivial (fun s _ _ hs => ?_)
  obtain rfl : s = 1 := yn_one (p := spn (dl m) = spn (dl y)) hs q2
  refine res_ite (fun _ => ?_) fun h => absurd (cvh (b := ¬ (¬ (1 : Int) = 0 ∧ e3 = e3)) (by kernel_rfl) h) (fun k => k ⟨by decide, rfl⟩)
  refine res_con rfl trivial (fun s _ _ hs => ?_)
  obtain rfl : s = 1 := yn_one (p := spn (dl w) = spn (dl v)) hs q3
  refine res_ite (fun _ => ?_) fun h => absurd (cvh (b := ¬ (¬ (1 : Int) = 0 ∧ e5 = e5)) (by kernel_rfl) h) (fun k => k ⟨by decide, rfl⟩)
  exact rfl
end Go.Proofs.YtdffnmhpkapbkaaDoor
