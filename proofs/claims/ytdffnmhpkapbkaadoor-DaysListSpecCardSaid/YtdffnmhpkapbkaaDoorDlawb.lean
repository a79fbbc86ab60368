/- DERIVED. DaysListSpec, walked. -/
import Derived.Test.YtdffnmhpkapbkaaDoorDsane
import Derived.Test.YtdffnmhpkapbkaaDoorDctc
import Derived.Test.YtdffnmhpkapbkaaDoorDtreec
namespace Go.Proofs.YtdffnmhpkapbkaaDoor
open Go.Dx Go.RowKit
set_option linter.unusedVariables false
set_option linter.unusedSimpArgs false
def SliceA (w : World) (s : Sh) (v : Value) : Prop := ∃ l, cellA w s (.sl none 0 l) v
theorem DaysListSpec_any (v0 v1 : Value) (w : World) (hG : Glb tb w) (g0 : SliceA w spans v0) (g1 : IntA v1) :
    Calls Tryd.prog 4 #[v0, v1] w fun e w' => e = .returned (.bool true) ∧ Below w.heap.size w w' := by
  obtain ⟨l, hl⟩ := g0
  obtain ⟨k, rfl, hk⟩ := g1
  refine law_of_walk (tb := tb) (P := Tryd.prog) fine (C := [lawCon 9 [], cCnt 17, cCnt 18, cNth 19, cNth 20, cChk 21, cChk 22]) (conCons cSane_ok (conCons cCnt_ok (conCons cCntR_ok (conCons cNth_ok (conCons cNthR_ok (conCons cChk_ok (conCons cChkR_ok noCon))))))) 80 4 [.c spans, .c i64s] rfl (w := w) hG (xs := [.sl none 0 l, .n k]) ?_ ?_
  · simp only [ArgsV]
    exact ⟨hl, cell_int hk, trivial⟩
  · clear hl
    rw [tree_llist]
    simp only [T.res, B.prop, E.den, E.dat, E.top, E.val, E.isD, DV.canon, DV.int, DOp.fn, chunk, List.getElem?_cons_zero, List.getElem?_cons_succ, List.getD_cons_zero, List.getD_cons_succ, List.getD_nil, List.map_cons, List.map_nil, List.cons_append, List.nil_append, allB, resB, resL', RSh.l, RC.vd, List.flatMap_cons, List.flatMap_nil, List.append_nil, List.length_cons, List.length_nil, Nat.zero_add, Nat.reduceAdd, List.take_succ_cons, List.take_zero, List.drop_succ_cons, List.drop_zero, ev, dv, lawCon, cCnt, cNth, cChk]
    refine ⟨trivial, fun z z0 z1 hz => ?_⟩
    obtain rfl := n_inj hz
    refine ⟨fun h => absurd h (by decide), fun _ => ⟨fun _ => trivial, fun _ => ⟨trivial, fun a1 _ _ a2 _ _ ha => ⟨trivial, fun b1 _ _ b2 _ _ hb => ⟨trivial, fun c1 _ _ c2 _ _ c3 _ _ hc => ⟨trivial, fun d1 _ _ d2 _ _ d3 _ _ hd => ⟨trivial, fun e1 _ _ he => ⟨trivial, fun f1 _ _ hf => ?_⟩⟩⟩⟩⟩⟩⟩⟩
    have x := cnt_one ha hb
    have y := nth_one hc hd
    have u := chk_one he hf
    simp only [List.cons.injEq, DV.n.injEq, and_true] at x y u
    obtain ⟨rfl, rfl⟩ := x
    obtain ⟨rfl, rfl, rfl⟩ := y
    obtain rfl := u
    exact ⟨fun _ => trivial, fun k => absurd ⟨⟨⟨⟨⟨rfl, rfl⟩, rfl⟩, rfl⟩, by omega⟩, rfl⟩ k⟩
end Go.Proofs.YtdffnmhpkapbkaaDoor
