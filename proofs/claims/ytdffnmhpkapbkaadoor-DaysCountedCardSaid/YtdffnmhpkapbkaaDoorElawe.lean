/- DERIVED. The laws on sets of days. -/
import Derived.Test.YtdffnmhpkapbkaaDoorEsanf
namespace Go.Proofs.YtdffnmhpkapbkaaDoor
open Go.Dx Go.RowKit
set_option linter.unusedVariables false
def SliceA (w : World) (s : Sh) (v : Value) : Prop := ∃ l, cellA w s (.sl none 0 l) v
theorem sh_of {w : World} {l : List (List DV)} {v : Value} (h : cellA w spans (.sl none 0 l) v) : (dl l).len = l.length := len_of h.1 (Nat.le_refl _)
theorem DaysSetsSpec_any (v0 v1 : Value) (w : World) (hG : Glb tb w) (g0 : SliceA w spans v0) (g1 : SliceA w spans v1) :
    Calls Tryd.prog 5 #[v0, v1] w fun e w' => e = .returned (.bool true) ∧ Below w.heap.size w w' := by
  obtain ⟨a, ha⟩ := g0
  obtain ⟨b, hb⟩ := g1
  refine law_of_walk (tb := tb) (P := Tryd.prog) fine (C := [lawCon 9 [], cUni 23 1, cUni 24 1, cUni 25 2, cUni 26 2, cUni 27 3, cUni 28 3, cSam 29]) (conCons cSane_ok (conCons cUni1_ok (conCons cUniR1_ok (conCons cUni2_ok (conCons cUniR2_ok (conCons cUni3_ok (conCons cUniR3_ok (conCons cSam_ok noCon)))))))) 80 5 [.c spans, .c spans] rfl (w := w) hG (xs := [dl a, dl b]) ?_ (walk_sets a b)
  simp only [ArgsV]
  exact ⟨ha, hb, trivial⟩
set_option maxRecDepth 100000 in
theorem DaysMembers_any (v0 v1 v2 : Value) (w : World) (hG : Glb tb w) (g0 : SliceA w spans v0) (g1 : SliceA w spans v1) (g2 : IntA v2) :
    Calls Tryd.prog 7 #[v0, v1, v2] w fun e w' => e = .returned (.bool true) ∧ Below w.heap.size w w' := by
  obtain ⟨a, ha⟩ := g0
  obtain ⟨b, hb⟩ := g1
  obtain ⟨d, rfl, hd⟩ := g2
  have la := sh_of ha
  have lb := sh_of hb
  refine law_of_walk (tb := tb) (P := Tryd.prog) fine (C := [lawCon 9 [], cChk 21, cUni 23 1, cUni 25 2, cUni 27 3, cHas 31, lAll, lAsk, cSam 29]) (conCons cSane_ok (conCons cChk_ok (conCons cUni1_ok (conCons cUni2_ok (conCons cUni3_ok (conCons cHasL_ok (lopCons rfl (lopCons rfl (conCons cSam_ok noCon))))))))) 80 7 [.c spans, .c spans, .c i64s] rfl (w := w) hG (xs := [dl a, dl b, .n d]) ?_ (walk_mem a b d la lb)
  simp only [ArgsV]
  exact ⟨ha, hb, cell_int hd, trivial⟩
set_option maxRecDepth 100000 in
theorem DaysCounted_any (v0 v1 v2 : Value) (w : World) (hG : Glb tb w) (g0 : SliceA w spans v0) (g1 : SliceA w spans v1) (g2 : IntA v2) :
    Calls Tryd.prog 8 #[v0, v1, v2] w fun e w' => e = .returned (.bool true) ∧ Below w.heap.size w w' := by
  obtain ⟨a, ha⟩ := g0
  obtain ⟨b, hb⟩ := g1
  obtain ⟨d, rfl, hd⟩ := g2
  have la := sh_of ha
  have lb := sh_of hb
  refine law_of_walk (tb := tb) (P := Tryd.prog) fine (C := [lawCon 9 [], cChk 21, cUni 23 1, cUni 25 2, cUni 27 3, cHas 31, cCnt 17, cNth 19]) (conCons cSane_ok (conCons cChk_ok (conCons cUni1_ok (conCons cUni2_ok (conCons cUni3_ok (conCons cHasL_ok (conCons cCnt_ok (conCons cNth_ok noCon)))))))) 80 8 [.c spans, .c spans, .c i64s] rfl (w := w) hG (xs := [dl a, dl b, .n d]) ?_ (walk_cnt a b d hd la lb)
  simp only [ArgsV]
  exact ⟨ha, hb, cell_int hd, trivial⟩
end Go.Proofs.YtdffnmhpkapbkaaDoor
