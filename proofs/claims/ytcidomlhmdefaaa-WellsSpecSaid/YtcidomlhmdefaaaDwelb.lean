/- DERIVED. WellsSpec and WellsAll, for any arguments. -/
import Derived.Test.YtcidomlhmdefaaaDwela
namespace Go.Proofs.Ytcidomlhmdefaaa
open Go.Dx Go.RowKit
set_option linter.unusedVariables false
def DistA (w : World) (v : Value) : Prop := ∃ (nm : ByteArray) (H ca st : Int) (R F C G U W : List (List DV)) (cs : List Value), v = .agg cs.toArray ∧ cellsA w distS [.s nm, .n H, .n ca, .n st, .sl none 0 R, .sl none 0 F, .sl none 0 C, .sl none 0 G, .sl none 0 U, .sl none 0 W] cs
theorem cells_sh {w : World} : ∀ {l : List Sh} {xs : List DV} {vs : List Value}, cellsA w l xs vs → HasShs l xs
  | [], [], [], _ => by simp only [HasShs]
  | s :: l, x :: xs, v :: vs, h => by
    simp only [cellsA] at h
    simp only [HasShs]
    exact ⟨h.1.1, cells_sh h.2⟩
  | [], _ :: _, _, h => by simp only [cellsA] at h
  | [], [], _ :: _, h => by simp only [cellsA] at h
  | _ :: _, [], _, h => by simp only [cellsA] at h
  | _ :: _, _ :: _, [], h => by simp only [cellsA] at h
theorem shs_tenth {a b c d e f g h i j : Sh} {x0 x1 x2 x3 x4 x5 x6 x7 x8 x9 : DV} (k : HasShs [a, b, c, d, e, f, g, h, i, j] [x0, x1, x2, x3, x4, x5, x6, x7, x8, x9]) : HasSh j x9 := by
  simp only [HasShs] at k
  exact k.2.2.2.2.2.2.2.2.2.1
theorem list10 {α : Type} : ∀ {l : List α}, l.length = 10 → ∃ a b c d e f g h i j, l = [a, b, c, d, e, f, g, h, i, j]
  | [a, b, c, d, e, f, g, h, i, j], _ => ⟨a, b, c, d, e, f, g, h, i, j, rfl⟩
set_option maxRecDepth 100000 in
theorem dist_arg {H : Type} {enc : TypeId × Value → H} {w : World} {base : Nat} {spare : Nat → Bool} {held : Bool} {r : Reach} {b0 : Nat} {v : Value} {d : DataW H} {p : List MemPlace}
    (hv : Value.okWide Try.prog w r b0 31 v) (h : DataW.Trod enc Try.prog w base spare held 31 v d p) : DistA w v := by
  obtain ⟨ds, rfl, hs, hl⟩ := open_agg_arg (P := Try.prog) (tb := tb) (f := 20) (row := distS) (by kernel_rfl) Try.underlying31 hv h
  have k := agg_cells hs hl
  obtain ⟨x0, x1, x2, x3, x4, x5, x6, x7, x8, x9, e⟩ := list10 (shs_len hs)
  clear hs hl
  subst e
  simp only [tidies, DV.tidy] at k
  exact ⟨_, _, _, _, _, _, _, _, _, _, _, rfl, k⟩
set_option maxRecDepth 100000 in
theorem WellsSpec_any (v0 : Value) (w : World) (hG : Glb tb w) (g0 : DistA w v0) :
    Calls Try.prog 3 #[v0] w fun e w' => e = .returned (.bool true) ∧ Below w.heap.size w w' := by
  obtain ⟨nm, H, ca, st, R, F, C, G, U, W, cs, rfl, h0⟩ := g0
  refine law_of_walk (tb := tb) (P := Try.prog) fine (C := [lawCon 10 [], cFewW 11, cWel 12, cWel 13]) (conCons cSane_ok (conCons cFewW_ok (conCons cWel_ok (conCons cWelR_ok noCon)))) 80 3 [.agg distS] rfl (w := w) hG
    (xs := [.s nm, .n H, .n ca, .n st, dl R, dl F, dl C, dl G, dl U, dl W]) ?_ (walk_wsp nm H ca st R F C G U W)
  exact ⟨_, [], cs, rfl, rfl, h0, by simp [ArgsV]⟩
set_option maxRecDepth 100000 in
theorem WellsAll_any (v0 v1 : Value) (w : World) (hG : Glb tb w) (g0 : DistA w v0) (g1 : ∃ d, cellA w (slS u32s) (.sl none 0 d) v1) :
    Calls Try.prog 9 #[v0, v1] w fun e w' => e = .returned (.bool true) ∧ Below w.heap.size w w' := by
  obtain ⟨nm, H, ca, st, R, F, C, G, U, W, cs, rfl, h0⟩ := g0
  obtain ⟨P, h1⟩ := g1
  have hW : HasSh (slS well) (dl W) := shs_tenth (cells_sh h0)
  refine law_of_walk (tb := tb) (P := Try.prog) fine (C := [lawCon 10 [], cFewW 11, cWel 12, cDis 21, lLit9, cOwe 15, lWls9]) (conCons cSane_ok (conCons cFewW_ok (conCons cWel_ok (conCons cDis_ok (lopCons rfl (conCons cOwe_ok (lopCons rfl noCon))))))) 80 9 [.agg distS, .c (slS u32s)] rfl (w := w) hG
    (xs := [.s nm, .n H, .n ca, .n st, dl R, dl F, dl C, dl G, dl U, dl W, dl P]) ?_ (walk_all nm H ca st R F C G U W P hW h1.1)
  exact ⟨_, [.sl none 0 P], cs, rfl, rfl, h0, h1, by simp [ArgsV]⟩
end Go.Proofs.Ytcidomlhmdefaaa
