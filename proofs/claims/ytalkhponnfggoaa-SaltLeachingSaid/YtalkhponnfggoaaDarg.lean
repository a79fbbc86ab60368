/- DERIVED. Arguments of laws, opened; what sane answers. -/
import Derived.Test.YtalkhponnfggoaaDmixb
import Derived.Test.YtalkhponnfggoaaDtsane
import Derived.OpenShut
namespace Go.Proofs.Ytalkhponnfggoaa
open Go.Dx Go.RowKit Go.WideShapes Go.ChangeShapes
set_option linter.unusedVariables false
set_option linter.unusedSimpArgs false
def plainRow : List Sh → Bool
  | [] => true
  | .int _ _ _ :: l => plainRow l
  | .bool :: l => plainRow l
  | _ => false
theorem cellsA_plain {w : World} : ∀ {row : List Sh} {ds : List DV}, plainRow row = true → HasShs row ds → cellsA w row ds (rowV row ds)
  | [], [], _, _ => by simp only [rowV, cellsA]
  | .int k a b :: l, d :: ds, hp, h => by
    simp only [HasShs] at h
    simp only [rowV, cellsA]
    exact ⟨⟨h.1, rfl⟩, cellsA_plain (by simpa [plainRow] using hp) h.2⟩
  | .bool :: l, d :: ds, hp, h => by
    simp only [HasShs] at h
    simp only [rowV, cellsA]
    exact ⟨⟨h.1, rfl⟩, cellsA_plain (by simpa [plainRow] using hp) h.2⟩
  | .str _ :: _, _, hp, _ => by cases hp
  | .sl _ _ :: _, _, hp, _ => by cases hp
  | _ :: _, [], _, h => by simp [HasShs] at h
  | [], _ :: _, _, h => by simp [HasShs] at h
/-- A struct of two numbers as an argument. -/
def PairA (v : Value) : Prop := ∃ a b : Int, v = .agg #[.int .i64 a, .int .i64 b] ∧ (-9223372036854775808 ≤ a ∧ a ≤ 9223372036854775807) ∧ (-9223372036854775808 ≤ b ∧ b ≤ 9223372036854775807)
set_option maxRecDepth 100000 in
theorem open_pair_arg {H : Type} {enc : TypeId × Value → H} {w : World} {base : Nat} {spare : Nat → Bool} {held : Bool} {r : Reach} {b0 : Nat} {t : TypeId} {fs : Array Field} {f : Nat} {v : Value} {d : DataW H} {p : List MemPlace} (hr : rowT tb f t = some wat) (hu : Try.prog.underlying t = some (.struct fs))
    (hv : Value.okWide Try.prog w r b0 t v) (h : DataW.Trod enc Try.prog w base spare held t v d p) : PairA v := by
  obtain ⟨cs, rfl, hsz⟩ := okWide_struct hu hv
  obtain ⟨fuel, hf⟩ := h
  obtain ⟨ds, h1, h2, h3⟩ := open_row (P := Try.prog) (tb := tb) f t _ hr fuel _ _ hf
  clear hv hf h3
  cases ds with
  | nil => simp only [HasShs] at h1
  | cons x ds => cases ds with
    | nil => simp only [HasShs, and_false] at h1
    | cons y ds => cases ds with
      | cons z ds => simp only [HasShs, and_false] at h1
      | nil =>
        simp only [HasShs, HasSh, and_true] at h1
        obtain ⟨⟨a, rfl, ha, _⟩, b, rfl, hb, _⟩ := h1
        simp only [rowV, cellV, DV.int, Value.cells] at h2
        refine ⟨a, b, ?_, ha, hb⟩
        congr 1
        apply Array.toList_inj.1
        rw [← h2]
def SliceA (w : World) (s : Sh) (v : Value) : Prop := ∃ l, cellA w s (.sl none 0 l) v
theorem cell_int {w : World} {a : Int} (h : -9223372036854775808 ≤ a ∧ a ≤ 9223372036854775807) : cellA w i64s (.n a) (.int .i64 a) :=
  ⟨by simp only [HasSh]; exact ⟨a, rfl, h, by simpa [kmin, IntKind.signed, IntKind.bits] using h.1, by simpa [kmax, IntKind.signed, IntKind.bits] using h.2⟩, rfl⟩
theorem cells_pair {w : World} {a b : Int} (h : -9223372036854775808 ≤ a ∧ a ≤ 9223372036854775807) (k : -9223372036854775808 ≤ b ∧ b ≤ 9223372036854775807) : cellsA w wat [.n a, .n b] [.int .i64 a, .int .i64 b] := by
  simp only [cellsA, and_true]
  exact ⟨cell_int h, cell_int k⟩
theorem cSane_ok (N : Nat) (w0 : World) : ConOk Try.prog N w0 cSane := trueCon_ok fun w => by
  have := law_of_walk (tb := tb) (P := Try.prog) fine (C := []) noCon 400 11 [] rfl (w := w) (xs := []) (vs := []) (by simp only [ArgsV]) (by
    rw [tree_sane]
    simp only [T.res, List.map_cons, List.map_nil, E.top, E.val, E.isD, E.den, DV.canon])
  exact this
end Go.Proofs.Ytalkhponnfggoaa
