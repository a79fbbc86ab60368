/- DERIVED. Arguments of laws. -/
import Derived.Test.YtdhdpgdifphfkaaEsane
namespace Go.Proofs.Ytdhdpgdifphfkaa
open Go.Dx Go.RowKit
set_option linter.unusedVariables false
set_option linter.unusedSimpArgs false
theorem agg_cells {w : World} : ∀ {row : List Sh} {ds : List DV}, HasShs row ds → LaidL w (fun _ => True) row ds → cellsA w row (tidies row ds) (rowV row ds)
  | [], [], _, _ => by simp only [rowV, cellsA, tidies]
  | .int k a b :: l, d :: ds, h, hl => by
    simp only [HasShs] at h
    simp only [LaidL] at hl
    have ih := agg_cells (w := w) h.2 hl.2
    simp only [rowV, cellsA, tidies, DV.tidy]
    refine ⟨⟨?_, rfl⟩, ih⟩
    have := h.1
    simp only [HasSh] at this ⊢
    obtain ⟨i, rfl, h1, h2⟩ := this
    exact ⟨i, rfl, h1, h2⟩
  | .bool :: l, d :: ds, h, hl => by
    simp only [HasShs] at h
    simp only [LaidL] at hl
    have ih := agg_cells (w := w) h.2 hl.2
    simp only [rowV, cellsA, tidies, DV.tidy]
    refine ⟨⟨?_, rfl⟩, ih⟩
    have := h.1
    simp only [HasSh] at this ⊢
    obtain ⟨i, rfl, h1⟩ := this
    exact ⟨i, rfl, h1⟩
  | .str m :: l, d :: ds, h, hl => by
    simp only [HasShs] at h
    simp only [LaidL] at hl
    have ih := agg_cells (w := w) h.2 hl.2
    simp only [rowV, cellsA, tidies, DV.tidy]
    refine ⟨⟨?_, ⟨_, rfl⟩, rfl⟩, ih⟩
    have := h.1
    simp only [HasSh, DV.str] at this ⊢
    exact this
  | .sl m r :: l, d :: ds, h, hl => by
    simp only [HasShs] at h
    simp only [LaidL] at hl
    have ih := agg_cells (w := w) h.2 hl.2
    simp only [rowV, cellsA, tidies, DV.tidy]
    have h1 := h.1
    have h2 := hl.1
    simp only [HasSh] at h1
    simp only [Laid] at h2
    refine ⟨⟨by simp only [HasSh, DV.els]; exact h1, ⟨_, rfl⟩, ?_, h2.1, h2.2⟩, ih⟩
    cases d <;> rfl
  | _ :: _, [], h, _ => by simp [HasShs] at h
  | [], _ :: _, h, _ => by simp [HasShs] at h
theorem shs_len : ∀ {l : List Sh} {ds : List DV}, HasShs l ds → ds.length = l.length
  | [], [], _ => rfl
  | _ :: l, _ :: ds, h => by simp only [HasShs] at h; simp only [List.length_cons, shs_len h.2]
  | [], _ :: _, h => by simp only [HasShs] at h
  | _ :: _, [], h => by simp only [HasShs] at h
theorem glb0 (w : World) : Glb tb w := fun g l h => by
  have : tb.glob g = none := rfl
  rw [this] at h; cases h
theorem list2 {α : Type} : ∀ {l : List α}, l.length = 2 → ∃ x0 x1, l = [x0, x1]
  | [x0, x1], _ => ⟨x0, x1, rfl⟩
theorem list3 {α : Type} : ∀ {l : List α}, l.length = 3 → ∃ x0 x1 x2, l = [x0, x1, x2]
  | [x0, x1, x2], _ => ⟨x0, x1, x2, rfl⟩
theorem i64_arg {a : Int} (h : (Go.Lit.int .i64 a).wf = true) : -9223372036854775808 ≤ a ∧ a ≤ 9223372036854775807 := by
  simp [Go.Lit.wf, IntKind.min, IntKind.max, IntKind.signed, IntKind.bits] at h
  exact ⟨by omega, by omega⟩
theorem u64_arg {a : Int} (h : (Go.Lit.int .u64 a).wf = true) : 0 ≤ a ∧ a ≤ 18446744073709551615 := by
  simp [Go.Lit.wf, IntKind.min, IntKind.max, IntKind.signed, IntKind.bits] at h
  exact ⟨by omega, by omega⟩
theorem cell_int {w : World} {a : Int} (h : -9223372036854775808 ≤ a ∧ a ≤ 9223372036854775807) : cellA w i64s (.n a) (.int .i64 a) :=
  ⟨by simp only [HasSh]; exact ⟨a, rfl, h, by simpa [kmin, IntKind.signed, IntKind.bits] using h.1, by simpa [kmax, IntKind.signed, IntKind.bits] using h.2⟩, rfl⟩
abbrev u64s : Sh := .int .u64 0 18446744073709551615
theorem cell_u64 {w : World} {a : Int} (h : 0 ≤ a ∧ a ≤ 18446744073709551615) : cellA w u64s (.n a) (.int .u64 a) :=
  ⟨by simp only [HasSh]; exact ⟨a, rfl, h, by simpa [kmin, IntKind.signed, IntKind.bits] using h.1, by simpa [kmax, IntKind.signed, IntKind.bits] using h.2⟩, rfl⟩
def bi (b : Bool) : Int := if b then 1 else 0
theorem cell_bool {w : World} (b : Bool) : cellA w .bool (.n (bi b)) (.bool b) := by
  refine ⟨by simp only [HasSh]; exact ⟨_, rfl, by cases b <;> decide, by cases b <;> decide⟩, ?_⟩
  cases b <;> rfl
theorem list4 {α : Type} : ∀ {l : List α}, l.length = 4 → ∃ x0 x1 x2 x3, l = [x0, x1, x2, x3]
  | [x0, x1, x2, x3], _ => ⟨x0, x1, x2, x3, rfl⟩
theorem cells_fst {w : World} {s : Sh} {l : List Sh} {d : DV} {ds : List DV} : ∀ {cs : List Value}, cellsA w (s :: l) (d :: ds) cs → HasSh s d ∧ ∃ cs', cellsA w l ds cs'
  | [], h => h.elim
  | _ :: cs, h => ⟨h.1.1, cs, h.2⟩
def DiskA (w : World) (v : Value) : Prop := ∃ (S P : List (List DV)) (l t : Int) (cs : List Value), v = .agg cs.toArray ∧ cellsA w disk [.sl none 0 S, .sl none 0 P, .n l, .n t] cs
section
variable {H : Type} {enc : TypeId × Value → H} {w : World} {base : Nat} {spare : Nat → Bool} {held : Bool} {r : Reach} {b0 : Nat} {v : Value} {d : DataW H} {p : List MemPlace}
set_option maxRecDepth 100000 in
theorem disk_arg (hv : Value.okWide Try.prog w r b0 25 v) (h : DataW.Trod enc Try.prog w base spare held 25 v d p) : DiskA w v := by
  obtain ⟨ds, rfl, hs, hl⟩ := open_agg_arg (P := Try.prog) (tb := tb) (f := 20) (row := disk) (by kernel_rfl) Try.underlying25 hv h
  have k := agg_cells hs hl
  obtain ⟨x0, x1, x2, x3, e⟩ := list4 (shs_len hs)
  clear hs hl
  subst e
  simp only [tidies, DV.tidy] at k
  exact ⟨_, _, _, _, _, rfl, k⟩
end
end Go.Proofs.Ytdhdpgdifphfkaa
