/- DERIVED. The examples, reckoned; arguments of laws, opened. -/
import Derived.Test.YtljggpbkggkcaaaDcti
import Derived.Test.YtljggpbkggkcaaaDtreem
import Derived.KernelRfl
import Derived.OpenShut
namespace Go.Proofs.Ytljggpbkggkcaaa
open Go.Dx Go.RowKit
set_option linter.unusedVariables false
set_option linter.unusedSimpArgs false
theorem cSane_ok (N : Nat) (w0 : World) : ConOk Try.prog tb N w0 (lawCon 11 []) := trueCon_ok fun w hG => by
  have := law_of_walk (tb := tb) (P := Try.prog) fine (C := [cRobust 12, cRel 17, cNext 19, cSpo 21, cFirm 23, cChk 14]) (conCons cRobust_ok (conCons cRel_ok (conCons cNext_ok (conCons cSpo_ok (conCons cFirm_ok (conCons cChk_ok noCon)))))) 200 11 [] rfl (w := w) hG (xs := []) (vs := []) (by simp only [ArgsV]) (by
    rw [tree_sane]
    refine T.go_ok (Q := [fun xs => RobustF (co xs), fun xs => RelF (co xs) (gi xs 4) (gi xs 5), fun xs => NextF (co xs) (gi xs 4) (gi xs 5) (gi xs 6) (gi xs 7), fun xs => SpoF (co xs) (gi xs 4) (gi xs 5) (gi xs 6), fun xs => FirmF (co xs) (gd xs 4), fun xs => [.n (chkF (co xs))]]) ?_ _ 0 _ fun ad => ?_
    · simp only [SaysAll, and_true]
      exact ⟨⟨fun _ => trivial, fun _ _ h => h⟩, ⟨fun _ => trivial, fun _ _ h => h⟩, ⟨fun _ => trivial, fun _ _ h => h⟩, ⟨fun _ => trivial, fun _ _ h => h⟩, ⟨fun _ => trivial, fun _ _ h => h⟩, ⟨fun _ => trivial, fun _ _ h => h⟩⟩
    · kernel_rfl)
  exact this
theorem agg_cells {w : World} : ∀ {row : List Sh} {ds : List DV}, HasShs row ds → LaidL w (fun _ => True) row ds → cellsA w row (tidies row ds) (rowV row ds)
  | [], [], _, _ => by simp only [rowV, cellsA, tidies]
  | .int k a b :: l, d :: ds, h, hl => by
    simp only [HasShs] at h
    simp only [LaidL] at hl
    have ih := agg_cells (w := w) h.2 hl.2
    simp only [rowV, cellsA, tidies, DV.tidy]
    refine ⟨⟨?_, rfl⟩, ih⟩
    have := h.1
    simp only [HasSh] at this ⊢
    obtain ⟨i, rfl, h1, h2⟩ := this
    exact ⟨i, rfl, h1, h2⟩
  | .bool :: l, d :: ds, h, hl => by
    simp only [HasShs] at h
    simp only [LaidL] at hl
    have ih := agg_cells (w := w) h.2 hl.2
    simp only [rowV, cellsA, tidies, DV.tidy]
    refine ⟨⟨?_, rfl⟩, ih⟩
    have := h.1
    simp only [HasSh] at this ⊢
    obtain ⟨i, rfl, h1⟩ := this
    exact ⟨i, rfl, h1⟩
  | .str m :: l, d :: ds, h, hl => by
    simp only [HasShs] at h
    simp only [LaidL] at hl
    have ih := agg_cells (w := w) h.2 hl.2
    simp only [rowV, cellsA, tidies, DV.tidy]
    refine ⟨⟨?_, ⟨_, rfl⟩, rfl⟩, ih⟩
    have := h.1
    simp only [HasSh, DV.str] at this ⊢
    exact this
  | .sl m r :: l, d :: ds, h, hl => by
    simp only [HasShs] at h
    simp only [LaidL] at hl
    have ih := agg_cells (w := w) h.2 hl.2
    simp only [rowV, cellsA, tidies, DV.tidy]
    have h1 := h.1
    have h2 := hl.1
    simp only [HasSh] at h1
    simp only [Laid] at h2
    refine ⟨⟨by simp only [HasSh, DV.els]; exact h1, ⟨_, rfl⟩, ?_, h2.1, h2.2⟩, ih⟩
    cases d <;> rfl
  | _ :: _, [], h, _ => by simp [HasShs] at h
  | [], _ :: _, h, _ => by simp [HasShs] at h
theorem list4 {α : Type} : ∀ {l : List α}, l.length = 4 → ∃ x0 x1 x2 x3, l = [x0, x1, x2, x3]
  | [x0, x1, x2, x3], _ => ⟨x0, x1, x2, x3, rfl⟩
theorem shs_len : ∀ {l : List Sh} {ds : List DV}, HasShs l ds → ds.length = l.length
  | [], [], _ => rfl
  | _ :: l, _ :: ds, h => by simp only [HasShs] at h; simp only [List.length_cons, shs_len h.2]
  | [], _ :: _, h => by simp only [HasShs] at h
  | _ :: _, [], h => by simp only [HasShs] at h
theorem glb0 (w : World) : Glb tb w := fun g l h => by
  have : tb.glob g = none := rfl
  rw [this] at h; cases h
def IntA (v : Value) : Prop := ∃ a : Int, v = .int .i64 a ∧ -9223372036854775808 ≤ a ∧ a ≤ 9223372036854775807
theorem int_arg {a : Int} (h : (Go.Lit.int .i64 a).wf = true) : IntA (.int .i64 a) := by
  refine ⟨a, rfl, ?_⟩
  simp [Go.Lit.wf, IntKind.min, IntKind.max, IntKind.signed, IntKind.bits] at h
  exact ⟨by omega, by omega⟩
theorem cell_int {w : World} {a : Int} (h : -9223372036854775808 ≤ a ∧ a ≤ 9223372036854775807) : cellA w i64s (.n a) (.int .i64 a) :=
  ⟨by simp only [HasSh]; exact ⟨a, rfl, h, by simpa [kmin, IntKind.signed, IntKind.bits] using h.1, by simpa [kmax, IntKind.signed, IntKind.bits] using h.2⟩, rfl⟩
def ByteA (v : Value) : Prop := ∃ a : Int, v = .int .u8 a ∧ 0 ≤ a ∧ a ≤ 255
theorem byte_arg {a : Int} (h : (Go.Lit.int .u8 a).wf = true) : ByteA (.int .u8 a) := by
  refine ⟨a, rfl, ?_⟩
  simp [Go.Lit.wf, IntKind.min, IntKind.max, IntKind.signed, IntKind.bits] at h
  exact ⟨by omega, by omega⟩
theorem cell_byte {w : World} {a : Int} (h : 0 ≤ a ∧ a ≤ 255) : cellA w (.int .u8 0 255) (.n a) (.int .u8 a) :=
  ⟨by simp only [HasSh]; exact ⟨a, rfl, h, by simpa [kmin, IntKind.signed, IntKind.bits] using h.1, by simpa [kmax, IntKind.signed, IntKind.bits] using h.2⟩, rfl⟩
def CourseA (w : World) (v : Value) : Prop := ∃ (cap st fl : Int) (P : List (List DV)) (cs : List Value), v = .agg cs.toArray ∧ cellsA w course [.n cap, .n st, .n fl, .sl none 0 P] cs
section
variable {H : Type} {enc : TypeId × Value → H} {w : World} {base : Nat} {spare : Nat → Bool} {held : Bool} {r : Reach} {b0 : Nat} {v : Value} {d : DataW H} {p : List MemPlace}
set_option maxRecDepth 100000 in
theorem course_arg (hv : Value.okWide Try.prog w r b0 26 v) (h : DataW.Trod enc Try.prog w base spare held 26 v d p) : CourseA w v := by
  obtain ⟨ds, rfl, hs, hl⟩ := open_agg_arg (P := Try.prog) (tb := tb) (f := 20) (row := course) (by kernel_rfl) Try.underlying26 hv h
  have k := agg_cells hs hl
  obtain ⟨x0, x1, x2, x3, e⟩ := list4 (shs_len hs)
  clear hs hl
  subst e
  simp only [tidies, DV.tidy] at k
  exact ⟨_, _, _, _, _, rfl, k⟩
end
end Go.Proofs.Ytljggpbkggkcaaa
