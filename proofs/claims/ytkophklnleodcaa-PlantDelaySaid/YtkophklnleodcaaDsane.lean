/- DERIVED. The examples, reckoned; arguments of laws, opened. -/
import Derived.Test.YtkophklnleodcaaDcte
import Derived.Test.YtkophklnleodcaaDtrees
import Derived.KernelRfl
import Derived.OpenShut
namespace Go.Proofs.Ytkophklnleodcaa
open Go.Dx Go.RowKit
set_option linter.unusedVariables false
set_option linter.unusedSimpArgs false
theorem cSane_ok (N : Nat) (w0 : World) : ConOk Try.prog tb N w0 (lawCon 10 []) := trueCon_ok fun w hG => by
  have := law_of_walk (tb := tb) (P := Try.prog) fine (C := [cCount 11, cBegin 13, cSafe 15, cPC 17, cNext 20]) (conCons cCount_ok (conCons cBegin_ok (conCons cSafe_ok (conCons cPC_ok (conCons cNext_ok noCon))))) 80 10 [] rfl (w := w) hG (xs := []) (vs := []) (by simp only [ArgsV]) (by
    rw [tree_sane]
    refine T.go_ok (Q := [fun xs => CountF (pl xs), fun xs => BeginF (pl xs), fun xs => SafeF (pl xs) (stt xs 12), fun xs => [.n (pcF (pl xs))], fun xs => NextF (pl xs) (xs.getD 12 (.n 0)) (stt xs 13) (gi xs 19) (gi xs 20)]) ?_ _ 0 _ fun ad => ?_
    · simp only [SaysAll, and_true]
      exact ⟨⟨fun _ => trivial, fun _ _ h => h⟩, ⟨fun _ => trivial, fun _ _ h => h⟩, ⟨fun _ => trivial, fun _ _ h => h⟩, ⟨fun _ => trivial, fun _ _ h => h⟩, ⟨fun _ => trivial, fun _ _ h => h⟩⟩
    · kernel_rfl)
  exact this
theorem res_con {C : List Con} {post : List DV → Prop} {i : Nat} {zs : List E} {k : T (List E)} {r : List DV} {d : Con} (hd : C[i]? = some d) (hp : d.pre (zs.map (E.top r))) (h : allB (resB d.res) fun ys => d.post (zs.map (E.top r)) ys → T.res C post k (r ++ ys)) : T.res C post (.con i zs k) r := by
  simp only [T.res, hd]; exact ⟨hp, h⟩
theorem res_ite {C : List Con} {post : List DV → Prop} {b : B} {t e : T (List E)} {r : List DV} (h : b.prop r → T.res C post t r) (k : ¬ b.prop r → T.res C post e r) : T.res C post (.ite b t e) r := ⟨h, k⟩
theorem agg_cells {w : World} : ∀ {row : List Sh} {ds : List DV}, HasShs row ds → LaidL w (fun _ => True) row ds → cellsA w row (tidies row ds) (rowV row ds)
  | [], [], _, _ => by simp only [rowV, cellsA, tidies]
  | .int k a b :: l, d :: ds, h, hl => by
    simp only [HasShs] at h
    simp only [LaidL] at hl
    have ih := agg_cells (w := w) h.2 hl.2
    simp only [rowV, cellsA, tidies, DV.tidy]
    refine ⟨⟨?_, rfl⟩, ih⟩
    have := h.1
    simp only [HasSh] at this ⊢
    obtain ⟨i, rfl, h1, h2⟩ := this
    exact ⟨i, rfl, h1, h2⟩
  | .bool :: l, d :: ds, h, hl => by
    simp only [HasShs] at h
    simp only [LaidL] at hl
    have ih := agg_cells (w := w) h.2 hl.2
    simp only [rowV, cellsA, tidies, DV.tidy]
    refine ⟨⟨?_, rfl⟩, ih⟩
    have := h.1
    simp only [HasSh] at this ⊢
    obtain ⟨i, rfl, h1⟩ := this
    exact ⟨i, rfl, h1⟩
  | .str m :: l, d :: ds, h, hl => by
    simp only [HasShs] at h
    simp only [LaidL] at hl
    have ih := agg_cells (w := w) h.2 hl.2
    simp only [rowV, cellsA, tidies, DV.tidy]
    refine ⟨⟨?_, ⟨_, rfl⟩, rfl⟩, ih⟩
    have := h.1
    simp only [HasSh, DV.str] at this ⊢
    exact this
  | .sl m r :: l, d :: ds, h, hl => by
    simp only [HasShs] at h
    simp only [LaidL] at hl
    have ih := agg_cells (w := w) h.2 hl.2
    simp only [rowV, cellsA, tidies, DV.tidy]
    have h1 := h.1
    have h2 := hl.1
    simp only [HasSh] at h1
    simp only [Laid] at h2
    refine ⟨⟨by simp only [HasSh, DV.els]; exact h1, ⟨_, rfl⟩, ?_, h2.1, h2.2⟩, ih⟩
    cases d <;> rfl
  | _ :: _, [], h, _ => by simp [HasShs] at h
  | [], _ :: _, h, _ => by simp [HasShs] at h
theorem list12 {α : Type} : ∀ {l : List α}, l.length = 12 → ∃ x0 x1 x2 x3 x4 x5 x6 x7 x8 x9 x10 x11, l = [x0, x1, x2, x3, x4, x5, x6, x7, x8, x9, x10, x11]
  | [x0, x1, x2, x3, x4, x5, x6, x7, x8, x9, x10, x11], _ => ⟨x0, x1, x2, x3, x4, x5, x6, x7, x8, x9, x10, x11, rfl⟩
theorem list6 {α : Type} : ∀ {l : List α}, l.length = 6 → ∃ x0 x1 x2 x3 x4 x5, l = [x0, x1, x2, x3, x4, x5]
  | [x0, x1, x2, x3, x4, x5], _ => ⟨x0, x1, x2, x3, x4, x5, rfl⟩
theorem list2 {α : Type} : ∀ {l : List α}, l.length = 2 → ∃ x0 x1, l = [x0, x1]
  | [x0, x1], _ => ⟨x0, x1, rfl⟩
theorem list1 {α : Type} : ∀ {l : List α}, l.length = 1 → ∃ x0, l = [x0]
  | [x0], _ => ⟨x0, rfl⟩
theorem shs_len : ∀ {l : List Sh} {ds : List DV}, HasShs l ds → ds.length = l.length
  | [], [], _ => rfl
  | _ :: l, _ :: ds, h => by simp only [HasShs] at h; simp only [List.length_cons, shs_len h.2]
  | [], _ :: _, h => by simp only [HasShs] at h
  | _ :: _, [], h => by simp only [HasShs] at h
theorem glb0 (w : World) : Glb tb w := fun g l h => by
  have : tb.glob g = none := rfl
  rw [this] at h; cases h
def IntA (v : Value) : Prop := ∃ a : Int, v = .int .i64 a ∧ -9223372036854775808 ≤ a ∧ a ≤ 9223372036854775807
theorem int_arg {a : Int} (h : (Go.Lit.int .i64 a).wf = true) : IntA (.int .i64 a) := by
  refine ⟨a, rfl, ?_⟩
  simp [Go.Lit.wf, IntKind.min, IntKind.max, IntKind.signed, IntKind.bits] at h
  exact ⟨by omega, by omega⟩
theorem cell_int {w : World} {a : Int} (h : -9223372036854775808 ≤ a ∧ a ≤ 9223372036854775807) : cellA w i64s (.n a) (.int .i64 a) :=
  ⟨by simp only [HasSh]; exact ⟨a, rfl, h, by simpa [kmin, IntKind.signed, IntKind.bits] using h.1, by simpa [kmax, IntKind.signed, IntKind.bits] using h.2⟩, rfl⟩
def ByteA (v : Value) : Prop := ∃ a : Int, v = .int .u8 a ∧ 0 ≤ a ∧ a ≤ 255
theorem byte_arg {a : Int} (h : (Go.Lit.int .u8 a).wf = true) : ByteA (.int .u8 a) := by
  refine ⟨a, rfl, ?_⟩
  simp [Go.Lit.wf, IntKind.min, IntKind.max, IntKind.signed, IntKind.bits] at h
  exact ⟨by omega, by omega⟩
theorem cell_byte {w : World} {a : Int} (h : 0 ≤ a ∧ a ≤ 255) : cellA w u8s (.n a) (.int .u8 a) :=
  ⟨by simp only [HasSh]; exact ⟨a, rfl, h, by simpa [kmin, IntKind.signed, IntKind.bits] using h.1, by simpa [kmax, IntKind.signed, IntKind.bits] using h.2⟩, rfl⟩
def PlantA (w : World) (v : Value) : Prop := ∃ (tp bk si st ps rt sp pa fd pp od ag : Int) (cs : List Value), v = .agg cs.toArray ∧ cellsA w plantS [.n tp, .n bk, .n si, .n st, .n ps, .n rt, .n sp, .n pa, .n fd, .n pp, .n od, .n ag] cs
def StateA (w : World) (v : Value) : Prop := ∃ (lv po p0 p1 so sa : Int) (cs : List Value), v = .agg cs.toArray ∧ cellsA w stateS [.n lv, .n po, .n p0, .n p1, .n so, .n sa] cs
def ShockA (w : World) (v : Value) : Prop := ∃ (f m : Int) (cs : List Value), v = .agg cs.toArray ∧ cellsA w shockS [.n f, .n m] cs
def CodeA (w : World) (v : Value) : Prop := ∃ (d : List (List DV)) (cs : List Value), v = .agg cs.toArray ∧ cellsA w [lines] [.sl none 0 d] cs
section
variable {H : Type} {enc : TypeId × Value → H} {w : World} {base : Nat} {spare : Nat → Bool} {held : Bool} {r : Reach} {b0 : Nat} {v : Value} {d : DataW H} {p : List MemPlace}
set_option maxRecDepth 100000 in
theorem plant_arg (hv : Value.okWide Try.prog w r b0 23 v) (h : DataW.Trod enc Try.prog w base spare held 23 v d p) : PlantA w v := by
  obtain ⟨ds, rfl, hs, hl⟩ := open_agg_arg (P := Try.prog) (tb := tb) (f := 20) (row := plantS) (by kernel_rfl) Try.underlying23 hv h
  have k := agg_cells hs hl
  obtain ⟨x0, x1, x2, x3, x4, x5, x6, x7, x8, x9, x10, x11, e⟩ := list12 (shs_len hs)
  clear hs hl
  subst e
  simp only [tidies, DV.tidy] at k
  exact ⟨_, _, _, _, _, _, _, _, _, _, _, _, _, rfl, k⟩
set_option maxRecDepth 100000 in
theorem state_arg (hv : Value.okWide Try.prog w r b0 26 v) (h : DataW.Trod enc Try.prog w base spare held 26 v d p) : StateA w v := by
  obtain ⟨ds, rfl, hs, hl⟩ := open_agg_arg (P := Try.prog) (tb := tb) (f := 20) (row := stateS) (by kernel_rfl) Try.underlying26 hv h
  have k := agg_cells hs hl
  obtain ⟨x0, x1, x2, x3, x4, x5, e⟩ := list6 (shs_len hs)
  clear hs hl
  subst e
  simp only [tidies, DV.tidy] at k
  exact ⟨_, _, _, _, _, _, _, rfl, k⟩
set_option maxRecDepth 100000 in
theorem shock_arg (hv : Value.okWide Try.prog w r b0 41 v) (h : DataW.Trod enc Try.prog w base spare held 41 v d p) : ShockA w v := by
  obtain ⟨ds, rfl, hs, hl⟩ := open_agg_arg (P := Try.prog) (tb := tb) (f := 20) (row := shockS) (by kernel_rfl) Try.underlying41 hv h
  have k := agg_cells hs hl
  obtain ⟨x0, x1, e⟩ := list2 (shs_len hs)
  clear hs hl
  subst e
  simp only [tidies, DV.tidy] at k
  exact ⟨_, _, _, rfl, k⟩
set_option maxRecDepth 100000 in
theorem code_arg (hv : Value.okWide Try.prog w r b0 39 v) (h : DataW.Trod enc Try.prog w base spare held 39 v d p) : CodeA w v := by
  obtain ⟨ds, rfl, hs, hl⟩ := open_agg_arg (P := Try.prog) (tb := tb) (f := 20) (row := [lines]) (by kernel_rfl) Try.underlying39 hv h
  have k := agg_cells hs hl
  obtain ⟨x0, e⟩ := list1 (shs_len hs)
  clear hs hl
  subst e
  simp only [tidies, DV.tidy] at k
  exact ⟨_, _, rfl, k⟩
end
end Go.Proofs.Ytkophklnleodcaa
