/- DERIVED. The examples, reckoned; lists that are the same, running sums; arguments of laws, opened. -/
import Derived.Test.YtcidomlhmdefaaaDctd
import Derived.Test.YtcidomlhmdefaaaDmathb
import Derived.Test.YtcidomlhmdefaaaDtreeb
import Derived.Test.YtcidomlhmdefaaaDtreec
import Derived.KernelRfl
import Derived.OpenShut
namespace Go.Proofs.Ytcidomlhmdefaaa
open Go.Dx Go.RowKit
set_option linter.unusedVariables false
set_option linter.unusedSimpArgs false
theorem cSame_ok (N : Nat) (w0 : World) : ConOk Try.prog tb N w0 (cSame 19) := by
  refine con_of_walk (tb := tb) fine (C := [lSame]) (lopCons rfl noCon) 80 rfl ?_ N w0
  refine fun a ha b hb _ => ?_
  clear ha hb
  rw [tree_same]
  show T.res _ (fun y => y = [.n (if sameP (.sl none 0 a) (.sl none 0 b) then 1 else 0)]) _ _
  have l0 := len_nn (.sl none 0 a)
  refine res_ite (fun q => no fun y => q (show (DV.sl none 0 a).len = (DV.sl none 0 b).len from y.1)) fun q => ?_
  have q : (DV.sl none 0 a).len = (DV.sl none 0 b).len := Classical.not_not.1 q
  refine res_lop rfl (show (0 : Int) ≤ (DV.sl none 0 a).len ∧ ∀ i : Nat, i < (0 : Int).toNat → el (.sl none 0 a) i = el (.sl none 0 b) i from ⟨l0, fun k hk => absurd hk (Nat.not_lt_zero k)⟩) (fun i i0 i1 hI => ?_)
  obtain ⟨hi, hs⟩ : i ≤ (DV.sl none 0 a).len ∧ ∀ j : Nat, j < i.toNat → el (.sl none 0 a) j = el (.sl none 0 b) j := hI
  have ei : ((i.toNat : Nat) : Int) = i := by omega
  refine res_ite (fun hlt => ?_) fun hge => ?_
  · have hlt : i < (DV.sl none 0 a).len := hlt
    refine res_ok (show 0 ≤ i ∧ i < (DV.sl none 0 b).len by omega) ?_
    refine res_ite (fun z => no fun y => z ?_) fun z => ?_
    · have := y.2 i.toNat (by omega)
      unfold el at this
      rw [ei] at this
      exact this
    · have z : (DV.sl none 0 a).at i 0 = (DV.sl none 0 b).at i 0 := Classical.not_not.1 z
      refine res_chk rfl (show i + 1 ≤ (DV.sl none 0 a).len ∧ ∀ j : Nat, j < (i + 1).toNat → el (.sl none 0 a) j = el (.sl none 0 b) j from ⟨by omega, fun j hj => ?_⟩) ?_
      · by_cases e : j < i.toNat
        · exact hs j e
        · unfold el; rw [show (j : Int) = i by omega]; exact z
      · show ((DV.sl none 0 a).len - (i + 1)).toNat < ((DV.sl none 0 a).len - i).toNat
        omega
  · have hge : ¬ i < (DV.sl none 0 a).len := hge
    exact yes ⟨q, by rw [show (DV.sl none 0 a).len = i by omega]; exact hs⟩
theorem sums_bad {L : DV} (h : ¬ sumsOk L L.len.toNat) : [DV.sl none 0 [], .n 0] = SumsF L := by unfold SumsF; rw [if_neg h]
theorem sums_fine {L : DV} (h : sumsOk L L.len.toNat) : [DV.sl none 0 (gRows (preF L) L.len.toNat), .n 1] = SumsF L := by unfold SumsF; rw [if_pos h]
theorem cSums_ok (N : Nat) (w0 : World) : ConOk Try.prog tb N w0 (cSums 20) := by
  refine con_of_walk (tb := tb) fine (C := [lSums]) (lopCons rfl noCon) 80 rfl ?_ N w0
  refine fun L hL hpre => ?_
  clear hL
  have hpre : (DV.sl none 0 L).len ≤ 500 := hpre
  rw [tree_sums]
  show T.res _ (fun y => y = SumsF (.sl none 0 L)) _ _
  have l0 := len_nn (.sl none 0 L)
  refine res_dat (.sl none 0 []) rfl ?_
  refine res_lop rfl (show (0 : Int) ≤ (DV.sl none 0 L).len ∧ sumsOk (.sl none 0 L) (0 : Int).toNat ∧ [] = gRows (preF (.sl none 0 L)) (0 : Int).toNat ∧ (0 : Int) = sumN (el (.sl none 0 L)) (0 : Int).toNat from ⟨l0, fun k hk => absurd hk (Nat.not_lt_zero k), rfl, rfl⟩) (fun o ho s s0 s1 i i0 i1 hI => ?_)
  clear ho
  obtain ⟨hi, hs, hoo, hsum⟩ : i ≤ (DV.sl none 0 L).len ∧ sumsOk (.sl none 0 L) i.toNat ∧ o = gRows (preF (.sl none 0 L)) i.toNat ∧ s = sumN (el (.sl none 0 L)) i.toNat := hI
  have ei : ((i.toNat : Nat) : Int) = i := by omega
  have lo : (DV.sl none 0 o).len = i.toNat := by rw [hoo]; exact gLen _ (by omega)
  refine res_ite (fun hlt => ?_) fun hge => ?_
  · have hlt : i < (DV.sl none 0 L).len := hlt
    refine res_ite (fun z => res_dat (.sl none 0 []) rfl (sums_bad fun y => ?_)) fun z => ?_
    · have z : (DV.sl none 0 L).at i 0 < 0 ∨ 1125899906842624 < (DV.sl none 0 L).at i 0 := z
      have := y i.toNat (by omega)
      unfold el at this
      rw [ei] at this
      omega
    · have z : ¬ ((DV.sl none 0 L).at i 0 < 0 ∨ 1125899906842624 < (DV.sl none 0 L).at i 0) := z
      have hb := sumN_bound (f := el (.sl none 0 L)) (n := i.toNat) (b := 1125899906842624) fun j hj => (hs j hj).2
      have hn := sumN_next (L := .sl none 0 L) i0
      refine res_ok (show (DV.sl none 0 o).len + 1 ≤ 15637498706147 by omega) ?_
      refine res_dat (.sl none 0 [[.n (s + (DV.sl none 0 L).at i 0)]]) rfl ?_
      refine res_dat (.sl none 0 (o ++ [[.n (s + (DV.sl none 0 L).at i 0)]])) rfl ?_
      refine res_ok (show 0 ≤ s + (DV.sl none 0 L).at i 0 ∧ s + (DV.sl none 0 L).at i 0 ≤ 576460752303423488 by omega) ?_
      refine res_chk rfl (show i + 1 ≤ (DV.sl none 0 L).len ∧ sumsOk (.sl none 0 L) (i + 1).toNat ∧ o ++ [[DV.n (s + (DV.sl none 0 L).at i 0)]] = gRows (preF (.sl none 0 L)) (i + 1).toNat ∧ s + (DV.sl none 0 L).at i 0 = sumN (el (.sl none 0 L)) (i + 1).toNat from ⟨by omega, fun j hj => ?_, ?_, by rw [hn, hsum]⟩) ?_
      · by_cases e : j < i.toNat
        · exact hs j e
        · unfold el; rw [show (j : Int) = i by omega]; omega
      · rw [show (i + 1).toNat = i.toNat + 1 by omega, gRows_succ, hoo]
        unfold preF
        rw [← show (i + 1).toNat = i.toNat + 1 by omega, hn, hsum]
      · show ((DV.sl none 0 L).len - (i + 1)).toNat < ((DV.sl none 0 L).len - i).toNat
        omega
  · have hge : ¬ i < (DV.sl none 0 L).len := hge
    show [DV.sl none 0 o, .n 1] = _
    rw [hoo, show i = (DV.sl none 0 L).len by omega]
    exact sums_fine (by rw [show (DV.sl none 0 L).len = i by omega]; exact hs)
theorem cSane_ok (N : Nat) (w0 : World) : ConOk Try.prog tb N w0 (lawCon 10 []) := trueCon_ok fun w hG => by
  have := law_of_walk (tb := tb) (P := Try.prog) fine (C := [cOwe 15, cRep 17]) (conCons cOwe_ok (conCons cRep_ok noCon)) 300 10 [] rfl (w := w) hG (xs := []) (vs := []) (by simp only [ArgsV]) (by
    rw [tree_sane]
    refine T.go_ok (Q := [fun xs => OwedF (wo xs) (gd xs 4), fun xs => RepF (wo xs) (gd xs 4) (gd xs 5)]) ?_ _ 0 _ fun ad => ?_
    · simp only [SaysAll, and_true]
      exact ⟨⟨fun _ => trivial, fun _ _ h => h⟩, ⟨fun _ => trivial, fun _ _ h => h⟩⟩
    · kernel_rfl)
  exact this
theorem agg_cells {w : World} : ∀ {row : List Sh} {ds : List DV}, HasShs row ds → LaidL w (fun _ => True) row ds → cellsA w row (tidies row ds) (rowV row ds)
  | [], [], _, _ => by simp only [rowV, cellsA, tidies]
  | .int k a b :: l, d :: ds, h, hl => by
    simp only [HasShs] at h
    simp only [LaidL] at hl
    have ih := agg_cells (w := w) h.2 hl.2
    simp only [rowV, cellsA, tidies, DV.tidy]
    refine ⟨⟨?_, rfl⟩, ih⟩
    have := h.1
    simp only [HasSh] at this ⊢
    obtain ⟨i, rfl, h1, h2⟩ := this
    exact ⟨i, rfl, h1, h2⟩
  | .bool :: l, d :: ds, h, hl => by
    simp only [HasShs] at h
    simp only [LaidL] at hl
    have ih := agg_cells (w := w) h.2 hl.2
    simp only [rowV, cellsA, tidies, DV.tidy]
    refine ⟨⟨?_, rfl⟩, ih⟩
    have := h.1
    simp only [HasSh] at this ⊢
    obtain ⟨i, rfl, h1⟩ := this
    exact ⟨i, rfl, h1⟩
  | .str m :: l, d :: ds, h, hl => by
    simp only [HasShs] at h
    simp only [LaidL] at hl
    have ih := agg_cells (w := w) h.2 hl.2
    simp only [rowV, cellsA, tidies, DV.tidy]
    refine ⟨⟨?_, ⟨_, rfl⟩, rfl⟩, ih⟩
    have := h.1
    simp only [HasSh, DV.str] at this ⊢
    exact this
  | .sl m r :: l, d :: ds, h, hl => by
    simp only [HasShs] at h
    simp only [LaidL] at hl
    have ih := agg_cells (w := w) h.2 hl.2
    simp only [rowV, cellsA, tidies, DV.tidy]
    have h1 := h.1
    have h2 := hl.1
    simp only [HasSh] at h1
    simp only [Laid] at h2
    refine ⟨⟨by simp only [HasSh, DV.els]; exact h1, ⟨_, rfl⟩, ?_, h2.1, h2.2⟩, ih⟩
    cases d <;> rfl
  | _ :: _, [], h, _ => by simp [HasShs] at h
  | [], _ :: _, h, _ => by simp [HasShs] at h
theorem list4 {α : Type} : ∀ {l : List α}, l.length = 4 → ∃ x0 x1 x2 x3, l = [x0, x1, x2, x3]
  | [x0, x1, x2, x3], _ => ⟨x0, x1, x2, x3, rfl⟩
theorem shs_len : ∀ {l : List Sh} {ds : List DV}, HasShs l ds → ds.length = l.length
  | [], [], _ => rfl
  | _ :: l, _ :: ds, h => by simp only [HasShs] at h; simp only [List.length_cons, shs_len h.2]
  | [], _ :: _, h => by simp only [HasShs] at h
  | _ :: _, [], h => by simp only [HasShs] at h
theorem glb0 (w : World) : Glb tb w := fun g l h => by
  have : tb.glob g = none := rfl
  rw [this] at h; cases h
def IntA (v : Value) : Prop := ∃ a : Int, v = .int .i64 a ∧ -9223372036854775808 ≤ a ∧ a ≤ 9223372036854775807
theorem int_arg {a : Int} (h : (Go.Lit.int .i64 a).wf = true) : IntA (.int .i64 a) := by
  refine ⟨a, rfl, ?_⟩
  simp [Go.Lit.wf, IntKind.min, IntKind.max, IntKind.signed, IntKind.bits] at h
  exact ⟨by omega, by omega⟩
theorem cell_int {w : World} {a : Int} (h : -9223372036854775808 ≤ a ∧ a ≤ 9223372036854775807) : cellA w i64s (.n a) (.int .i64 a) :=
  ⟨by simp only [HasSh]; exact ⟨a, rfl, h, by simpa [kmin, IntKind.signed, IntKind.bits] using h.1, by simpa [kmax, IntKind.signed, IntKind.bits] using h.2⟩, rfl⟩
def ByteA (v : Value) : Prop := ∃ a : Int, v = .int .u8 a ∧ 0 ≤ a ∧ a ≤ 255
theorem byte_arg {a : Int} (h : (Go.Lit.int .u8 a).wf = true) : ByteA (.int .u8 a) := by
  refine ⟨a, rfl, ?_⟩
  simp [Go.Lit.wf, IntKind.min, IntKind.max, IntKind.signed, IntKind.bits] at h
  exact ⟨by omega, by omega⟩
theorem cell_byte {w : World} {a : Int} (h : 0 ≤ a ∧ a ≤ 255) : cellA w (.int .u8 0 255) (.n a) (.int .u8 a) :=
  ⟨by simp only [HasSh]; exact ⟨a, rfl, h, by simpa [kmin, IntKind.signed, IntKind.bits] using h.1, by simpa [kmax, IntKind.signed, IntKind.bits] using h.2⟩, rfl⟩
theorem u16_arg {a : Int} (h : (Go.Lit.int .u16 a).wf = true) : 0 ≤ a ∧ a ≤ 65535 := by
  simp [Go.Lit.wf, IntKind.min, IntKind.max, IntKind.signed, IntKind.bits] at h
  exact ⟨by omega, by omega⟩
theorem u8_arg {a : Int} (h : (Go.Lit.int .u8 a).wf = true) : 0 ≤ a ∧ a ≤ 255 := by
  simp [Go.Lit.wf, IntKind.min, IntKind.max, IntKind.signed, IntKind.bits] at h
  exact ⟨by omega, by omega⟩
theorem cell_u16 {w : World} {a : Int} (h : 0 ≤ a ∧ a ≤ 65535) : cellA w (.int .u16 0 65535) (.n a) (.int .u16 a) :=
  ⟨by simp only [HasSh]; exact ⟨a, rfl, h, by simpa [kmin, IntKind.signed, IntKind.bits] using h.1, by simpa [kmax, IntKind.signed, IntKind.bits] using h.2⟩, rfl⟩
def WellA (w : World) (v : Value) : Prop := ∃ (f r d : Int) (K : List (List DV)) (cs : List Value), v = .agg cs.toArray ∧ cellsA w well [.n f, .n r, .n d, .sl none 0 K] cs
section
variable {H : Type} {enc : TypeId × Value → H} {w : World} {base : Nat} {spare : Nat → Bool} {held : Bool} {r : Reach} {b0 : Nat} {v : Value} {d : DataW H} {p : List MemPlace}
set_option maxRecDepth 100000 in
theorem well_arg (hv : Value.okWide Try.prog w r b0 38 v) (h : DataW.Trod enc Try.prog w base spare held 38 v d p) : WellA w v := by
  obtain ⟨ds, rfl, hs, hl⟩ := open_agg_arg (P := Try.prog) (tb := tb) (f := 20) (row := well) (by kernel_rfl) Try.underlying38 hv h
  have k := agg_cells hs hl
  obtain ⟨x0, x1, x2, x3, e⟩ := list4 (shs_len hs)
  clear hs hl
  subst e
  simp only [tidies, DV.tidy] at k
  exact ⟨_, _, _, _, _, rfl, k⟩
end
end Go.Proofs.Ytcidomlhmdefaaa
