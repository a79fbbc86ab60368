/- DERIVED. The examples, reckoned; arguments of laws, opened. -/
import Derived.Test.YtpaphkpdnmalhaaEcte
import Derived.Test.YtpaphkpdnmalhaaEconb
import Derived.Test.YtpaphkpdnmalhaaEtreec
import Derived.Test.YtpaphkpdnmalhaaEtreed
import Derived.KernelRfl
import Derived.OpenShut
namespace Go.Proofs.Ytpaphkpdnmalhaa
open Go.Dx Go.RowKit
set_option linter.unusedVariables false
set_option linter.unusedSimpArgs false
theorem cSame_ok (N : Nat) (w0 : World) : ConOk Try.prog tb N w0 (cSame 21) := by
  refine con_of_walk (tb := tb) fine (C := [lSame]) (lopCons rfl noCon) 120 rfl ?_ N w0
  refine fun a ha b hb _ => ?_
  clear ha hb
  rw [tree_same]
  show T.res _ (fun y => y = yn (sameP (.sl none 0 a) (.sl none 0 b))) _ _
  have l0 := len_nn (.sl none 0 a)
  refine res_ite (fun q => no fun y => q (show (DV.sl none 0 a).len = (DV.sl none 0 b).len from y.1)) fun q => ?_
  have q : (DV.sl none 0 a).len = (DV.sl none 0 b).len := Classical.not_not.1 q
  refine res_lop rfl (show (0 : Int) ≤ (DV.sl none 0 a).len ∧ ∀ i : Nat, i < (0 : Int).toNat → el (.sl none 0 a) i = el (.sl none 0 b) i from ⟨l0, fun k hk => absurd hk (Nat.not_lt_zero k)⟩) (fun i i0 i1 hI => ?_)
  obtain ⟨hi, hs⟩ : i ≤ (DV.sl none 0 a).len ∧ ∀ j : Nat, j < i.toNat → el (.sl none 0 a) j = el (.sl none 0 b) j := hI
  have ei : ((i.toNat : Nat) : Int) = i := by omega
  refine res_ite (fun hlt => ?_) fun hge => ?_
  · have hlt : i < (DV.sl none 0 a).len := hlt
    refine res_ok (show 0 ≤ i ∧ i < (DV.sl none 0 b).len by omega) ?_
    refine res_ite (fun z => no fun y => z ?_) fun z => ?_
    · have := y.2 i.toNat (by omega)
      unfold el at this
      rw [ei] at this
      exact this
    · have z : (DV.sl none 0 a).at i 0 = (DV.sl none 0 b).at i 0 := Classical.not_not.1 z
      refine res_chk rfl (show i + 1 ≤ (DV.sl none 0 a).len ∧ ∀ j : Nat, j < (i + 1).toNat → el (.sl none 0 a) j = el (.sl none 0 b) j from ⟨by omega, fun j hj => ?_⟩) ?_
      · by_cases e : j < i.toNat
        · exact hs j e
        · unfold el; rw [show (j : Int) = i by omega]; exact z
      · show ((DV.sl none 0 a).len - (i + 1)).toNat < ((DV.sl none 0 a).len - i).toNat
        omega
  · have hge : ¬ i < (DV.sl none 0 a).len := hge
    exact yes ⟨q, by rw [show (DV.sl none 0 a).len = i by omega]; exact hs⟩
theorem favL_len (S f : DV) (side : Int) : ∀ n, (favL S f side n).length ≤ n
  | 0 => Nat.le_refl _
  | n + 1 => by
    have := favL_len S f side n
    unfold favL
    split
    · simp only [List.length_append, List.length_cons, List.length_nil]; omega
    · omega
theorem favL_succ {S f : DV} {side : Int} {i : Int} (h0 : 0 ≤ i) : favL S f side (i + 1).toNat = if S.at (f.at i 0) 0 = side then favL S f side i.toNat ++ [[.n (f.at i 0)]] else favL S f side i.toNat := by
  rw [show (i + 1).toNat = i.toNat + 1 by omega]
  show (if S.at (el f i.toNat) 0 = side then _ else _) = _
  unfold el
  rw [show ((i.toNat : Nat) : Int) = i by omega]
set_option maxRecDepth 100000 in
theorem cFavR_ok (N : Nat) (w0 : World) : ConOk Try.prog tb N w0 (cFavR 23) := by
  refine con_of_walk (tb := tb) fine (C := [lFavR]) (lopCons rfl noCon) 120 rfl ?_ N w0
  refine fun S hS C hC f hf side _ _ hpre => ?_
  clear hS hC hf
  obtain ⟨hsf, hS32⟩ : setP (DV.sl none 0 S).len (.sl none 0 f) (DV.sl none 0 f).len.toNat ∧ (DV.sl none 0 S).len ≤ 32 := hpre
  rw [tree_favR]
  show T.res _ (fun y => y = [.sl none 0 (favL (.sl none 0 S) (.sl none 0 f) side (DV.sl none 0 f).len.toNat)]) _ _
  have l0 := len_nn (.sl none 0 f)
  have hcard := set_card (len_nn _) hsf
  refine res_dat (.sl none 0 []) rfl ?_
  refine res_lop rfl (show (0 : Int) ≤ (DV.sl none 0 f).len ∧ [] = favL (.sl none 0 S) (.sl none 0 f) side (0 : Int).toNat from ⟨l0, rfl⟩) (fun o ho i i0 i1 hI => ?_)
  clear ho
  obtain ⟨hi, hoo⟩ : i ≤ (DV.sl none 0 f).len ∧ o = favL (.sl none 0 S) (.sl none 0 f) side i.toNat := hI
  have ei : ((i.toNat : Nat) : Int) = i := by omega
  have hol := favL_len (.sl none 0 S) (.sl none 0 f) side i.toNat
  rw [← hoo] at hol
  have lo : (DV.sl none 0 o).len = o.length := clampL_eq (show o.length ≤ 9223372036854775807 by omega)
  refine res_ite (fun hlt => ?_) fun hge => ?_
  · have hlt : i < (DV.sl none 0 f).len := hlt
    have hx2 := (hsf i.toNat (by omega)).1
    unfold el at hx2
    rw [ei] at hx2
    have mea : ((DV.sl none 0 f).len - (i + 1)).toNat < ((DV.sl none 0 f).len - i).toNat := by omega
    have hnx := favL_succ (S := .sl none 0 S) (side := side) (f := .sl none 0 f) i0
    refine res_ok (show 0 ≤ (DV.sl none 0 f).at i 0 ∧ (DV.sl none 0 f).at i 0 < (DV.sl none 0 S).len from hx2) ?_
    refine res_ite (fun z => ?_) fun z => ?_
    · have z : (DV.sl none 0 S).at ((DV.sl none 0 f).at i 0) 0 = side := z
      refine res_ok (show (DV.sl none 0 o).len + 1 ≤ 15637498706147 by omega) ?_
      rw [if_pos z] at hnx
      refine res_dat (.sl none 0 [[.n ((DV.sl none 0 f).at i 0)]]) rfl ?_
      refine res_dat (.sl none 0 (o ++ [[.n ((DV.sl none 0 f).at i 0)]])) rfl ?_
      exact res_chk rfl (show i + 1 ≤ (DV.sl none 0 f).len ∧ o ++ [[DV.n ((DV.sl none 0 f).at i 0)]] = favL (.sl none 0 S) (.sl none 0 f) side (i + 1).toNat from ⟨by omega, by rw [hnx, hoo]⟩) mea
    · have z : ¬ (DV.sl none 0 S).at ((DV.sl none 0 f).at i 0) 0 = side := z
      rw [if_neg z] at hnx
      exact res_chk rfl (show i + 1 ≤ (DV.sl none 0 f).len ∧ o = favL (.sl none 0 S) (.sl none 0 f) side (i + 1).toNat from ⟨by omega, by rw [hnx, hoo]⟩) mea
  have hge : ¬ i < (DV.sl none 0 f).len := hge
  show [DV.sl none 0 o] = _
  rw [hoo, show i = (DV.sl none 0 f).len by omega]
theorem right_zero {x : Prop} : gi [DV.n 0] 0 ≠ 0 → x := fun h => absurd rfl h
set_option maxRecDepth 100000 in
theorem cRight_ok (N : Nat) (w0 : World) : ConOk Try.prog tb N w0 (cRight 22) := by
  refine con_of_walk (tb := tb) fine (C := [cChk 14, cSetR 32, lFew 3]) (conCons cChkR_ok (conCons cSetR_ok (lopCons rfl noCon))) 200 rfl ?_ N w0
  refine fun S hS C hC f hf _ => ?_
  clear hS hC hf
  rw [tree_right]
  show T.res _ (fun y => gi y 0 ≠ 0 → chkF (.sl none 0 S) (.sl none 0 C) = 0 ∧ (DV.sl none 0 f).len ≤ 60 ∧ setP (DV.sl none 0 S).len (.sl none 0 f) (DV.sl none 0 f).len.toNat) _ _
  have l0 := len_nn (.sl none 0 C)
  refine res_ite (fun _ => right_zero) fun _ => ?_
  refine res_lop rfl (show (0 : Int) ≤ (DV.sl none 0 C).len from l0) (fun i i0 i1 hI => ?_)
  have hI : i ≤ (DV.sl none 0 C).len := hI
  refine res_ite (fun hlt => ?_) fun hge => ?_
  · have hlt : i < (DV.sl none 0 C).len := hlt
    refine res_ite (fun _ => right_zero) fun _ => ?_
    exact res_chk rfl (show i + 1 ≤ (DV.sl none 0 C).len by omega) (show ((DV.sl none 0 C).len - (i + 1)).toNat < ((DV.sl none 0 C).len - i).toNat by omega)
  refine res_con rfl trivial (fun e _ _ he => ?_)
  have he : e = chkF (.sl none 0 S) (.sl none 0 C) := n_inj he
  refine res_ite (fun q => ?_) fun _ => right_zero
  obtain ⟨q1, q2⟩ : e = 0 ∧ (DV.sl none 0 f).len ≤ 60 := q
  refine res_con rfl trivial (fun a _ _ ha => ?_)
  have ha := yn_in (c := setP (DV.sl none 0 S).len (.sl none 0 f) (DV.sl none 0 f).len.toNat) (show [DV.n a] = _ from ha)
  intro h
  have h : a ≠ 0 := h
  exact ⟨he.symm.trans q1, q2, (ha.resolve_right fun v => h v.1).2⟩
set_option maxRecDepth 100000 in
theorem cSane_ok (N : Nat) (w0 : World) : ConOk Try.prog tb N w0 (lawCon 9 []) := trueCon_ok fun w hG => by
  have := law_of_walk (tb := tb) (P := Try.prog) fine (C := [cBinds 15, cDis 19, cMay 17, cClash 11, cChk 13, cSame 21]) (conCons cBinds_ok (conCons cDis_ok (conCons cMay_ok (conCons cClash_ok (conCons cChk_ok (conCons cSame_ok noCon)))))) 300 9 [] rfl (w := w) hG (xs := []) (vs := []) (by simp only [ArgsV]) (by
    rw [tree_sane]
    refine T.go_ok (Q := [fun xs => BindsF (gd xs 0) (gd xs 1) (gd xs 2) (gi xs 3), fun xs => DisF (gd xs 0) (gd xs 1) (gi xs 2) (gd xs 3), fun xs => MayF (gd xs 0) (gd xs 1) (gd xs 2) (gd xs 3) (gi xs 4), fun xs => ClashF (gd xs 0) (gd xs 1), fun xs => [.n (chkF (gd xs 0) (gd xs 1))], fun xs => yn (sameP (gd xs 0) (gd xs 1))]) ?_ _ 0 _ fun ad => ?_
    · simp only [SaysAll, and_true]
      exact ⟨⟨fun _ => trivial, fun _ _ h => h⟩, ⟨fun _ => trivial, fun _ _ h => h⟩, ⟨fun _ => trivial, fun _ _ h => h⟩, ⟨fun _ => trivial, fun _ _ h => h⟩, ⟨fun _ => trivial, fun _ _ h => h⟩, ⟨fun _ => trivial, fun _ _ h => h⟩⟩
    · kernel_rfl)
  exact this
theorem agg_cells {w : World} : ∀ {row : List Sh} {ds : List DV}, HasShs row ds → LaidL w (fun _ => True) row ds → cellsA w row (tidies row ds) (rowV row ds)
  | [], [], _, _ => by simp only [rowV, cellsA, tidies]
  | .int k a b :: l, d :: ds, h, hl => by
    simp only [HasShs] at h
    simp only [LaidL] at hl
    have ih := agg_cells (w := w) h.2 hl.2
    simp only [rowV, cellsA, tidies, DV.tidy]
    refine ⟨⟨?_, rfl⟩, ih⟩
    have := h.1
    simp only [HasSh] at this ⊢
    obtain ⟨i, rfl, h1, h2⟩ := this
    exact ⟨i, rfl, h1, h2⟩
  | .bool :: l, d :: ds, h, hl => by
    simp only [HasShs] at h
    simp only [LaidL] at hl
    have ih := agg_cells (w := w) h.2 hl.2
    simp only [rowV, cellsA, tidies, DV.tidy]
    refine ⟨⟨?_, rfl⟩, ih⟩
    have := h.1
    simp only [HasSh] at this ⊢
    obtain ⟨i, rfl, h1⟩ := this
    exact ⟨i, rfl, h1⟩
  | .str m :: l, d :: ds, h, hl => by
    simp only [HasShs] at h
    simp only [LaidL] at hl
    have ih := agg_cells (w := w) h.2 hl.2
    simp only [rowV, cellsA, tidies, DV.tidy]
    refine ⟨⟨?_, ⟨_, rfl⟩, rfl⟩, ih⟩
    have := h.1
    simp only [HasSh, DV.str] at this ⊢
    exact this
  | .sl m r :: l, d :: ds, h, hl => by
    simp only [HasShs] at h
    simp only [LaidL] at hl
    have ih := agg_cells (w := w) h.2 hl.2
    simp only [rowV, cellsA, tidies, DV.tidy]
    have h1 := h.1
    have h2 := hl.1
    simp only [HasSh] at h1
    simp only [Laid] at h2
    refine ⟨⟨by simp only [HasSh, DV.els]; exact h1, ⟨_, rfl⟩, ?_, h2.1, h2.2⟩, ih⟩
    cases d <;> rfl
  | _ :: _, [], h, _ => by simp [HasShs] at h
  | [], _ :: _, h, _ => by simp [HasShs] at h
theorem list4 {α : Type} : ∀ {l : List α}, l.length = 4 → ∃ x0 x1 x2 x3, l = [x0, x1, x2, x3]
  | [x0, x1, x2, x3], _ => ⟨x0, x1, x2, x3, rfl⟩
theorem shs_len : ∀ {l : List Sh} {ds : List DV}, HasShs l ds → ds.length = l.length
  | [], [], _ => rfl
  | _ :: l, _ :: ds, h => by simp only [HasShs] at h; simp only [List.length_cons, shs_len h.2]
  | [], _ :: _, h => by simp only [HasShs] at h
  | _ :: _, [], h => by simp only [HasShs] at h
theorem glb0 (w : World) : Glb tb w := fun g l h => by
  have : tb.glob g = none := rfl
  rw [this] at h; cases h
def IntA (v : Value) : Prop := ∃ a : Int, v = .int .i64 a ∧ -9223372036854775808 ≤ a ∧ a ≤ 9223372036854775807
theorem int_arg {a : Int} (h : (Go.Lit.int .i64 a).wf = true) : IntA (.int .i64 a) := by
  refine ⟨a, rfl, ?_⟩
  simp [Go.Lit.wf, IntKind.min, IntKind.max, IntKind.signed, IntKind.bits] at h
  exact ⟨by omega, by omega⟩
theorem cell_int {w : World} {a : Int} (h : -9223372036854775808 ≤ a ∧ a ≤ 9223372036854775807) : cellA w i64s (.n a) (.int .i64 a) :=
  ⟨by simp only [HasSh]; exact ⟨a, rfl, h, by simpa [kmin, IntKind.signed, IntKind.bits] using h.1, by simpa [kmax, IntKind.signed, IntKind.bits] using h.2⟩, rfl⟩
def ByteA (v : Value) : Prop := ∃ a : Int, v = .int .u8 a ∧ 0 ≤ a ∧ a ≤ 255
theorem byte_arg {a : Int} (h : (Go.Lit.int .u8 a).wf = true) : ByteA (.int .u8 a) := by
  refine ⟨a, rfl, ?_⟩
  simp [Go.Lit.wf, IntKind.min, IntKind.max, IntKind.signed, IntKind.bits] at h
  exact ⟨by omega, by omega⟩
theorem cell_byte {w : World} {a : Int} (h : 0 ≤ a ∧ a ≤ 255) : cellA w (.int .u8 0 255) (.n a) (.int .u8 a) :=
  ⟨by simp only [HasSh]; exact ⟨a, rfl, h, by simpa [kmin, IntKind.signed, IntKind.bits] using h.1, by simpa [kmax, IntKind.signed, IntKind.bits] using h.2⟩, rfl⟩
theorem u16_arg {a : Int} (h : (Go.Lit.int .u16 a).wf = true) : 0 ≤ a ∧ a ≤ 65535 := by
  simp [Go.Lit.wf, IntKind.min, IntKind.max, IntKind.signed, IntKind.bits] at h
  exact ⟨by omega, by omega⟩
theorem u8_arg {a : Int} (h : (Go.Lit.int .u8 a).wf = true) : 0 ≤ a ∧ a ≤ 255 := by
  simp [Go.Lit.wf, IntKind.min, IntKind.max, IntKind.signed, IntKind.bits] at h
  exact ⟨by omega, by omega⟩
theorem cell_u16 {w : World} {a : Int} (h : 0 ≤ a ∧ a ≤ 65535) : cellA w (.int .u16 0 65535) (.n a) (.int .u16 a) :=
  ⟨by simp only [HasSh]; exact ⟨a, rfl, h, by simpa [kmin, IntKind.signed, IntKind.bits] using h.1, by simpa [kmax, IntKind.signed, IntKind.bits] using h.2⟩, rfl⟩
theorem list2 {α : Type} : ∀ {l : List α}, l.length = 2 → ∃ x0 x1, l = [x0, x1]
  | [x0, x1], _ => ⟨x0, x1, rfl⟩
theorem list5 {α : Type} : ∀ {l : List α}, l.length = 5 → ∃ x0 x1 x2 x3 x4, l = [x0, x1, x2, x3, x4]
  | [x0, x1, x2, x3, x4], _ => ⟨x0, x1, x2, x3, x4, rfl⟩
def BookA (w : World) (v : Value) : Prop := ∃ (S C : List (List DV)) (cs : List Value), v = .agg cs.toArray ∧ cellsA w book [.sl none 0 S, .sl none 0 C] cs
def CaseA (w : World) (v : Value) : Prop := ∃ (a b c : Int) (F R : List (List DV)) (cs : List Value), v = .agg cs.toArray ∧ cellsA w case1 [.n a, .n b, .n c, .sl none 0 F, .sl none 0 R] cs
section
variable {H : Type} {enc : TypeId × Value → H} {w : World} {base : Nat} {spare : Nat → Bool} {held : Bool} {r : Reach} {b0 : Nat} {v : Value} {d : DataW H} {p : List MemPlace}
set_option maxRecDepth 100000 in
theorem book_arg (hv : Value.okWide Try.prog w r b0 25 v) (h : DataW.Trod enc Try.prog w base spare held 25 v d p) : BookA w v := by
  obtain ⟨ds, rfl, hs, hl⟩ := open_agg_arg (P := Try.prog) (tb := tb) (f := 20) (row := book) (by kernel_rfl) Try.underlying25 hv h
  have k := agg_cells hs hl
  obtain ⟨x0, x1, e⟩ := list2 (shs_len hs)
  clear hs hl
  subst e
  simp only [tidies, DV.tidy] at k
  exact ⟨_, _, _, rfl, k⟩
set_option maxRecDepth 100000 in
theorem case_arg (hv : Value.okWide Try.prog w r b0 44 v) (h : DataW.Trod enc Try.prog w base spare held 44 v d p) : CaseA w v := by
  obtain ⟨ds, rfl, hs, hl⟩ := open_agg_arg (P := Try.prog) (tb := tb) (f := 20) (row := case1) (by kernel_rfl) Try.underlying44 hv h
  have k := agg_cells hs hl
  obtain ⟨x0, x1, x2, x3, x4, e⟩ := list5 (shs_len hs)
  clear hs hl
  subst e
  simp only [tidies, DV.tidy] at k
  exact ⟨_, _, _, _, _, _, rfl, k⟩
end
end Go.Proofs.Ytpaphkpdnmalhaa
