/- DERIVED. The examples, reckoned; lists that are the same; arguments of laws, opened. -/
import Derived.Test.YtcjdheaaddaagaaDcte
import Derived.Test.YtcjdheaaddaagaaDtreed
import Derived.KernelRfl
import Derived.OpenShut
namespace Go.Proofs.Ytcjdheaaddaagaa
open Go.Dx Go.RowKit
set_option linter.unusedVariables false
set_option linter.unusedSimpArgs false
abbrev sameP (a b : DV) : Prop := a.len = b.len ∧ ∀ i : Nat, i < nn a → el a i = el b i
theorem cSame_ok (N : Nat) (w0 : World) : ConOk Try.prog tb N w0 cSame := by
  refine con_of_walk (tb := tb) fine (C := [lSame]) (lopCons rfl noCon) 60 rfl ?_ N w0
  refine fun a ha b hb _ => ?_
  clear ha hb
  rw [tree_same]
  show T.res _ (fun y => y = [.n (if sameP (.sl none 0 a) (.sl none 0 b) then 1 else 0)]) _ _
  have l0 := len_nn (.sl none 0 a)
  have hnn := nn_eq (.sl none 0 a)
  refine res_ite (fun q => no fun y => (cvh (b := ¬ (DV.sl none 0 a).len = (DV.sl none 0 b).len) (by kernel_rfl) q) y.1) fun q => ?_
  have q : (DV.sl none 0 a).len = (DV.sl none 0 b).len := Classical.not_not.1 (cvh (b := ¬ ¬ (DV.sl none 0 a).len = (DV.sl none 0 b).len) (by kernel_rfl) q)
  refine res_lop_of rfl (P := (0 : Int) ≤ (DV.sl none 0 a).len ∧ ∀ i : Nat, i < (0 : Int).toNat → el (.sl none 0 a) i = el (.sl none 0 b) i) (by kernel_rfl) rfl ⟨l0, fun k hk => absurd hk (Nat.not_lt_zero k)⟩ (fun i i0 i1 hI => ?_)
  obtain ⟨hi, hs⟩ := cvh (b := i ≤ (DV.sl none 0 a).len ∧ ∀ j : Nat, j < i.toNat → el (.sl none 0 a) j = el (.sl none 0 b) j) (by kernel_rfl) hI
  have ei : ((i.toNat : Nat) : Int) = i := by omega
  refine res_ite (fun hlt => ?_) fun hge => ?_
  · have hlt := cvh (b := i < (DV.sl none 0 a).len) (by kernel_rfl) hlt
    refine res_ok (cvh (a := 0 ≤ i ∧ i < (DV.sl none 0 b).len) (by kernel_rfl) (by omega)) ?_
    refine res_ite (fun z => no fun y => (cvh (b := ¬ (DV.sl none 0 a).at i 0 = (DV.sl none 0 b).at i 0) (by kernel_rfl) z) ?_) fun z => ?_
    · have := y.2 i.toNat (by omega)
      unfold el at this
      rw [ei] at this
      exact this
    · have z : (DV.sl none 0 a).at i 0 = (DV.sl none 0 b).at i 0 := Classical.not_not.1 (cvh (b := ¬ ¬ (DV.sl none 0 a).at i 0 = (DV.sl none 0 b).at i 0) (by kernel_rfl) z)
      exact res_chk_of rfl (P := i + 1 ≤ (DV.sl none 0 a).len ∧ ∀ j : Nat, j < (i + 1).toNat → el (.sl none 0 a) j = el (.sl none 0 b) j) (a := ((DV.sl none 0 a).len - (i + 1)).toNat) (b := ((DV.sl none 0 a).len - i).toNat) (by kernel_rfl) (by kernel_rfl) (by kernel_rfl) ⟨by omega, fun j hj => by
        by_cases e : j < i.toNat
        · exact hs j e
        · unfold el; rw [show (j : Int) = i by omega]; exact z⟩ (by omega)
  · have hge := cvh (b := ¬ i < (DV.sl none 0 a).len) (by kernel_rfl) hge
    exact yes ⟨q, by rw [show nn (DV.sl none 0 a) = i.toNat by omega]; exact hs⟩
theorem cFew_ok (N : Nat) (w0 : World) : ConOk Try.prog tb N w0 cFew := by
  refine con_of_walk (tb := tb) fine (C := []) noCon 60 rfl ?_ N w0
  refine fun a ha _ => ?_
  clear ha
  rw [tree_few]
  show T.res _ (fun y => True) _ _
  exact res_ite (fun _ => trivial) fun _ => trivial
theorem two_of {L M : List (List DV)} {s t : Int} {q : List DV} (h : [DV.sl none 0 L, .n s] = q) (k : q = [DV.sl none 0 M, .n t]) : L = M ∧ s = t := by
  have e := h.trans k
  simp only [List.cons.injEq, DV.sl.injEq, DV.n.injEq, true_and, and_true] at e
  exact e
theorem two_eq {L M : List (List DV)} {s t : Int} {q : List DV} (h : [DV.sl none 0 L, .n s] = q) (k : [DV.sl none 0 M, .n t] = q) : L = M ∧ s = t := two_of h k.symm
theorem nums2 {a b c d : Int} {q : List DV} (h : [DV.n a, .n b] = q) (k : q = [DV.n c, .n d]) : a = c ∧ b = d := by
  have e := h.trans k
  simpa only [List.cons.injEq, DV.n.injEq, and_true] using e
theorem nums3 {a b c a' b' c' : Int} {q : List DV} (h : [DV.n a, .n b, .n c] = q) (k : q = [DV.n a', .n b', .n c']) : a = a' ∧ b = b' ∧ c = c' := by
  have e := h.trans k
  simpa only [List.cons.injEq, DV.n.injEq, and_true] using e
theorem nums5 {a b c d e a' b' c' d' e' : Int} {q : List DV} (h : [DV.n a, .n b, .n c, .n d, .n e] = q) (k : q = [DV.n a', .n b', .n c', .n d', .n e']) : a = a' ∧ b = b' ∧ c = c' ∧ d = d' ∧ e = e' := by
  have e := h.trans k
  simpa only [List.cons.injEq, DV.n.injEq, and_true] using e
abbrev p24 : DV := .sl none 0 [[.n 2], [.n 4]]
theorem ex1 : awF 3 p24 = [.sl none 0 [[.n 1], [.n 2]], .n 0] := by kernel_rfl
theorem ex2 : thR 3 p24 = [.n 0, .n 2, .n 4, .n 1, .n 0] := by kernel_rfl
theorem ex3 : awF 0 (.sl none 0 []) = [.sl none 0 [], .n 0] := by kernel_rfl
theorem ex4 : awF 1 (.sl none 0 []) = [.sl none 0 [], .n 400] := by kernel_rfl
theorem ex5 : awF 1 (.sl none 0 [[.n 1], [.n 1]]) = [.sl none 0 [[.n 0], [.n 1]], .n 0] := by kernel_rfl
theorem ex6 : prR 3 2 4 = [.n 1, .n 1, .n 0] := by kernel_rfl
theorem ex7 : prR 5 2 2 = [.n 0, .n 0, .n 400] := by kernel_rfl
theorem ex8 : ownR ⟨false, 0, 0, 0⟩ 0 5 = [.n 0, .n 0] := by kernel_rfl
theorem ex9 : ownR ⟨false, 2, 4, 1⟩ 0 100 = [.n 2, .n 0] := by kernel_rfl
theorem ex10 : ownR ⟨false, 2, 4, 1⟩ 5 100 = [.n 2, .n 0] := by kernel_rfl
theorem ex11 : ownR ⟨false, 2, 4, 1⟩ 5 4 = [.n 1, .n 0] := by kernel_rfl
set_option maxRecDepth 100000 in
set_option maxHeartbeats 4000000 in
theorem cSane_ok (N : Nat) (w0 : World) : ConOk Try.prog tb N w0 (lawCon 10 []) := trueCon_ok fun w hG => by
  refine law_of_walk (tb := tb) (P := Try.prog) fine (C := [cAw 12, cThr 14, cPr 19, cOwn 17, cSame]) (conCons cAw_ok (conCons cThr_ok (conCons cPr_ok (conCons cOwn_ok (conCons cSame_ok noCon))))) 100 10 [] rfl (w := w) hG (xs := []) (by simp [ArgsV]) ?_
  rw [tree_sane]
  refine res_dat p24 (by kernel_rfl) (res_con rfl trivial fun a1 h1 e1 _ _ q1 => ?_)
  obtain ⟨rfl, rfl⟩ := two_of (cvh (b := [DV.sl none 0 a1, .n e1] = awF 3 p24) (by kernel_rfl) q1) ex1
  refine res_dat p24 (by kernel_rfl) (res_con rfl trivial fun b _ _ l _ _ c _ _ i _ _ e2 _ _ q2 => ?_)
  obtain ⟨rfl, rfl, rfl, rfl, rfl⟩ := nums5 (cvh (b := [DV.n b, .n l, .n c, .n i, .n e2] = thR 3 p24) (by kernel_rfl) q2) ex2
  refine res_dat (.sl none 0 []) (by kernel_rfl) (res_con rfl trivial fun a3 h3 e3 _ _ q3 => ?_)
  obtain ⟨rfl, rfl⟩ := two_of (cvh (b := [DV.sl none 0 a3, .n e3] = awF 0 (.sl none 0 [])) (by kernel_rfl) q3) ex3
  refine res_dat (.sl none 0 []) (by kernel_rfl) (res_con rfl trivial fun a4 h4 e4 _ _ q4 => ?_)
  obtain ⟨rfl, rfl⟩ := two_of (cvh (b := [DV.sl none 0 a4, .n e4] = awF 1 (.sl none 0 [])) (by kernel_rfl) q4) ex4
  refine res_dat (.sl none 0 [[.n 1], [.n 1]]) (by kernel_rfl) (res_con rfl trivial fun a5 h5 e5 _ _ q5 => ?_)
  obtain ⟨rfl, rfl⟩ := two_of (cvh (b := [DV.sl none 0 a5, .n e5] = awF 1 (.sl none 0 [[.n 1], [.n 1]])) (by kernel_rfl) q5) ex5
  refine res_con rfl trivial fun a6 _ _ b6 _ _ e6 _ _ q6 => ?_
  obtain ⟨rfl, rfl, rfl⟩ := nums3 (cvh (b := [DV.n a6, .n b6, .n e6] = prR 3 2 4) (by kernel_rfl) q6) ex6
  refine res_con rfl trivial fun a7 _ _ b7 _ _ e7 _ _ q7 => ?_
  obtain ⟨rfl, rfl, rfl⟩ := nums3 (cvh (b := [DV.n a7, .n b7, .n e7] = prR 5 2 2) (by kernel_rfl) q7) ex7
  refine res_con rfl trivial fun a8 _ _ e8 _ _ q8 => ?_
  obtain ⟨rfl, rfl⟩ := nums2 (cvh (b := [DV.n a8, .n e8] = ownR ⟨false, 0, 0, 0⟩ 0 5) (by kernel_rfl) q8) ex8
  refine res_con rfl trivial fun a9 _ _ e9 _ _ q9 => ?_
  obtain ⟨rfl, rfl⟩ := nums2 (cvh (b := [DV.n a9, .n e9] = ownR ⟨false, 2, 4, 1⟩ 0 100) (by kernel_rfl) q9) ex9
  refine res_con rfl trivial fun a10 _ _ e10 _ _ q10 => ?_
  obtain ⟨rfl, rfl⟩ := nums2 (cvh (b := [DV.n a10, .n e10] = ownR ⟨false, 2, 4, 1⟩ 5 100) (by kernel_rfl) q10) ex10
  refine res_con rfl trivial fun a11 _ _ e11 _ _ q11 => ?_
  obtain ⟨rfl, rfl⟩ := nums2 (cvh (b := [DV.n a11, .n e11] = ownR ⟨false, 2, 4, 1⟩ 5 4) (by kernel_rfl) q11) ex11
  refine res_ite (fun h => absurd (cvh (b := (((((((((((¬ (0 : Int) = 0) ∨ (¬ (0 : Int) = 0)) ∨ (¬ (0 : Int) = 0)) ∨ (¬ (400 : Int) = 400)) ∨ (¬ (0 : Int) = 0)) ∨ (¬ (0 : Int) = 0)) ∨ (¬ (400 : Int) = 400)) ∨ (¬ (0 : Int) = 0)) ∨ (¬ (0 : Int) = 0)) ∨ (¬ (0 : Int) = 0)) ∨ (¬ (0 : Int) = 0))) (by kernel_rfl) h) (by decide)) fun _ => ?_
  refine res_dat (.sl none 0 [[.n 1], [.n 2]]) (by kernel_rfl) (res_con rfl trivial fun s1 _ _ r1 => ?_)
  obtain rfl : s1 = 1 := n_inj (cvh (b := [DV.n s1] = [DV.n 1]) (by kernel_rfl) r1)
  refine res_ite (fun _ => ?_) fun h => absurd (cvh (a := (((¬ (1 : Int) = 0) ∧ ((0 : Int) = 0 ∧ ((2 : Int) = 2 ∧ ((4 : Int) = 4 ∧ (1 : Int) = 1)))) ∧ (DV.sl none 0 []).len = 0)) (by kernel_rfl) (by decide)) h
  refine res_dat (.sl none 0 [[.n 0], [.n 1]]) (by kernel_rfl) (res_con rfl trivial fun s2 _ _ r2 => ?_)
  obtain rfl : s2 = 1 := n_inj (cvh (b := [DV.n s2] = [DV.n 1]) (by kernel_rfl) r2)
  exact res_ite (fun _ => rfl) fun h => absurd (cvh (a := ((((((¬ (1 : Int) = 0) ∧ ((1 : Int) = 1 ∧ (1 : Int) = 1)) ∧ (0 : Int) = 0) ∧ (2 : Int) = 2) ∧ (2 : Int) = 2) ∧ (1 : Int) = 1)) (by kernel_rfl) (by decide)) h
theorem glb0 (w : World) : Glb tb w := fun g l h => by
  have : tb.glob g = none := rfl
  rw [this] at h; cases h
def IntA (v : Value) : Prop := ∃ a : Int, v = .int .i64 a ∧ -9223372036854775808 ≤ a ∧ a ≤ 9223372036854775807
theorem i64_arg {a : Int} (h : (Go.Lit.int .i64 a).wf = true) : -9223372036854775808 ≤ a ∧ a ≤ 9223372036854775807 := by
  simp [Go.Lit.wf, IntKind.min, IntKind.max, IntKind.signed, IntKind.bits] at h
  exact ⟨by omega, by omega⟩
theorem u16_arg {a : Int} (h : (Go.Lit.int .u16 a).wf = true) : 0 ≤ a ∧ a ≤ 65535 := by
  simp [Go.Lit.wf, IntKind.min, IntKind.max, IntKind.signed, IntKind.bits] at h
  exact ⟨by omega, by omega⟩
theorem i16_arg {a : Int} (h : (Go.Lit.int .i16 a).wf = true) : -32768 ≤ a ∧ a ≤ 32767 := by
  simp [Go.Lit.wf, IntKind.min, IntKind.max, IntKind.signed, IntKind.bits] at h
  exact ⟨by omega, by omega⟩
theorem u32_arg {a : Int} (h : (Go.Lit.int .u32 a).wf = true) : 0 ≤ a ∧ a ≤ 4294967295 := by
  simp [Go.Lit.wf, IntKind.min, IntKind.max, IntKind.signed, IntKind.bits] at h
  exact ⟨by omega, by omega⟩
theorem u64_arg {a : Int} (h : (Go.Lit.int .u64 a).wf = true) : 0 ≤ a ∧ a ≤ 18446744073709551615 := by
  simp [Go.Lit.wf, IntKind.min, IntKind.max, IntKind.signed, IntKind.bits] at h
  exact ⟨by omega, by omega⟩
theorem cell_int {w : World} {a : Int} (h : -9223372036854775808 ≤ a ∧ a ≤ 9223372036854775807) : cellA w i64s (.n a) (.int .i64 a) :=
  ⟨by simp only [HasSh]; exact ⟨a, rfl, h, by simpa [kmin, IntKind.signed, IntKind.bits] using h.1, by simpa [kmax, IntKind.signed, IntKind.bits] using h.2⟩, rfl⟩
theorem cell_u16 {w : World} {a : Int} (h : 0 ≤ a ∧ a ≤ 65535) : cellA w (.int .u16 0 65535) (.n a) (.int .u16 a) :=
  ⟨by simp only [HasSh]; exact ⟨a, rfl, h, by simpa [kmin, IntKind.signed, IntKind.bits] using h.1, by simpa [kmax, IntKind.signed, IntKind.bits] using h.2⟩, rfl⟩
theorem cell_i16 {w : World} {a : Int} (h : -32768 ≤ a ∧ a ≤ 32767) : cellA w (.int .i16 (-32768) 32767) (.n a) (.int .i16 a) :=
  ⟨by simp only [HasSh]; exact ⟨a, rfl, h, by simpa [kmin, IntKind.signed, IntKind.bits] using h.1, by simpa [kmax, IntKind.signed, IntKind.bits] using h.2⟩, rfl⟩
theorem cell_u32 {w : World} {a : Int} (h : 0 ≤ a ∧ a ≤ 4294967295) : cellA w (.int .u32 0 4294967295) (.n a) (.int .u32 a) :=
  ⟨by simp only [HasSh]; exact ⟨a, rfl, h, by simpa [kmin, IntKind.signed, IntKind.bits] using h.1, by simpa [kmax, IntKind.signed, IntKind.bits] using h.2⟩, rfl⟩
theorem cell_u64 {w : World} {a : Int} (h : 0 ≤ a ∧ a ≤ 18446744073709551615) : cellA w (.int .u64 0 18446744073709551615) (.n a) (.int .u64 a) :=
  ⟨by simp only [HasSh]; exact ⟨a, rfl, h, by simpa [kmin, IntKind.signed, IntKind.bits] using h.1, by simpa [kmax, IntKind.signed, IntKind.bits] using h.2⟩, rfl⟩
def MarkA (w : World) (v : Value) : Prop := ∃ (b l c i : Int) (cs : List Value), v = .agg cs.toArray ∧ (0 ≤ b ∧ b ≤ 1) ∧ cellsA w mkSh [.n b, .n l, .n c, .n i] cs
theorem shs_len : ∀ {l : List Sh} {ds : List DV}, HasShs l ds → ds.length = l.length
  | [], [], _ => rfl
  | _ :: l, _ :: ds, h => by simp only [HasShs] at h; simp only [List.length_cons, shs_len h.2]
  | [], _ :: _, h => by simp only [HasShs] at h
  | _ :: _, [], h => by simp only [HasShs] at h
theorem list4 {α : Type} : ∀ {l : List α}, l.length = 4 → ∃ a b c d, l = [a, b, c, d]
  | [a, b, c, d], _ => ⟨a, b, c, d, rfl⟩
section
variable {H : Type} {enc : TypeId × Value → H} {w : World} {base : Nat} {spare : Nat → Bool} {held : Bool} {r : Reach} {b0 : Nat} {v : Value} {d : DataW H} {p : List MemPlace}
set_option maxRecDepth 100000 in
theorem mark_arg (hv : Value.okWide Try.prog w r b0 29 v) (h : DataW.Trod enc Try.prog w base spare held 29 v d p) : MarkA w v := by
  obtain ⟨ds, rfl, hs, hl⟩ := open_agg_arg (P := Try.prog) (tb := tb) (f := 20) (row := mkSh) (by kernel_rfl) Try.underlying29 hv h
  have k := (agg_cellsA (w := w) rfl hs).1
  clear hv h hl
  obtain ⟨x0, x1, x2, x3, e⟩ := list4 (shs_len hs)
  subst e
  have hb : ∃ b, x0 = .n b ∧ 0 ≤ b ∧ b ≤ 1 := by
    have := hs
    unfold HasShs at this
    have := this.1
    unfold HasSh at this
    exact this
  obtain ⟨b, rfl, hb⟩ := hb
  clear hs
  simp only [tidies, DV.tidy] at k
  exact ⟨_, _, _, _, _, rfl, hb, k⟩
end
end Go.Proofs.Ytcjdheaaddaagaa
