/- DERIVED. What sane answers; DaysSpec. -/
import Derived.Test.YtdffnmhpkapbkaaDoorDctb
import Derived.Test.YtdffnmhpkapbkaaDoorDtsane
import Derived.Test.YtdffnmhpkapbkaaDoorDtreel
import Derived.Test.YtdffnmhpkapbkaaDoorRows
import Derived.OpenShut
namespace Go.Proofs.YtdffnmhpkapbkaaDoor
open Go.Dx Go.RowKit
set_option linter.unusedVariables false
set_option linter.unusedSimpArgs false
theorem of_is {n Y M D : Int} {y : List DV} (h : Date Y M D) (e : n = nb Y M D) (p : OfP n y) : y = [.n Y, .n M, .n D, .n 0] := by
  obtain ⟨Y2, M2, D2, h2, e2, rfl⟩ := p.2 (by rw [e]; exact nb_bd h)
  obtain ⟨rfl, rfl, rfl⟩ := nb_one h h2 (by omega)
  rfl
theorem of_one {n : Int} {x y : List DV} (h : OfP n x) (k : OfP n y) : x = y := by
  by_cases c : Day n
  · obtain ⟨Y, M, D, h1, h2, rfl⟩ := h.2 c
    exact (of_is h1 h2 k).symm
  · rw [h.1 c, k.1 c]
theorem num_one {Y M D : Int} {x y : List DV} (h : NumP Y M D x) (k : NumP Y M D y) : x = y := by
  by_cases c : Date Y M D
  · rw [h.2 c, k.2 c]
  · rw [h.1 c, k.1 c]
theorem wk_one {n : Int} {x y : List DV} (h : WkP n x) (k : WkP n y) : x = y := by
  by_cases c : Day n
  · rw [h.2 c, k.2 c]
  · rw [h.1 c, k.1 c]
def dd : DV := DV.sl none 0 [[DV.n 1, DV.n 2], [DV.n 6, DV.n 9]]
theorem dd_len : dd.len = 2 := by decide +kernel
theorem dd_long : ¬ 256 < dd.len := by rw [dd_len]; decide
theorem dd_all : AllS dd dd.len := fun k h0 h1 => by
  rw [dd_len] at h1
  have : k = 0 ∨ k = 1 := by omega
  rcases this with rfl | rfl
  · exact ⟨⟨by decide +kernel, by decide +kernel⟩, by decide +kernel, by decide +kernel⟩
  · exact ⟨⟨by decide +kernel, by decide +kernel⟩, by decide +kernel, by decide +kernel⟩
theorem nth_fine {d : DV} {k : Int} {y : List DV} (h : NthP d k y) (a : ¬ 256 < d.len) (b : AllS d d.len) : (k < 0 → y = [.n 0, .n 0, .n 1]) ∧ (0 ≤ k → cn d d.len.toNat ≤ k → y = [.n 0, .n 0, .n 0]) ∧ (0 ≤ k → k < cn d d.len.toNat → ∃ i : Nat, (i : Int) < d.len ∧ (cn d i ≤ k ∧ k < cn d (i + 1)) ∧ y = [.n (d.at i 0 + (k - cn d i)), .n 1, .n 0]) := h.2.2 a b
theorem ErrP.fine {d : DV} {z y : List DV} {f : Prop} (h : ErrP d z f y) (k : ¬ 256 < d.len) (l : AllS d d.len) : f := h.2.2 k l
theorem dd_cn : cn dd 0 = 0 ∧ cn dd 1 = 2 ∧ cn dd 2 = 6 := ⟨by decide +kernel, by decide +kernel, by decide +kernel⟩
theorem cSane_ok (N : Nat) (w0 : World) : ConOk Tryd.prog tb N w0 (lawCon 9 []) := trueCon_ok fun w hG => by
  refine law_of_walk (tb := tb) (P := Tryd.prog) fine (C := [cOf 10, cNum 12, cWk 14, cCnt 17, cNth 19]) (conCons cOf_ok (conCons cNum_ok (conCons cWk_ok (conCons cCnt_ok (conCons cNth_ok noCon))))) 400 9 [] rfl (w := w) hG (xs := []) (vs := []) (by simp only [ArgsV]) ?_
  rw [tree_sane]
  simp only [T.res, B.prop, E.den, E.dat, E.top, E.val, E.isD, DV.canon, DV.int, DOp.fn, chunk, List.getElem?_cons_zero, List.getElem?_cons_succ, List.getD_cons_zero, List.getD_cons_succ, List.getD_nil, List.map_cons, List.map_nil, List.cons_append, List.nil_append, allB, resB, resL', RSh.l, RC.vd, List.flatMap_cons, List.flatMap_nil, List.append_nil, List.length_cons, List.length_nil, Nat.zero_add, Nat.reduceAdd, List.take_succ_cons, List.take_zero, List.drop_succ_cons, List.drop_zero, ev, dv, cOf, cNum, cWk, cCnt, cNth]
  refine ⟨trivial, fun a1 _ _ a2 _ _ a3 _ _ a4 _ _ ha => ⟨trivial, fun b1 _ _ b2 _ _ b3 _ _ b4 _ _ hb => ⟨trivial, fun c1 _ _ c2 _ _ c3 _ _ c4 _ _ hc => ⟨trivial, fun d1 _ _ d2 _ _ hd => ⟨trivial, fun e1 _ _ e2 _ _ he => ⟨trivial, fun f1 _ _ f2 _ _ hf => ⟨trivial, fun g1 _ _ g2 _ _ g3 _ _ hg => ⟨trivial, fun h1 _ _ h2 _ _ h3 _ _ hh => ⟨trivial, fun i1 _ _ i2 _ _ i3 _ _ hi => ?_⟩⟩⟩⟩⟩⟩⟩⟩⟩
  have ha := of_is (Y := 2000) (M := 2) (D := 29) ⟨⟨by decide, by decide⟩, ⟨by decide, by decide⟩, by decide, by decide +kernel⟩ (by decide +kernel) ha
  have hb := of_is (Y := 2199) (M := 12) (D := 31) ⟨⟨by decide, by decide⟩, ⟨by decide, by decide⟩, by decide, by decide +kernel⟩ (by decide +kernel) hb
  have hc := of_is (Y := 2001) (M := 1) (D := 1) ⟨⟨by decide, by decide⟩, ⟨by decide, by decide⟩, by decide, by decide +kernel⟩ (by decide +kernel) hc
  have hd : [DV.n d1, DV.n d2] = [.n 0, .n 140] := hd.1 fun q => absurd q.2.2.2 (by decide +kernel)
  have he : [DV.n e1, DV.n e2] = [.n 5, .n 0] := he.2 ⟨by decide, by decide⟩
  have hf : [DV.n f1, DV.n f2] = [.n (cn dd dd.len.toNat), .n 0] := ErrP.fine (d := dd) hf dd_long dd_all
  have hg := nth_fine (show NthP dd 2 _ from hg) dd_long dd_all
  have hh := nth_fine (show NthP dd 6 _ from hh) dd_long dd_all
  have hi := nth_fine (show NthP dd (-1) _ from hi) dd_long dd_all
  have k2 : dd.len.toNat = 2 := by rw [dd_len]; rfl
  obtain ⟨n0, n1, n2⟩ := dd_cn
  rw [k2, n2] at hf hg hh hi
  obtain ⟨i, i1', ⟨i2', i3'⟩, hg⟩ := hg.2.2 (by decide) (by decide)
  rw [dd_len] at i1'
  have : i = 0 ∨ i = 1 := by omega
  rcases this with rfl | rfl
  · rw [n1] at i3'; exact absurd i3' (by decide)
  have hh := hh.2.1 (by decide) (by decide)
  have hi := hi.1 (by decide)
  rw [n1, show dd.at ((1 : Nat) : Int) 0 = 6 by decide +kernel] at hg
  simp only [List.cons.injEq, DV.n.injEq, and_true] at ha hb hc hd he hf hg hh hi
  obtain ⟨rfl, rfl, rfl, rfl⟩ := ha
  obtain ⟨rfl, rfl, rfl, rfl⟩ := hb
  obtain ⟨rfl, rfl, rfl, rfl⟩ := hc
  obtain ⟨rfl, rfl⟩ := hd
  obtain ⟨rfl, rfl⟩ := he
  obtain ⟨rfl, rfl⟩ := hf
  obtain ⟨rfl, rfl, rfl⟩ := hg
  obtain ⟨rfl, rfl, rfl⟩ := hh
  obtain ⟨rfl, rfl, rfl⟩ := hi
  exact ⟨fun k => absurd k (by decide), fun _ => ⟨fun k => absurd k (by decide), fun _ => trivial⟩⟩
/-- What the row's list says of the package-level variable. -/
theorem glb {W : World} (h : laidMet Tryd.prog [("acequia/days.lengths", Rows.laid_acequia_days_lengths)] W) : Glb tb W :=
  glb_of_laid (P := Tryd.prog) (tb := tb) h ⟨⟨57, [i64s, i64s, i64s, i64s, i64s, i64s, i64s, i64s, i64s, i64s, i64s, i64s], by kernel_rfl, by kernel_rfl, by kernel_rfl, by kernel_rfl, by kernel_rfl⟩, trivial⟩
def IntA (v : Value) : Prop := ∃ a : Int, v = .int .i64 a ∧ -9223372036854775808 ≤ a ∧ a ≤ 9223372036854775807
theorem int_arg {a : Int} (h : (Go.Lit.int .i64 a).wf = true) : IntA (.int .i64 a) := by
  refine ⟨a, rfl, ?_⟩
  simp [Go.Lit.wf, IntKind.min, IntKind.max, IntKind.signed, IntKind.bits] at h
  exact ⟨by omega, by omega⟩
theorem cell_int {w : World} {a : Int} (h : -9223372036854775808 ≤ a ∧ a ≤ 9223372036854775807) : cellA w i64s (.n a) (.int .i64 a) :=
  ⟨by simp only [HasSh]; exact ⟨a, rfl, h, by simpa [kmin, IntKind.signed, IntKind.bits] using h.1, by simpa [kmax, IntKind.signed, IntKind.bits] using h.2⟩, rfl⟩
abbrev date : List Sh := [i64s, i64s, i64s]
def DateA (w : World) (v : Value) : Prop := ∃ (a b c : Int) (cs : List Value), v = .agg cs.toArray ∧ cellsA w date [.n a, .n b, .n c] cs
theorem shs_len : ∀ {l : List Sh} {ds : List DV}, HasShs l ds → ds.length = l.length
  | [], [], _ => rfl
  | _ :: l, _ :: ds, h => by simp only [HasShs] at h; simp only [List.length_cons, shs_len h.2]
  | [], _ :: _, h => by simp only [HasShs] at h
  | _ :: _, [], h => by simp only [HasShs] at h
theorem list3 {α : Type} : ∀ {l : List α}, l.length = 3 → ∃ a b c, l = [a, b, c]
  | [a, b, c], _ => ⟨a, b, c, rfl⟩
set_option maxRecDepth 100000 in
theorem date_arg {H : Type} {enc : TypeId × Value → H} {w : World} {base : Nat} {spare : Nat → Bool} {held : Bool} {r : Reach} {b0 : Nat} {v : Value} {d : DataW H} {p : List MemPlace}
    (hv : Value.okWide Tryd.prog w r b0 23 v) (h : DataW.Trod enc Tryd.prog w base spare held 23 v d p) : DateA w v := by
  obtain ⟨ds, rfl, hs, _⟩ := open_agg_arg (P := Tryd.prog) (tb := tb) (f := 20) (row := date) (by kernel_rfl) Tryd.underlying23 hv h
  have k := (agg_cellsA (w := w) rfl hs).1
  obtain ⟨a, b, c, e⟩ := list3 (shs_len hs)
  clear hs
  subst e
  simp only [tidies, DV.tidy] at k
  exact ⟨_, _, _, _, rfl, k⟩
theorem DaysSpec_any (v0 v1 : Value) (w : World) (hG : Glb tb w) (g0 : IntA v0) (g1 : DateA w v1) :
    Calls Tryd.prog 3 #[v0, v1] w fun e w' => e = .returned (.bool true) ∧ Below w.heap.size w w' := by
  obtain ⟨a, rfl, ha⟩ := g0
  obtain ⟨Y, M, D, cs, rfl, hcs⟩ := g1
  refine law_of_walk (tb := tb) (P := Tryd.prog) fine (C := [lawCon 9 [], cOf 10, cOf 11, cNum 12, cNum 13, cWk 14, cWk 15]) (conCons cSane_ok (conCons cOf_ok (conCons cOfR_ok (conCons cNum_ok (conCons cNumR_ok (conCons cWk_ok (conCons cWkR_ok noCon))))))) 80 3 [.c i64s, .agg [i64s, i64s, i64s]] rfl (w := w) hG (xs := [.n a, .n Y, .n M, .n D]) ?_ ?_
  · simp only [ArgsV]
    exact ⟨cell_int ha, [.n Y, .n M, .n D], [], cs, rfl, rfl, hcs, trivial⟩
  · clear hcs
    rw [tree_lspec]
    simp only [T.res, B.prop, E.den, E.dat, E.top, E.val, E.isD, DV.canon, DV.int, DOp.fn, chunk, List.getElem?_cons_zero, List.getElem?_cons_succ, List.getD_cons_zero, List.getD_cons_succ, List.getD_nil, List.map_cons, List.map_nil, List.cons_append, List.nil_append, allB, resB, resL', RSh.l, RC.vd, List.flatMap_cons, List.flatMap_nil, List.append_nil, List.length_cons, List.length_nil, Nat.zero_add, Nat.reduceAdd, List.take_succ_cons, List.take_zero, List.drop_succ_cons, List.drop_zero, ev, dv, lawCon, cOf, cNum, cWk]
    refine ⟨trivial, fun z z0 z1 hz => ?_⟩
    obtain rfl := n_inj hz
    refine ⟨fun h => absurd h (by decide), fun _ => ⟨trivial, fun a1 _ _ a2 _ _ a3 _ _ a4 _ _ ha => ⟨trivial, fun b1 _ _ b2 _ _ b3 _ _ b4 _ _ hb => ⟨trivial, fun c1 _ _ c2 _ _ hc => ⟨trivial, fun d1 _ _ d2 _ _ hd => ⟨trivial, fun e1 _ _ e2 _ _ he => ⟨trivial, fun f1 _ _ f2 _ _ hf => ?_⟩⟩⟩⟩⟩⟩⟩
    have x := of_one ha hb
    have y := num_one hc hd
    have u := wk_one he hf
    simp only [List.cons.injEq, DV.n.injEq, and_true] at x y u
    exact ⟨fun _ => trivial, fun k => absurd (by omega) k⟩
end Go.Proofs.YtdffnmhpkapbkaaDoor
