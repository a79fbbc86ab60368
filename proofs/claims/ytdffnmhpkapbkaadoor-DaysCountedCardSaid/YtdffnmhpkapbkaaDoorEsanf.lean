/- DERIVED. What sane answers. -/
import Derived.Test.YtdffnmhpkapbkaaDoorEwlkc
import Derived.Test.YtdffnmhpkapbkaaDoorEcti
import Derived.Test.YtdffnmhpkapbkaaDoorEcth
import Derived.Test.YtdffnmhpkapbkaaDoorEctg
import Derived.Test.YtdffnmhpkapbkaaDoorEtrees
import Derived.Test.YtdffnmhpkapbkaaDoorRows
import Derived.OpenShut
namespace Go.Proofs.YtdffnmhpkapbkaaDoor
open Go.Dx Go.RowKit
set_option linter.unusedVariables false
theorem of_is {n Y M D : Int} {y : List DV} (h : Date Y M D) (e : n = nb Y M D) (p : OfP n y) : y = [.n Y, .n M, .n D, .n 0] := by
  obtain ⟨Y2, M2, D2, h2, e2, rfl⟩ := p.2 (by rw [e]; exact nb_bd h)
  obtain ⟨rfl, rfl, rfl⟩ := nb_one h h2 (by omega)
  rfl
theorem nth_fine {d : DV} {k : Int} {y : List DV} (h : NthP d k y) (a : ¬ 256 < d.len) (b : AllS d d.len) : (k < 0 → y = [.n 0, .n 0, .n 1]) ∧ (0 ≤ k → cn d d.len.toNat ≤ k → y = [.n 0, .n 0, .n 0]) ∧ (0 ≤ k → k < cn d d.len.toNat → ∃ i : Nat, (i : Int) < d.len ∧ (cn d i ≤ k ∧ k < cn d (i + 1)) ∧ y = [.n (d.at i 0 + (k - cn d i)), .n 1, .n 0]) := h.2.2 a b
theorem gd_one {x y : Int} (h : (0 ≤ x ∧ x ≤ y) ∧ y ≤ 73048) : Gd [[.n x, .n y]] ∧ spn (dl [[.n x, .n y]]) = [(x, y)] := by
  have sd : spn (dl [[.n x, .n y]]) = [(x, y)] := spn_app [] x y (by omega) (by omega)
  have l1 : (dl [[.n x, .n y]]).len = ([[DV.n x, .n y]] : List (List DV)).length := rfl
  exact ⟨(gd_iff l1).2 ⟨Nat.le_trans (Nat.le_refl 1) (by decide), by rw [sd]; exact ⟨h.1, trivial⟩, fun p hp => by
    rw [sd] at hp
    rw [List.mem_singleton.1 hp]
    exact h.2⟩, sd⟩
theorem comb_is {o x y z v : Int} {L : List (List DV)} {e : Int} {k : Sp} (h1 : (0 ≤ x ∧ x ≤ y) ∧ y ≤ 73048) (h2 : (0 ≤ z ∧ z ≤ v) ∧ v ≤ 73048) (h : CombP o (dl [[.n x, .n y]]) (dl [[.n z, .n v]]) [dl L, .n e])
    (hk : Can 0 k) (hl : k.length ≤ 256) (hf : ∀ n, (if o = 1 then (Mem n [(x, y)] ∨ Mem n [(z, v)]) else if o = 2 then (Mem n [(x, y)] ∧ Mem n [(z, v)]) else (Mem n [(x, y)] ∧ ¬ Mem n [(z, v)])) ↔ Mem n k) : spn (dl L) = k ∧ e = 0 := by
  obtain ⟨g1, s1⟩ := gd_one h1
  obtain ⟨g2, s2⟩ := gd_one h2
  obtain ⟨L2, e2, he, l, ⟨q1, q2⟩, q3⟩ := (h.2.2 g1.1 g1.2).2.2 g2.1 g2.2
  simp only [List.cons.injEq, DV.n.injEq, DV.sl.injEq, and_true, true_and] at he
  obtain ⟨rfl, rfl⟩ := he
  rw [s1, s2] at q2
  have el : l = k := same_days q1 q2 hk fun n => by rw [ff_mem (show Can 0 [(x, y)] from ⟨h1.1, trivial⟩) (show Can 0 [(z, v)] from ⟨h2.1, trivial⟩)]; exact hf n
  rcases q3 with ⟨c, _⟩ | ⟨_, rfl, r⟩
  · rw [el] at c; omega
  · exact ⟨r.trans el, rfl⟩
theorem mem_nl {n : Int} : Mem n [] ↔ False := ⟨mem_nil, False.elim⟩
theorem chk_bad {e : Int} (h : CheckP (dl [[.n 1, .n 3], [.n 4, .n 6]]) [.n e]) : e = 140 := by
  have l2 : (dl [[.n 1, .n 3], [.n 4, .n 6]]).len = 2 := by decide +kernel
  have := h.2.1 (by rw [l2]; decide) fun q => by
    have := (q 1 (by decide) (by rw [l2]; decide)).1.1
    exact absurd this (by decide +kernel)
  simpa using this
set_option maxRecDepth 100000 in
set_option maxHeartbeats 1000000 in
theorem cSane_ok (N : Nat) (w0 : World) : ConOk Tryd.prog tb N w0 (lawCon 9 []) := trueCon_ok fun w hG => by
  refine law_of_walk (tb := tb) (P := Tryd.prog) fine (C := [cOf 10, cNum 12, cWk 14, cCnt 17, cNth 19, cChk 21, cUni 23 1, cUni 25 2, cUni 27 3, cSam 29]) (conCons cOf_ok (conCons cNum_ok (conCons cWk_ok (conCons cCnt_ok (conCons cNth_ok (conCons cChk_ok (conCons cUni1_ok (conCons cUni2_ok (conCons cUni3_ok (conCons cSam_ok noCon)))))))))) 200 9 [] rfl (w := w) hG (xs := []) (vs := []) (by simp only [ArgsV]) ?_
  rw [tree_sane]
  refine res_con rfl trivial (fun a1 _ _ a2 _ _ a3 _ _ a4 _ _ ha => res_con rfl trivial (fun b1 _ _ b2 _ _ b3 _ _ b4 _ _ hb => res_con rfl trivial (fun c1 _ _ c2 _ _ c3 _ _ c4 _ _ hc => res_con rfl trivial (fun d1 _ _ d2 _ _ hd => res_con rfl trivial (fun e1 _ _ e2 _ _ he => ?_)))))
  replace ha := of_is (Y := 2000) (M := 2) (D := 29) ⟨⟨by decide, by decide⟩, ⟨by decide, by decide⟩, by decide, by decide +kernel⟩ (by decide +kernel) (show OfP 59 [.n a1, .n a2, .n a3, .n a4] from ha)
  replace hb := of_is (Y := 2199) (M := 12) (D := 31) ⟨⟨by decide, by decide⟩, ⟨by decide, by decide⟩, by decide, by decide +kernel⟩ (by decide +kernel) (show OfP 73048 [.n b1, .n b2, .n b3, .n b4] from hb)
  replace hc := of_is (Y := 2001) (M := 1) (D := 1) ⟨⟨by decide, by decide⟩, ⟨by decide, by decide⟩, by decide, by decide +kernel⟩ (by decide +kernel) (show OfP 366 [.n c1, .n c2, .n c3, .n c4] from hc)
  replace hd : [DV.n d1, DV.n d2] = [.n 0, .n 140] := (show NumP 2100 2 29 [.n d1, .n d2] from hd).1 fun q => absurd q.2.2.2 (by decide +kernel)
  replace he : [DV.n e1, DV.n e2] = [.n 5, .n 0] := (show WkP 0 [.n e1, .n e2] from he).2 ⟨by decide, by decide⟩
  simp only [List.cons.injEq, DV.n.injEq, and_true] at ha hb hc hd he
  obtain ⟨rfl, rfl, rfl, rfl⟩ := ha
  obtain ⟨rfl, rfl, rfl, rfl⟩ := hb
  obtain ⟨rfl, rfl, rfl, rfl⟩ := hc
  obtain ⟨rfl, rfl⟩ := hd
  obtain ⟨rfl, rfl⟩ := he
  refine res_dat (dl [[.n 1, .n 9]]) (by kernel_rfl) ?_
  refine res_dat (dl [[.n 3, .n 5]]) (by kernel_rfl) ?_
  refine res_con rfl trivial (fun l hl j _ _ h1 => ?_)
  obtain ⟨sl, rfl⟩ := comb_is (o := 3) (k := [(1, 2), (6, 9)]) (by decide) (by decide) (cvh (b := CombP 3 (dl [[.n 1, .n 9]]) (dl [[.n 3, .n 5]]) [dl l, .n j]) (by kernel_rfl) h1) ⟨by decide, by decide, trivial⟩ (by decide) (fun n => by
    rw [if_neg (by decide), if_neg (by decide)]
    simp only [mem_cons, mem_nl, or_false]
    omega)
  refine res_dat (dl [[.n 1, .n 3]]) (by kernel_rfl) ?_
  refine res_dat (dl [[.n 4, .n 6]]) (by kernel_rfl) ?_
  refine res_con rfl trivial (fun m hm j _ _ h2 => ?_)
  obtain ⟨sm, rfl⟩ := comb_is (o := 1) (k := [(1, 6)]) (by decide) (by decide) (cvh (b := CombP 1 (dl [[.n 1, .n 3]]) (dl [[.n 4, .n 6]]) [dl m, .n j]) (by kernel_rfl) h2) ⟨by decide, trivial⟩ (by decide) (fun n => by
    rw [if_pos rfl]
    simp only [mem_cons, mem_nl, or_false]
    omega)
  refine res_dat (dl [[.n 1, .n 5]]) (by kernel_rfl) ?_
  refine res_dat (dl [[.n 3, .n 9]]) (by kernel_rfl) ?_
  refine res_con rfl trivial (fun x hx j _ _ h3 => ?_)
  obtain ⟨sx, rfl⟩ := comb_is (o := 2) (k := [(3, 5)]) (by decide) (by decide) (cvh (b := CombP 2 (dl [[.n 1, .n 5]]) (dl [[.n 3, .n 9]]) [dl x, .n j]) (by kernel_rfl) h3) ⟨by decide, trivial⟩ (by decide) (fun n => by
    rw [if_neg (by decide), if_pos rfl]
    simp only [mem_cons, mem_nl, or_false]
    omega)
  have ll : (dl l).len = l.length := len_of hl (Nat.le_refl _)
  have l2 : l.length = 2 := by
    have := spn_len (dl l)
    rw [sl] at this
    exact this.symm
  have gl : Gd l := (gd_iff ll).2 ⟨by omega, by rw [sl]; exact ⟨by decide, by decide, trivial⟩, by rw [sl]; decide⟩
  refine res_con rfl trivial (fun n1 _ _ n2 _ _ h4 => ?_)
  obtain ⟨rfl, rfl⟩ := cnt_gd ll (cvh (b := CountP (dl l) [.n n1, .n n2]) (by kernel_rfl) h4) gl
  have e6 : many (spn (dl l)) = 6 := by rw [sl]; rfl
  rw [e6]
  have cl := cn_all ll
  rw [e6] at cl
  have cc : ∀ i, i ≤ 2 → cn (dl l) i = many ([((1 : Int), (2 : Int)), (6, 9)].take i) := fun i hi => by rw [← sl]; exact cn_take (show i ≤ l.length by omega)
  refine res_con rfl trivial (fun f1 _ _ f2 _ _ f3 _ _ hf => ?_)
  replace hf := nth_fine (cvh (b := NthP (dl l) 2 [.n f1, .n f2, .n f3]) (by kernel_rfl) hf) gl.1 gl.2
  refine res_con rfl trivial (fun g1 _ _ g2 _ _ g3 _ _ hg => ?_)
  replace hg := nth_fine (cvh (b := NthP (dl l) 6 [.n g1, .n g2, .n g3]) (by kernel_rfl) hg) gl.1 gl.2
  refine res_con rfl trivial (fun i1 _ _ i2 _ _ i3 _ _ hi => ?_)
  replace hi := nth_fine (cvh (b := NthP (dl l) (-1) [.n i1, .n i2, .n i3]) (by kernel_rfl) hi) gl.1 gl.2
  rw [cl] at hf hg hi
  replace hg := hg.2.1 (by decide) (by decide)
  replace hi := hi.1 (by decide)
  obtain ⟨i, i1', ⟨i2', i3'⟩, hf⟩ := hf.2.2 (by decide) (by decide)
  have : i = 0 ∨ i = 1 := by omega
  rcases this with rfl | rfl
  · rw [cc 1 (by decide)] at i3'; exact absurd i3' (by decide)
  have at1 := spn_get (d := dl l) (k := 1) (show 1 < l.length by omega)
  rw [sl] at at1
  have at1 : (6 : Int) = (dl l).at ((1 : Nat) : Int) 0 := congrArg Prod.fst at1
  rw [cc 1 (by decide), ← at1] at hf
  simp only [List.cons.injEq, DV.n.injEq, and_true] at hf hg hi
  obtain ⟨hf1, rfl, rfl⟩ := hf
  obtain rfl : f1 = 6 := hf1.trans (by decide)
  obtain ⟨rfl, rfl, rfl⟩ := hg
  obtain ⟨rfl, rfl, rfl⟩ := hi
  refine res_ite (fun h => absurd (cvh (b := (((((((((((¬ (0 : Int) = 0 ∨ ¬ (0 : Int) = 0) ∨ ¬ (0 : Int) = 0) ∨ ¬ (140 : Int) = 140) ∨ ¬ (0 : Int) = 0) ∨ ¬ (0 : Int) = 0) ∨ ¬ (0 : Int) = 0) ∨ ¬ (0 : Int) = 0) ∨ ¬ (0 : Int) = 0) ∨ ¬ (0 : Int) = 0) ∨ ¬ (0 : Int) = 0) ∨ ¬ (1 : Int) = 1)) (by kernel_rfl) h) (by decide)) fun _ => ?_
  refine res_ite (fun h => absurd (cvh (b := (((((((¬ ((2000 : Int) = 2000 ∧ ((2 : Int) = 2 ∧ (29 : Int) = 29)) ∨ ¬ ((2199 : Int) = 2199 ∧ ((12 : Int) = 12 ∧ (31 : Int) = 31))) ∨ ¬ ((2001 : Int) = 2001 ∧ ((1 : Int) = 1 ∧ (1 : Int) = 1))) ∨ ¬ (5 : Int) = 5) ∨ ¬ (6 : Int) = 6) ∨ ¬ (6 : Int) = 6) ∨ (1 : Int) = 0) ∨ ¬ (0 : Int) = 0)) (by kernel_rfl) h) (by decide)) fun _ => ?_
  refine res_dat (dl [[.n 1, .n 3], [.n 4, .n 6]]) (by kernel_rfl) ?_
  refine res_con rfl trivial (fun c _ _ h5 => ?_)
  obtain rfl := chk_bad (cvh (b := CheckP (dl [[.n 1, .n 3], [.n 4, .n 6]]) [.n c]) (by kernel_rfl) h5)
  refine res_ite (fun _ => ?_) fun h => absurd (cvh (b := ¬ (140 : Int) = 140) (by kernel_rfl) h) (by decide)
  refine res_dat (dl [[.n 1, .n 2], [.n 6, .n 9]]) (by kernel_rfl) ?_
  refine res_con rfl trivial (fun s _ _ hs => ?_)
  obtain rfl := yn_one (cvh (b := [DV.n s] = yn (spn (dl l) = spn (dl [[.n 1, .n 2], [.n 6, .n 9]]))) (by kernel_rfl) hs) (by rw [sl]; decide +kernel)
  refine res_ite (fun _ => ?_) fun h => absurd (cvh (b := ¬ ¬ (1 : Int) = 0) (by kernel_rfl) h) (by decide)
  refine res_dat (dl [[.n 1, .n 6]]) (by kernel_rfl) ?_
  refine res_con rfl trivial (fun s _ _ hs => ?_)
  obtain rfl := yn_one (cvh (b := [DV.n s] = yn (spn (dl m) = spn (dl [[.n 1, .n 6]]))) (by kernel_rfl) hs) (by rw [sm]; decide +kernel)
  refine res_ite (fun _ => ?_) fun h => absurd (cvh (b := ¬ ¬ (1 : Int) = 0) (by kernel_rfl) h) (by decide)
  refine res_dat (dl [[.n 3, .n 5]]) (by kernel_rfl) ?_
  refine res_con rfl trivial (fun s _ _ hs => ?_)
  obtain rfl := yn_one (cvh (b := [DV.n s] = yn (spn (dl x) = spn (dl [[.n 3, .n 5]]))) (by kernel_rfl) hs) (by rw [sx]; decide +kernel)
  exact cvh (a := [DV.n 1] = [DV.n 1]) (by kernel_rfl) rfl
/-- What the row's list says of the package-level variable. -/
theorem glb {W : World} (h : laidMet Tryd.prog [("acequia/days.lengths", Rows.laid_acequia_days_lengths)] W) : Glb tb W :=
  glb_of_laid (P := Tryd.prog) (tb := tb) h ⟨⟨57, [i64s, i64s, i64s, i64s, i64s, i64s, i64s, i64s, i64s, i64s, i64s, i64s], by kernel_rfl, by kernel_rfl, by kernel_rfl, by kernel_rfl, by kernel_rfl⟩, trivial⟩
def IntA (v : Value) : Prop := ∃ a : Int, v = .int .i64 a ∧ -9223372036854775808 ≤ a ∧ a ≤ 9223372036854775807
theorem int_arg {a : Int} (h : (Go.Lit.int .i64 a).wf = true) : IntA (.int .i64 a) := by
  refine ⟨a, rfl, ?_⟩
  simp [Go.Lit.wf, IntKind.min, IntKind.max, IntKind.signed, IntKind.bits] at h
  exact ⟨by omega, by omega⟩
theorem cell_int {w : World} {a : Int} (h : -9223372036854775808 ≤ a ∧ a ≤ 9223372036854775807) : cellA w i64s (.n a) (.int .i64 a) :=
  ⟨by simp only [HasSh]; exact ⟨a, rfl, h, by simpa [kmin, IntKind.signed, IntKind.bits] using h.1, by simpa [kmax, IntKind.signed, IntKind.bits] using h.2⟩, rfl⟩
end Go.Proofs.YtdffnmhpkapbkaaDoor
