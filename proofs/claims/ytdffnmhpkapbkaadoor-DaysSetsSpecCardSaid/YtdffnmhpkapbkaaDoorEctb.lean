/- DERIVED. The functions on lists of spans keep their contracts. -/
import Derived.Test.YtdffnmhpkapbkaaDoorEct
import Derived.Test.YtdffnmhpkapbkaaDoorEtreeb
namespace Go.Proofs.YtdffnmhpkapbkaaDoor
open Go.Dx
set_option linter.unusedVariables false
set_option linter.unusedSimpArgs false
theorem err_long {d : DV} {z : List DV} {f : Prop} (h : 256 < d.len) : ErrP d z f (z ++ [.n 2]) := ⟨fun _ => rfl, fun k => absurd h k, fun k => absurd h k⟩
theorem err_bad {d : DV} {z : List DV} {f : Prop} (h : ¬ 256 < d.len) (k : ¬ AllS d d.len) : ErrP d z f (z ++ [.n 140]) := ⟨fun q => absurd q h, fun _ _ => rfl, fun _ q => absurd q k⟩
theorem err_fine {d : DV} {z y : List DV} {f : Prop} (h : ¬ 256 < d.len) (k : AllS d d.len) (l : f) : ErrP d z f y := ⟨fun q => absurd q h, fun _ q => absurd k q, fun _ _ => l⟩
theorem allS_succ {d : DV} {x : Int} (h : AllS d x) (hx : OkS d x) : AllS d (x + 1) := fun k h0 h1 => by
  by_cases e : k < x
  · exact h k h0 e
  · rw [show k = x by omega]; exact hx
theorem wI {x : Int} (h : -9223372036854775808 ≤ x) (k : x ≤ 9223372036854775807) : IntKind.i64.wrap x = x :=
  wrap_in .i64 x (by simpa [kmin, IntKind.signed, IntKind.bits] using h) (by simpa [kmax, IntKind.signed, IntKind.bits] using k)
theorem lst_succ {d : DV} {x : Int} (h : 0 ≤ x) : lst d (x + 1) = d.at x 1 + 2 := by
  unfold lst
  rw [if_neg (by omega), show x + 1 - 1 = x by omega]
theorem toN_succ {x : Int} (h : 0 ≤ x) : (x + 1).toNat = x.toNat + 1 := by omega
theorem len_nn (d : DV) : 0 ≤ d.len := d.len_rng.1
theorem cn_le {d : DV} {m : Int} (h : AllS d m) : ∀ n : Nat, (n : Int) ≤ m → 0 ≤ cn d n ∧ cn d n ≤ lst d n ∧ lst d n ≤ 73050 ∧ 0 ≤ lst d n
  | 0, _ => by simp [cn, lst]
  | n + 1, k => by
    obtain ⟨a, b, c, e⟩ := cn_le h n (by omega)
    obtain ⟨⟨h1, h2⟩, h3, h4⟩ := h n (by omega) (by omega)
    rw [show ((n + 1 : Nat) : Int) = (n : Int) + 1 by omega, lst_succ (by omega)]
    simp only [cn]
    omega
theorem cChk_ok (N : Nat) (w0 : World) : ConOk Tryd.prog tb N w0 (cChk 21) := by
  refine con_of_walk (tb := tb) fine (C := [lChk]) (lopCons rfl noCon) 80 rfl ?_ N w0
  refine fun d h0 _ => ?_
  rw [tree_chk]
  simp only [T.res, B.prop, E.den, E.dat, E.top, E.val, E.isD, DV.canon, DV.int, List.getElem?_cons_zero, List.getElem?_cons_succ, List.getD_cons_zero, List.getD_cons_succ, List.getD_nil, List.map_cons, List.map_nil, List.cons_append, List.nil_append, allB, List.take_succ_cons, List.take_zero, List.length_cons, List.length_nil, Nat.zero_add, Nat.reduceAdd, resB, resL', RSh.l, RC.vd, List.flatMap_cons, List.flatMap_nil, List.append_nil, ev, dv, getZ, List.append_assoc, cChk, lChk]
  clear h0
  generalize DV.sl none 0 d = d at *
  have l0 := len_nn d
  refine ⟨fun h => err_long (z := []) h, fun h => ⟨⟨l0, fun k a b => by omega, by simp [lst]⟩, fun x x0 x1 y y0 y1 ⟨hx, ha, hy⟩ => ⟨fun hl => ⟨fun q => err_bad (z := []) h fun k => ?_, fun q => ?_⟩, fun hl => err_fine h ?_ rfl⟩⟩⟩
  · obtain ⟨⟨h1, h2⟩, h3, h4⟩ := k x x0 hl
    omega
  · refine ⟨⟨by omega, allS_succ ha ⟨⟨by omega, by omega⟩, by omega, by omega⟩, (lst_succ x0).symm⟩, by omega⟩
  · rw [show d.len = x by omega]; exact ha
theorem chk_in {d : DV} {e : Int} (h : CheckP d [.n e]) : (e = 2 ∧ 256 < d.len) ∨ (e = 140 ∧ ¬ 256 < d.len ∧ ¬ AllS d d.len) ∨ (e = 0 ∧ ¬ 256 < d.len ∧ AllS d d.len) := by
  by_cases c1 : 256 < d.len
  · have := h.1 c1
    simp only [List.nil_append, List.cons.injEq, DV.n.injEq, and_true] at this
    exact .inl ⟨this, c1⟩
  · by_cases c2 : AllS d d.len
    · have := h.2.2 c1 c2
      simp only [List.cons.injEq, DV.n.injEq, and_true] at this
      exact .inr (.inr ⟨this, c1, c2⟩)
    · have := h.2.1 c1 c2
      simp only [List.nil_append, List.cons.injEq, DV.n.injEq, and_true] at this
      exact .inr (.inl ⟨this, c1, c2⟩)
theorem cn_mono {d : DV} {m : Int} (h : AllS d m) {a : Nat} : ∀ {b : Nat}, a ≤ b → (b : Int) ≤ m → cn d a ≤ cn d b
  | 0, hab, _ => by rw [show a = 0 by omega]; exact Int.le_refl _
  | b + 1, hab, hb => by
    by_cases e : a = b + 1
    · rw [e]; exact Int.le_refl _
    · have := cn_mono h (a := a) (b := b) (by omega) (by omega)
      obtain ⟨⟨h1, h2⟩, h3, h4⟩ := h b (by omega) (by omega)
      simp only [cn]
      omega
theorem cn_step {d : DV} {m x : Int} (h : AllS d m) (x0 : 0 ≤ x) (hx : x < m) :
    (0 ≤ cn d x.toNat ∧ cn d x.toNat ≤ d.at x 0 ∧ 0 ≤ d.at x 0 ∧ d.at x 0 ≤ d.at x 1 ∧ d.at x 1 ≤ 73048) ∧ cn d (x + 1).toNat = cn d x.toNat + (d.at x 1 - d.at x 0 + 1) ∧
    IntKind.i64.wrap (d.at x 1 - d.at x 0) = d.at x 1 - d.at x 0 ∧ IntKind.i64.wrap (d.at x 1 - d.at x 0 + 1) = d.at x 1 - d.at x 0 + 1 := by
  obtain ⟨a, b, c, e⟩ := cn_le h x.toNat (by omega)
  rw [show ((x.toNat : Nat) : Int) = x by omega] at b c e
  obtain ⟨⟨h1, h2⟩, h3, h4⟩ := h x x0 hx
  refine ⟨⟨a, by omega, by omega, h2, h4⟩, ?_, wI (by omega) (by omega), wI (by omega) (by omega)⟩
  rw [toN_succ x0]
  simp only [cn]
  rw [show ((x.toNat : Nat) : Int) = x by omega]
theorem cCnt_ok (N : Nat) (w0 : World) : ConOk Tryd.prog tb N w0 (cCnt 17) := by
  refine con_of_walk (tb := tb) fine (C := [cChk 21, lCnt 5 23 13 2]) (conCons cChk_ok (lopCons rfl noCon)) 80 rfl ?_ N w0
  refine fun d h0 _ => ?_
  rw [tree_cnt]
  simp only [T.res, B.prop, E.den, E.dat, E.top, E.val, E.isD, DV.canon, DV.int, List.getElem?_cons_zero, List.getElem?_cons_succ, List.getD_cons_zero, List.getD_cons_succ, List.getD_nil, List.map_cons, List.map_nil, List.cons_append, List.nil_append, allB, List.take_succ_cons, List.take_zero, List.length_cons, List.length_nil, Nat.zero_add, Nat.reduceAdd, resB, resL', RSh.l, RC.vd, List.flatMap_cons, List.flatMap_nil, List.append_nil, ev, dv, getZ, List.append_assoc, cChk, lCnt, cCnt]
  clear h0
  generalize DV.sl none 0 d = d at *
  have l0 := len_nn d
  refine ⟨trivial, fun e e0 e1 he => ⟨fun h => ?_, fun h => ?_⟩⟩
  · rcases chk_in he with ⟨rfl, c⟩ | ⟨rfl, c, c2⟩ | ⟨rfl, _⟩
    · exact err_long (z := [.n 0]) c
    · exact err_bad (z := [.n 0]) c c2
    · exact absurd rfl h
  · rcases chk_in he with ⟨rfl, c⟩ | ⟨rfl, c, c2⟩ | ⟨rfl, c, c2⟩
    · exact absurd (by decide) h
    · exact absurd (by decide) h
    · refine ⟨⟨l0, rfl⟩, fun x x0 x1 y y0 y1 ⟨hx, hy⟩ => ⟨fun hl => ?_, fun hl => err_fine c c2 ?_⟩⟩
      · obtain ⟨⟨q1, q2, q3, q4, q5⟩, q6, q7, q8⟩ := cn_step c2 x0 hl
        rw [q7, q8, wI (by omega) (by omega)]
        exact ⟨fun _ => ⟨⟨by omega, by omega⟩, by omega⟩, fun k => k ⟨by omega, by omega⟩⟩
      · rw [hy, show x = d.len by omega]
theorem nth_at {d : DV} {k x y : Int} (c : ¬ 256 < d.len) (c2 : AllS d d.len) (x0 : 0 ≤ x) (hl : x < d.len) (k0 : 0 ≤ k) (hy : y = k - cn d x.toNat) (y0 : 0 ≤ y) (h : y < d.at x 1 - d.at x 0 + 1) : NthP d k [.n (d.at x 0 + y), .n 1, .n 0] := by
  obtain ⟨_, q6, _, _⟩ := cn_step c2 x0 hl
  rw [toN_succ x0] at q6
  refine err_fine c c2 ⟨fun q => by omega, fun _ q => ?_, fun _ _ => ⟨x.toNat, by omega, ⟨by omega, by omega⟩, ?_⟩⟩
  · exfalso
    have := cn_mono c2 (show x.toNat + 1 ≤ d.len.toNat by omega) (by omega)
    omega
  · rw [show ((x.toNat : Nat) : Int) = x by omega, hy]
theorem cNth_ok (N : Nat) (w0 : World) : ConOk Tryd.prog tb N w0 (cNth 19) := by
  refine con_of_walk (tb := tb) fine (C := [cChk 21, lNth 7 35 18 1]) (conCons cChk_ok (lopCons rfl noCon)) 80 rfl ?_ N w0
  refine fun d h0 k k0 k1 _ => ?_
  rw [tree_nth]
  simp only [T.res, B.prop, E.den, E.dat, E.top, E.val, E.isD, DV.canon, DV.int, List.getElem?_cons_zero, List.getElem?_cons_succ, List.getD_cons_zero, List.getD_cons_succ, List.getD_nil, List.map_cons, List.map_nil, List.cons_append, List.nil_append, allB, List.take_succ_cons, List.take_zero, List.length_cons, List.length_nil, Nat.zero_add, Nat.reduceAdd, resB, resL', RSh.l, RC.vd, List.flatMap_cons, List.flatMap_nil, List.append_nil, ev, dv, getZ, List.append_assoc, cChk, lNth, cNth]
  clear h0
  generalize DV.sl none 0 d = d at *
  have l0 := len_nn d
  refine ⟨trivial, fun e e0 e1 he => ⟨fun h => ?_, fun h => ?_⟩⟩
  · rcases chk_in he with ⟨rfl, c⟩ | ⟨rfl, c, c2⟩ | ⟨rfl, _⟩
    · exact err_long (z := [.n 0, .n 0]) c
    · exact err_bad (z := [.n 0, .n 0]) c c2
    · exact absurd rfl h
  · rcases chk_in he with ⟨rfl, c⟩ | ⟨rfl, c, c2⟩ | ⟨rfl, c, c2⟩
    · exact absurd (by decide) h
    · exact absurd (by decide) h
    · refine ⟨fun n => err_fine c c2 ⟨fun _ => rfl, fun q => by omega, fun q => by omega⟩, fun n => ⟨⟨l0, by simp [cn]⟩, fun x x0 x1 y y0 y1 ⟨hx, hy⟩ => ⟨fun hl => ?_, fun hl => err_fine c c2 ⟨fun q => absurd q n, fun _ _ => rfl, fun _ q => ?_⟩⟩⟩⟩
      · obtain ⟨⟨q1, q2, q3, q4, q5⟩, q6, q7, q8⟩ := cn_step c2 x0 hl
        rw [q7, q8]
        refine ⟨fun g => ?_, fun g => ?_⟩
        · rw [wI (by omega) (by omega)]
          exact nth_at c c2 x0 hl (by omega) hy y0 g
        · rw [wI (by omega) (by omega)]
          exact ⟨fun _ => ⟨⟨by omega, by omega⟩, by omega⟩, fun k => k ⟨by omega, by omega⟩⟩
      · exfalso
        rw [show x = d.len by omega] at hy
        omega
end Go.Proofs.YtdffnmhpkapbkaaDoor
