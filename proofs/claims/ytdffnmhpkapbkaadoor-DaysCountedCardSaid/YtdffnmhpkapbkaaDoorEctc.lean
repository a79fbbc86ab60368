/- DERIVED. The reference's functions on lists keep their contracts. -/
import Derived.Test.YtdffnmhpkapbkaaDoorEctb
namespace Go.Proofs.YtdffnmhpkapbkaaDoor
open Go.Dx
set_option linter.unusedVariables false
set_option linter.unusedSimpArgs false
theorem lst_pos {d : DV} {x : Int} (h : 0 < x) : lst d x = d.at (x - 1) 1 + 2 := by unfold lst; rw [if_neg (by omega)]
theorem lst_zero (d : DV) : lst d 0 = 0 := by simp [lst]
theorem cChkR_ok (N : Nat) (w0 : World) : ConOk Tryd.prog tb N w0 (cChk 22) := by
  refine con_of_walk (tb := tb) fine (C := [lChkR]) (lopCons rfl noCon) 80 rfl ?_ N w0
  refine fun d h0 _ => ?_
  rw [tree_chkR]
  simp only [T.res, B.prop, E.den, E.dat, E.top, E.val, E.isD, DV.canon, DV.int, List.getElem?_cons_zero, List.getElem?_cons_succ, List.getD_cons_zero, List.getD_cons_succ, List.getD_nil, List.map_cons, List.map_nil, List.cons_append, List.nil_append, allB, List.take_succ_cons, List.take_zero, List.length_cons, List.length_nil, Nat.zero_add, Nat.reduceAdd, resB, resL', RSh.l, RC.vd, List.flatMap_cons, List.flatMap_nil, List.append_nil, ev, dv, getZ, List.append_assoc, cChk, lChkR]
  clear h0
  generalize DV.sl none 0 d = d at *
  have l0 := len_nn d
  refine ⟨fun h => err_long (z := []) h, fun h => ⟨⟨l0, fun k a b => by omega⟩, fun x x0 x1 ⟨hx, ha⟩ => ⟨fun hl => ⟨fun q => ⟨fun q2 => ?_, fun q2 => ?_⟩, fun q => ?_⟩, fun hl => err_fine h ?_ rfl⟩⟩⟩
  · have p := ha (x - 1) (by omega) (by omega)
    have p2 := p.2
    have e := lst_pos (d := d) q.2
    rw [wI (x := d.at (x - 1) 1 + 2) (by omega) (by omega)]
    refine ⟨fun q3 => err_bad (z := []) h fun k => ?_, fun q3 => ?_⟩
    · have := (k x x0 hl).1.1
      omega
    · exact ⟨⟨by omega, allS_succ ha ⟨⟨by omega, by omega⟩, by omega, by omega⟩⟩, by omega⟩
  · omega
  · repeat refine ⟨fun q2 => absurd q2 q, fun _ => ?_⟩
    refine ⟨fun q2 => ⟨fun q3 => absurd ⟨q2, q3⟩ q, fun q3 => ?_⟩, fun q2 => err_bad (z := []) h fun k => q2 ?_⟩
    · obtain rfl : x = 0 := by omega
      have e := lst_zero d
      exact ⟨⟨by omega, allS_succ ha ⟨⟨by omega, by omega⟩, by omega, by omega⟩⟩, by omega⟩
    · have p := k x x0 hl
      have p2 := p.1
      have p3 := p.2
      have c := cn_le k x.toNat (by omega)
      rw [show ((x.toNat : Nat) : Int) = x by omega] at c
      omega
  · rw [show d.len = x by omega]; exact ha
theorem cCntR_ok (N : Nat) (w0 : World) : ConOk Tryd.prog tb N w0 (cCnt 18) := by
  refine con_of_walk (tb := tb) fine (C := [cChk 22, lCnt 6 33 6 5]) (conCons cChkR_ok (lopCons rfl noCon)) 80 rfl ?_ N w0
  refine fun d h0 _ => ?_
  rw [tree_cntR]
  simp only [T.res, B.prop, E.den, E.dat, E.top, E.val, E.isD, DV.canon, DV.int, List.getElem?_cons_zero, List.getElem?_cons_succ, List.getD_cons_zero, List.getD_cons_succ, List.getD_nil, List.map_cons, List.map_nil, List.cons_append, List.nil_append, allB, List.take_succ_cons, List.take_zero, List.length_cons, List.length_nil, Nat.zero_add, Nat.reduceAdd, resB, resL', RSh.l, RC.vd, List.flatMap_cons, List.flatMap_nil, List.append_nil, ev, dv, getZ, List.append_assoc, cChk, lCnt, cCnt]
  clear h0
  generalize DV.sl none 0 d = d at *
  have l0 := len_nn d
  refine ⟨trivial, fun e e0 e1 he => ⟨fun h => ?_, fun h => ?_⟩⟩
  · rcases chk_in he with ⟨rfl, c⟩ | ⟨rfl, c, c2⟩ | ⟨rfl, _⟩
    · exact err_long (z := [.n 0]) c
    · exact err_bad (z := [.n 0]) c c2
    · exact absurd rfl h
  · rcases chk_in he with ⟨rfl, c⟩ | ⟨rfl, c, c2⟩ | ⟨rfl, c, c2⟩
    · exact absurd (by decide) h
    · exact absurd (by decide) h
    · refine ⟨⟨l0, rfl⟩, fun x x0 x1 y y0 y1 ⟨hx, hy⟩ => ⟨fun hl => ?_, fun hl => err_fine c c2 ?_⟩⟩
      · obtain ⟨⟨q1, q2, q3, q4, q5⟩, q6, q7, q8⟩ := cn_step c2 x0 hl
        rw [wI (x := y + d.at x 1) (by omega) (by omega), wI (x := y + d.at x 1 - d.at x 0) (by omega) (by omega), wI (x := y + d.at x 1 - d.at x 0 + 1) (by omega) (by omega)]
        exact ⟨fun _ => ⟨⟨by omega, by omega⟩, by omega⟩, fun k => k ⟨by omega, by omega⟩⟩
      · rw [hy, show x = d.len by omega]
theorem cNthR_ok (N : Nat) (w0 : World) : ConOk Tryd.prog tb N w0 (cNth 20) := by
  refine con_of_walk (tb := tb) fine (C := [cChk 22, lNth 7 48 8 1]) (conCons cChkR_ok (lopCons rfl noCon)) 80 rfl ?_ N w0
  refine fun d h0 k k0 k1 _ => ?_
  rw [tree_nthR]
  simp only [T.res, B.prop, E.den, E.dat, E.top, E.val, E.isD, DV.canon, DV.int, List.getElem?_cons_zero, List.getElem?_cons_succ, List.getD_cons_zero, List.getD_cons_succ, List.getD_nil, List.map_cons, List.map_nil, List.cons_append, List.nil_append, allB, List.take_succ_cons, List.take_zero, List.length_cons, List.length_nil, Nat.zero_add, Nat.reduceAdd, resB, resL', RSh.l, RC.vd, List.flatMap_cons, List.flatMap_nil, List.append_nil, ev, dv, getZ, List.append_assoc, cChk, lNth, cNth]
  clear h0
  generalize DV.sl none 0 d = d at *
  have l0 := len_nn d
  refine ⟨trivial, fun e e0 e1 he => ⟨fun h => ?_, fun h => ?_⟩⟩
  · rcases chk_in he with ⟨rfl, c⟩ | ⟨rfl, c, c2⟩ | ⟨rfl, _⟩
    · exact err_long (z := [.n 0, .n 0]) c
    · exact err_bad (z := [.n 0, .n 0]) c c2
    · exact absurd rfl h
  · rcases chk_in he with ⟨rfl, c⟩ | ⟨rfl, c, c2⟩ | ⟨rfl, c, c2⟩
    · exact absurd (by decide) h
    · exact absurd (by decide) h
    · refine ⟨fun n => err_fine c c2 ⟨fun _ => rfl, fun q => by omega, fun q => by omega⟩, fun n => ⟨⟨l0, by simp [cn]⟩, fun x x0 x1 y y0 y1 ⟨hx, hy⟩ => ⟨fun hl => ?_, fun hl => err_fine c c2 ⟨fun q => absurd q n, fun _ _ => rfl, fun _ q => ?_⟩⟩⟩⟩
      · obtain ⟨⟨q1, q2, q3, q4, q5⟩, q6, q7, q8⟩ := cn_step c2 x0 hl
        rw [q7, q8]
        refine ⟨fun g => ?_, fun g => ?_⟩
        · rw [wI (by omega) (by omega)]
          exact nth_at c c2 x0 hl (by omega) hy y0 g
        · rw [wI (by omega) (by omega)]
          exact ⟨fun _ => ⟨⟨by omega, by omega⟩, by omega⟩, fun k => k ⟨by omega, by omega⟩⟩
      · exfalso
        rw [show x = d.len by omega] at hy
        omega
theorem err_one {d : DV} {z x y : List DV} {f g : Prop} (h : ErrP d z f x) (k : ErrP d z g y) (l : f → g → AllS d d.len → x = y) : x = y := by
  by_cases c : 256 < d.len
  · rw [h.1 c, k.1 c]
  · by_cases c2 : AllS d d.len
    · exact l (h.2.2 c c2) (k.2.2 c c2) c2
    · rw [h.2.1 c c2, k.2.1 c c2]
theorem chk_one {d : DV} {x y : List DV} (h : CheckP d x) (k : CheckP d y) : x = y := err_one h k fun a b _ => a.trans b.symm
theorem cnt_one {d : DV} {x y : List DV} (h : CountP d x) (k : CountP d y) : x = y := err_one h k fun a b _ => a.trans b.symm
theorem nth_one {d : DV} {n : Int} {x y : List DV} (h : NthP d n x) (k : NthP d n y) : x = y := err_one h k fun a b s => by
  by_cases c : n < 0
  · rw [a.1 c, b.1 c]
  · by_cases c2 : cn d d.len.toNat ≤ n
    · rw [a.2.1 (by omega) c2, b.2.1 (by omega) c2]
    · obtain ⟨i, i1, ⟨i2, i3⟩, rfl⟩ := a.2.2 (by omega) (by omega)
      obtain ⟨j, j1, ⟨j2, j3⟩, rfl⟩ := b.2.2 (by omega) (by omega)
      have e : i = j := by
        by_cases l : i < j
        · have := cn_mono s (show i + 1 ≤ j by omega) (by omega)
          omega
        · by_cases l2 : j < i
          · have := cn_mono s (show j + 1 ≤ i by omega) (by omega)
            omega
          · omega
      rw [e]
end Go.Proofs.YtdffnmhpkapbkaaDoor
