/- DERIVED. Gate programs are checked and run: the contracts, proved. -/
import Derived.Test.YtkophklnleodcaaDtree
namespace Go.Proofs.Ytkophklnleodcaa
open Go.Dx
set_option linter.unusedVariables false
set_option linter.unusedSimpArgs false
theorem getR {α : Type} (n k : Nat) (z d : α) (l : List α) : (List.replicate n z ++ l).getD (n + k) d = l.getD k d := by
  rw [List.getD_eq_getElem?_getD, List.getD_eq_getElem?_getD, List.getElem?_append_right (by simp)]
  simp
theorem getZ {α : Type} (n : Nat) (z d x : α) (l : List α) : (List.replicate n z ++ x :: l).getD n d = x := getR n 0 z d (x :: l)
theorem takeR {α : Type} (n k : Nat) (z : α) (l : List α) : (List.replicate n z ++ l).take (n + k) = List.replicate n z ++ l.take k := by
  rw [List.take_append]
  simp [List.take_of_length_le]
theorem dropR {α : Type} (n k : Nat) (z : α) (l : List α) : (List.replicate n z ++ l).drop (n + k) = l.drop k := by
  rw [List.drop_append]
  simp
theorem dropZ {α : Type} (n : Nat) (z : α) (l : List α) : (List.replicate n z ++ l).drop n = l := dropR n 0 z l
theorem takeZ {α : Type} (n : Nat) (z : α) (l : List α) : (List.replicate n z ++ l).take n = List.replicate n z := by
  have := takeR n 0 z l
  simpa only [Nat.add_zero, List.take_zero, List.append_nil] using this
theorem len_nn (d : DV) : 0 ≤ d.len := d.len_rng.1
theorem n_inj {x y : Int} (h : [DV.n x] = [DV.n y]) : x = y := by simpa using h
theorem condsOk_succ {c : DV} {x : Int} (h0 : 0 ≤ x) (h : condsOk c x.toNat) (hx : condOk c x) : condsOk c (x + 1).toNat := fun k hk => by
  by_cases e : k < x.toNat
  · exact h k e
  · rw [show (k : Int) = x by omega]; exact hx
theorem linesOk_succ {d : DV} {x : Int} (h0 : 0 ≤ x) (h : linesOk d x.toNat) (hx : lineOk d x) : linesOk d (x + 1).toNat := fun k hk => by
  by_cases e : k < x.toNat
  · exact h k e
  · rw [show (k : Int) = x by omega]; exact hx
theorem chk_bad {d : DV} (h : ¬ codeOk d) : [DV.n 310] = ChkF d := by unfold ChkF; rw [if_neg h]
theorem chk_ok {d : DV} (h : codeOk d) : [DV.n 0] = ChkF d := by unfold ChkF; rw [if_pos h]
theorem not_line {d : DV} {x : Int} (h0 : 0 ≤ x) (hx : x < d.len) (h : ¬ lineOk d x) : ¬ codeOk d := fun q => h (by
  have := q.2 x.toNat (by omega)
  rwa [show ((x.toNat : Nat) : Int) = x by omega] at this)
theorem not_cond {d : DV} {x y : Int} (h0 : 0 ≤ x) (hx : x < d.len) (k0 : 0 ≤ y) (hy : y < (d.cell x 0).len) (h : ¬ condOk (d.cell x 0) y) : ¬ codeOk d := not_line h0 hx fun q => h (by
  have := q.2 y.toNat (by omega)
  rwa [show ((y.toNat : Nat) : Int) = y by omega] at this)
theorem cHolds_ok (N : Nat) (w0 : World) : ConOk Try.prog tb N w0 cHolds := by
  refine con_of_walk (tb := tb) fine (C := []) noCon 80 rfl ?_ N w0
  refine fun a _ _ b _ _ c _ _ d _ _ _ => ?_
  rw [tree_hol]
  simp only [T.res, B.prop, E.den, E.dat, E.top, E.val, E.isD, DV.canon, DV.int, List.getElem?_cons_zero, List.getElem?_cons_succ, List.getD_cons_zero, List.getD_cons_succ, List.getD_nil, List.map_cons, List.map_nil, List.cons_append, List.nil_append, allB, cHolds, List.cons.injEq, DV.n.injEq, and_true]
  have yes : holds b d c → (1 : Int) = if holds b d c then 1 else 0 := fun h => (if_pos h).symm
  have no : ¬ holds b d c → (0 : Int) = if holds b d c then 1 else 0 := fun h => (if_neg h).symm
  refine ⟨fun h1 => ⟨fun h2 => yes ?_, fun h2 => no ?_⟩, fun h1 => ⟨fun h3 => ⟨fun h2 => yes ?_, fun h2 => no ?_⟩, fun h3 => ⟨fun h4 => ⟨fun h2 => yes ?_, fun h2 => no ?_⟩, fun h4 => ⟨fun h5 => ⟨fun h2 => yes ?_, fun h2 => no ?_⟩, fun h5 => ⟨fun h2 => yes ?_, fun h2 => no ?_⟩⟩⟩⟩⟩
  all_goals (unfold holds; omega)
theorem cFew_ok (N : Nat) (w0 : World) : ConOk Try.prog tb N w0 cFew := by
  refine con_of_walk (tb := tb) fine (C := [lFew]) (lopCons rfl noCon) 80 rfl ?_ N w0
  refine fun d h0 _ => ?_
  rw [tree_few]
  simp only [T.res, B.prop, E.den, E.dat, E.top, E.val, E.isD, DV.canon, DV.int, List.getElem?_cons_zero, List.getElem?_cons_succ, List.getD_cons_zero, List.getD_cons_succ, List.getD_nil, List.map_cons, List.map_nil, List.cons_append, List.nil_append, allB, List.take_succ_cons, List.take_zero, List.length_cons, List.length_nil, Nat.zero_add, Nat.reduceAdd, lFew, cFew]
  clear h0
  generalize DV.sl none 0 d = d at *
  have := len_nn d
  refine ⟨fun _ => trivial, fun h => ⟨by omega, fun x x0 _ hx => ⟨fun hl => ⟨fun _ => trivial, fun _ => ⟨by omega, by omega⟩⟩, fun _ => trivial⟩⟩⟩
theorem chk_goal (d : DV) : (64 < d.len → [DV.n 310] = ChkF d) ∧
    (¬64 < d.len →
      (0 ≤ d.len ∧ linesOk d (Int.toNat 0)) ∧
        ∀ (x : Int), 0 ≤ x → x ≤ 9223372036854775807 → x ≤ d.len ∧ linesOk d x.toNat →
                (x < d.len →
                    (4 < (d.cell x 0).len ∨ ¬(0 ≤ d.at x 1 ∧ d.at x 1 ≤ 1099511627776) → [DV.n 310] = ChkF d) ∧
                      (¬(4 < (d.cell x 0).len ∨ ¬(0 ≤ d.at x 1 ∧ d.at x 1 ≤ 1099511627776)) →
                        (0 ≤ (d.cell x 0).len ∧ condsOk (d.cell x 0) (Int.toNat 0)) ∧
                          ∀ (y : Int), 0 ≤ y → y ≤ 9223372036854775807 → y ≤ (d.cell x 0).len ∧ condsOk (d.cell x 0) y.toNat →
                                  (y < (d.cell x 0).len →
                                      (((((d.cell x 0).at y 0 < 0 ∨ 4 < (d.cell x 0).at y 0) ∨ (d.cell x 0).at y 1 < 1) ∨ 5 < (d.cell x 0).at y 1) ∨
                                            ¬(0 ≤ (d.cell x 0).at y 2 ∧ (d.cell x 0).at y 2 ≤ 1099511627776) →
                                          [DV.n 310] = ChkF d) ∧
                                        (¬(((((d.cell x 0).at y 0 < 0 ∨ 4 < (d.cell x 0).at y 0) ∨ (d.cell x 0).at y 1 < 1) ∨ 5 < (d.cell x 0).at y 1) ∨
                                              ¬(0 ≤ (d.cell x 0).at y 2 ∧ (d.cell x 0).at y 2 ≤ 1099511627776)) →
                                          (y + 1 ≤ (d.cell x 0).len ∧ condsOk (d.cell x 0) (y + 1).toNat) ∧ ((d.cell x 0).len - (y + 1)).toNat < ((d.cell x 0).len - y).toNat)) ∧
                                    (¬y < (d.cell x 0).len → (x + 1 ≤ d.len ∧ linesOk d (x + 1).toNat) ∧ (d.len - (x + 1)).toNat < (d.len - x).toNat))) ∧
                  (¬x < d.len → [DV.n 0] = ChkF d)) := by
  have l0 := len_nn d
  refine ⟨fun h => chk_bad fun q => by have := q.1; omega, fun h => ⟨⟨l0, fun k hk => absurd hk (by simp)⟩, fun x x0 _ ⟨hx, hl⟩ => ⟨fun hlt => ⟨fun hb => chk_bad (not_line x0 hlt fun q => ?_), fun hg => ⟨⟨len_nn _, fun k hk => absurd hk (by simp)⟩, fun y y0 _ ⟨hy, hc⟩ => ⟨fun hylt => ⟨fun hb => chk_bad (not_cond x0 hlt y0 hylt fun q => ?_), fun hg2 => ⟨⟨by omega, condsOk_succ y0 hc ?_⟩, by omega⟩⟩, fun hyge => ⟨⟨by omega, linesOk_succ x0 hl ?_⟩, by omega⟩⟩⟩⟩, fun hge => chk_ok ⟨by omega, ?_⟩⟩⟩⟩
  · have := q.1; unfold okN at this; omega
  · unfold condOk okN at q; omega
  · unfold condOk okN; omega
  · refine ⟨⟨by omega, ?_⟩, ?_⟩
    · unfold okN; omega
    · rw [show (d.cell x 0).len.toNat = y.toNat by omega]; exact hc
  · rw [show d.len.toNat = x.toNat by omega]; exact hl
theorem cChk_ok (N : Nat) (w0 : World) : ConOk Try.prog tb N w0 cChk := by
  refine con_of_walk (tb := tb) fine (C := [lC0, lC1]) (lopCons rfl (lopCons rfl noCon)) 80 rfl ?_ N w0
  refine fun d h0 _ => ?_
  rw [tree_chk]
  simp only [T.res, B.prop, E.den, E.dat, E.top, E.val, E.isD, DV.canon, DV.int, List.getElem?_cons_zero, List.getElem?_cons_succ, List.getD_cons_zero, List.getD_cons_succ, List.getD_nil, List.map_cons, List.map_nil, List.cons_append, List.nil_append, List.append_assoc, allB, List.take_succ_cons, List.take_zero, List.length_cons, List.length_nil, Nat.zero_add, Nat.reduceAdd, lC0, lC1, cChk, getZ, dropZ, takeZ, getR 61 0, getR 61 1, takeR 61 1, dropR 61 1]
  exact chk_goal _
theorem cChkR_ok (N : Nat) (w0 : World) : ConOk Try.prog tb N w0 cChkR := by
  refine con_of_walk (tb := tb) fine (C := [lD0, lD1]) (lopCons rfl (lopCons rfl noCon)) 80 rfl ?_ N w0
  refine fun d h0 _ => ?_
  rw [tree_chkR]
  simp only [T.res, B.prop, E.den, E.dat, E.top, E.val, E.isD, DV.canon, DV.int, List.getElem?_cons_zero, List.getElem?_cons_succ, List.getD_cons_zero, List.getD_cons_succ, List.getD_nil, List.map_cons, List.map_nil, List.cons_append, List.nil_append, List.append_assoc, allB, List.take_succ_cons, List.take_zero, List.length_cons, List.length_nil, Nat.zero_add, Nat.reduceAdd, lD0, lD1, cChkR, getZ, dropZ, takeZ, getR 69 0, getR 69 1, takeR 69 1, dropR 69 1]
  exact chk_goal _
end Go.Proofs.Ytkophklnleodcaa
