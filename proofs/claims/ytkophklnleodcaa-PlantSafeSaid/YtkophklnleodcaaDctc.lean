/- DERIVED. Gate programs are run: the contract, proved. -/
import Derived.Test.YtkophklnleodcaaDctb
import Derived.Test.YtkophklnleodcaaDtreeb
namespace Go.Proofs.Ytkophklnleodcaa
open Go.Dx
set_option linter.unusedVariables false
set_option linter.unusedSimpArgs false
theorem cRun_ok (N : Nat) (w0 : World) : ConOk Try.prog tb N w0 cRun := by
  refine con_of_walk (tb := tb) fine (C := [cChk, lR0, lR1]) (conCons cChk_ok (lopCons rfl (lopCons rfl noCon))) 80 rfl ?_ N w0
  refine fun d h0 a _ _ b _ _ c _ _ e _ _ f _ _ _ => ?_
  rw [tree_run]
  simp only [T.res, B.prop, E.den, E.dat, E.top, E.val, E.isD, DV.canon, DV.int, List.getElem?_cons_zero, List.getElem?_cons_succ, List.getD_cons_zero, List.getD_cons_succ, List.getD_nil, List.map_cons, List.map_nil, List.cons_append, List.nil_append, List.append_assoc, allB, List.take_succ_cons, List.take_zero, List.length_cons, List.length_nil, Nat.zero_add, Nat.reduceAdd, resB, resL', RSh.l, RC.vd, List.flatMap_cons, List.flatMap_nil, lR0, lR1, cChk, cRun, ints, getZ, dropZ, takeZ, getR 42 0, getR 42 1, takeR 42 1, takeR 42 2, dropR 42 1, true_and]
  clear h0
  generalize DV.sl none 0 d = d at *
  intro x _ _ hx
  rcases chk_in hx with ⟨rfl, ok⟩ | ⟨rfl, no⟩
  case inr => exact ⟨fun _ => run_bad no, fun h => absurd (by decide) h⟩
  refine ⟨fun h => absurd rfl h, fun _ => ⟨⟨len_nn d, fun k hk => absurd hk (by simp)⟩, fun x x0 _ ⟨hx, hn⟩ => ⟨fun hlt => ?_, fun hge => run_none ok ?_⟩⟩⟩
  case refine_2 => rw [show d.len.toNat = x.toNat by omega]; exact hn
  refine ⟨⟨len_nn _, fun k hk => absurd hk (by simp)⟩, fun y y0 _ ⟨hy, hl⟩ => ⟨fun hylt => ?_, fun hyge => ?_⟩⟩
  · have co := cond_at ok x0 hlt y0 hylt
    have hA : ¬ condHolds (d.cell x 0) [a, b, c, e, f] y → (x + 1 ≤ d.len ∧ noneL d [a, b, c, e, f] (x + 1).toNat) ∧ (d.len - (x + 1)).toNat < (d.len - x).toNat := fun q =>
      ⟨⟨by omega, none_succ x0 hn fun r => q (by
        have := r y.toNat (by omega)
        rwa [show ((y.toNat : Nat) : Int) = y by omega] at this)⟩, by omega⟩
    have hB : condHolds (d.cell x 0) [a, b, c, e, f] y → (y + 1 ≤ (d.cell x 0).len ∧ condsHold (d.cell x 0) [a, b, c, e, f] (y + 1).toNat) ∧ ((d.cell x 0).len - (y + 1)).toNat < ((d.cell x 0).len - y).toNat := fun q =>
      ⟨⟨by omega, (conds_succ y0).2 ⟨hl, q⟩⟩, by omega⟩
    unfold condOk at co
    obtain ⟨⟨⟨v0, v1⟩, o0, o1⟩, _⟩ := co
    unfold condHolds at hA hB
    generalize ((x + 1 ≤ d.len ∧ noneL d [a, b, c, e, f] (x + 1).toNat) ∧ (d.len - (x + 1)).toNat < (d.len - x).toNat) = GA at *
    generalize ((y + 1 ≤ (d.cell x 0).len ∧ condsHold (d.cell x 0) [a, b, c, e, f] (y + 1).toNat) ∧ ((d.cell x 0).len - (y + 1)).toNat < ((d.cell x 0).len - y).toNat) = GB at *
    generalize (d.cell x 0).at y 0 = vv at *
    generalize (d.cell x 0).at y 1 = oo at *
    generalize (d.cell x 0).at y 2 = nn at *
    have w0 : vr [a, b, c, e, f] 0 = a := rfl
    have w1 : vr [a, b, c, e, f] 1 = b := rfl
    have w2 : vr [a, b, c, e, f] 2 = c := rfl
    have w3 : vr [a, b, c, e, f] 3 = e := rfl
    have w4 : vr [a, b, c, e, f] 4 = f := rfl
    clear hl hn ok hlt hylt hy hx x0 y0
    have ho : oo = 1 ∨ oo = 2 ∨ oo = 3 ∨ oo = 4 ∨ oo = 5 := by omega
    have hv : vv = 0 ∨ vv = 1 ∨ vv = 2 ∨ vv = 3 ∨ vv = 4 := by omega
    clear v0 v1 o0 o1
    rcases hv with rfl | rfl | rfl | rfl | rfl
    · rw [w0] at hA hB
      clear w0 w1 w2 w3 w4
      unfold holds at hA hB
      rcases ho with rfl | rfl | rfl | rfl | rfl <;> simp at hA hB ⊢ <;> first | exact ⟨fun h => hA (by omega), fun h => hB (by omega)⟩ | exact ⟨fun h => hB (by omega), fun h => hA (by omega)⟩
    · rw [w1] at hA hB
      clear w0 w1 w2 w3 w4
      unfold holds at hA hB
      rcases ho with rfl | rfl | rfl | rfl | rfl <;> simp at hA hB ⊢ <;> first | exact ⟨fun h => hA (by omega), fun h => hB (by omega)⟩ | exact ⟨fun h => hB (by omega), fun h => hA (by omega)⟩
    · rw [w2] at hA hB
      clear w0 w1 w2 w3 w4
      unfold holds at hA hB
      rcases ho with rfl | rfl | rfl | rfl | rfl <;> simp at hA hB ⊢ <;> first | exact ⟨fun h => hA (by omega), fun h => hB (by omega)⟩ | exact ⟨fun h => hB (by omega), fun h => hA (by omega)⟩
    · rw [w3] at hA hB
      clear w0 w1 w2 w3 w4
      unfold holds at hA hB
      rcases ho with rfl | rfl | rfl | rfl | rfl <;> simp at hA hB ⊢ <;> first | exact ⟨fun h => hA (by omega), fun h => hB (by omega)⟩ | exact ⟨fun h => hB (by omega), fun h => hA (by omega)⟩
    · rw [w4] at hA hB
      clear w0 w1 w2 w3 w4
      unfold holds at hA hB
      rcases ho with rfl | rfl | rfl | rfl | rfl <;> simp at hA hB ⊢ <;> first | exact ⟨fun h => hA (by omega), fun h => hB (by omega)⟩ | exact ⟨fun h => hB (by omega), fun h => hA (by omega)⟩
  · have ee : (d.cell x 0).len.toNat = y.toNat := by omega
    have hh : lineHolds d [a, b, c, e, f] x := by unfold lineHolds; rw [ee]; exact hl
    have := line_at ok x0 hlt
    unfold okN at this
    exact ⟨fun _ => run_some ok x0 hlt hn hh, fun h => h this⟩
end Go.Proofs.Ytkophklnleodcaa
