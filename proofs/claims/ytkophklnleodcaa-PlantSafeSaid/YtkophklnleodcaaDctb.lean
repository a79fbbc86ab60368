/- DERIVED. Gate programs are run: the contract of the specification's, proved. -/
import Derived.Test.YtkophklnleodcaaDct
import Derived.Test.YtkophklnleodcaaDtreec
namespace Go.Proofs.Ytkophklnleodcaa
open Go.Dx
set_option linter.unusedVariables false
set_option linter.unusedSimpArgs false
theorem chk_in {d : DV} {x : Int} (h : [DV.n x] = ChkF d) : (x = 0 ∧ codeOk d) ∨ (x = 310 ∧ ¬ codeOk d) := by
  unfold ChkF at h
  by_cases c : codeOk d
  · rw [if_pos c] at h; exact .inl ⟨n_inj h, c⟩
  · rw [if_neg c] at h; exact .inr ⟨n_inj h, c⟩
theorem first_none {d : DV} {v : List Int} : ∀ (n k : Nat), (∀ j : Nat, k ≤ j → j < k + n → ¬ lineHolds d v j) → firstL d v n k = none
  | 0, k, h => rfl
  | n + 1, k, h => by
    unfold firstL
    rw [if_neg (h k (Nat.le_refl _) (by omega))]
    exact first_none n (k + 1) fun j h1 h2 => h j (by omega) (by omega)
theorem first_some {d : DV} {v : List Int} {m : Nat} (hm : lineHolds d v m) : ∀ (n k : Nat), k ≤ m → m < k + n → (∀ j : Nat, k ≤ j → j < m → ¬ lineHolds d v j) → firstL d v n k = some m
  | 0, k, h1, h2, h => by omega
  | n + 1, k, h1, h2, h => by
    unfold firstL
    by_cases e : k = m
    · subst e; rw [if_pos hm]
    · rw [if_neg (h k (Nat.le_refl _) (by omega))]
      exact first_some hm n (k + 1) (by omega) (by omega) fun j h1 h2 => h j (by omega) h2
theorem run_bad {d : DV} {v : List Int} (h : ¬ codeOk d) : [DV.n 0, .n 0, .n 310] = RunF d v := by unfold RunF; rw [if_neg h]
theorem run_none {d : DV} {v : List Int} (h : codeOk d) (k : noneL d v d.len.toNat) : [DV.n 0, .n 0, .n 0] = RunF d v := by
  unfold RunF runF
  rw [if_pos h, first_none _ _ fun j _ h2 => k j (by omega)]
theorem run_some {d : DV} {v : List Int} {x : Int} (h : codeOk d) (x0 : 0 ≤ x) (hx : x < d.len) (k : noneL d v x.toNat) (hl : lineHolds d v x) : [DV.n (d.at x 1), .n 1, .n 0] = RunF d v := by
  have e : ((x.toNat : Nat) : Int) = x := by omega
  unfold RunF runF
  rw [if_pos h, first_some (m := x.toNat) (by rw [e]; exact hl) _ _ (by omega) (by omega) fun j _ h2 => k j h2]
  show _ = [DV.n (d.at ((x.toNat : Nat) : Int) 1), DV.n 1, DV.n 0]
  rw [e]
theorem conds_succ {c : DV} {v : List Int} {y : Int} (h : 0 ≤ y) : condsHold c v (y + 1).toNat ↔ condsHold c v y.toNat ∧ condHolds c v y := by
  constructor
  · intro q
    refine ⟨fun k hk => q k (by omega), ?_⟩
    have := q y.toNat (by omega)
    rwa [show ((y.toNat : Nat) : Int) = y by omega] at this
  · intro ⟨q, r⟩ k hk
    by_cases e : k < y.toNat
    · exact q k e
    · rw [show (k : Int) = y by omega]; exact r
theorem none_succ {d : DV} {v : List Int} {x : Int} (h : 0 ≤ x) (k : noneL d v x.toNat) (hx : ¬ lineHolds d v x) : noneL d v (x + 1).toNat := fun j hj => by
  by_cases e : j < x.toNat
  · exact k j e
  · rw [show (j : Int) = x by omega]; exact hx
theorem cond_at {d : DV} {x y : Int} (h : codeOk d) (x0 : 0 ≤ x) (hx : x < d.len) (y0 : 0 ≤ y) (hy : y < (d.cell x 0).len) : condOk (d.cell x 0) y := by
  have := (h.2 x.toNat (by omega)).2 y.toNat (by rw [show ((x.toNat : Nat) : Int) = x by omega]; omega)
  rwa [show ((x.toNat : Nat) : Int) = x by omega, show ((y.toNat : Nat) : Int) = y by omega] at this
theorem line_at {d : DV} {x : Int} (h : codeOk d) (x0 : 0 ≤ x) (hx : x < d.len) : okN (d.at x 1) := by
  have := (h.2 x.toNat (by omega)).1.2
  rwa [show ((x.toNat : Nat) : Int) = x by omega] at this
theorem cRunR_ok (N : Nat) (w0 : World) : ConOk Try.prog tb N w0 cRunR := by
  refine con_of_walk (tb := tb) fine (C := [cHolds, cChkR, lQ0, lQ1]) (conCons cHolds_ok (conCons cChkR_ok (lopCons rfl (lopCons rfl noCon)))) 80 rfl ?_ N w0
  refine fun d h0 a _ _ b _ _ c _ _ e _ _ f _ _ _ => ?_
  rw [tree_runR]
  simp only [T.res, B.prop, E.den, E.dat, E.top, E.val, E.isD, DV.canon, DV.int, List.getElem?_cons_zero, List.getElem?_cons_succ, List.getD_cons_zero, List.getD_cons_succ, List.getD_nil, List.map_cons, List.map_nil, List.cons_append, List.nil_append, List.append_assoc, allB, List.take_succ_cons, List.take_zero, List.length_cons, List.length_nil, Nat.zero_add, Nat.reduceAdd, resB, resL', RSh.l, RC.vd, List.flatMap_cons, List.flatMap_nil, lQ0, lQ1, cChkR, cHolds, cRunR, ints, getZ, dropZ, takeZ, getR 60 0, getR 60 1, getR 60 2, getR 60 61, getR 60 62, takeR 60 1, takeR 60 2, dropR 60 1, true_and]
  clear h0
  generalize DV.sl none 0 d = d at *
  intro x _ _ hx
  rcases chk_in hx with ⟨rfl, ok⟩ | ⟨rfl, no⟩
  case inr => exact ⟨fun _ => run_bad no, fun h => absurd (by decide) h⟩
  refine ⟨fun h => absurd rfl h, fun _ => ⟨⟨len_nn d, fun k hk => absurd hk (by simp)⟩, fun x x0 _ ⟨hx, hn⟩ => ⟨fun hlt => ?_, fun hge => run_none ok ?_⟩⟩⟩
  case refine_2 => rw [show d.len.toNat = x.toNat by omega]; exact hn
  refine ⟨⟨len_nn _, ⟨fun _ k hk => absurd hk (by simp), fun _ => trivial⟩⟩, fun l l0 l1 y y0 _ ⟨hy, hl⟩ => ⟨fun hylt => ?_, fun hyge => ?_⟩⟩
  · have step : ∀ (val z : Int), ¬ l = 0 → vr [a, b, c, e, f] ((d.cell x 0).at y 0) = val → [DV.n z] = [DV.n (if holds ((d.cell x 0).at y 1) val ((d.cell x 0).at y 2) then 1 else 0)] →
        (y + 1 ≤ (d.cell x 0).len ∧ (z = 1 ↔ condsHold (d.cell x 0) [a, b, c, e, f] (y + 1).toNat)) ∧ ((d.cell x 0).len - (y + 1)).toNat < ((d.cell x 0).len - y).toNat := fun val z hl0 hv hz => by
      refine ⟨⟨by omega, ?_⟩, by omega⟩
      have h1 : condsHold (d.cell x 0) [a, b, c, e, f] y.toNat := hl.1 (by omega)
      rw [conds_succ y0]
      have hz := n_inj hz
      unfold condHolds
      rw [hv]
      by_cases q : holds ((d.cell x 0).at y 1) val ((d.cell x 0).at y 2)
      · rw [if_pos q] at hz; exact ⟨fun _ => ⟨h1, q⟩, fun _ => hz⟩
      · rw [if_neg q] at hz; exact ⟨fun w => by omega, fun w => absurd w.2 q⟩
    have co := cond_at ok x0 hlt y0 hylt
    refine ⟨fun hl0 => ⟨fun h0 z _ _ hz => step a z hl0 (by rw [h0]; rfl) hz, fun h0 => ⟨fun h1 z _ _ hz => step b z hl0 (by rw [h1]; rfl) hz, fun h1 => ⟨fun h2 z _ _ hz => step c z hl0 (by rw [h2]; rfl) hz, fun h2 => ⟨fun h3 z _ _ hz => step e z hl0 (by rw [h3]; rfl) hz, fun h3 => ⟨fun h4 z _ _ hz => step f z hl0 (by rw [h4]; rfl) hz, fun h4 => ?_⟩⟩⟩⟩⟩, fun hl0 => ⟨⟨by omega, ?_⟩, by omega⟩⟩
    · have := co.1.1; omega
    · rw [conds_succ y0]
      exact ⟨fun w => absurd w (by decide), fun w => absurd (hl.2 w.1) (by omega)⟩
  · have ee : (d.cell x 0).len.toNat = y.toNat := by omega
    refine ⟨fun hl0 => ?_, fun hl0 => ?_⟩
    · have hh : lineHolds d [a, b, c, e, f] x := by unfold lineHolds; rw [ee]; exact hl.1 (by omega)
      have := line_at ok x0 hlt
      unfold okN at this
      exact ⟨fun _ => run_some ok x0 hlt hn hh, fun h => h this⟩
    · refine ⟨⟨by omega, none_succ x0 hn fun q => ?_⟩, by omega⟩
      unfold lineHolds at q
      rw [ee] at q
      exact absurd (hl.2 q) (by omega)
end Go.Proofs.Ytkophklnleodcaa
