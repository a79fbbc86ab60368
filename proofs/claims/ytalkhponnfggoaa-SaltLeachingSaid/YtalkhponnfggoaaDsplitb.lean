/- DERIVED. Splitting, of the program: the contract, proved. -/
import Derived.Test.YtalkhponnfggoaaDsplit
namespace Go.Proofs.Ytalkhponnfggoaa
open Go.Dx
set_option linter.unusedVariables false
set_option linter.unusedSimpArgs false
theorem cSplit_ok (N : Nat) (w0 : World) : ConOk Try.prog N w0 cSplit := by
  refine con_of_walk (tb := tb) fine (C := [lS1, lS2]) (lopCons rfl (lopCons rfl noCon)) 80 rfl ?_ N w0
  refine fun u u0 u1 v v0 v1 a ha _ => ?_
  have ha : HasSh ints (.sl none 0 a) := ha
  rw [tree_split]
  simp only [T.res, B.prop, E.den, E.dat, E.top, E.val, E.isD, DV.canon, DOp.fn, chunk, List.getElem?_cons_zero, List.getElem?_cons_succ, List.getD_cons_zero, List.getD_cons_succ, List.getD_nil, List.map_cons, List.map_nil, List.cons_append, List.nil_append, List.append_assoc, allB, lS1, lS2, cSplit, List.take_succ_cons, List.take_zero, List.drop_succ_cons, List.drop_zero, List.length_cons, List.length_nil, Nat.zero_add, Nat.reduceAdd, ints_len ha, getR 42 0, getR 42 1, getR 42 2, getR 42 3, getR 42 4, getR 42 5, getR 24 0, getR 24 1, getR 24 2, getR 42 29, getR 42 30, takeR 42 1, takeR 42 5, dropR 42 1]
  simp only [DV.int]
  have hels : ∀ o : List (List DV), (DV.sl none 0 o).els = o := fun _ => rfl
  simp only [hels]
  have hd0 : (DV.sl none 0 a).els.length = a.length := rfl
  generalize DV.sl none 0 a = d at hd0 ⊢
  refine ⟨fun h => sp1 (by omega), fun h => ⟨fun hb => sp2 (by omega) hb, fun hb => ?_⟩⟩
  have hw : okW u v := Classical.not_not.1 hb
  refine ⟨⟨by omega, fun k hk => absurd hk (by simp), rfl⟩, fun i i0 _ l l0 l1 ⟨hi, hal, e1⟩ => ⟨fun hlt => ⟨fun hbad => sp3 (by omega) hw fun q => ?_, fun hg => ⟨fun c1 => ⟨⟨by omega, allI_succ i0 hal (Classical.not_not.1 hg), ?_⟩, by omega⟩, fun c1 => c1 ?_⟩⟩, fun hge => ⟨fun hne => sp3 (by omega) hw fun q => ?_, fun heq => ?_⟩⟩⟩
  · have := q.1 i.toNat (by omega)
    rw [show ((i.toNat : Nat) : Int) = i by omega] at this
    exact hbad this
  · rw [sm_succ i0, e1]
  · have hg := Classical.not_not.1 hg
    have := smI hal i.toNat (Nat.le_refl _)
    omega
  · apply hne
    rw [e1, ← q.2]
    congr 1; omega
  · have heq := Classical.not_not.1 heq
    have hn : i.toNat = d.els.length := by omega
    rw [hn] at e1 hal
    have hsum : sm d 0 d.els.length = u := by omega
    have h00 : held u v 0 = 0 := by unfold held; rw [Int.mul_zero, Int.zero_tdiv]
    refine ⟨⟨by omega, rfl, by first | exact h00.symm | exact h00, rfl⟩, fun x x0 _ m m0 m1 t t0 t1 o _ ⟨hx, e2, e4, e3⟩ => ⟨fun hlt => ?_, fun hge => ?_⟩⟩
    · obtain ⟨g1, g2, g3, g4, g5, g6, g7, g8, g9⟩ := split_round hw (by omega) hal hsum x0 (by omega) e2 e3
      rw [g1, g4, g5, e4, g8]
      refine ⟨fun hu => ⟨fun _ => ⟨fun _ => ⟨fun _ => ⟨⟨by omega, rfl, rfl, ?_⟩, by omega⟩, fun c => c g7⟩, fun c => c ⟨g2, g3⟩⟩, fun c => c g9⟩, fun hu => ⟨fun _ => ⟨fun _ => ⟨⟨by omega, rfl, ?_, ?_⟩, by omega⟩, fun c => c ⟨g2, g3⟩⟩, fun c => c g9⟩⟩
      · rw [rows_step x0, e3]
      · rw [split_zero (d := d) hw hu _ 0, split_zero (d := d) hw hu _ 0]
      · rw [rows_step x0, e3, split_zero (d := d) hw hu _ 0, split_zero (d := d) hw hu _ 0]
    · have hx2 : x.toNat = d.els.length := by omega
      rw [e3, hx2]
      exact sp4 (by omega) hw hal hsum
end Go.Proofs.Ytalkhponnfggoaa
