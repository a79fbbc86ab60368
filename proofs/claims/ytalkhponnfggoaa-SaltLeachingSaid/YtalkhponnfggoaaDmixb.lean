/- DERIVED. Mixing and losing, of both packages: the contracts, proved. -/
import Derived.Test.YtalkhponnfggoaaDmix
namespace Go.Proofs.Ytalkhponnfggoaa
open Go.Dx
set_option linter.unusedVariables false
set_option linter.unusedSimpArgs false
theorem drop19 {α : Type} (z : α) (l : List α) : (List.replicate 19 z ++ l).drop 19 = l := List.drop_left' (by simp)
theorem take19 {α : Type} (z : α) (l : List α) : (List.replicate 19 z ++ l).take 19 = List.replicate 19 z := List.take_left' (by simp)
theorem get19 {α : Type} (z d x : α) (l : List α) : (List.replicate 19 z ++ (x :: l)).getD 19 d = x := by
  rw [List.getD_eq_getElem?_getD, List.getElem?_append_right (by simp)]; simp
theorem get20 {α : Type} (z d x y : α) (l : List α) : (List.replicate 19 z ++ (x :: y :: l)).getD 20 d = y := by
  rw [List.getD_eq_getElem?_getD, List.getElem?_append_right (by simp)]; simp
theorem get21 {α : Type} (z d x y u : α) (l : List α) : (List.replicate 19 z ++ (x :: y :: u :: l)).getD 21 d = u := by
  rw [List.getD_eq_getElem?_getD, List.getElem?_append_right (by simp)]; simp
theorem take22 {α : Type} (z x y u : α) (l : List α) : (List.replicate 19 z ++ (x :: y :: u :: l)).take 22 = List.replicate 19 z ++ [x, y, u] := by
  rw [show List.replicate 19 z ++ (x :: y :: u :: l) = (List.replicate 19 z ++ [x, y, u]) ++ l by simp]
  exact List.take_left' (by simp)
theorem wrap_id {x : Int} (h1 : -9223372036854775808 ≤ x) (h2 : x ≤ 9223372036854775807) : IntKind.i64.wrap x = x := wrap_in .i64 x (by simp [kmin, IntKind.signed, IntKind.bits]; omega) (by simp [kmax, IntKind.signed, IntKind.bits]; omega)
theorem cMix_ok (N : Nat) (w0 : World) : ConOk Try.prog N w0 cMix := by
  refine con_of_walk (tb := tb) fine (C := [lIx, lSum]) (lopCons rfl (lopCons rfl noCon)) 80 rfl ?_ N w0
  refine fun a ha _ => ?_
  have ha : HasSh wats (.sl none 0 a) := ha
  rw [tree_mix]
  simp only [T.res, B.prop, E.den, E.dat, E.top, E.val, E.isD, DV.canon, List.getElem?_cons_zero, List.getElem?_cons_succ, List.getD_cons_zero, List.getD_cons_succ, List.getD_nil, List.map_cons, List.map_nil, List.cons_append, List.nil_append, List.append_assoc, allB, lIx, lSum, cMix, List.take_succ_cons, List.take_zero, List.length_cons, List.length_nil, Nat.zero_add, Nat.reduceAdd, wats_len ha, MixP, drop19, take19, get19, get20, get21, take22]
  simp only [DV.int]
  have hels : (DV.sl none 0 a).els = a := rfl
  simp only [hels]
  generalize hd : DV.sl none 0 a = d
  refine ⟨fun h => ⟨fun _ => trivial, fun h1 => by omega, fun h1 => by omega, fun h1 => by omega⟩, fun h => ⟨⟨by omega, fun k hk => absurd hk (by simp)⟩, fun x x0 _ ⟨hx, hk⟩ => ⟨fun hlt => ⟨fun hb => ⟨fun h1 => by omega, fun h1 h2 => trivial, fun h1 h2 => ?_, fun h1 h2 => ?_⟩, fun hb => ?_⟩, fun hge => ?_⟩⟩⟩
  · exfalso
    have := h2 x.toNat (by omega)
    unfold okR okW at this
    rw [show ((x.toNat : Nat) : Int) = x by omega] at this
    exact hb this
  · exfalso
    have := h2 x.toNat (by omega)
    unfold okR okW at this
    rw [show ((x.toNat : Nat) : Int) = x by omega] at this
    exact hb this
  · have hb : okR d x := Classical.not_not.1 hb
    exact ⟨⟨by omega, allR_succ x0 hk hb⟩, by omega⟩
  · have hn : x.toNat = a.length := by omega
    rw [hn] at hk
    refine ⟨⟨by omega, rfl, rfl⟩, fun i i0 _ l l0 l1 s s0 s1 ⟨hi, e1, e2⟩ => ⟨fun hlt => ?_, fun hgi => ?_⟩⟩
    · have hb := hk i.toNat (by omega)
      rw [show ((i.toNat : Nat) : Int) = i by omega] at hb
      have r := sm_rng hk i.toNat (by omega)
      have q := hb
      unfold okR okW at q
      rw [wrap_id (x := l + d.at i 0) (by omega) (by omega), wrap_id (x := s + d.at i 1) (by omega) (by omega)]
      refine ⟨fun c1 => ⟨fun c2 => ⟨⟨by omega, ?_, ?_⟩, by omega⟩, fun c2 => c2 ?_⟩, fun c1 => c1 ?_⟩
      · rw [sm_succ i0]; omega
      · rw [sm_succ i0]; omega
      · omega
      · omega
    · have hn : i.toNat = a.length := by omega
      rw [hn] at e1 e2
      have r := sm_rng hk a.length (Nat.le_refl _)
      refine ⟨fun hb => ⟨fun h1 => by omega, fun h1 h2 => trivial, fun h1 h2 h3 => trivial, fun h1 h2 h3 h4 => ?_⟩, fun hb => ⟨fun h1 => by omega, fun h1 h2 => absurd hk h2, fun h1 h2 h3 => ?_, fun h1 h2 h3 h4 => ?_⟩⟩
      · exfalso; omega
      · exfalso; omega
      · rw [e1, e2]
theorem cLose_ok (N : Nat) (w0 : World) : ConOk Try.prog N w0 cLose := by
  refine con_of_walk (tb := tb) fine (C := []) noCon 80 rfl ?_ N w0
  refine fun l l0 l1 s s0 s1 e e0 e1 p p0 p1 _ => ?_
  rw [tree_lose]
  simp only [T.res, B.prop, E.den, E.dat, E.top, E.val, E.isD, DV.canon, List.getD_cons_zero, List.getD_cons_succ, List.getD_nil, List.map_cons, List.map_nil, List.cons_append, List.nil_append, cLose, LoseP, DV.int]
  refine ⟨fun h => ⟨fun _ => trivial, fun h1 => absurd h1 h, fun h1 => absurd h1 h, fun h1 => absurd h1 h⟩, fun h => ?_⟩
  have hw : okW l s := Classical.not_not.1 h
  have q := hw
  unfold okW at q
  refine ⟨fun h2 => ⟨fun h1 => absurd hw h1, fun _ _ => trivial, fun _ h3 => by omega, fun _ h3 => by omega⟩, fun h2 => ⟨fun h4 => ⟨fun h1 => absurd hw h1, fun _ h3 => by omega, fun _ _ _ => trivial, fun _ h3 h5 => absurd h4 h5⟩, fun h4 => ⟨fun h5 => ⟨fun h1 => absurd hw h1, fun _ h3 => by omega, fun _ _ h6 => absurd h6 h4, fun _ _ _ => trivial⟩, fun h5 => ⟨fun h1 => absurd hw h1, fun _ h3 => by omega, fun _ _ h6 => absurd h6 h4, fun _ _ _ => ?_⟩⟩⟩⟩
  have h0 : l - e = 0 := by omega
  rw [h0, Int.tdiv_zero, Int.sub_zero]
theorem cLoseR_ok (N : Nat) (w0 : World) : ConOk Try.prog N w0 cLoseR := by
  refine con_of_walk (tb := tb) fine (C := []) noCon 80 rfl ?_ N w0
  refine fun l l0 l1 s s0 s1 e e0 e1 p p0 p1 _ => ?_
  rw [tree_loseR]
  simp only [T.res, B.prop, E.den, E.dat, E.top, E.val, E.isD, DV.canon, List.getD_cons_zero, List.getD_cons_succ, List.getD_nil, List.map_cons, List.map_nil, List.cons_append, List.nil_append, cLoseR, LoseP, DV.int]
  refine ⟨fun h => ⟨fun _ => trivial, fun h1 => absurd h1 h, fun h1 => absurd h1 h, fun h1 => absurd h1 h⟩, fun h => ?_⟩
  have hw : okW l s := Classical.not_not.1 h
  have q := hw
  unfold okW at q
  refine ⟨fun h2 => ⟨fun h1 => absurd hw h1, fun _ _ => trivial, fun _ h3 => by omega, fun _ h3 => by omega⟩, fun h2 => ⟨fun h4 => ⟨fun h5 => ⟨fun h1 => absurd hw h1, fun _ h3 => by omega, fun _ _ _ => trivial, fun _ h3 h6 => by omega⟩, fun h5 => ⟨fun h1 => absurd hw h1, fun _ h3 => by omega, fun _ _ h6 => by omega, fun _ _ _ => ?_⟩⟩, fun h4 => ⟨fun h1 => absurd hw h1, fun _ h3 => by omega, fun _ _ h6 => by omega, fun _ _ _ => trivial⟩⟩⟩
  have hs : s = 0 := by omega
  have hp : p = 0 := by omega
  rw [h4, hs, hp, Int.tdiv_zero]
  rfl
theorem cLeach_ok (N : Nat) (w0 : World) : ConOk Try.prog N w0 cLeach := by
  refine con_of_walk (tb := tb) fine (C := []) noCon 80 rfl ?_ N w0
  refine fun l l0 l1 s s0 s1 e e0 e1 p p0 p1 _ => ?_
  rw [tree_leach]
  simp only [T.res, B.prop, E.den, E.dat, E.top, E.val, E.isD, DV.canon, List.getD_cons_zero, List.getD_cons_succ, List.getD_nil, List.map_cons, List.map_nil, List.cons_append, List.nil_append, cLeach, LeachP, DV.int]
  refine ⟨fun h => ⟨fun _ => trivial, fun h1 => ?_⟩, fun h => ⟨fun h2 => ⟨fun _ => trivial, fun h1 => ?_⟩, fun h2 => ⟨fun h1 => ?_, fun _ => trivial⟩⟩⟩
  · unfold okL okW at h1; exfalso; omega
  · unfold okL okW at h1; exfalso; omega
  · exfalso; apply h1; unfold okL okW; omega
theorem cLeachR_ok (N : Nat) (w0 : World) : ConOk Try.prog N w0 cLeachR := by
  refine con_of_walk (tb := tb) fine (C := []) noCon 80 rfl ?_ N w0
  refine fun l l0 l1 s s0 s1 e e0 e1 p p0 p1 _ => ?_
  rw [tree_leachR]
  simp only [T.res, B.prop, E.den, E.dat, E.top, E.val, E.isD, DV.canon, List.getD_cons_zero, List.getD_cons_succ, List.getD_nil, List.map_cons, List.map_nil, List.cons_append, List.nil_append, cLeachR, LeachP, DV.int]
  refine ⟨fun h => ⟨fun _ => trivial, fun h1 => ?_⟩, fun h => ⟨fun h1 => ?_, fun _ => ?_⟩⟩
  · unfold okL okW at h1; exfalso; omega
  · exfalso; apply h1; unfold okL okW; omega
  · rw [Int.add_comm s p, Int.add_comm l e]
    try rfl
end Go.Proofs.Ytalkhponnfggoaa
