/- DERIVED. What evaporates: both keep the contract. -/
import Derived.Test.YtnleeohiomcieaaDoorDcts
namespace Go.Proofs.YtnleeohiomcieaaDoor
open Go.Dx
set_option linter.unusedVariables false
set_option linter.unusedSimpArgs false
theorem ev_long {s : Svy} {dl : Int} (h : Long s) : EvapP s dl [.n 0, .n 0, .n 2] := err_long (z := [.n 0, .n 0]) h
theorem ev_bad {s : Svy} {dl : Int} (h : ¬ Long s) (k : ¬ RightS s) : EvapP s dl [.n 0, .n 0, .n 210] := err_bad (z := [.n 0, .n 0]) h k
theorem ev_arg {s : Svy} {dl : Int} (h : ¬ Long s) (k : RightS s) (l : ¬ Dly dl) : EvapP s dl [.n 0, .n 0, .n 1] := err_arg (z := [.n 0, .n 0]) h k l
theorem ev_no {s : Svy} {dl : Int} (h : ¬ Long s) (k : RightS s) (l : Dly dl) (m : eHs s dl < eLs s dl) : EvapP s dl [.n 0, .n 0, .n 210] := err_fine h k l ⟨fun _ => rfl, fun q => absurd m q⟩
theorem ev_ok {s : Svy} {dl a b : Int} (h : ¬ Long s) (k : RightS s) (l : Dly dl) (ha : a = eLs s dl) (hb : b = eHs s dl) (m : ¬ b < a) : EvapP s dl [.n a, .n b, .n 0] := by
  subst ha hb
  exact err_fine h k l ⟨fun q => absurd q m, fun _ => rfl⟩
theorem cEvap_ok (N : Nat) (w0 : World) : ConOk Tryd.prog tb N w0 (cEvap 13) := by
  refine con_of_walk (tb := tb) fine (C := [cIsS, lEv]) (conCons cIsS_ok (lopCons rfl noCon)) 80 rfl ?_ N w0
  refine fun su _ _ so _ _ n0 _ _ d0 _ _ n1 _ _ d1 _ _ pa _ po _ dl _ _ _ => ?_
  rw [tree_evap]
  simp only [T.res, B.prop, E.den, E.dat, E.top, E.val, E.isD, DV.canon, DV.int, List.getElem?_cons_zero, List.getElem?_cons_succ, List.getD_cons_zero, List.getD_cons_succ, List.getD_nil, List.map_cons, List.map_nil, List.cons_append, List.nil_append, allB, List.take_succ_cons, List.take_zero, List.length_cons, List.length_nil, Nat.zero_add, Nat.reduceAdd, resB, resL', RSh.l, RC.vd, List.flatMap_cons, List.flatMap_nil, List.append_nil, ev, dv, svy, getZ, cIsS, cEvap, lEv]
  have hA := len_nn (.sl none 0 pa)
  generalize hpa : DV.sl none 0 pa = A at *
  generalize hpo : DV.sl none 0 po = B at *
  generalize hs : (⟨su, so, n0, d0, n1, d1, A, B⟩ : Svy) = s
  refine ⟨fun h => ev_long (by rw [← hs]; exact h), fun h => ?_⟩
  have h : ¬ Long s := by rw [← hs]; exact h
  refine ⟨trivial, fun x _ _ hx => ?_⟩
  rcases val_in hx with ⟨ok, rfl⟩ | ⟨bad, rfl⟩
  case inr => exact ⟨fun _ => ev_bad h bad, fun k => absurd rfl k⟩
  refine ⟨fun k => absurd k (by decide), fun _ => ⟨fun k => ev_arg h ok fun q => by unfold Dly at q; omega, fun k => ?_⟩⟩
  have dl1 : Dly dl := ⟨by omega, by omega⟩
  obtain ⟨c0, c1⟩ := ok.1.cf
  have hsu := ok.1.1.1
  have okP := ok.2.1
  subst hs
  simp only at c0 c1 hsu okP
  have w0 := ev_w c0 (x := 0) (by omega) (by omega) hsu.1 hsu.2 dl1.1 dl1.2
  have w1 := ev_w c1 (x := 240) (by omega) (by omega) hsu.1 hsu.2 dl1.1 dl1.2
  simp only [w0.2.2.2.1, w1.1, w1.2.1, w1.2.2.1, w1.2.2.2.1, w1.2.2.2.2.2.1, w1.2.2.2.2.2.2.1, w1.2.2.2.2.2.2.2.1]
  have z0 := w0.2.2.2.2.2.2.2.2.2.2
  have z1 := w1.2.2.2.2.2.2.2.2.2.2
  have hz : ∀ hlen : A.len = 0, eLs ⟨su, so, n0, d0, n1, d1, A, B⟩ dl = (n0 * 0 * su * dl).tdiv (240 * d0) ∧ eHs ⟨su, so, n0, d0, n1, d1, A, B⟩ dl = min 1073741824 ((n1 * 240 * su * dl + 240 * d1 - 1).tdiv (240 * d1)) := fun hlen => by
    unfold eLs eHs
    rw [if_pos hlen, if_pos hlen]
    exact ⟨rfl, rfl⟩
  have step : ∀ i a b : Int, 0 ≤ i → i < A.len → a = evL ⟨su, so, n0, d0, n1, d1, A, B⟩ dl i.toNat → b = evH ⟨su, so, n0, d0, n1, d1, A, B⟩ dl i.toNat →
      max a (IntKind.i64.wrap ((IntKind.i64.wrap (IntKind.i64.wrap (IntKind.i64.wrap (n0 * A.at i 0) * su) * dl)).tdiv (240 * d0))) = evL ⟨su, so, n0, d0, n1, d1, A, B⟩ dl (i + 1).toNat ∧
      min b (IntKind.i64.wrap ((IntKind.i64.wrap (IntKind.i64.wrap (IntKind.i64.wrap (IntKind.i64.wrap (IntKind.i64.wrap (n1 * A.at i 1) * su) * dl) + 240 * d1) - 1)).tdiv (240 * d1))) = evH ⟨su, so, n0, d0, n1, d1, A, B⟩ dl (i + 1).toNat := fun i a b hi0 hi ea eb => by
    obtain ⟨⟨p1, p2⟩, p3⟩ := okP i hi0 hi
    have u0 := ev_w c0 (x := A.at i 0) p1 (by omega) hsu.1 hsu.2 dl1.1 dl1.2
    have u1 := ev_w c1 (x := A.at i 1) (by omega) p3 hsu.1 hsu.2 dl1.1 dl1.2
    rw [u0.1, u0.2.1, u0.2.2.1, u0.2.2.2.2.1, u1.1, u1.2.1, u1.2.2.1, u1.2.2.2.2.2.1, u1.2.2.2.2.2.2.1, u1.2.2.2.2.2.2.2.1, toN_succ hi0]
    simp only [evL, evH, eLo, eHi, ea, eb, Int.toNat_of_nonneg hi0, and_self]
  refine ⟨fun hlen => ?_, fun hlen => ⟨⟨hA, rfl, rfl⟩, fun i i0 i1 a a0 a1 b b0 b1 ⟨hi, ea, eb⟩ => ⟨fun hlt => ?_, fun hge => ?_⟩⟩⟩
  · obtain ⟨e1, e2⟩ := hz hlen
    refine ⟨⟨fun q => z0 q, fun _ => ⟨fun q => z1 q, fun _ => ⟨fun q => ev_no h ok dl1 (by rw [e1, e2]; exact q), fun q => ev_ok h ok dl1 e1.symm e2.symm q⟩⟩⟩, fun q => z1 q, fun _ => ⟨fun q => z0 q, fun _ => ⟨fun q => ev_no h ok dl1 (by rw [e1, e2]; exact q), fun q => ev_ok h ok dl1 e1.symm e2.symm q⟩⟩⟩
  · obtain ⟨s1, s2⟩ := step i a b i0 hlt ea eb
    refine ⟨⟨fun q => z0 q, fun _ => ⟨fun q => z1 q, fun _ => ⟨⟨by omega, s1, s2⟩, by omega⟩⟩⟩, fun q => z1 q, fun _ => ⟨fun q => z0 q, fun _ => ⟨⟨by omega, s1, s2⟩, by omega⟩⟩⟩
  · obtain rfl : i = A.len := by omega
    have e1 : a = eLs ⟨su, so, n0, d0, n1, d1, A, B⟩ dl := by unfold eLs; rw [if_neg hlen]; exact ea
    have e2 : b = eHs ⟨su, so, n0, d0, n1, d1, A, B⟩ dl := by unfold eHs; rw [if_neg hlen]; exact eb
    exact ⟨fun q => ev_no h ok dl1 (by rw [← e1, ← e2]; exact q), fun q => ev_ok h ok dl1 e1 e2 q⟩
theorem cEvapR_ok (N : Nat) (w0 : World) : ConOk Tryd.prog tb N w0 (cEvap 14) := by
  refine con_of_walk (tb := tb) fine (C := [cIsSR, lEvR]) (conCons cIsSR_ok (lopCons rfl noCon)) 80 rfl ?_ N w0
  refine fun su _ _ so _ _ n0 _ _ d0 _ _ n1 _ _ d1 _ _ pa _ po _ dl _ _ _ => ?_
  rw [tree_evapR]
  simp only [T.res, B.prop, E.den, E.dat, E.top, E.val, E.isD, DV.canon, DV.int, List.getElem?_cons_zero, List.getElem?_cons_succ, List.getD_cons_zero, List.getD_cons_succ, List.getD_nil, List.map_cons, List.map_nil, List.cons_append, List.nil_append, allB, List.take_succ_cons, List.take_zero, List.length_cons, List.length_nil, Nat.zero_add, Nat.reduceAdd, resB, resL', RSh.l, RC.vd, List.flatMap_cons, List.flatMap_nil, List.append_nil, ev, dv, svy, getZ, cIsSR, cEvap, lEvR]
  have hA := len_nn (.sl none 0 pa)
  generalize hpa : DV.sl none 0 pa = A at *
  generalize hpo : DV.sl none 0 po = B at *
  generalize hs : (⟨su, so, n0, d0, n1, d1, A, B⟩ : Svy) = s
  refine ⟨fun h => ev_long (by rw [← hs]; exact h), fun h => ?_⟩
  have h : ¬ Long s := by rw [← hs]; exact h
  refine ⟨trivial, fun x _ _ hx => ?_⟩
  rcases val_in hx with ⟨ok, rfl⟩ | ⟨bad, rfl⟩
  case inr => exact ⟨fun _ => ev_bad h bad, fun k => absurd rfl k⟩
  refine ⟨fun k => absurd k (by decide), fun _ => ⟨fun k => ev_arg h ok fun q => by unfold Dly at q; omega, fun k => ?_⟩⟩
  have dl1 : Dly dl := ⟨by omega, by omega⟩
  obtain ⟨c0, c1⟩ := ok.1.cf
  have hsu := ok.1.1.1
  have okP := ok.2.1
  subst hs
  simp only at c0 c1 hsu okP
  have w0 := ev_w c0 (x := 0) (by omega) (by omega) hsu.1 hsu.2 dl1.1 dl1.2
  have w1 := ev_w c1 (x := 240) (by omega) (by omega) hsu.1 hsu.2 dl1.1 dl1.2
  simp only [w0.2.2.2.1, w1.1, w1.2.1, w1.2.2.1, w1.2.2.2.1, w1.2.2.2.2.2.1, w1.2.2.2.2.2.2.1, w1.2.2.2.2.2.2.2.1]
  have z0 := w0.2.2.2.2.2.2.2.2.2.2
  have z1 := w1.2.2.2.2.2.2.2.2.2.2
  have hz : ∀ hlen : A.len = 0, eLs ⟨su, so, n0, d0, n1, d1, A, B⟩ dl = (n0 * 0 * su * dl).tdiv (240 * d0) ∧ eHs ⟨su, so, n0, d0, n1, d1, A, B⟩ dl = min 1073741824 ((n1 * 240 * su * dl + 240 * d1 - 1).tdiv (240 * d1)) := fun hlen => by
    unfold eLs eHs
    rw [if_pos hlen, if_pos hlen]
    exact ⟨rfl, rfl⟩
  have step : ∀ i a b : Int, 0 ≤ i → i < A.len → a = evL ⟨su, so, n0, d0, n1, d1, A, B⟩ dl i.toNat → b = evH ⟨su, so, n0, d0, n1, d1, A, B⟩ dl i.toNat →
      max a (IntKind.i64.wrap ((IntKind.i64.wrap (IntKind.i64.wrap (IntKind.i64.wrap (n0 * A.at i 0) * su) * dl)).tdiv (240 * d0))) = evL ⟨su, so, n0, d0, n1, d1, A, B⟩ dl (i + 1).toNat ∧
      min b (IntKind.i64.wrap ((IntKind.i64.wrap (IntKind.i64.wrap (IntKind.i64.wrap (IntKind.i64.wrap (IntKind.i64.wrap (n1 * A.at i 1) * su) * dl) + 240 * d1) - 1)).tdiv (240 * d1))) = evH ⟨su, so, n0, d0, n1, d1, A, B⟩ dl (i + 1).toNat := fun i a b hi0 hi ea eb => by
    obtain ⟨⟨p1, p2⟩, p3⟩ := okP i hi0 hi
    have u0 := ev_w c0 (x := A.at i 0) p1 (by omega) hsu.1 hsu.2 dl1.1 dl1.2
    have u1 := ev_w c1 (x := A.at i 1) (by omega) p3 hsu.1 hsu.2 dl1.1 dl1.2
    rw [u0.1, u0.2.1, u0.2.2.1, u0.2.2.2.2.1, u1.1, u1.2.1, u1.2.2.1, u1.2.2.2.2.2.1, u1.2.2.2.2.2.2.1, u1.2.2.2.2.2.2.2.1, toN_succ hi0]
    simp only [evL, evH, eLo, eHi, ea, eb, Int.toNat_of_nonneg hi0, and_self]
  refine ⟨fun hlen => ⟨fun q => z0 q, fun _ => ⟨fun q => z1 q, fun _ => ⟨⟨fun _ => ⟨rfl, rfl⟩, fun q => absurd hlen q⟩, fun i i0 i1 a _ _ b _ _ inv => ?_⟩⟩⟩, fun hlen => ⟨fun q => z0 q, fun _ => ⟨fun q => z1 q, fun _ => ⟨⟨fun q => absurd q hlen, fun _ => ⟨by omega, ?_⟩⟩, fun i i0 i1 a _ _ b _ _ inv => ⟨fun hlt => ⟨fun q => z0 q, fun _ => ⟨fun q => z1 q, fun _ => ⟨⟨fun q => absurd q hlen, fun _ => ?_⟩, by omega⟩⟩⟩, fun hge => ?_⟩⟩⟩⟩⟩
  · obtain ⟨e1, e2⟩ := hz hlen
    obtain ⟨f1, f2⟩ := inv.1 hlen
    have g1 : a = eLs ⟨su, so, n0, d0, n1, d1, A, B⟩ dl := f1.trans e1.symm
    have g2 : b = eHs ⟨su, so, n0, d0, n1, d1, A, B⟩ dl := by
      rw [e2, f2]
      have := w1.2.2.2.2.2.2.2.2.2.1
      unfold eHi
      simp only
      omega
    exact ⟨fun q => ev_no h ok dl1 (by rw [← g1, ← g2]; exact q), fun q => ev_ok h ok dl1 g1 g2 q⟩
  · obtain ⟨⟨p1, p2⟩, p3⟩ := okP 0 (by omega) (by omega)
    have u0 := ev_w c0 (x := A.at 0 0) p1 (by omega) hsu.1 hsu.2 dl1.1 dl1.2
    have u1 := ev_w c1 (x := A.at 0 1) (by omega) p3 hsu.1 hsu.2 dl1.1 dl1.2
    rw [u0.1, u0.2.1, u0.2.2.1, u0.2.2.2.2.1, u1.1, u1.2.1, u1.2.2.1, u1.2.2.2.2.2.1, u1.2.2.2.2.2.2.1, u1.2.2.2.2.2.2.2.1, show Int.toNat 1 = 0 + 1 from rfl]
    have b0 := u0.2.2.2.2.2.2.2.2.1
    have b1 := u1.2.2.2.2.2.2.2.2.2.1
    simp only [evL, evH, eLo, eHi, Int.natCast_zero, show ((0 : Nat) : Int) = 0 from rfl]
    omega
  · obtain ⟨hi, ea, eb⟩ := inv.2 hlen
    obtain ⟨s1, s2⟩ := step i a b (by omega) hlt ea eb
    exact ⟨by omega, s1, s2⟩
  · obtain ⟨hi, ea, eb⟩ := inv.2 hlen
    obtain rfl : i = A.len := by omega
    have e1 : a = eLs ⟨su, so, n0, d0, n1, d1, A, B⟩ dl := by unfold eLs; rw [if_neg hlen]; exact ea
    have e2 : b = eHs ⟨su, so, n0, d0, n1, d1, A, B⟩ dl := by unfold eHs; rw [if_neg hlen]; exact eb
    exact ⟨fun q => ev_no h ok dl1 (by rw [← e1, ← e2]; exact q), fun q => ev_ok h ok dl1 e1 e2 q⟩
end Go.Proofs.YtnleeohiomcieaaDoor
