/- DERIVED. Releases and spoiling inflows of the reference: the contracts, proved. -/
import Derived.Test.YtljggpbkggkcaaaDctd
import Derived.Test.YtljggpbkggkcaaaDtreef
import Derived.Test.YtljggpbkggkcaaaDtreeg
namespace Go.Proofs.Ytljggpbkggkcaaa
open Go.Dx
set_option linter.unusedVariables false
set_option linter.unusedSimpArgs false
theorem rel_bad {c : CO} {t s e : Int} (h : askF c t s = e) (k : e ≠ 0) : [DV.n 0, .n e] = RelF c t s := by
  unfold RelF; rw [h, if_pos k]
theorem rel_out {c : CO} {t s : Int} (h : askF c t s = 0) (k : ¬ inR (rob c t) s) : [DV.n 0, .n 390] = RelF c t s := by
  unfold RelF; rw [if_neg (by omega), if_pos k]
theorem rel_in {c : CO} {t s x : Int} (h : askF c t s = 0) (k : inR (rob c t) s) (hx : x = max (c.P.at t 2) (s - (topF c t - c.P.at t 1))) : [DV.n x, .n 0] = RelF c t s := by
  unfold RelF; rw [if_neg (by omega), if_neg (not_not_intro k), hx]
theorem spo_bad {c : CO} {t s o e : Int} (h : askF c t s = e) (k : e ≠ 0) : [DV.n 0, .n e] = SpoF c t s o := by
  unfold SpoF; rw [h, if_pos k]
theorem spo_arg {c : CO} {t s o : Int} (h : askF c t s = 0) (k : ¬ okN o) : [DV.n 0, .n 1] = SpoF c t s o := by
  unfold SpoF; rw [if_neg (by omega), if_pos k]
theorem spo_out {c : CO} {t s o : Int} (h : askF c t s = 0) (k : okN o) (q : inR (rob c t) s ∨ ¬ allowed c t s o) : [DV.n 0, .n 390] = SpoF c t s o := by
  unfold SpoF; rw [if_neg (by omega), if_neg (not_not_intro k), if_pos q]
theorem spo_lo {c : CO} {t s o : Int} (h : askF c t s = 0) (k : okN o) (q : ¬ (inR (rob c t) s ∨ ¬ allowed c t s o)) (z : c.P.at t 4 < s - o + c.P.at t 0 - afterF c s o (c.P.at t 0) ∨ ¬ inR (rob c (t + 1)) (afterF c s o (c.P.at t 0))) : [DV.n (c.P.at t 0), .n 0] = SpoF c t s o := by
  unfold SpoF; rw [if_neg (by omega), if_neg (not_not_intro k), if_neg q, if_pos z]
theorem spo_hi {c : CO} {t s o : Int} (h : askF c t s = 0) (k : okN o) (q : ¬ (inR (rob c t) s ∨ ¬ allowed c t s o)) (z : ¬ (c.P.at t 4 < s - o + c.P.at t 0 - afterF c s o (c.P.at t 0) ∨ ¬ inR (rob c (t + 1)) (afterF c s o (c.P.at t 0)))) : [DV.n (c.P.at t 1), .n 0] = SpoF c t s o := by
  unfold SpoF; rw [if_neg (by omega), if_neg (not_not_intro k), if_neg q, if_neg z]
theorem row_at {c : CO} {L : List (List DV)} {t : Int} (hr : rightC c) (hL : L = rowsF c) (t0 : 0 ≤ t) (t1 : t ≤ c.P.len) : (DV.sl none 0 L).at t 0 = (rob c t).1 ∧ (DV.sl none 0 L).at t 1 = (rob c t).2 := by
  have g := rob_good hr t0
  have h : L[t.toNat]? = some [.n (rob c t.toNat).1, .n (rob c t.toNat).2] := by rw [hL]; exact rowsF_get (by omega)
  rw [show ((t.toNat : Nat) : Int) = t by omega] at h
  have a0 := (at_of h 0).trans (clampB_in g.1.1.1 g.1.1.2)
  have a1 := (at_of h 1).trans (clampB_in g.1.2.1 g.1.2.2)
  rw [show ((t.toNat : Nat) : Int) = t by omega] at a0 a1
  exact ⟨a0, a1⟩
theorem rob_in {c : CO} {s : Int} {L : List (List DV)} (h : [DV.sl none 0 L, .n s] = RobustF c) (k : chkF c = 0) : s = 0 ∧ L = rowsF c := by
  unfold RobustF at h
  rw [if_neg (by omega)] at h
  simp only [List.cons.injEq, DV.sl.injEq, DV.n.injEq, true_and, and_true] at h
  exact ⟨h.2, h.1⟩
theorem next_in {c : CO} {t s o i a b d e : Int} (h : [DV.n a, .n b, .n d, .n e] = NextF c t s o i) (ha : askF c t s = 0) (k : okN o ∧ okN i) (q : allowed c t s o) : (d = 0 ∧ c.P.at t 4 < s - o + i - afterF c s o i) ∨ (d = 1 ∧ a = afterF c s o i ∧ ¬ c.P.at t 4 < s - o + i - afterF c s o i) := by
  unfold NextF at h
  rw [if_neg (by omega), if_neg (not_not_intro k)] at h
  split at h
  · rename_i z
    simp only [List.cons.injEq, DV.n.injEq, and_true] at h
    exact .inl ⟨h.2.2.1, z.resolve_left (not_not_intro q)⟩
  · rename_i z
    simp only [List.cons.injEq, DV.n.injEq, and_true] at h
    exact .inr ⟨h.2.2.1, h.1, fun y => z (.inr y)⟩
set_option maxHeartbeats 4000000 in
theorem cRelR_ok (N : Nat) (w0 : World) : ConOk Try.prog tb N w0 (cRel 18) := by
  refine con_of_walk (tb := tb) fine (C := [cChk 15, cRobust 13]) (conCons cChkR_ok (conCons cRobustR_ok noCon)) 80 rfl ?_ N w0
  refine fun cap _ _ st _ _ fl _ _ P hP t _ _ s _ _ _ => ?_
  clear hP
  rw [tree_relR]
  have l0 := len_nn (.sl none 0 P)
  show T.res [cChk 15, cRobust 13] (fun y => y = RelF ⟨cap, st, fl, .sl none 0 P⟩ t s) _ _
  refine res_con rfl trivial (fun e _ _ he => ?_)
  have he : [DV.n e] = [DV.n (chkF ⟨cap, st, fl, .sl none 0 P⟩)] := he
  obtain ⟨es, hs⟩ := chk_in he
  refine res_ite (fun h => ?_) fun h => ?_
  · have h : ¬ e = 0 := h
    exact rel_bad ((ask_bad (by omega)).1.trans es.symm) h
  have h : ¬ ¬ e = 0 := h
  rcases hs with ⟨hz, hc0, hlen, hr⟩ | q
  case inr => exact absurd q.1 h
  have hlen : (DV.sl none 0 P).len ≤ 64 := hlen
  have hr1 := hr.1
  dsimp only at hr1
  refine res_ite (fun k1 => rel_bad (ask_one hc0 k1) (show (1 : Int) ≠ 0 by decide)) fun k1 => ?_
  have ha : askF ⟨cap, st, fl, .sl none 0 P⟩ t s = 0 := ask_fine hc0 k1
  have k1 : ¬ ((t < 0 ∨ (DV.sl none 0 P).len ≤ t) ∨ ¬ (0 ≤ s ∧ s ≤ cap)) := k1
  refine res_con rfl trivial (fun L hL s2 _ _ hR => ?_)
  clear hL
  obtain ⟨hs2, hL⟩ := rob_in (c := ⟨cap, st, fl, .sl none 0 P⟩) hR hc0
  have lL : (DV.sl none 0 L).len = ((DV.sl none 0 P).len.toNat + 1 : Nat) := len_of (by rw [hL, rowsF_len]) (by omega)
  have g0 := row_at hr hL (t := t) (by omega) (by show t ≤ (DV.sl none 0 P).len; omega)
  have g1 := row_at hr hL (t := t + 1) (by omega) (by show t + 1 ≤ (DV.sl none 0 P).len; omega)
  have gr := (rob_good hr (t := t + 1) (by omega)).1
  have hp : perOk (.sl none 0 P) t := per_at hr (by omega) (by show t < (DV.sl none 0 P).len; omega)
  unfold perOk okN at hp
  refine res_ok (show 0 ≤ t ∧ t < (DV.sl none 0 L).len by omega) ?_
  refine res_ite (fun q => rel_out ha ?_) fun q => ?_
  · have q : ¬ ((DV.sl none 0 L).at t 0 ≤ s ∧ s ≤ (DV.sl none 0 L).at t 1) := q
    rw [g0.1, g0.2] at q; exact q
  have q : ¬ ¬ ((DV.sl none 0 L).at t 0 ≤ s ∧ s ≤ (DV.sl none 0 L).at t 1) := q
  rw [g0.1, g0.2] at q
  have q := Classical.not_not.1 q
  refine res_ok (show 0 ≤ t + 1 ∧ t + 1 < (DV.sl none 0 L).len by omega) ?_
  refine res_ite (fun z => ?_) fun z => ?_
  · have z : (DV.sl none 0 L).at (t + 1) 1 = cap := z
    rw [g1.2] at z
    refine rel_in ha q (x := max ((DV.sl none 0 P).at t 2) (IntKind.i64.wrap (s - IntKind.i64.wrap (IntKind.i64.wrap (cap + (DV.sl none 0 P).at t 4) - (DV.sl none 0 P).at t 1)))) ?_
    rw [wI (x := cap + (DV.sl none 0 P).at t 4) (by omega) (by omega), wI (x := cap + (DV.sl none 0 P).at t 4 - (DV.sl none 0 P).at t 1) (by omega) (by omega), wI (by omega) (by omega)]
    unfold topF; dsimp only; rw [if_pos z, z]
  · have z : ¬ (DV.sl none 0 L).at (t + 1) 1 = cap := z
    rw [g1.2] at z
    refine rel_in ha q (x := max ((DV.sl none 0 P).at t 2) (IntKind.i64.wrap (s - IntKind.i64.wrap ((DV.sl none 0 L).at (t + 1) 1 - (DV.sl none 0 P).at t 1)))) ?_
    rw [g1.2, wI (x := (rob ⟨cap, st, fl, .sl none 0 P⟩ (t + 1)).2 - (DV.sl none 0 P).at t 1) (by omega) (by omega), wI (by omega) (by omega)]
    unfold topF; dsimp only; rw [if_neg z]
set_option maxHeartbeats 4000000 in
theorem cSpoR_ok (N : Nat) (w0 : World) : ConOk Try.prog tb N w0 (cSpo 22) := by
  refine con_of_walk (tb := tb) fine (C := [cChk 15, cRobust 13, cNext 20]) (conCons cChkR_ok (conCons cRobustR_ok (conCons cNextR_ok noCon))) 80 rfl ?_ N w0
  refine fun cap _ _ st _ _ fl _ _ P hP t _ _ s _ _ o _ _ _ => ?_
  clear hP
  rw [tree_spoR]
  have l0 := len_nn (.sl none 0 P)
  show T.res [cChk 15, cRobust 13, cNext 20] (fun y => y = SpoF ⟨cap, st, fl, .sl none 0 P⟩ t s o) _ _
  refine res_con rfl trivial (fun e _ _ he => ?_)
  have he : [DV.n e] = [DV.n (chkF ⟨cap, st, fl, .sl none 0 P⟩)] := he
  obtain ⟨es, hs⟩ := chk_in he
  refine res_ite (fun h => ?_) fun h => ?_
  · have h : ¬ e = 0 := h
    exact spo_bad ((ask_bad (by omega)).1.trans es.symm) h
  have h : ¬ ¬ e = 0 := h
  rcases hs with ⟨hz, hc0, hlen, hr⟩ | q
  case inr => exact absurd q.1 h
  have hlen : (DV.sl none 0 P).len ≤ 64 := hlen
  have hr1 := hr.1
  dsimp only at hr1
  refine res_ite (fun k1 => spo_bad (ask_one hc0 k1) (show (1 : Int) ≠ 0 by decide)) fun k1 => ?_
  have ha : askF ⟨cap, st, fl, .sl none 0 P⟩ t s = 0 := ask_fine hc0 k1
  have k1 : ¬ ((t < 0 ∨ (DV.sl none 0 P).len ≤ t) ∨ ¬ (0 ≤ s ∧ s ≤ cap)) := k1
  refine res_ite (fun k2 => spo_arg ha k2) fun k2 => ?_
  have ho : okN o := Classical.not_not.1 k2
  refine res_con rfl trivial (fun L hL s2 _ _ hR => ?_)
  clear hL
  obtain ⟨hs2, hL⟩ := rob_in (c := ⟨cap, st, fl, .sl none 0 P⟩) hR hc0
  have lL : (DV.sl none 0 L).len = ((DV.sl none 0 P).len.toNat + 1 : Nat) := len_of (by rw [hL, rowsF_len]) (by omega)
  have g0 := row_at hr hL (t := t) (by omega) (by show t ≤ (DV.sl none 0 P).len; omega)
  have g1 := row_at hr hL (t := t + 1) (by omega) (by show t + 1 ≤ (DV.sl none 0 P).len; omega)
  have hp : perOk (.sl none 0 P) t := per_at hr (by omega) (by show t < (DV.sl none 0 P).len; omega)
  refine res_ok (show 0 ≤ t ∧ t < (DV.sl none 0 L).len by omega) ?_
  refine res_ite (fun q => spo_out ha ho ?_) fun q => ?_
  · have q : ((DV.sl none 0 L).at t 0 ≤ s ∧ s ≤ (DV.sl none 0 L).at t 1) ∨ ¬ (((DV.sl none 0 P).at t 2 ≤ o ∧ o ≤ (DV.sl none 0 P).at t 3) ∧ o ≤ s) := q
    rw [g0.1, g0.2] at q; exact q
  have q : ¬ (((DV.sl none 0 L).at t 0 ≤ s ∧ s ≤ (DV.sl none 0 L).at t 1) ∨ ¬ (((DV.sl none 0 P).at t 2 ≤ o ∧ o ≤ (DV.sl none 0 P).at t 3) ∧ o ≤ s)) := q
  rw [g0.1, g0.2] at q
  have hal : allowed ⟨cap, st, fl, .sl none 0 P⟩ t s o := Classical.not_not.1 fun z => q (.inr z)
  refine res_con rfl trivial (fun a _ _ b _ _ d _ _ e2 _ _ hN => ?_)
  have hN := next_in (c := ⟨cap, st, fl, .sl none 0 P⟩) hN ha ⟨ho, by unfold perOk okN at hp; show okN ((DV.sl none 0 P).at t 0); unfold okN; omega⟩ hal
  refine res_ite (fun z => ?_) fun z => ?_
  · have z : ¬ d = 0 := z
    rcases hN with hN | ⟨hd, hA, hsp⟩
    · exact absurd hN.1 z
    have hA : a = afterF ⟨cap, st, fl, .sl none 0 P⟩ s o ((DV.sl none 0 P).at t 0) := hA
    refine res_ok (show 0 ≤ t + 1 ∧ t + 1 < (DV.sl none 0 L).len by omega) ?_
    refine res_ite (fun y => spo_lo ha ho q (.inr ?_)) fun y => spo_hi ha ho q fun x => x.elim hsp ?_
    · have y : ¬ ((DV.sl none 0 L).at (t + 1) 0 ≤ a ∧ a ≤ (DV.sl none 0 L).at (t + 1) 1) := y
      rw [g1.1, g1.2, hA] at y; exact y
    · have y : ¬ ¬ ((DV.sl none 0 L).at (t + 1) 0 ≤ a ∧ a ≤ (DV.sl none 0 L).at (t + 1) 1) := y
      rw [g1.1, g1.2, hA] at y; exact y
  · have z : ¬ ¬ d = 0 := z
    rcases hN with hN | ⟨hd, hA, hsp⟩
    · exact spo_lo ha ho q (.inl hN.2)
    · exact absurd hd (by omega)
end Go.Proofs.Ytljggpbkggkcaaa
