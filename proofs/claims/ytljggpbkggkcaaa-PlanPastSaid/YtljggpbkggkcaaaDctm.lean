/- DERIVED. Releases one after the other: the contract, proved. -/
import Derived.Test.YtljggpbkggkcaaaDlawd
import Derived.Test.YtljggpbkggkcaaaDconk
import Derived.Test.YtljggpbkggkcaaaDtreex
namespace Go.Proofs.Ytljggpbkggkcaaa
open Go.Dx
set_option linter.unusedVariables false
set_option linter.unusedSimpArgs false
theorem outsF_len (c : CO) (I : DV) (n : Nat) : (outsF c I n).length = n := by unfold outsF; simp
theorem stoF_len (c : CO) (I : DV) (n : Nat) : (stoF c I n).length = n := by unfold stoF; simp
theorem outsF_succ (c : CO) (I : DV) (n : Nat) : outsF c I (n + 1) = outsF c I n ++ [[.n (oAt c I n)]] := by
  unfold outsF; rw [List.range_succ, List.map_append]; rfl
theorem stoF_succ (c : CO) (I : DV) (n : Nat) : stoF c I (n + 1) = stoF c I n ++ [[.n (sAt c I n)]] := by
  unfold stoF; rw [List.range_succ, List.map_append]; rfl
theorem outsF_get {c : CO} {I : DV} {n k : Nat} (h : k < n) : (outsF c I n)[k]? = some [.n (oAt c I k)] := by
  unfold outsF; rw [List.getElem?_map, List.getElem?_range h]; rfl
theorem stoF_get {c : CO} {I : DV} {n k : Nat} (h : k < n) : (stoF c I n)[k]? = some [.n (sAt c I k)] := by
  unfold stoF; rw [List.getElem?_map, List.getElem?_range h]; rfl
/-- An inflow of the range. -/
theorem chA_rng {I : List (List DV)} (hI : HasSh u32L (.sl none 0 I)) {t : Int} (t0 : 0 ≤ t) : 0 ≤ chA (.sl none 0 I) t ∧ chA (.sl none 0 I) t ≤ 4294967295 := by
  unfold chA
  by_cases h : t < (DV.sl none 0 I).len
  · rw [if_pos h]
    have hl : (DV.sl none 0 I).len = I.length := clampL_eq hI.1
    have hk : t.toNat < I.length := by omega
    have he := hI.2 I[t.toNat] (List.getElem_mem hk)
    show 0 ≤ clampB (((I.getD t.toNat []).getD 0 (.n 0)).int) ∧ clampB (((I.getD t.toNat []).getD 0 (.n 0)).int) ≤ 4294967295
    rw [show I.getD t.toNat [] = I[t.toNat] by simp [List.getD, List.getElem?_eq_getElem hk]]
    generalize I[t.toNat] = e at he
    match e, he with
    | [x], he =>
      simp only [HasShs, HasSh] at he
      obtain ⟨⟨a, rfl, ha, _⟩, _⟩ := he
      show 0 ≤ clampB a ∧ clampB a ≤ 4294967295
      rw [clampB_i64 (by omega) (by omega)]; exact ha
  · rw [if_neg h]; omega
theorem qOf_rng {c : CO} {I : DV} {t : Int} (h : perOk c.P t) (hI : 0 ≤ chA I t) : c.P.at t 0 ≤ qOf c I t ∧ qOf c I t ≤ c.P.at t 1 := by
  unfold perOk okN at h
  unfold qOf
  have t0 := Int.tmod_nonneg (c.P.at t 1 - c.P.at t 0 + 1) hI
  have t1 := Int.tmod_lt_of_pos (chA I t) (show 0 < c.P.at t 1 - c.P.at t 0 + 1 by omega)
  omega
set_option maxHeartbeats 4000000 in
set_option maxRecDepth 100000 in
theorem cRls_ok (N : Nat) (w0 : World) : ConOk Try.prog tb N w0 (cRls 28) := by
  refine con_of_walk (tb := tb) fine (C := [cRel 17, cNext 19, cAt 27, cPick 26, lRls]) (conCons cRel_ok (conCons cNext_ok (conCons cAt_ok (conCons cPick_ok (lopCons rfl noCon))))) 80 rfl ?_ N w0
  refine fun cap _ _ st _ _ fl _ _ P hP L hL I hI hpre => ?_
  obtain ⟨hc0, hLr⟩ : chkF ⟨cap, st, fl, .sl none 0 P⟩ = 0 ∧ L = rowsF ⟨cap, st, fl, .sl none 0 P⟩ := hpre
  clear hP hL
  rw [tree_rls]
  obtain ⟨hlen, hr⟩ := chk_zero hc0
  have hcr : ∀ {t : Int}, 0 ≤ t → 0 ≤ chA (.sl none 0 I) t ∧ chA (.sl none 0 I) t ≤ 4294967295 := fun t0 => chA_rng hI t0
  clear hI
  show T.res [cRel 17, cNext 19, cAt 27, cPick 26, lRls] (fun y => (inR (rob (CO.mk cap st fl (.sl none 0 P)) 0) st → y = [.sl none 0 (outsF (CO.mk cap st fl (.sl none 0 P)) (.sl none 0 I) (DV.sl none 0 P).len.toNat), .sl none 0 (stoF (CO.mk cap st fl (.sl none 0 P)) (.sl none 0 I) (DV.sl none 0 P).len.toNat)]) ∧ (¬ inR (rob (CO.mk cap st fl (.sl none 0 P)) 0) st → gd y 0 = .sl none 0 [])) _ _
  generalize hc : CO.mk cap st fl (.sl none 0 P) = c at *
  have hcap : c.cap = cap := by rw [← hc]
  have hst : c.st = st := by rw [← hc]
  have hP : c.P = .sl none 0 P := by rw [← hc]
  rw [hP] at hlen
  have l0 := len_nn (.sl none 0 P)
  have lL : (DV.sl none 0 L).len = (DV.sl none 0 P).len + 1 := by
    have := len_of (L := L) (n := (DV.sl none 0 P).len.toNat + 1) (by rw [hLr, rowsF_len, hP]) (by omega)
    omega
  have row : ∀ t, 0 ≤ t → t ≤ (DV.sl none 0 P).len → (DV.sl none 0 L).at t 0 = (rob c t).1 ∧ (DV.sl none 0 L).at t 1 = (rob c t).2 := fun t t0 t1 => row_at hr hLr t0 (by rw [hP]; exact t1)
  have hrc := hr.1
  rw [hcap, hst] at hrc
  refine res_dat (.sl none 0 []) rfl (res_dat (.sl none 0 []) rfl ?_)
  refine res_ok (show 0 ≤ st ∧ st ≤ 1099511627776 by omega) ?_
  have hpreq : ∀ (A B : List (List DV)) (s i : Int), ((i ≤ (DV.sl none 0 P).len ∧ s ≤ cap) ∧ (i = 0 ∨ inR (rob (CO.mk cap st fl (.sl none 0 P)) 0) st) ∧ s = sAt (CO.mk cap st fl (.sl none 0 P)) (.sl none 0 I) i.toNat ∧ A = outsF (CO.mk cap st fl (.sl none 0 P)) (.sl none 0 I) i.toNat ∧ B = stoF (CO.mk cap st fl (.sl none 0 P)) (.sl none 0 I) i.toNat ∧ (inR (rob (CO.mk cap st fl (.sl none 0 P)) 0) st → inR (rob (CO.mk cap st fl (.sl none 0 P)) i) s)) ↔ ((i ≤ (DV.sl none 0 P).len ∧ s ≤ cap) ∧ (i = 0 ∨ inR (rob c 0) st) ∧ s = sAt c (.sl none 0 I) i.toNat ∧ A = outsF c (.sl none 0 I) i.toNat ∧ B = stoF c (.sl none 0 I) i.toNat ∧ (inR (rob c 0) st → inR (rob c i) s)) := fun A B s i => by rw [hc]
  refine res_lop rfl ((hpreq [] [] st 0).2 ⟨⟨l0, by omega⟩, .inl rfl, by rw [← hst]; rfl, rfl, rfl, fun h => h⟩) (fun A hA B hB s s0 s1 i i0 i1 hK => ?_)
  obtain ⟨⟨hi, hsc⟩, hi0, hs, hA', hB', hin⟩ := (hpreq A B s i).1 hK
  clear hA hB hK
  have lA : (DV.sl none 0 A).len = (i.toNat : Nat) := len_of (by rw [hA', outsF_len]) (by omega)
  have lB : (DV.sl none 0 B).len = (i.toNat : Nat) := len_of (by rw [hB', stoF_len]) (by omega)
  refine res_ite (fun hlt => ?_) fun hge => ?_
  · have hlt : i < (DV.sl none 0 P).len := hlt
    refine res_ok (show (DV.sl none 0 B).len + 1 ≤ 15637498706147 by omega) ?_
    refine res_dat (.sl none 0 [[.n s]]) rfl (res_dat (.sl none 0 (B ++ [[.n s]])) rfl ?_)
    refine res_ok (show 0 ≤ i ∧ i < (DV.sl none 0 L).len by omega) ?_
    have ri := row i i0 hi
    have hz : askF c i s = 0 := ask_fine hc0 (by rw [hP, hcap]; omega)
    refine res_ite (fun y => ?_) fun y => ?_
    · have y : ¬ ((DV.sl none 0 L).at i 0 ≤ s ∧ s ≤ (DV.sl none 0 L).at i 1) := y
      rw [ri.1, ri.2] at y
      have hno : ¬ inR (rob c 0) st := fun h => y (hin h)
      have e0 : i = 0 := hi0.resolve_right hno
      refine ⟨fun h => absurd h hno, fun _ => ?_⟩
      show DV.sl none 0 A = .sl none 0 []
      rw [hA', e0]; rfl
    have y : ¬ ¬ ((DV.sl none 0 L).at i 0 ≤ s ∧ s ≤ (DV.sl none 0 L).at i 1) := y
    rw [ri.1, ri.2] at y
    have y : inR (rob c i) s := Classical.not_not.1 y
    have hin0 : inR (rob c 0) st := by
      rcases hi0 with e | e
      · subst e
        have e2 : s = st := by rw [hs, ← hst]; rfl
        rw [e2] at y; exact y
      · exact e
    refine res_con rfl trivial (fun o _ _ o2 _ _ ho => ?_)
    have ho : [DV.n o, .n o2] = RelF (CO.mk cap st fl (.sl none 0 P)) i s := ho
    rw [hc] at ho
    obtain ⟨ho1, ho2⟩ := rel_out_in ho hz y
    clear ho
    have hpo := per_at hr i0 (show i < c.P.len by rw [hP]; exact hlt)
    have hk := keep_all hr i0 (show i < c.P.len by rw [hP]; exact hlt) y ho1
    have hal := hk.1
    refine res_con rfl (show 0 ≤ i from i0) (fun a a0 a1 ha => ?_)
    have ha : a = chA (.sl none 0 I) i := n_inj ha
    have hqr := qOf_rng (I := .sl none 0 I) hpo (hcr i0).1
    have hpo2 := hpo
    unfold perOk okN at hpo2
    rw [hP] at hpo2
    unfold allowed at hal
    rw [hP] at hal
    refine res_con rfl (show (0 ≤ (DV.sl none 0 P).at i 0 ∧ (DV.sl none 0 P).at i 0 ≤ (DV.sl none 0 P).at i 1 ∧ (DV.sl none 0 P).at i 1 ≤ 1099511627776) ∧ 0 ≤ a ∧ a ≤ 4294967295 from ⟨by omega, by omega⟩) (fun q q0 q1 hq => ?_)
    have hq : q = (DV.sl none 0 P).at i 0 + Int.tmod a ((DV.sl none 0 P).at i 1 - (DV.sl none 0 P).at i 0 + 1) := n_inj hq
    have hq : q = qOf c (.sl none 0 I) i := by unfold qOf; rw [hq, ha, hP]
    have hkq := hk.2 q (by omega) (by omega)
    refine res_con rfl trivial (fun n1 _ _ n2 _ _ n3 _ _ n4 _ _ hn => ?_)
    have hn : [DV.n n1, .n n2, .n n3, .n n4] = NextF (CO.mk cap st fl (.sl none 0 P)) i s o q := hn
    rw [hc] at hn
    obtain ⟨hn9, hn8⟩ := next_ok_in hn hz ⟨by unfold okN; omega, by unfold okN; omega⟩ hk.1
    obtain ⟨hn3, hn1, hn2, _⟩ := hn8.resolve_left fun y => hkq.1 y.2
    clear hn hn8
    refine res_ok (show (DV.sl none 0 A).len + 1 ≤ 15637498706147 by omega) ?_
    refine res_dat (.sl none 0 [[.n o]]) rfl (res_dat (.sl none 0 (A ++ [[.n o]])) rfl ?_)
    refine res_ite (fun y => ?_) fun _ => ?_
    · have y : (¬ o2 = 0 ∨ ¬ n4 = 0) ∨ n3 = 0 := y
      omega
    have haf : 0 ≤ n1 ∧ n1 ≤ cap := by
      rw [hn1]; unfold afterF; rw [hcap]; omega
    refine res_ok (show 0 ≤ n1 ∧ n1 ≤ 1099511627776 by omega) ?_
    have eo : o = oAt c (.sl none 0 I) i.toNat := by
      unfold oAt oOf
      rw [← hs, show ((i.toNat : Nat) : Int) = i by omega]
      exact ho1
    have hfin := (hpreq (A ++ [[DV.n o]]) (B ++ [[DV.n s]]) n1 (i + 1)).2 ⟨⟨by omega, by omega⟩, .inr hin0, by
      rw [show (i + 1).toNat = i.toNat + 1 by omega]
      show n1 = afterF c (sAt c (.sl none 0 I) i.toNat) (oAt c (.sl none 0 I) i.toNat) (qOf c (.sl none 0 I) ((i.toNat : Nat) : Int))
      rw [← hs, ← eo, show ((i.toNat : Nat) : Int) = i by omega, ← hq]; exact hn1, by rw [show (i + 1).toNat = i.toNat + 1 by omega, outsF_succ, ← hA', ← eo], by rw [show (i + 1).toNat = i.toNat + 1 by omega, stoF_succ, ← hB', ← hs], fun _ => by rw [hn1]; exact hkq.2⟩
    refine res_chk rfl hfin ?_
    · show ((DV.sl none 0 P).len - (i + 1)).toNat < ((DV.sl none 0 P).len - i).toNat
      omega
  · have hge : ¬ i < (DV.sl none 0 P).len := hge
    have ei : i.toNat = (DV.sl none 0 P).len.toNat := by omega
    rw [ei] at hA' hB'
    refine ⟨fun _ => ?_, fun h => ?_⟩
    · show [DV.sl none 0 A, .sl none 0 B] = _
      rw [hA', hB']
    · have e0 : i = 0 := hi0.resolve_right h
      show DV.sl none 0 A = .sl none 0 []
      rw [hA', ← ei, e0]; rfl
end Go.Proofs.Ytljggpbkggkcaaa
