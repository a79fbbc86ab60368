/- DERIVED. The law of releases that know only the past, walked. -/
import Derived.Test.YtljggpbkggkcaaaDctm
import Derived.Test.YtljggpbkggkcaaaDtreey
import Derived.SizedLaws
namespace Go.Proofs.Ytljggpbkggkcaaa
open Go.Dx Go.RowKit
set_option linter.unusedVariables false
set_option linter.unusedSimpArgs false
section
variable {H : Type} {enc : TypeId × Value → H} {P : Program} {tb : Tb} {w : World} {base : Nat} {spare : Nat → Bool} {held : Bool}
/-- A slice that is read is no longer than its bytes allow. -/
theorem slice_sized {t e : TypeId} {mx m : Nat} {row : List Sh} {v : Value} {d : DataW H} {p : List MemPlace} {l : List (List DV)} (hu : P.underlying t = some (.slice e)) (h : DataW.Trod enc P w base spare held t v d p)
    (hc : cellA w (.sl mx row) (.sl none 0 l) v) (hs : ∀ el sp, d = .slice el sp → (el.length + sp.length) * P.bytesOf e ≤ reachBytes) (hb : ∀ n, n * P.bytesOf e ≤ reachBytes → n ≤ m) : cellA w (.sl m row) (.sl none 0 l) v := by
  obtain ⟨h1, h2, h3, h4, h5⟩ := hc
  have key : l.length ≤ m := by
    obtain ⟨a, cap, rfl, _, _⟩ := h4
    obtain ⟨fuel, hf⟩ := h
    rcases DataW.trod_slice hu hf with ⟨hcs, _⟩ | ⟨a', len, cap', elems, rest, n, _, hcs, hx, _, _, _, hel, _⟩
    · simp only [Value.cells, List.cons.injEq, Value.slice.injEq, and_true] at hcs
      have : l.length = 0 := hcs.2.1
      omega
    · simp only [Value.cells, List.cons.injEq, Value.slice.injEq, and_true] at hcs
      have e1 : l.length = len := hcs.2.1
      have hx1 := congrArg Prod.fst hx
      have := hs _ _ hx1
      simp only [List.length_map] at this
      refine hb _ (Nat.le_trans (Nat.mul_le_mul_right _ ?_) this)
      omega
  exact ⟨⟨key, h1.2⟩, h2, h3, h4, h5⟩
end
theorem u8_rng' {a : Int} (h : (Go.Lit.int .u8 a).wf = true) : 0 ≤ a ∧ a ≤ 255 := by
  simp [Go.Lit.wf, IntKind.min, IntKind.max, IntKind.signed, IntKind.bits] at h
  exact ⟨by omega, by omega⟩
theorem less_spoils {c : CO} {t s o : Int} (hr : rightC c) (t0 : 0 ≤ t) (t1 : t < c.P.len) (ho : o = max (c.P.at t 2) (s - (topF c t - c.P.at t 1))) (hd : c.P.at t 2 < o) :
    c.P.at t 4 < s - (o - 1) + c.P.at t 1 - afterF c s (o - 1) (c.P.at t 1) ∨ ¬ inR (rob c (t + 1)) (afterF c s (o - 1) (c.P.at t 1)) := by
  have hc := rob_capped hr (t + 1)
  unfold topF at ho
  unfold inR afterF
  by_cases e : (rob c (t + 1)).2 = c.cap
  · rw [if_pos e] at ho; omega
  · rw [if_neg e] at ho; omega
theorem sAt_in {c : CO} {I : DV} (hr : rightC c) (hI : ∀ t, 0 ≤ t → 0 ≤ chA I t) (h : inR (rob c 0) c.st) : ∀ t : Nat, (t : Int) ≤ c.P.len → inR (rob c t) (sAt c I t) ∧ 0 ≤ sAt c I t ∧ sAt c I t ≤ c.cap
  | 0, _ => ⟨h, by have := hr.1; show 0 ≤ c.st ∧ c.st ≤ c.cap; omega⟩
  | t + 1, ht => by
    obtain ⟨h1, h2, h3⟩ := sAt_in hr hI h t (by omega)
    have k := keep_all hr (t := t) (by omega) (by omega) h1 rfl
    have hp := per_at hr (k := (t : Int)) (by omega) (by omega)
    have hq := qOf_rng (I := I) hp (hI t (by omega))
    have k2 := k.2 (qOf c I t) hq.1 hq.2
    have ka := k.1
    unfold allowed at ka
    unfold perOk okN at hp
    refine ⟨?_, ?_⟩
    · show inR (rob c ((t : Int) + 1)) (afterF c (sAt c I t) (oOf c (sAt c I t) t) (qOf c I t))
      exact k2.2
    · show 0 ≤ afterF c (sAt c I t) (oOf c (sAt c I t) t) (qOf c I t) ∧ afterF c (sAt c I t) (oOf c (sAt c I t) t) (qOf c I t) ≤ c.cap
      have hcap := hr.1.1.1
      unfold afterF oOf
      omega
theorem sAt_same {c : CO} {I M : DV} {k : Nat} (h : ∀ t : Nat, t < k → chA I t = chA M t) : ∀ i : Nat, i ≤ k → sAt c I i = sAt c M i
  | 0, _ => rfl
  | i + 1, hi => by
    have ih := sAt_same (c := c) h i (by omega)
    show afterF c (sAt c I i) (oOf c (sAt c I i) i) (qOf c I i) = afterF c (sAt c M i) (oOf c (sAt c M i) i) (qOf c M i)
    unfold qOf
    rw [ih, h i (by omega)]
theorem chA_mixed {I O : List (List DV)} {k : Nat} (hI : I.length ≤ 9223372036854775807) (hO : O.length ≤ 35184372087808) (hk : k ≤ 255) (hkI : k ≤ I.length) (t : Nat) (ht : t < k) : chA (.sl none 0 I) t = chA (.sl none 0 ((I.take k).drop 0 ++ O)) t := by
  have l1 : (DV.sl none 0 I).len = I.length := clampL_eq hI
  have l2 : (DV.sl none 0 ((I.take k).drop 0 ++ O)).len = ((I.take k).drop 0 ++ O).length := clampL_eq (show ((I.take k).drop 0 ++ O).length ≤ 9223372036854775807 by simp only [List.length_append, List.length_drop, List.length_take]; omega)
  have l3 : ((I.take k).drop 0 ++ O).length = k + O.length := by simp only [List.length_append, List.length_drop, List.length_take]; omega
  unfold chA
  rw [if_pos (by omega), if_pos (by omega)]
  show clampB (((I.getD (t : Int).toNat []).getD 0 (.n 0)).int) = clampB (((((I.take k).drop 0 ++ O).getD (t : Int).toNat []).getD 0 (.n 0)).int)
  have e : I.getD (t : Int).toNat [] = ((I.take k).drop 0 ++ O).getD (t : Int).toNat [] := by
    rw [Int.toNat_natCast, List.drop_zero]
    simp only [List.getD_eq_getElem?_getD]
    rw [List.getElem?_append_left (by simp only [List.length_take]; omega), List.getElem?_take_of_lt ht]
  rw [e]
set_option maxHeartbeats 4000000 in
set_option maxRecDepth 100000 in
theorem PlanPast_any (v0 v1 v2 : Value) (m : Int) (w : World) (hG : Glb tb w) (g0 : CourseA w v0) (g1 : ∃ d, cellA w u32L (.sl none 0 d) v1) (g2 : ∃ d, cellA w u32M (.sl none 0 d) v2) (hm : 0 ≤ m ∧ m ≤ 255) :
    Calls Try.prog 8 #[v0, v1, v2, .int .u8 m] w fun e w' => e = .returned (.bool true) ∧ Below w.heap.size w w' := by
  obtain ⟨cap, st, fl, P, c0, rfl, h0⟩ := g0
  obtain ⟨I, h1⟩ := g1
  obtain ⟨O, h2⟩ := g2
  have sI := h1.1
  have sO := h2.1
  have lI : I.length ≤ 9223372036854775807 := sI.1
  have lO : O.length ≤ 35184372087808 := sO.1
  refine law_of_walk (tb := tb) (P := Try.prog) fine (C := [lawCon 11 [], cRobust 12, cRls 28, cNext 19, pA, pB]) (conCons cSane_ok (conCons cRobust_ok (conCons cRls_ok (conCons cNext_ok (lopCons rfl (lopCons rfl noCon)))))) 80 8 [.agg course, .c u32L, .c u32M, .c (.int .u8 0 255)] rfl (w := w) hG
    (xs := [.n cap, .n st, .n fl, .sl none 0 P, .sl none 0 I, .sl none 0 O, .n m]) ?_ ?_
  · exact ⟨_, [.sl none 0 I, .sl none 0 O, .n m], c0, rfl, rfl, h0, h1, h2, cell_byte hm, by simp [ArgsV]⟩
  clear h0 h1 h2
  rw [tree_lpast]
  refine res_con rfl trivial (fun z z0 z1 hz => ?_)
  obtain rfl := n_inj (show [DV.n z] = [DV.n 1] from hz)
  refine res_ite (fun h => absurd (show (1 : Int) = 0 from h) (by decide)) fun _ => ?_
  refine res_con rfl trivial (fun L hL e _ _ hR => ?_)
  clear hL
  have hR : [DV.sl none 0 L, .n e] = RobustF ⟨cap, st, fl, .sl none 0 P⟩ := hR
  have hR := robust_in hR
  have l0 := len_nn (.sl none 0 P)
  have l0I := len_nn (.sl none 0 I)
  have lIl : (DV.sl none 0 I).len = I.length := clampL_eq lI
  by_cases he : e = 0
  case neg =>
    refine res_ite (fun _ => res_ite (fun _ => rfl) fun y => absurd he y) fun y => absurd (show (¬ e = 0 ∨ ¬ (DV.sl none 0 L).len = IntKind.i64.wrap ((DV.sl none 0 P).len + 1)) from .inl he) y
  obtain ⟨_, hc0, hLr⟩ := hR.resolve_left fun y => y.1 he
  obtain ⟨hlen, hr⟩ := chk_zero hc0
  have hpre : ∀ (Q : DV), chkF (CO.mk cap st fl (.sl none 0 P)) = 0 ∧ L = rowsF (CO.mk cap st fl (.sl none 0 P)) := fun _ => ⟨hc0, hLr⟩
  have hlen : (DV.sl none 0 P).len ≤ 64 := hlen
  have lL : (DV.sl none 0 L).len = (DV.sl none 0 P).len + 1 := by
    have := len_of (L := L) (n := (DV.sl none 0 P).len.toNat + 1) (by rw [hLr, rowsF_len]) (by omega)
    omega
  have lw : IntKind.i64.wrap ((DV.sl none 0 P).len + 1) = (DV.sl none 0 P).len + 1 := wI (by omega) (by omega)
  refine res_ite (fun y => ?_) fun _ => ?_
  · have y : ¬ e = 0 ∨ ¬ (DV.sl none 0 L).len = IntKind.i64.wrap ((DV.sl none 0 P).len + 1) := y
    rw [lw] at y; omega
  generalize hk : min (min m (DV.sl none 0 I).len) (DV.sl none 0 P).len = k
  refine res_ok (show min (min m (DV.sl none 0 I).len) (DV.sl none 0 P).len ≤ (DV.sl none 0 I).len by omega) ?_
  refine res_dat (.sl none 0 ((I.take k.toNat).drop 0)) (by rw [← hk]; rfl) ?_
  refine res_dat (.sl none 0 ((I.take k.toNat).drop 0 ++ O)) rfl ?_
  have hcI : ∀ t, 0 ≤ t → 0 ≤ chA (.sl none 0 I) t := fun t t0 => (chA_rng sI t0).1
  have hsame := fun (c : CO) => sAt_same (c := c) (I := .sl none 0 I) (M := .sl none 0 ((I.take k.toNat).drop 0 ++ O)) (k := k.toNat) fun t ht => chA_mixed lI lO (by omega) (by omega) t ht
  generalize (I.take k.toNat).drop 0 ++ O = M at hsame
  refine res_con rfl (show chkF (CO.mk cap st fl (.sl none 0 P)) = 0 ∧ L = rowsF (CO.mk cap st fl (.sl none 0 P)) from ⟨hc0, hLr⟩) (fun A hA S hS hAS => ?_)
  refine res_con rfl (show chkF (CO.mk cap st fl (.sl none 0 P)) = 0 ∧ L = rowsF (CO.mk cap st fl (.sl none 0 P)) from ⟨hc0, hLr⟩) (fun B hB S2 hS2 hBS => ?_)
  clear hA hS hB hS2
  have hAS : (inR (rob (CO.mk cap st fl (.sl none 0 P)) 0) st → [DV.sl none 0 A, .sl none 0 S] = [.sl none 0 (outsF (CO.mk cap st fl (.sl none 0 P)) (.sl none 0 I) (DV.sl none 0 P).len.toNat), .sl none 0 (stoF (CO.mk cap st fl (.sl none 0 P)) (.sl none 0 I) (DV.sl none 0 P).len.toNat)]) ∧ (¬ inR (rob (CO.mk cap st fl (.sl none 0 P)) 0) st → DV.sl none 0 A = .sl none 0 []) := hAS
  have hBS : (inR (rob (CO.mk cap st fl (.sl none 0 P)) 0) st → [DV.sl none 0 B, .sl none 0 S2] = [.sl none 0 (outsF (CO.mk cap st fl (.sl none 0 P)) (.sl none 0 M) (DV.sl none 0 P).len.toNat), .sl none 0 (stoF (CO.mk cap st fl (.sl none 0 P)) (.sl none 0 M) (DV.sl none 0 P).len.toNat)]) ∧ (¬ inR (rob (CO.mk cap st fl (.sl none 0 P)) 0) st → DV.sl none 0 B = .sl none 0 []) := hBS
  have hsame := hsame (CO.mk cap st fl (.sl none 0 P))
  generalize hc : CO.mk cap st fl (.sl none 0 P) = c at *
  have hcap : c.cap = cap := by rw [← hc]
  have hst : c.st = st := by rw [← hc]
  have hP : c.P = .sl none 0 P := by rw [← hc]
  have row : ∀ t, 0 ≤ t → t ≤ (DV.sl none 0 P).len → (DV.sl none 0 L).at t 0 = (rob c t).1 ∧ (DV.sl none 0 L).at t 1 = (rob c t).2 := fun t t0 t1 => row_at hr hLr t0 (by rw [hP]; exact t1)
  -- what the lists hold
  have lA : 0 < (DV.sl none 0 A).len → inR (rob c 0) st := fun h => Classical.byContradiction fun q => by
    rw [hAS.2 q] at h; exact absurd (show (0 : Int) < 0 from h) (by decide)
  have eA : inR (rob c 0) st → (A = outsF c (.sl none 0 I) (DV.sl none 0 P).len.toNat ∧ S = stoF c (.sl none 0 I) (DV.sl none 0 P).len.toNat) ∧ B = outsF c (.sl none 0 M) (DV.sl none 0 P).len.toNat := fun h => by
    have h1 := hAS.1 h
    have h2 := hBS.1 h
    simp only [List.cons.injEq, DV.sl.injEq, and_true, true_and] at h1 h2
    exact ⟨h1, h2.1⟩
  have nums : inR (rob c 0) st → ∀ i : Nat, (i : Int) < (DV.sl none 0 P).len → inR (rob c i) (sAt c (.sl none 0 I) i) ∧ (0 ≤ sAt c (.sl none 0 I) i ∧ sAt c (.sl none 0 I) i ≤ cap) ∧ 0 ≤ oAt c (.sl none 0 I) i ∧ oAt c (.sl none 0 I) i ≤ 1099511627776 := fun h i hi => by
    have h1 := sAt_in (I := .sl none 0 I) hr hcI (by rw [hst]; exact h) i (by rw [hP]; omega)
    have k1 := (keep_all hr (t := (i : Int)) (by omega) (by rw [hP]; exact hi) h1.1 rfl).1
    have hp := per_at hr (k := (i : Int)) (by omega) (by rw [hP]; exact hi)
    unfold perOk okN at hp
    refine ⟨h1.1, by rw [← hcap]; exact h1.2, ?_⟩
    show 0 ≤ oOf c (sAt c (.sl none 0 I) i) i ∧ oOf c (sAt c (.sl none 0 I) i) i ≤ 1099511627776
    unfold allowed at k1
    unfold oOf
    omega
  refine res_lop rfl trivial (fun i i0 i1 _ => ?_)
  refine res_ite (fun hlt => ?_) fun _ => ?_
  · have hlt : i < min (min (DV.sl none 0 A).len (DV.sl none 0 B).len) (min (min m (DV.sl none 0 I).len) (DV.sl none 0 P).len + 1) := hlt
    rw [hk] at hlt
    have hin := lA (by omega)
    obtain ⟨⟨hA1, hS1⟩, hB1⟩ := eA hin
    have lA1 : (DV.sl none 0 A).len = ((DV.sl none 0 P).len.toNat : Nat) := len_of (by rw [hA1, outsF_len]) (by omega)
    have ei : ((i.toNat : Nat) : Int) = i := by omega
    have gA := at_of (els := A) (i := i.toNat) (e := [.n (oAt c (.sl none 0 I) i.toNat)]) (by rw [hA1]; exact outsF_get (show i.toNat < (DV.sl none 0 P).len.toNat by omega)) 0
    have gB := at_of (els := B) (i := i.toNat) (e := [.n (oAt c (.sl none 0 M) i.toNat)]) (by rw [hB1]; exact outsF_get (show i.toNat < (DV.sl none 0 P).len.toNat by omega)) 0
    rw [ei] at gA gB
    have heq : (DV.sl none 0 A).at i 0 = (DV.sl none 0 B).at i 0 := by
      rw [gA, gB]
      have : oAt c (.sl none 0 I) i.toNat = oAt c (.sl none 0 M) i.toNat := by
        unfold oAt
        rw [hsame i.toNat (by omega)]
      rw [this]
    have mea : ((DV.sl none 0 A).len - (i + 1)).toNat < ((DV.sl none 0 A).len - i).toNat := by omega
    refine res_both (res_ok (show 0 ≤ i ∧ i < (DV.sl none 0 A).len by omega) (res_ok (show 0 ≤ i ∧ i < (DV.sl none 0 B).len by omega) ?_)) (res_ok (show 0 ≤ i ∧ i < (DV.sl none 0 B).len by omega) (res_ok (show 0 ≤ i ∧ i < (DV.sl none 0 A).len by omega) ?_))
    · exact res_ite (fun y => absurd heq y) fun _ => res_chk rfl trivial mea
    · exact res_ite (fun y => absurd heq y) fun _ => res_chk rfl trivial mea
  refine res_lop rfl (show (0 : Int) ≤ (DV.sl none 0 A).len from len_nn _) (fun i i0 i1 hi => ?_)
  refine res_ite (fun hlt => ?_) fun _ => rfl
  have hlt : i < (DV.sl none 0 A).len := hlt
  have hin := lA (by omega)
  obtain ⟨⟨hA1, hS1⟩, hB1⟩ := eA hin
  have lA1 : (DV.sl none 0 A).len = ((DV.sl none 0 P).len.toNat : Nat) := len_of (by rw [hA1, outsF_len]) (by omega)
  have lS1 : (DV.sl none 0 S).len = ((DV.sl none 0 P).len.toNat : Nat) := len_of (by rw [hS1, stoF_len]) (by omega)
  have ei : ((i.toNat : Nat) : Int) = i := by omega
  have hiP : i < (DV.sl none 0 P).len := by omega
  have gA := at_of (els := A) (i := i.toNat) (e := [.n (oAt c (.sl none 0 I) i.toNat)]) (by rw [hA1]; exact outsF_get (show i.toNat < (DV.sl none 0 P).len.toNat by omega)) 0
  have gS := at_of (els := S) (i := i.toNat) (e := [.n (sAt c (.sl none 0 I) i.toNat)]) (by rw [hS1]; exact stoF_get (show i.toNat < (DV.sl none 0 P).len.toNat by omega)) 0
  obtain ⟨n1, n2, n3⟩ := nums hin i.toNat (by omega)
  have hp := per_at hr i0 (by rw [hP]; exact hiP)
  have hcp : cap ≤ 1099511627776 := by rw [← hcap]; exact hr.1.1.2
  have gA : (DV.sl none 0 A).at i 0 = oAt c (.sl none 0 I) i.toNat := by rw [← ei, gA]; exact clampB_in (x := oAt c (.sl none 0 I) i.toNat) n3.1 n3.2
  have gS : (DV.sl none 0 S).at i 0 = sAt c (.sl none 0 I) i.toNat := by rw [← ei, gS]; exact clampB_in (x := sAt c (.sl none 0 I) i.toNat) n2.1 (Int.le_trans n2.2 hcp)
  rw [ei] at n1
  have ho : oAt c (.sl none 0 I) i.toNat = max (c.P.at i 2) (sAt c (.sl none 0 I) i.toNat - (topF c i - c.P.at i 1)) := by
    unfold oAt oOf; rw [ei]
  rw [← gA] at ho n3
  rw [← gS] at n1 n2 ho
  generalize hoo : (DV.sl none 0 A).at i 0 = o at ho n3
  generalize hss : (DV.sl none 0 S).at i 0 = s at n1 n2 ho
  have hkeep := keep_all hr i0 (by rw [hP]; exact hiP) n1 ho
  have hal := hkeep.1
  have hz : askF c i s = 0 := ask_fine hc0 (by rw [hP, hcap]; omega)
  have r1 := row (i + 1) (by omega) (by omega)
  have hless := less_spoils (s := s) hr i0 (by rw [hP]; exact hiP) ho
  have hp2 := hp
  unfold perOk okN at hp2
  have hal2 := hal
  unfold allowed at hal2
  have kLo := hkeep.2 (c.P.at i 0) (by omega) (by omega)
  have kHi := hkeep.2 (c.P.at i 1) (by omega) (by omega)
  refine res_ok (show 0 ≤ i ∧ i < (DV.sl none 0 P).len by omega) (res_ok (show 0 ≤ i ∧ i < (DV.sl none 0 S).len by omega) ?_)
  refine res_con rfl trivial (fun a1 _ _ a2 _ _ a3 _ _ a4 _ _ ha => res_con rfl trivial (fun b1 _ _ b2 _ _ b3 _ _ b4 _ _ hb => ?_))
  have ha : [DV.n a1, .n a2, .n a3, .n a4] = NextF (CO.mk cap st fl (.sl none 0 P)) i ((DV.sl none 0 S).at i 0) ((DV.sl none 0 A).at i 0) ((DV.sl none 0 P).at i 0) := ha
  have hb : [DV.n b1, .n b2, .n b3, .n b4] = NextF (CO.mk cap st fl (.sl none 0 P)) i ((DV.sl none 0 S).at i 0) ((DV.sl none 0 A).at i 0) ((DV.sl none 0 P).at i 1) := hb
  rw [hc, hoo, hss, ← hP] at ha hb
  obtain ⟨ha4, ha⟩ := next_ok_in ha hz ⟨by unfold okN; omega, by unfold okN; omega⟩ hal
  obtain ⟨hb4, hb⟩ := next_ok_in hb hz ⟨by unfold okN; omega, by unfold okN; omega⟩ hal
  obtain ⟨ha3, ha1, _⟩ := ha.resolve_left fun y => kLo.1 y.2
  obtain ⟨hb3, hb1, _⟩ := hb.resolve_left fun y => kHi.1 y.2
  refine res_ite (fun _ => ?_) fun y => absurd (show ((a4 = 0 ∧ b4 = 0) ∧ ¬ a3 = 0) ∧ ¬ b3 = 0 by omega) y
  refine res_ok (show 0 ≤ i + 1 ∧ i + 1 < (DV.sl none 0 L).len by omega) ?_
  have hasA : (DV.sl none 0 L).at (i + 1) 0 ≤ a1 ∧ a1 ≤ (DV.sl none 0 L).at (i + 1) 1 := by rw [r1.1, r1.2, ha1]; exact kLo.2
  have hasB : (DV.sl none 0 L).at (i + 1) 0 ≤ b1 ∧ b1 ≤ (DV.sl none 0 L).at (i + 1) 1 := by rw [r1.1, r1.2, hb1]; exact kHi.2
  have mea : ((DV.sl none 0 A).len - (i + 1)).toNat < ((DV.sl none 0 A).len - i).toNat := by omega
  have prei : i + 1 ≤ (DV.sl none 0 A).len := by omega
  refine res_ite (fun y => ?_) fun y => ?_
  · have y : (((DV.sl none 0 L).at (i + 1) 0 ≤ a1 ∧ a1 ≤ (DV.sl none 0 L).at (i + 1) 1) ∧ (DV.sl none 0 L).at (i + 1) 0 ≤ b1 ∧ b1 ≤ (DV.sl none 0 L).at (i + 1) 1) ∧ (DV.sl none 0 P).at i 2 < (DV.sl none 0 A).at i 0 := y
    have hD : c.P.at i 2 < o := by rw [hP, ← hoo]; exact y.2
    have hsp := hless hD
    refine res_con rfl trivial (fun d1 _ _ d2 _ _ d3 _ _ d4 _ _ hd => res_con rfl trivial (fun f1 _ _ f2 _ _ f3 _ _ f4 _ _ hf => ?_))
    clear hd
    have hf : [DV.n f1, .n f2, .n f3, .n f4] = NextF (CO.mk cap st fl (.sl none 0 P)) i ((DV.sl none 0 S).at i 0) ((DV.sl none 0 A).at i 0 - 1) ((DV.sl none 0 P).at i 1) := hf
    rw [hc, hoo, hss, ← hP] at hf
    obtain ⟨hf4, hf⟩ := next_ok_in hf hz ⟨by unfold okN; omega, by unfold okN; omega⟩ (show allowed c i s (o - 1) by unfold allowed; omega)
    refine res_ite (fun q => ?_) fun _ => res_chk rfl prei mea
    have q : ((((d4 = 0 ∧ f4 = 0) ∧ ¬ d3 = 0) ∧ ¬ f3 = 0) ∧ (DV.sl none 0 L).at (i + 1) 0 ≤ d1 ∧ d1 ≤ (DV.sl none 0 L).at (i + 1) 1) ∧ (DV.sl none 0 L).at (i + 1) 0 ≤ f1 ∧ f1 ≤ (DV.sl none 0 L).at (i + 1) 1 := q
    exfalso
    rcases hf with ⟨hf3, _⟩ | ⟨_, hf1, _, hsp2⟩
    · exact q.1.1.2 hf3
    · refine (hsp.resolve_left hsp2) ?_
      unfold inR
      rw [← hf1, ← r1.1, ← r1.2]; exact q.2
  · have y : ¬ ((((DV.sl none 0 L).at (i + 1) 0 ≤ a1 ∧ a1 ≤ (DV.sl none 0 L).at (i + 1) 1) ∧ (DV.sl none 0 L).at (i + 1) 0 ≤ b1 ∧ b1 ≤ (DV.sl none 0 L).at (i + 1) 1) ∧ (DV.sl none 0 P).at i 2 < (DV.sl none 0 A).at i 0) := y
    refine res_ite (fun _ => res_ite (fun q => absurd ⟨⟨hasA, hasB⟩, q⟩ y) fun _ => res_chk rfl prei mea) fun q => absurd (show ((DV.sl none 0 L).at (i + 1) 0 ≤ a1 ∧ a1 ≤ (DV.sl none 0 L).at (i + 1) 1) ∧ (DV.sl none 0 L).at (i + 1) 0 ≤ b1 ∧ b1 ≤ (DV.sl none 0 L).at (i + 1) 1 from ⟨hasA, hasB⟩) q
end Go.Proofs.Ytljggpbkggkcaaa
