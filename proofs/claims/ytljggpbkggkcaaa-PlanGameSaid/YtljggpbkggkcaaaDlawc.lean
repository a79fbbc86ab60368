/- DERIVED. The law of the firm demand by its games, walked. -/
import Derived.Test.YtljggpbkggkcaaaDctk
import Derived.Test.YtljggpbkggkcaaaDlawb
import Derived.Test.YtljggpbkggkcaaaDtrees
namespace Go.Proofs.Ytljggpbkggkcaaa
open Go.Dx Go.RowKit
set_option linter.unusedVariables false
set_option linter.unusedSimpArgs false
theorem cells_cons {w : World} {s : Sh} {l : List Sh} {x : DV} {xs : List DV} : ∀ {cs : List Value}, cellsA w (s :: l) (x :: xs) cs → ∃ v vs, cellA w s x v ∧ cellsA w l xs vs
  | [], h => by simp only [cellsA] at h
  | v :: vs, h => by simp only [cellsA] at h; exact ⟨v, vs, h⟩
theorem cells_last {w : World} {cap st fl : Int} {P : List (List DV)} {cs : List Value} (h : cellsA w course [.n cap, .n st, .n fl, .sl none 0 P] cs) : HasSh pers (.sl none 0 P) := by
  obtain ⟨_, _, _, h⟩ := cells_cons h
  obtain ⟨_, _, _, h⟩ := cells_cons h
  obtain ⟨_, _, _, h⟩ := cells_cons h
  obtain ⟨_, _, h, _⟩ := cells_cons h
  exact h.1
theorem u32_arg {a : Int} (h : (Go.Lit.int .u32 a).wf = true) : 0 ≤ a ∧ a ≤ 4294967295 := by
  simp [Go.Lit.wf, IntKind.min, IntKind.max, IntKind.signed, IntKind.bits] at h
  exact ⟨by omega, by omega⟩
theorem cell_u32 {w : World} {a : Int} (h : 0 ≤ a ∧ a ≤ 4294967295) : cellA w (.int .u32 0 4294967295) (.n a) (.int .u32 a) :=
  ⟨by simp only [HasSh]; exact ⟨a, rfl, h, by simpa [kmin, IntKind.signed, IntKind.bits] using h.1, by simpa [kmax, IntKind.signed, IntKind.bits] using h.2⟩, rfl⟩
theorem ask_met {c : CO} {S : DV} {n c1 c2 c3 s : Int} {P' M : List (List DV)} (hD : [DV.n c1, .n c2, .n c3, .sl none 0 P'] = [DV.n c.cap, .n c.st, .n c.fl, (dem c S n).P]) (hR : [DV.sl none 0 M, .n s] = RobustF ⟨c1, c2, c3, .sl none 0 P'⟩) (hl : c.P.len ≤ 64) : ((s = 0 ∧ 0 < (DV.sl none 0 M).len) ∧ (DV.sl none 0 M).at 0 0 ≤ c.st ∧ c.st ≤ (DV.sl none 0 M).at 0 1) ↔ met c S n := by
  have e : CO.mk c1 c2 c3 (.sl none 0 P') = dem c S n := by
    simp only [List.cons.injEq, DV.n.injEq, and_true] at hD
    rw [hD.1, hD.2.1, hD.2.2.1, hD.2.2.2]; rfl
  rw [e] at hR
  have l0 := len_nn (dem c S n).P
  have hdl : (dem c S n).P.len ≤ 64 := by
    show clampL (setK c.P.els S n c.P.len.toNat).length ≤ 64
    rw [setK_len]; exact hl
  unfold met
  rcases rob_cases hR hdl with ⟨hs, hM, hr⟩ | ⟨hs, hr⟩
  · have lM : (DV.sl none 0 M).len = ((dem c S n).P.len.toNat + 1 : Nat) := len_of (by rw [hM, rowsF_len]) (by omega)
    have g0 := row_at hr hM (t := 0) (by omega) l0
    rw [g0.1, g0.2]
    exact ⟨fun h => ⟨hr, h.2⟩, fun h => ⟨⟨hs, by omega⟩, h.2⟩⟩
  · exact ⟨fun h => absurd h.1.1 hs, fun h => absurd h.1 hr⟩
theorem firm_in {c : CO} {S : DV} {a1 a2 a3 : Int} (h : [DV.n a1, .n a2, .n a3] = FirmF c S) : (a3 ≠ 0 ∧ a1 = 0 ∧ a2 = 0) ∨ (a3 = 0 ∧ chkF c = 0 ∧ S.len = c.P.len ∧ shOk S S.len.toNat ∧ ((firstF c S = 0 ∧ a1 = 0 ∧ a2 = 0) ∨ (firstF c S ≠ 0 ∧ a1 = firstF c S - 1 ∧ a2 = 1))) := by
  unfold FirmF at h
  by_cases c1 : chkF c ≠ 0
  · rw [if_pos c1] at h
    simp only [List.cons.injEq, DV.n.injEq, and_true] at h
    exact .inl ⟨by omega, h.1, h.2.1⟩
  rw [if_neg c1] at h
  by_cases c2 : S.len ≠ c.P.len ∨ ¬ shOk S S.len.toNat
  · rw [if_pos c2] at h
    simp only [List.cons.injEq, DV.n.injEq, and_true] at h
    exact .inl ⟨by omega, h.1, h.2.1⟩
  rw [if_neg c2] at h
  have c3 : S.len = c.P.len := Classical.byContradiction fun q => c2 (.inl q)
  have c4 : shOk S S.len.toNat := Classical.byContradiction fun q => c2 (.inr q)
  by_cases c5 : firstF c S = 0
  · rw [if_pos c5] at h
    simp only [List.cons.injEq, DV.n.injEq, and_true] at h
    exact .inr ⟨h.2.2, by omega, c3, c4, .inl ⟨c5, h.1, h.2.1⟩⟩
  · rw [if_neg c5] at h
    simp only [List.cons.injEq, DV.n.injEq, and_true] at h
    exact .inr ⟨h.2.2, by omega, c3, c4, .inr ⟨c5, h.1, h.2.1⟩⟩
set_option maxHeartbeats 4000000 in
set_option maxRecDepth 100000 in
theorem PlanFirm_any (v0 v1 : Value) (u v : Int) (w : World) (hG : Glb tb w) (g0 : CourseA w v0) (g1 : ∃ d, cellA w ints (.sl none 0 d) v1) (hu : 0 ≤ u ∧ u ≤ 4294967295) (hv : 0 ≤ v ∧ v ≤ 4294967295) :
    Calls Try.prog 10 #[v0, v1, .int .u32 u, .int .u32 v] w fun e w' => e = .returned (.bool true) ∧ Below w.heap.size w w' := by
  obtain ⟨cap, st, fl, P, c0, rfl, h0⟩ := g0
  obtain ⟨S, h1⟩ := g1
  have hrow : rowsOk P := rowsOk_of (cells_last h0)
  have hPl : P.length ≤ 9223372036854775807 := (cells_last h0).1
  refine law_of_walk (tb := tb) (P := Try.prog) fine (C := [lawCon 11 [], cFirm 23, cDem 31, cRobust 12]) (conCons cSane_ok (conCons cFirm_ok (conCons cDem_ok (conCons cRobust_ok noCon)))) 80 10 [.agg course, .c ints, .c (.int .u32 0 4294967295), .c (.int .u32 0 4294967295)] rfl (w := w) hG
    (xs := [.n cap, .n st, .n fl, .sl none 0 P, .sl none 0 S, .n u, .n v]) ?_ ?_
  · refine ⟨_, [.sl none 0 S, .n u, .n v], c0, rfl, rfl, h0, ?_⟩
    exact ⟨h1, cell_u32 hu, cell_u32 hv, by simp [ArgsV]⟩
  clear h0 h1
  rw [tree_lpf]
  refine res_con rfl trivial (fun z z0 z1 hz => ?_)
  obtain rfl := n_inj (show [DV.n z] = [DV.n 1] from hz)
  refine res_ite (fun h => absurd (show (1 : Int) = 0 from h) (by decide)) fun _ => res_ite (fun _ => rfl) fun _ => ?_
  refine res_con rfl trivial (fun a1 _ _ a2 _ _ a3 _ _ ha => ?_)
  have ha : [DV.n a1, .n a2, .n a3] = FirmF ⟨cap, st, fl, .sl none 0 P⟩ (.sl none 0 S) := ha
  have ha := firm_in ha
  refine res_ite (fun e => ?_) fun e => ?_
  · have e : ¬ a3 = 0 := e
    have q := ha.resolve_right (fun q => e q.1)
    exact res_ite (fun _ => rfl) fun h => absurd ⟨q.2.1, q.2.2⟩ h
  have e : ¬ ¬ a3 = 0 := e
  obtain ⟨_, hc0, k, hsh, ha⟩ := ha.resolve_left (fun q => e q.1)
  have k : (DV.sl none 0 S).len = (DV.sl none 0 P).len := k
  have hr : (DV.sl none 0 P).len ≤ 64 := by
    unfold chkF at hc0
    by_cases q : 64 < (CO.mk cap st fl (.sl none 0 P)).P.len
    · rw [if_pos q] at hc0; exact absurd hc0 (by decide)
    · have q : ¬ 64 < (DV.sl none 0 P).len := q
      omega
  have hlen := hr
  have ll : (DV.sl none 0 P).len = P.length := clampL_eq hPl
  have hshP : shOk (.sl none 0 S) P.length := by rw [show P.length = (DV.sl none 0 S).len.toNat by omega]; exact hsh
  obtain ⟨f0, f1, f2, f3⟩ := first_spec ⟨cap, st, fl, .sl none 0 P⟩ (.sl none 0 S)
  have below : ∀ {n : Int}, 0 ≤ n → n < firstF ⟨cap, st, fl, .sl none 0 P⟩ (.sl none 0 S) → met ⟨cap, st, fl, .sl none 0 P⟩ (.sl none 0 S) n := fun h0 h1 => met_less (c := ⟨cap, st, fl, .sl none 0 P⟩) rfl hrow (by omega) h0 (show _ ≤ firstF ⟨cap, st, fl, .sl none 0 P⟩ (.sl none 0 S) - 1 by omega) (by omega) hshP (f2.resolve_left (by omega))
  have above : ∀ {n : Int}, firstF ⟨cap, st, fl, .sl none 0 P⟩ (.sl none 0 S) ≤ n → n ≤ 1048576 → ¬ met ⟨cap, st, fl, .sl none 0 P⟩ (.sl none 0 S) n := fun h0 h1 m => (f3.resolve_left (by omega)) (met_less (c := ⟨cap, st, fl, .sl none 0 P⟩) rfl hrow (by omega) f0 h0 (by omega) hshP m)
  refine res_ite (fun q => ?_) fun q => ?_
  · have q : ((¬ (DV.sl none 0 S).len = (DV.sl none 0 P).len ∨ a1 < 0) ∨ 1048576 < a1) ∨ (a2 = 0 ∧ ¬ a1 = 0) := q
    omega
  clear q
  refine res_ite (fun q => ?_) fun q => ?_
  · have q : a2 = 0 := q
    have hf : firstF ⟨cap, st, fl, .sl none 0 P⟩ (.sl none 0 S) = 0 := by omega
    refine res_con rfl (show ((DV.sl none 0 S).len = (DV.sl none 0 P).len ∧ (DV.sl none 0 P).len ≤ 64) ∧ (0 ≤ (0 : Int) ∧ (0 : Int) ≤ 1048577) ∧ shOk (.sl none 0 S) (DV.sl none 0 S).len.toNat from ⟨⟨k, hlen⟩, by omega, hsh⟩) (fun c1 _ _ c2 _ _ c3 _ _ P' _ hD => res_con rfl trivial (fun M _ s _ _ hR => ?_))
    have hq := ask_met (c := ⟨cap, st, fl, .sl none 0 P⟩) (S := (.sl none 0 S)) (n := (0 : Int)) hD hR hlen
    refine res_ite (fun y => ?_) fun y => ?_
    · exact rfl
    · exact absurd (hq.1 (Classical.not_not.1 y)) (above (by omega) (by omega))
  have q : ¬ a2 = 0 := q
  have hf : firstF ⟨cap, st, fl, .sl none 0 P⟩ (.sl none 0 S) = a1 + 1 ∧ 0 ≤ a1 := by omega
  have hlast : 0 ≤ Int.tmod u (a1 + 1) ∧ Int.tmod u (a1 + 1) ≤ a1 := by
    have := Int.tmod_nonneg (a1 + 1) hu.1
    have := Int.tmod_lt_of_pos u (show 0 < a1 + 1 by omega)
    omega
  refine res_ite (fun hlt => ?_) fun hlt => ?_
  · have hlt : a1 < 1048576 := hlt
    have hmid : 0 ≤ Int.tmod v (1048576 - a1) ∧ Int.tmod v (1048576 - a1) < 1048576 - a1 := ⟨Int.tmod_nonneg _ hv.1, Int.tmod_lt_of_pos v (show 0 < 1048576 - a1 by omega)⟩
    refine res_con rfl (show ((DV.sl none 0 S).len = (DV.sl none 0 P).len ∧ (DV.sl none 0 P).len ≤ 64) ∧ (0 ≤ (a1 + 1) ∧ (a1 + 1) ≤ 1048577) ∧ shOk (.sl none 0 S) (DV.sl none 0 S).len.toNat from ⟨⟨k, hlen⟩, by omega, hsh⟩) (fun c1 _ _ c2 _ _ c3 _ _ P' _ hD => res_con rfl trivial (fun M _ s _ _ hR => ?_))
    have hq := ask_met (c := ⟨cap, st, fl, .sl none 0 P⟩) (S := (.sl none 0 S)) (n := (a1 + 1)) hD hR hlen
    refine res_ite (fun y => ?_) fun y => ?_
    · have hy := trivial
      refine res_con rfl (show ((DV.sl none 0 S).len = (DV.sl none 0 P).len ∧ (DV.sl none 0 P).len ≤ 64) ∧ (0 ≤ (a1 + 1 + Int.tmod v (1048576 - a1)) ∧ (a1 + 1 + Int.tmod v (1048576 - a1)) ≤ 1048577) ∧ shOk (.sl none 0 S) (DV.sl none 0 S).len.toNat from ⟨⟨k, hlen⟩, by omega, hsh⟩) (fun c1 _ _ c2 _ _ c3 _ _ P' _ hD => res_con rfl trivial (fun M _ s _ _ hR => ?_))
      have hq := ask_met (c := ⟨cap, st, fl, .sl none 0 P⟩) (S := (.sl none 0 S)) (n := (a1 + 1 + Int.tmod v (1048576 - a1))) hD hR hlen
      refine res_ite (fun y => ?_) fun y => ?_
      · exact absurd (hq.1 y) (above (by omega) (by omega))
      · have hy := trivial
        refine res_con rfl (show ((DV.sl none 0 S).len = (DV.sl none 0 P).len ∧ (DV.sl none 0 P).len ≤ 64) ∧ (0 ≤ a1 ∧ a1 ≤ 1048577) ∧ shOk (.sl none 0 S) (DV.sl none 0 S).len.toNat from ⟨⟨k, hlen⟩, by omega, hsh⟩) (fun c1 _ _ c2 _ _ c3 _ _ P' _ hD => res_con rfl trivial (fun M _ s _ _ hR => ?_))
        have hq := ask_met (c := ⟨cap, st, fl, .sl none 0 P⟩) (S := (.sl none 0 S)) (n := a1) hD hR hlen
        refine res_ite (fun y => ?_) fun y => ?_
        · have hy := trivial
          refine res_con rfl (show ((DV.sl none 0 S).len = (DV.sl none 0 P).len ∧ (DV.sl none 0 P).len ≤ 64) ∧ (0 ≤ Int.tmod u (a1 + 1) ∧ Int.tmod u (a1 + 1) ≤ 1048577) ∧ shOk (.sl none 0 S) (DV.sl none 0 S).len.toNat from ⟨⟨k, hlen⟩, by omega, hsh⟩) (fun c1 _ _ c2 _ _ c3 _ _ P' _ hD => res_con rfl trivial (fun M _ s _ _ hR => ?_))
          have hq := ask_met (c := ⟨cap, st, fl, .sl none 0 P⟩) (S := (.sl none 0 S)) (n := Int.tmod u (a1 + 1)) hD hR hlen
          refine res_ite (fun y => ?_) fun y => ?_
          · exact rfl
          · exact absurd (below hlast.1 (by omega)) (fun m => y (hq.2 m))
        · exact absurd (below hf.2 (by omega)) (fun m => y (hq.2 m))
    · exact absurd (hq.1 (Classical.not_not.1 y)) (above (by omega) (by omega))
  · have hlt : ¬ a1 < 1048576 := hlt
    refine res_con rfl (show ((DV.sl none 0 S).len = (DV.sl none 0 P).len ∧ (DV.sl none 0 P).len ≤ 64) ∧ (0 ≤ a1 ∧ a1 ≤ 1048577) ∧ shOk (.sl none 0 S) (DV.sl none 0 S).len.toNat from ⟨⟨k, hlen⟩, by omega, hsh⟩) (fun c1 _ _ c2 _ _ c3 _ _ P' _ hD => res_con rfl trivial (fun M _ s _ _ hR => ?_))
    have hq := ask_met (c := ⟨cap, st, fl, .sl none 0 P⟩) (S := (.sl none 0 S)) (n := a1) hD hR hlen
    refine res_ite (fun y => ?_) fun y => ?_
    · have hy := trivial
      refine res_con rfl (show ((DV.sl none 0 S).len = (DV.sl none 0 P).len ∧ (DV.sl none 0 P).len ≤ 64) ∧ (0 ≤ Int.tmod u (a1 + 1) ∧ Int.tmod u (a1 + 1) ≤ 1048577) ∧ shOk (.sl none 0 S) (DV.sl none 0 S).len.toNat from ⟨⟨k, hlen⟩, by omega, hsh⟩) (fun c1 _ _ c2 _ _ c3 _ _ P' _ hD => res_con rfl trivial (fun M _ s _ _ hR => ?_))
      have hq := ask_met (c := ⟨cap, st, fl, .sl none 0 P⟩) (S := (.sl none 0 S)) (n := Int.tmod u (a1 + 1)) hD hR hlen
      refine res_ite (fun y => ?_) fun y => ?_
      · exact rfl
      · exact absurd (below hlast.1 (by omega)) (fun m => y (hq.2 m))
    · exact absurd (below hf.2 (by omega)) (fun m => y (hq.2 m))
end Go.Proofs.Ytljggpbkggkcaaa
