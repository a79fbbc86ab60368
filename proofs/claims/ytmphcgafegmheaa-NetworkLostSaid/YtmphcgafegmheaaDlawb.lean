/- DERIVED. The laws of links that are cut and of packets that are lost, walked. -/
import Derived.Test.YtmphcgafegmheaaDmathb
import Derived.Test.YtmphcgafegmheaaDtreee
namespace Go.Proofs.Ytmphcgafegmheaa
open Go.Dx Go.RowKit
set_option linter.unusedVariables false
set_option linter.unusedSimpArgs false
theorem cells_fst {w : World} {s : Sh} {l : List Sh} {d : DV} {ds : List DV} : ∀ {cs : List Value}, cellsA w (s :: l) (d :: ds) cs → HasSh s d
  | [], h => h.elim
  | _ :: _, h => h.1.1
theorem zero_eq {f g : Int} {d : List Int} {p : P3} (h : (f, g, d) = p) (hp : pkP p) : (f, g, d) ≠ zero := fun k => zero_no (by rw [← k, h]; exact hp)
/-- What a link delivers that is cut, and what it delivers that is mended. -/
theorem cuts_end {q : List P3} {A s t : List (Int × Int)} {a b : Int} {p1 p2 : P3} {k : Int} (ok : okP q A) (hab : (siteP a ∧ siteP b) ∧ a ≠ b) (hs : cutR A (link a b) True s) (ht : cutR A (link a b) False t) (hk : inQ q k)
    (h1 : (p1 = zero ∧ link (q.getD k.toNat zero).1 (q.getD k.toNat zero).2.1 ∈ s) ∨ (p1 = q.getD k.toNat zero ∧ link (q.getD k.toNat zero).1 (q.getD k.toNat zero).2.1 ∉ s))
    (h2 : (p2 = zero ∧ link (q.getD k.toNat zero).1 (q.getD k.toNat zero).2.1 ∈ t) ∨ (p2 = q.getD k.toNat zero ∧ link (q.getD k.toNat zero).1 (q.getD k.toNat zero).2.1 ∉ t)) :
    (((p2.1 = a ∧ p2.2.1 = b) ∨ (p2.1 = b ∧ p2.2.1 = a)) → p1 = zero) ∧ (¬ ((p2.1 = a ∧ p2.2.1 = b) ∨ (p2.1 = b ∧ p2.2.1 = a)) → p1 = p2) := by
  have hp := ok.2.1 _ (getQ hk)
  generalize q.getD k.toNat zero = p at *
  have hst : link p.1 p.2.1 ∈ t → link p.1 p.2.1 ∈ s := fun m => by
    rcases (ht.2 _).1 m with m | m
    · exact m.2.elim
    · exact (hs.2 _).2 (.inr m)
  have hs2 : link p.1 p.2.1 ∈ s ↔ link p.1 p.2.1 = link a b ∨ link p.1 p.2.1 ∈ t := by
    rw [hs.2, ht.2]
    constructor
    · rintro (m | m)
      · exact .inl m.1
      · exact .inr (.inr m)
    · rintro (m | m | m)
      · exact .inl ⟨m, trivial⟩
      · exact m.2.elim
      · exact .inr m
  constructor
  · intro h
    rcases h2 with h2 | h2
    · rw [h2.1] at h
      have h : ((0 : Int) = a ∧ (0 : Int) = b) ∨ ((0 : Int) = b ∧ (0 : Int) = a) := h
      have := hab.2
      omega
    · rw [h2.1] at h
      have m := hs2.2 (.inl (link_eq.2 h))
      rcases h1 with h1 | h1
      · exact h1.1
      · exact absurd m h1.2
  · intro h
    rcases h2 with h2 | h2
    · rcases h1 with h1 | h1
      · rw [h1.1, h2.1]
      · exact absurd (hst h2.2) h1.2
    · rw [h2.1] at h
      rcases h1 with h1 | h1
      · rcases hs2.1 h1.2 with m | m
        · exact absurd (link_eq.1 m) h
        · exact absurd m h2.2
      · rw [h1.1, h2.1]
set_option maxRecDepth 100000 in
theorem NetworkCuts_any (v0 : Value) (a b u : Int) (w : World) (hG : Glb tb w) (g0 : NetA w v0) (ha : -9223372036854775808 ≤ a ∧ a ≤ 9223372036854775807) (hb : -9223372036854775808 ≤ b ∧ b ≤ 9223372036854775807) (hu : 0 ≤ u ∧ u ≤ 18446744073709551615) :
    Calls Try.prog 7 #[v0, .int .i64 a, .int .i64 b, .int .u64 u] w fun e w' => e = .returned (.bool true) ∧ Below w.heap.size w w' := by
  obtain ⟨Q, A, c0, rfl, h0⟩ := g0
  have ca := cell_int (w := w) ha
  have cb := cell_int (w := w) hb
  have cu := cell_u64 (w := w) hu
  have hQ : HasSh queS (.sl none 0 Q) := cells_fst h0
  refine law_of_walk (tb := tb) (P := Try.prog) fine (C := [lawCon 9 [], cFew 10, cChk 13, cDel 20, cCut 18, cSame 15, cSameP 22]) (conCons cSane_ok (conCons cFew_ok (conCons cChk_ok (conCons cDel_ok (conCons cCut_ok (conCons cSame_ok (conCons cSameP_ok noCon))))))) 200 7 [.agg net, aI, aI, .c u64s] rfl (w := w) hG
    (xs := [.sl none 0 Q, .sl none 0 A, .n a, .n b, .n u]) ?_ ?_
  · exact ⟨_, [.n a, .n b, .n u], c0, rfl, rfl, h0, ca, cb, cu, by simp [ArgsV]⟩
  clear h0 ca cb cu
  have lQ := len_of hQ (Nat.le_refl _)
  have pQ := pks_len Q
  have eon : ((1 : Int) = 1) = True := eq_self _
  have eoff : ((0 : Int) = 1) = False := propext ⟨fun h => by omega, fun h => h.elim⟩
  rw [tree_lcuts]
  refine res_con rfl trivial (fun z _ _ hz => ?_)
  obtain rfl := n_inj (show [DV.n z] = [DV.n 1] from hz)
  refine res_ite (fun h => absurd (show (1 : Int) = 0 from h) (by decide)) fun _ => ?_
  refine res_con rfl trivial (fun f _ _ hf => ?_)
  refine res_ite (fun _ => ?_) fun _ => rfl
  clear hf
  refine res_con rfl trivial (fun c _ _ hc => ?_)
  have hc := chk_in (cv hc (by kernel_rfl : _ = ([DV.n c] = [.n (chkF (pks (.sl none 0 Q)) (prs (.sl none 0 A)))])))
  refine res_ite (fun _ => rfl) fun h => ?_
  have h : ¬ ¬ c = 0 := cv h (by kernel_rfl)
  have ok := (hc.resolve_right fun m => h fun x => by omega).2
  clear hc h
  refine res_con rfl trivial (fun q1 hq1 a1 ha1 e1 _ _ h1 => ?_)
  have h1 := cv h1 (by kernel_rfl : _ = cutQ (pks (.sl none 0 Q)) (prs (.sl none 0 A)) a b ((1 : Int) = 1) (pks (.sl none 0 q1), prs (.sl none 0 a1), e1))
  rw [eon] at h1
  refine res_ite (fun h => ?_) fun h => ?_
  · have h : ¬ e1 = 0 := cv h (by kernel_rfl)
    have e : e1 = 1 := by
      rcases cutQ_in h1 with m | m
      · exact absurd m.1 h
      · exact m.2.2.2.2 ok
    exact res_ite (fun _ => rfl) fun k => absurd (cv e (by kernel_rfl)) k
  have h : ¬ ¬ e1 = 0 := cv h (by kernel_rfl)
  obtain ⟨k1, _, hab, k1q, k1a⟩ := (cutQ_in h1).resolve_right fun m => h m.1
  have hab' : (siteP b ∧ siteP a) ∧ b ≠ a := ⟨⟨hab.1.2, hab.1.1⟩, Ne.symm hab.2⟩
  have ok1 := ok_cut ok (link_pr hab) k1a
  clear h
  refine res_con rfl trivial (fun q2 _ a2 _ e2 _ _ h2 => ?_)
  have h2 := cv h2 (by kernel_rfl : _ = cutQ (pks (.sl none 0 Q)) (prs (.sl none 0 A)) b a ((1 : Int) = 1) (pks (.sl none 0 q2), prs (.sl none 0 a2), e2))
  refine res_con rfl trivial (fun q3 _ a3 _ e3 _ _ h3 => ?_)
  have h3 := cv h3 (by kernel_rfl : _ = cutQ (pks (.sl none 0 q1)) (prs (.sl none 0 a1)) a b ((1 : Int) = 1) (pks (.sl none 0 q3), prs (.sl none 0 a3), e3))
  refine res_con rfl trivial (fun q4 _ a4 _ e4 _ _ h4 => ?_)
  have h4 := cv h4 (by kernel_rfl : _ = cutQ (pks (.sl none 0 q1)) (prs (.sl none 0 a1)) b a ((0 : Int) = 1) (pks (.sl none 0 q4), prs (.sl none 0 a4), e4))
  refine res_con rfl trivial (fun q5 hq5 a5 ha5 e5 _ _ h5 => ?_)
  have h5 := cv h5 (by kernel_rfl : _ = cutQ (pks (.sl none 0 Q)) (prs (.sl none 0 A)) a b ((0 : Int) = 1) (pks (.sl none 0 q5), prs (.sl none 0 a5), e5))
  rw [eon] at h2 h3
  rw [eoff] at h4 h5
  rw [k1q] at h3 h4
  obtain ⟨k2, _, _, k2q, k2a⟩ := (cutQ_in h2).resolve_right fun m => m.2.1 ⟨ok, hab'⟩
  obtain ⟨k3, _, _, k3q, k3a⟩ := (cutQ_in h3).resolve_right fun m => m.2.1 ⟨ok1, hab⟩
  obtain ⟨k4, _, _, k4q, k4a⟩ := (cutQ_in h4).resolve_right fun m => m.2.1 ⟨ok1, hab'⟩
  obtain ⟨k5, _, _, k5q, k5a⟩ := (cutQ_in h5).resolve_right fun m => m.2.1 ⟨ok, hab⟩
  clear h1 h2 h3 h4 h5
  rw [link_comm] at k2a k4a
  have ok5 := ok_cut ok (link_pr hab) k5a
  refine res_ite (fun _ => ?_) fun k => absurd (cv (by omega : ¬ (((¬ e2 = 0 ∨ ¬ e3 = 0) ∨ ¬ e4 = 0) ∨ ¬ e5 = 0)) (by kernel_rfl)) k
  refine res_con rfl trivial (fun s1 _ _ hs1 => ?_)
  have hs1 := hold (cv hs1 (by kernel_rfl : _ = ([DV.n s1] = yn (pks (.sl none 0 q1) = pks (.sl none 0 q2) ∧ prs (.sl none 0 a1) = prs (.sl none 0 a2))))) ⟨by rw [k1q, k2q], cutR_eq k1a k2a⟩
  refine res_ite (fun _ => ?_) fun k => absurd (cv (by omega : ¬ s1 = 0) (by kernel_rfl)) k
  refine res_con rfl trivial (fun s2 _ _ hs2 => ?_)
  have hs2 := hold (cv hs2 (by kernel_rfl : _ = ([DV.n s2] = yn (pks (.sl none 0 q1) = pks (.sl none 0 q3) ∧ prs (.sl none 0 a1) = prs (.sl none 0 a3))))) ⟨by rw [k1q, k3q], cutR_eq (a := prs (.sl none 0 a1)) ⟨k1a.1, fun p => ⟨fun m => by
      by_cases e : p = link a b
      · exact .inl ⟨e, trivial⟩
      · exact .inr ⟨e, m⟩, fun m => by
      rcases m with m | m
      · exact (k1a.2 p).2 (.inl m)
      · exact m.2⟩⟩ k3a⟩
  refine res_ite (fun _ => ?_) fun k => absurd (cv (by omega : ¬ s2 = 0) (by kernel_rfl)) k
  refine res_con rfl trivial (fun s3 _ _ hs3 => ?_)
  have hs3 := hold (cv hs3 (by kernel_rfl : _ = ([DV.n s3] = yn (pks (.sl none 0 q4) = pks (.sl none 0 q5) ∧ prs (.sl none 0 a4) = prs (.sl none 0 a5))))) ⟨by rw [k4q, k5q], cutR_eq (a := prs (.sl none 0 A)) ⟨k4a.1, fun p => by
      rw [k4a.2 p, k1a.2 p]
      constructor
      · rintro (m | ⟨m, n | n⟩)
        · exact m.2.elim
        · exact absurd n.1 m
        · exact .inr n
      · rintro (m | m)
        · exact m.2.elim
        · exact .inr ⟨m.1, .inr m⟩⟩ k5a⟩
  have hl := cut_len k1a k5a
  have l1 := len_of ha1 (Nat.le_refl _)
  have l5 := len_of ha5 (Nat.le_refl _)
  rw [prs_len, prs_len] at hl
  have hm : a1.length ≤ 9223372036854775807 := ha1.1
  have hw : (DV.sl none 0 a1).len = IntKind.i64.wrap ((DV.sl none 0 a5).len + 1) := by rw [wI (by omega) (by omega)]; omega
  refine res_ite (fun h => ?_) fun _ => ?_
  · have h : s3 = 0 ∨ ¬ (DV.sl none 0 a1).len = IntKind.i64.wrap ((DV.sl none 0 a5).len + 1) := cv h (by kernel_rfl)
    rcases h with h | h
    · omega
    · exact absurd hw h
  refine res_ite (fun _ => rfl) fun hq => ?_
  have hq : ¬ (DV.sl none 0 Q).len = 0 := cv hq (by kernel_rfl)
  have r0 := Int.tmod_nonneg (DV.sl none 0 Q).len hu.1
  have r1 := Int.tmod_lt_of_pos u (b := (DV.sl none 0 Q).len) (by omega)
  have hin : inQ (pks (.sl none 0 Q)) (Int.tmod u (DV.sl none 0 Q).len) := by unfold inQ; omega
  refine res_con rfl trivial (fun f1 _ _ g1 _ _ z1 _ q6 _ a6 _ e6 _ _ h6 => ?_)
  have h6 := cv h6 (by kernel_rfl : _ = ((((f1, g1, numsOf z1), pks (.sl none 0 q6), prs (.sl none 0 a6), e6) : P3 × Net) = delQ (pks (.sl none 0 q1)) (prs (.sl none 0 a1)) (Int.tmod u (DV.sl none 0 Q).len)))
  refine res_con rfl trivial (fun f2 _ _ g2 _ _ z2 _ q7 _ a7 _ e7 _ _ h7 => ?_)
  have h7 := cv h7 (by kernel_rfl : _ = ((((f2, g2, numsOf z2), pks (.sl none 0 q7), prs (.sl none 0 a7), e7) : P3 × Net) = delQ (pks (.sl none 0 q5)) (prs (.sl none 0 a5)) (Int.tmod u (DV.sl none 0 Q).len)))
  rw [k1q] at h6
  rw [k5q] at h7
  obtain ⟨d6, _, _, _, _, p6⟩ := (del_in h6).resolve_right fun m => m.2.1 ⟨ok1, hin⟩
  obtain ⟨d7, _, _, _, _, p7⟩ := (del_in h7).resolve_right fun m => m.2.1 ⟨ok5, hin⟩
  obtain ⟨end1, end2⟩ := cuts_end ok hab k1a k5a hin p6 p7
  have end1 : (f2 = a ∧ g2 = b) ∨ (f2 = b ∧ g2 = a) → (f1, g1, numsOf z1) = zero := end1
  have end2 : ¬ ((f2 = a ∧ g2 = b) ∨ (f2 = b ∧ g2 = a)) → (f1, g1, numsOf z1) = (f2, g2, numsOf z2) := end2
  clear h6 h7 p6 p7
  refine res_ite (fun _ => ?_) fun k => absurd (cv (⟨d6, d7⟩ : e6 = 0 ∧ e7 = 0) (by kernel_rfl)) k
  refine res_dat (.sl none 0 []) rfl (res_con rfl trivial (fun s _ _ hs => ?_))
  have hs := yn_01 (cv hs (by kernel_rfl : _ = ([DV.n s] = yn ((f1, g1, numsOf z1) = zero))))
  refine res_ite (fun h => ?_) fun h => ?_
  · have h := end2 (cv h (by kernel_rfl))
    refine res_dat (.sl none 0 []) rfl (res_con rfl trivial (fun t _ _ ht => ?_))
    have ht := yn_01 (cv ht (by kernel_rfl : _ = ([DV.n t] = yn ((f2, g2, numsOf z2) = zero))))
    rw [← h] at ht
    refine res_ite (fun _ => ?_) fun k => absurd (cv (by rcases hs with hs | hs <;> rcases ht with ht | ht <;> first | omega | exact absurd hs.2 ht.2 | exact absurd ht.2 hs.2 : ((¬ s = 0 ∧ ¬ t = 0) ∨ (s = 0 ∧ t = 0))) (by kernel_rfl)) k
    refine res_con rfl trivial (fun o _ _ ho => ?_)
    have ho := hold (cv ho (by kernel_rfl : _ = ([DV.n o] = yn ((f1, g1, numsOf z1) = (f2, g2, numsOf z2))))) h
    exact cv (one_n ho) (by kernel_rfl)
  · have h : ¬ ¬ ((f2 = a ∧ g2 = b) ∨ (f2 = b ∧ g2 = a)) := cv h (by kernel_rfl)
    exact cv (one_n (hs.resolve_right fun m => m.2 (end1 (Classical.not_not.1 h))).1) (by kernel_rfl)
set_option maxRecDepth 100000 in
theorem NetworkLost_any (v0 : Value) (u : Int) (w : World) (hG : Glb tb w) (g0 : NetA w v0) (hu : 0 ≤ u ∧ u ≤ 18446744073709551615) :
    Calls Try.prog 8 #[v0, .int .u64 u] w fun e w' => e = .returned (.bool true) ∧ Below w.heap.size w w' := by
  obtain ⟨Q, A, c0, rfl, h0⟩ := g0
  have cu := cell_u64 (w := w) hu
  have hQ : HasSh queS (.sl none 0 Q) := cells_fst h0
  refine law_of_walk (tb := tb) (P := Try.prog) fine (C := [lawCon 9 [], cFew 10, cChk 13, cDel 20, cLos 23, cRep 25, cSend 11, cSame 15]) (conCons cSane_ok (conCons cFew_ok (conCons cChk_ok (conCons cDel_ok (conCons cLos_ok (conCons cRep_ok (conCons cSend_ok (conCons cSame_ok noCon)))))))) 200 8 [.agg net, .c u64s] rfl (w := w) hG
    (xs := [.sl none 0 Q, .sl none 0 A, .n u]) ?_ ?_
  · exact ⟨_, [.n u], c0, rfl, rfl, h0, cu, by simp [ArgsV]⟩
  clear h0 cu
  have lQ := len_of hQ (Nat.le_refl _)
  have pQ := pks_len Q
  rw [tree_llost]
  refine res_con rfl trivial (fun z _ _ hz => ?_)
  obtain rfl := n_inj (show [DV.n z] = [DV.n 1] from hz)
  refine res_ite (fun h => absurd (show (1 : Int) = 0 from h) (by decide)) fun _ => ?_
  refine res_con rfl trivial (fun f _ _ hf => ?_)
  have hf := yn_01 (cv hf (by kernel_rfl : _ = ([DV.n f] = yn ((DV.sl none 0 Q).len ≤ 40 ∧ (DV.sl none 0 A).len ≤ 40))))
  refine res_ite (fun h => ?_) fun _ => rfl
  have h : ¬ f = 0 := cv h (by kernel_rfl)
  have few := (hf.resolve_right fun m => h m.1).2.1
  clear hf h
  refine res_con rfl trivial (fun c _ _ hc => ?_)
  have hc := chk_in (cv hc (by kernel_rfl : _ = ([DV.n c] = [.n (chkF (pks (.sl none 0 Q)) (prs (.sl none 0 A)))])))
  refine res_ite (fun _ => rfl) fun h => ?_
  have h : ¬ (¬ c = 0 ∨ (DV.sl none 0 Q).len = 0) := cv h (by kernel_rfl)
  have ok := (hc.resolve_right fun m => h (.inl (by omega))).2
  have l0 := len_nn (.sl none 0 Q)
  have hq : 0 < (DV.sl none 0 Q).len := by omega
  clear hc h
  have r0 := Int.tmod_nonneg (DV.sl none 0 Q).len hu.1
  have r1 := Int.tmod_lt_of_pos u (b := (DV.sl none 0 Q).len) hq
  have hin : inQ (pks (.sl none 0 Q)) (Int.tmod u (DV.sl none 0 Q).len) := by unfold inQ; omega
  obtain ⟨p1, p2⟩ := pk_at hQ (i := Int.tmod u (DV.sl none 0 Q).len) (by omega) (by omega)
  generalize hr : Int.tmod u (DV.sl none 0 Q).len = r at *
  have few2 : ¬ (pks (.sl none 0 Q)).length = 4096 := by omega
  refine res_con rfl trivial (fun f1 _ _ g1 _ _ z1 _ q1 _ a1 _ e1 _ _ h1 => ?_)
  have h1 := cv h1 (by rw [← hr]; kernel_rfl : _ = ((((f1, g1, numsOf z1), pks (.sl none 0 q1), prs (.sl none 0 a1), e1) : P3 × Net) = delQ (pks (.sl none 0 Q)) (prs (.sl none 0 A)) r))
  refine res_con rfl trivial (fun q2 _ a2 _ e2 _ _ h2 => ?_)
  have h2 := cv h2 (by rw [← hr]; kernel_rfl : _ = (((pks (.sl none 0 q2), prs (.sl none 0 a2), e2) : Net) = losQ (pks (.sl none 0 Q)) (prs (.sl none 0 A)) r))
  refine res_con rfl trivial (fun q3 hq3 a3 _ e3 _ _ h3 => ?_)
  have h3 := cv h3 (by rw [← hr]; kernel_rfl : _ = (((pks (.sl none 0 q3), prs (.sl none 0 a3), e3) : Net) = repQ (pks (.sl none 0 Q)) (prs (.sl none 0 A)) r))
  obtain ⟨k1, _, _, k1q, k1a, _⟩ := (del_in h1).resolve_right fun m => m.2.1 ⟨ok, hin⟩
  obtain ⟨k2, _, _, k2q, k2a⟩ := (los_in h2).resolve_right fun m => m.2.1 ⟨ok, hin⟩
  obtain ⟨k3, _, _, _, k3q, k3a⟩ := (rep_in h3).resolve_right fun m => m.2.1 ⟨ok, hin, few2⟩
  clear h1 h2 h3
  have hp := ok.2.1 _ (getQ hin)
  have ok3 : okP (pks (.sl none 0 q3)) (prs (.sl none 0 a3)) := by rw [k3q, k3a]; exact ok_add ok hp few2
  have ok2 : okP (pks (.sl none 0 q2)) (prs (.sl none 0 a2)) := by rw [k2q, k2a]; exact ok_er ok
  have hin3 : inQ (pks (.sl none 0 q3)) r := by rw [k3q]; unfold inQ at *; rw [List.length_append]; omega
  have n2 : ¬ (pks (.sl none 0 q2)).length = 4096 := by
    have := (List.eraseIdx_sublist (pks (.sl none 0 Q)) r.toNat).length_le
    rw [k2q]; omega
  refine res_con rfl trivial (fun q4 _ a4 _ e4 _ _ h4 => ?_)
  have h4 := cv h4 (by rw [← hr]; kernel_rfl : _ = (((pks (.sl none 0 q4), prs (.sl none 0 a4), e4) : Net) = losQ (pks (.sl none 0 q3)) (prs (.sl none 0 a3)) r))
  obtain ⟨k4, _, _, k4q, k4a⟩ := (los_in h4).resolve_right fun m => m.2.1 ⟨ok3, hin3⟩
  refine res_ok (cv (⟨r0, r1⟩ : 0 ≤ r ∧ r < (DV.sl none 0 Q).len) (by rw [← hr]; kernel_rfl)) ?_
  refine res_dat (.sl none 0 ((((DV.sl none 0 Q).cell r 2).els.take ((DV.sl none 0 Q).cell r 2).len.toNat).drop 0)) (by rw [← hr]; kernel_rfl) ?_
  rw [sub_all p2]
  refine res_con rfl trivial (fun q5 _ a5 _ e5 _ _ h5 => ?_)
  have h5 := cv h5 (by rw [← hr]; kernel_rfl : _ = (((pks (.sl none 0 q5), prs (.sl none 0 a5), e5) : Net) = sendQ (pks (.sl none 0 q2)) (prs (.sl none 0 a2)) ((DV.sl none 0 Q).at r 0, (DV.sl none 0 Q).at r 1, numsOf ((DV.sl none 0 Q).cell r 2).els)))
  rw [← p1] at h5
  obtain ⟨k5q, k5a, k5⟩ := net3_in (h5.trans (send_yes ⟨ok2, hp⟩ n2).symm)
  refine res_ite (fun _ => ?_) fun k => absurd (cv (⟨⟨⟨⟨k1, k2⟩, k3⟩, k4⟩, k5⟩ : (((e1 = 0 ∧ e2 = 0) ∧ e3 = 0) ∧ e4 = 0) ∧ e5 = 0) (by kernel_rfl)) k
  refine res_con rfl trivial (fun s1 _ _ hs1 => ?_)
  have hs1 := hold (cv hs1 (by kernel_rfl : _ = ([DV.n s1] = yn (pks (.sl none 0 q1) = pks (.sl none 0 q2) ∧ prs (.sl none 0 a1) = prs (.sl none 0 a2))))) ⟨by rw [k1q, k2q], by rw [k1a, k2a]⟩
  refine res_ite (fun _ => ?_) fun k => absurd (cv (by omega : ¬ s1 = 0) (by kernel_rfl)) k
  refine res_con rfl trivial (fun s2 _ _ hs2 => ?_)
  have hs2 := hold (cv hs2 (by kernel_rfl : _ = ([DV.n s2] = yn (pks (.sl none 0 q4) = pks (.sl none 0 q5) ∧ prs (.sl none 0 a4) = prs (.sl none 0 a5))))) ⟨by
    rw [k4q, k5q, k3q, k2q, List.eraseIdx_append_of_lt_length (by unfold inQ at hin; omega)], by rw [k4a, k5a, k3a, k2a]⟩
  have l3 := len_of hq3 (Nat.le_refl _)
  have p3 := pks_len q3
  rw [k3q, List.length_append] at p3
  simp only [List.length_cons, List.length_nil] at p3
  have hw : (DV.sl none 0 q3).len = IntKind.i64.wrap ((DV.sl none 0 Q).len + 1) := by rw [wI (by omega) (by omega)]; omega
  exact res_ite (fun _ => rfl) fun k => absurd (cv (⟨by omega, hw⟩ : ¬ s2 = 0 ∧ (DV.sl none 0 q3).len = IntKind.i64.wrap ((DV.sl none 0 Q).len + 1)) (by kernel_rfl)) k
end Go.Proofs.Ytmphcgafegmheaa
