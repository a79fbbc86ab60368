/- DERIVED. The examples, reckoned; equal lists of pairs; arguments of laws. -/
import Derived.Test.YtmphcgafegmheaaDctf
import Derived.Test.YtmphcgafegmheaaDconc
import Derived.OpenShut
namespace Go.Proofs.Ytmphcgafegmheaa
open Go.Dx Go.RowKit
set_option linter.unusedVariables false
set_option linter.unusedSimpArgs false
/-- Sorted lists with the same pairs are equal. -/
theorem sort_eq : ∀ {s t : List (Int × Int)}, s.Pairwise ltP → t.Pairwise ltP → (∀ p, p ∈ s ↔ p ∈ t) → s = t
  | [], [], _, _, _ => rfl
  | [], y :: t, _, _, h => absurd ((h y).2 (List.mem_cons_self ..)) (List.not_mem_nil)
  | x :: s, [], _, _, h => absurd ((h x).1 (List.mem_cons_self ..)) (List.not_mem_nil)
  | x :: s, y :: t, hs, ht, h => by
    obtain ⟨s1, s2⟩ := List.pairwise_cons.1 hs
    obtain ⟨t1, t2⟩ := List.pairwise_cons.1 ht
    have e : x = y := by
      rcases List.mem_cons.1 ((h x).1 (List.mem_cons_self ..)) with e | hx
      · exact e
      · rcases List.mem_cons.1 ((h y).2 (List.mem_cons_self ..)) with e | hy
        · exact e.symm
        · exact absurd (ltP_trans (t1 x hx) (s1 y hy)) ltP_irr
    subst e
    rw [sort_eq s2 t2 fun p => ⟨fun hp => ?_, fun hp => ?_⟩]
    · rcases List.mem_cons.1 ((h p).1 (List.mem_cons_of_mem _ hp)) with e | k
      · rw [e] at hp; exact absurd (s1 x hp) ltP_irr
      · exact k
    · rcases List.mem_cons.1 ((h p).2 (List.mem_cons_of_mem _ hp)) with e | k
      · rw [e] at hp; exact absurd (t1 x hp) ltP_irr
      · exact k
theorem cutR_eq {a : List (Int × Int)} {l : Int × Int} {on : Prop} {s t : List (Int × Int)} (h : cutR a l on s) (k : cutR a l on t) : s = t :=
  sort_eq h.1 k.1 fun p => (h.2 p).trans (k.2 p).symm
theorem cutQ_eq {q : List P3} {a : List (Int × Int)} {x y : Int} {on : Prop} {r t : Net} (h : cutQ q a x y on r) (k : cutQ q a x y on t) : r = t := by
  rcases h with ⟨h1, h2⟩ | ⟨h1, h2, h3⟩ | ⟨h1, h2, h3, h4, h5⟩ <;> rcases k with ⟨k1, k2⟩ | ⟨k1, k2, k3⟩ | ⟨k1, k2, k3, k4, k5⟩
  · rw [h2, k2]
  · exact absurd k1 h1
  · exact absurd k1 h1
  · exact absurd h1 k1
  · rw [h3, k3]
  · exact absurd k2 h2
  · exact absurd h1 k1
  · exact absurd h2 k2
  · obtain ⟨r1, r2, r3⟩ := r; obtain ⟨t1, t2, t3⟩ := t
    simp only at *
    rw [h3, k3, cutR_eq h4 k4, h5, k5]
abbrev pA : P3 := (1, 3, [7])
theorem pA_ok : pkP pA := by unfold pkP siteP; decide
theorem okP_0 : okP [] [] := ⟨by decide, fun p hp => (by cases hp), fun p hp => (by cases hp), List.Pairwise.nil⟩
theorem okP_1 : okP [pA] [] := ⟨by decide, fun p hp => by rw [List.mem_singleton.1 hp]; exact pA_ok, fun p hp => (by cases hp), List.Pairwise.nil⟩
theorem okP_2 : okP [pA, pA] [] := ⟨by decide, fun p hp => by
  rcases List.mem_cons.1 hp with e | h
  · rw [e]; exact pA_ok
  · rw [List.mem_singleton.1 h]; exact pA_ok, fun p hp => (by cases hp), List.Pairwise.nil⟩
theorem okP_3 : okP [pA, pA] [(1, 3)] := ⟨by decide, okP_2.2.1, fun p hp => by rw [List.mem_singleton.1 hp]; unfold prP siteP; decide, by simp⟩
theorem net3_in {q q' : List P3} {a a' : List (Int × Int)} {e e' : Int} (h : ((q', a', e') : Net) = (q, a, e)) : q' = q ∧ a' = a ∧ e' = e := ⟨(Prod.mk.inj h).1, (Prod.mk.inj (Prod.mk.inj h).2).1, (Prod.mk.inj (Prod.mk.inj h).2).2⟩
theorem del4_in {p p' : P3} {q q' : List P3} {a a' : List (Int × Int)} {e e' : Int} (h : ((p', q', a', e') : P3 × Net) = (p, q, a, e)) : p' = p ∧ q' = q ∧ a' = a ∧ e' = e := ⟨(Prod.mk.inj h).1, net3_in (Prod.mk.inj h).2⟩
theorem nil_of {q : List (List DV)} (h : pks (.sl none 0 q) = []) : q = [] := by
  have := congrArg List.length h
  rw [pks_len] at this
  exact List.eq_nil_of_length_eq_zero this
set_option maxRecDepth 100000 in
theorem sane_walk (w : World) (hG : Glb tb w) : Calls Try.prog 9 #[] w fun e w' => e = .returned (.bool true) ∧ Below w.heap.size w w' := by
  refine law_of_walk (tb := tb) (P := Try.prog) fine (C := [cSend 11, cDel 20, cCut 18, cRep 25, cChk 13, cSameP 22, cSame 15]) (conCons cSend_ok (conCons cDel_ok (conCons cCut_ok (conCons cRep_ok (conCons cChk_ok (conCons cSameP_ok (conCons cSame_ok noCon))))))) 400 9 [] rfl (w := w) hG (xs := []) (by simp [ArgsV]) ?_
  rw [tree_sane]
  refine res_dat (.sl none 0 []) rfl (res_dat (.sl none 0 []) rfl ?_)
  refine res_con rfl trivial (fun f1 _ _ g1 _ _ z1 _ q1 _ a1 _ e1 _ _ h1 => ?_)
  obtain ⟨_, _, _, h1⟩ := del4_in (cv h1 (by kernel_rfl : _ = ((((f1, g1, numsOf z1), pks (.sl none 0 q1), prs (.sl none 0 a1), e1) : P3 × Net) = delQ [] [] 0)) |>.trans (del_out okP_0 (by decide)).symm)
  refine res_dat (.sl none 0 []) rfl (res_dat (.sl none 0 []) rfl (res_dat (.sl none 0 []) rfl ?_))
  refine res_con rfl trivial (fun q2 _ a2 _ e2 _ _ h2 => ?_)
  obtain ⟨_, _, h2⟩ := net3_in (cv h2 (by kernel_rfl : _ = (((pks (.sl none 0 q2), prs (.sl none 0 a2), e2) : Net) = sendQ [] [] (3, 3, []))) |>.trans (send_no fun m => by have := m.2.1.2; exact this rfl).symm)
  refine res_dat (.sl none 0 []) rfl (res_dat (.sl none 0 []) rfl ?_)
  refine res_con rfl trivial (fun q3 _ a3 _ e3 _ _ h3 => ?_)
  obtain ⟨_, _, h3⟩ := net3_in (cutQ_eq (cv h3 (by kernel_rfl : _ = cutQ [] [] 2 2 ((1 : Int) = 1) (pks (.sl none 0 q3), prs (.sl none 0 a3), e3))) (cut_out okP_0 fun m => m.2 rfl))
  refine res_dat (.sl none 0 []) rfl (res_dat (.sl none 0 []) rfl (res_dat (.sl none 0 [[.n 7]]) rfl ?_))
  refine res_con rfl trivial (fun q4 hq4 a4 ha4 e4 _ _ h4 => ?_)
  obtain ⟨h4q, h4a, h4⟩ := net3_in (cv h4 (by kernel_rfl : _ = (((pks (.sl none 0 q4), prs (.sl none 0 a4), e4) : Net) = sendQ [] [] pA)) |>.trans (send_yes ⟨okP_0, pA_ok⟩ (by decide)).symm)
  refine res_con rfl trivial (fun q5 hq5 a5 ha5 e5 _ _ h5 => ?_)
  have h5 := cv h5 (by kernel_rfl : _ = (((pks (.sl none 0 q5), prs (.sl none 0 a5), e5) : Net) = repQ (pks (.sl none 0 q4)) (prs (.sl none 0 a4)) 0))
  rw [h4q, h4a] at h5
  obtain ⟨h5q, h5a, h5⟩ := net3_in (h5.trans (rep_yes (q := [] ++ [pA]) okP_1 (by decide) (by decide)).symm)
  refine res_con rfl trivial (fun q6 hq6 a6 ha6 e6 _ _ h6 => ?_)
  have h6 := cv h6 (by kernel_rfl : _ = cutQ (pks (.sl none 0 q5)) (prs (.sl none 0 a5)) 3 1 ((1 : Int) = 1) (pks (.sl none 0 q6), prs (.sl none 0 a6), e6))
  rw [h5q, h5a] at h6
  obtain ⟨h6q, h6a, h6⟩ := net3_in (cutQ_eq h6 (cut_yes (q := [pA, pA]) (s := [(1, 3)]) okP_2 (by unfold siteP; decide) ⟨by simp, fun p => by
    have : link 3 1 = (1, 3) := rfl
    rw [this]
    simp⟩))
  refine res_con rfl trivial (fun f7 _ _ g7 _ _ z7 hz7 q7 hq7 a7 ha7 e7 _ _ h7 => ?_)
  have h7 := cv h7 (by kernel_rfl : _ = ((((f7, g7, numsOf z7), pks (.sl none 0 q7), prs (.sl none 0 a7), e7) : P3 × Net) = delQ (pks (.sl none 0 q5)) (prs (.sl none 0 a5)) 0))
  rw [h5q, h5a] at h7
  obtain ⟨h7p, h7q, h7a, h7⟩ := del4_in (h7.trans (del_yes (q := [pA, pA]) (a := []) (k := 0) okP_2 (by decide) List.not_mem_nil).symm)
  refine res_con rfl trivial (fun f8 _ _ g8 _ _ z8 hz8 q8 hq8 a8 ha8 e8 _ _ h8 => ?_)
  have h8 := cv h8 (by kernel_rfl : _ = ((((f8, g8, numsOf z8), pks (.sl none 0 q8), prs (.sl none 0 a8), e8) : P3 × Net) = delQ (pks (.sl none 0 q6)) (prs (.sl none 0 a6)) 1))
  rw [h6q, h6a] at h8
  obtain ⟨h8p, h8q, h8a, h8⟩ := del4_in (h8.trans (del_cut (q := [pA, pA]) (a := [(1, 3)]) (k := 1) okP_3 (by decide) (List.mem_singleton.2 rfl)).symm)
  refine res_dat (.sl none 0 []) rfl (res_dat (.sl none 0 []) rfl ?_)
  refine res_con rfl trivial (fun c _ _ hc => ?_)
  have hc := (chk_in (cv hc (by kernel_rfl : _ = ([DV.n c] = [.n (chkF [] [])])))).resolve_right (fun m => m.2 okP_0)
  refine res_ite (fun _ => ?_) fun k => absurd (cv (⟨⟨⟨⟨⟨⟨⟨⟨hc.1, h1⟩, h2⟩, h3⟩, h4⟩, h5⟩, h6⟩, h7⟩, h8⟩ : (((((((c = 0 ∧ e1 = 1) ∧ e2 = 60) ∧ e3 = 1) ∧ e4 = 0) ∧ e5 = 0) ∧ e6 = 0) ∧ e7 = 0) ∧ e8 = 0) (by kernel_rfl)) k
  refine res_dat (.sl none 0 [[.n 7]]) rfl (res_con rfl trivial (fun b1 _ _ hb1 => ?_))
  have hb1 := (yn_01 (cv hb1 (by kernel_rfl : _ = ([DV.n b1] = yn (pA = (f7, g7, numsOf z7)))))).resolve_right fun m => m.2 h7p.symm
  refine res_ite (fun _ => ?_) fun k => absurd (cv (by omega : ¬ b1 = 0) (by kernel_rfl)) k
  refine res_dat (.sl none 0 []) rfl (res_con rfl trivial (fun b2 _ _ hb2 => ?_))
  have hb2 := (yn_01 (cv hb2 (by kernel_rfl : _ = ([DV.n b2] = yn ((f8, g8, numsOf z8) = zero))))).resolve_right fun m => m.2 h8p
  refine res_ite (fun _ => ?_) fun k => absurd (cv (by omega : ¬ b2 = 0) (by kernel_rfl)) k
  refine res_con rfl trivial (fun b3 _ _ hb3 => ?_)
  have hb3 := (yn_01 (cv hb3 (by kernel_rfl : _ = ([DV.n b3] = yn (pks (.sl none 0 q7) = pks (.sl none 0 q4) ∧ prs (.sl none 0 a7) = prs (.sl none 0 a4)))))).resolve_right fun m => m.2 ⟨by rw [h7q, h4q]; rfl, by rw [h7a, h4a]⟩
  have la := len_of ha6 (Nat.le_refl _)
  have lq := len_of hq6 (Nat.le_refl _)
  have pa := prs_len a6
  have pq := pks_len q6
  rw [h6a] at pa
  rw [h6q] at pq
  simp only [List.length_cons, List.length_nil, List.length_append] at pa pq
  have ea := pr_at ha6 (i := 0) (by omega) (by omega)
  rw [h6a] at ea
  have ea : ((1 : Int), (3 : Int)) = ((DV.sl none 0 a6).at 0 0, (DV.sl none 0 a6).at 0 1) := ea
  refine res_ite (fun _ => rfl) fun k => absurd (cv (⟨⟨⟨by omega, by omega⟩, (Prod.mk.inj ea).1.symm, (Prod.mk.inj ea).2.symm⟩, by omega⟩ : (((¬ b3 = 0) ∧ (DV.sl none 0 a6).len = 1) ∧ (DV.sl none 0 a6).at 0 0 = 1 ∧ (DV.sl none 0 a6).at 0 1 = 3) ∧ (DV.sl none 0 q6).len = 2) (by kernel_rfl)) k
theorem cSane_ok (N : Nat) (w0 : World) : ConOk Try.prog tb N w0 (lawCon 9 []) := trueCon_ok sane_walk
end Go.Proofs.Ytmphcgafegmheaa
