/- DERIVED. The law that only what was sent is delivered, walked. -/
import Derived.Test.YtmphcgafegmheaaDmathb
import Derived.Test.YtmphcgafegmheaaDtreef
namespace Go.Proofs.Ytmphcgafegmheaa
open Go.Dx Go.RowKit
set_option linter.unusedVariables false
set_option linter.unusedSimpArgs false
theorem chk0 {q : List P3} {a : List (Int × Int)} {x : Int} (h : [DV.n x] = [DV.n (chkF q a)]) (ok : okP q a) : x = 0 := ((chk_in h).resolve_right fun m => m.2 ok).1
theorem u8_at {mx : Nat} {row : List Sh} {l : List (List DV)} (h : HasSh (.sl mx (u8s :: row)) (.sl none 0 l)) (i : Int) : 0 ≤ (DV.sl none 0 l).at i 0 := by
  show 0 ≤ ((l.getD i.toNat []).getD 0 (.n 0)).cint
  by_cases k : i.toNat < l.length
  · have he : HasShs (u8s :: row) (l.getD i.toNat []) := h.2 _ (getD_in [] k)
    match l.getD i.toNat [], he with
    | d :: e, he =>
      simp only [HasShs, HasSh] at he
      obtain ⟨⟨x, rfl, hx, _⟩, _⟩ := he
      show 0 ≤ clampB x
      rw [clampB_i64 (by omega) (by omega)]
      exact hx.1
    | [], he => simp [HasShs] at he
  · have e : l.getD i.toNat [] = [] := by rw [List.getD_eq_getElem?_getD, List.getElem?_eq_none (by omega)]; rfl
    rw [e]
    exact Int.le_refl 0
section
variable {k i x y d e c : Int} {q q' sent : List P3} {a a' : List (Int × Int)} {p : P3}
theorem run_er (h : hapR k q a i x y d (q', a', e) p) (k0 : 0 ≤ k) (k1 : k < 6) (he : ¬ e = 0) : q' = [] ∧ a' = [] := by
  rcases (by omega : k = 0 ∨ k = 1 ∨ k = 2 ∨ k = 3 ∨ k = 4 ∨ k = 5) with m | m | m | m | m | m
  · exact send_er (h.1 m).2 he
  · exact ((del_in (h.2.1 m)).resolve_left fun n => he n.1).2.2
  · exact ((los_in (h.2.2.1 m).2).resolve_left fun n => he n.1).2.2
  · exact ((rep_in (h.2.2.2.1 m).2).resolve_left fun n => he n.1).2.2
  · have := (cutQ_in (h.2.2.2.2.1 m).2).resolve_left fun n => he n.1
    exact ⟨this.2.2.1, this.2.2.2.1⟩
  · have := (cutQ_in (h.2.2.2.2.2 m).2).resolve_left fun n => he n.1
    exact ⟨this.2.2.1, this.2.2.2.1⟩
theorem run_0 (r : runP q a sent c) (h : hapR k q a i x y d (q', a', e) p) (m : k = 0) (he : e = 0) : q' = q ++ [(x, y, [d])] ∧ runP q' a' (sent ++ [(x, y, [d])]) c := by
  obtain ⟨n1, n2, n3, n4, n5⟩ := send_in (h.1 m).2 he
  refine ⟨n4, ?_, ?_, fun z => by rw [n5]; exact r.2.2 z⟩
  · rw [n4, n5]; exact ok_add n1 n2 n3
  · rw [n4]
    intro w hw
    rcases List.mem_append.1 hw with hw | hw
    · exact List.mem_append_left _ (r.2.1 w hw)
    · exact List.mem_append_right _ hw
theorem run_1 (r : runP q a sent c) (h : hapR k q a i x y d (q', a', e) p) (m : k = 1) (he : e = 0) : runP q' a' sent c ∧ (p ∈ sent ∨ (p = zero ∧ ¬ c = 0)) := by
  obtain ⟨_, n1, n2, n3, n4, n5⟩ := (del_in (h.2.1 m)).resolve_right fun n => n.1 he
  refine ⟨⟨?_, ?_, fun z => by rw [n4]; exact r.2.2 z⟩, ?_⟩
  · rw [n3, n4]; exact ok_er n1
  · rw [n3]; exact fun w hw => r.2.1 w (List.mem_of_mem_eraseIdx hw)
  · rcases n5 with n5 | n5
    · exact .inr ⟨n5.1, fun z => by have := n5.2; rw [r.2.2 z] at this; cases this⟩
    · exact .inl (by rw [n5.1]; exact r.2.1 _ (getQ n2))
theorem run_2 (r : runP q a sent c) (h : hapR k q a i x y d (q', a', e) p) (m : k = 2) (he : e = 0) : runP q' a' sent c := by
  obtain ⟨_, n1, n2, n3, n4⟩ := (los_in (h.2.2.1 m).2).resolve_right fun n => n.1 he
  refine ⟨?_, ?_, fun z => by rw [n4]; exact r.2.2 z⟩
  · rw [n3, n4]; exact ok_er n1
  · rw [n3]; exact fun w hw => r.2.1 w (List.mem_of_mem_eraseIdx hw)
theorem run_3 (r : runP q a sent c) (h : hapR k q a i x y d (q', a', e) p) (m : k = 3) (he : e = 0) : runP q' a' sent c := by
  obtain ⟨_, n1, n2, n3, n4, n5⟩ := (rep_in (h.2.2.2.1 m).2).resolve_right fun n => n.1 he
  refine ⟨?_, ?_, fun z => by rw [n5]; exact r.2.2 z⟩
  · rw [n4, n5]; exact ok_add n1 (n1.2.1 _ (getQ n2)) n3
  · rw [n4]
    intro w hw
    rcases List.mem_append.1 hw with hw | hw
    · exact r.2.1 w hw
    · rw [List.mem_singleton.1 hw]; exact r.2.1 _ (getQ n2)
theorem run_4 (r : runP q a sent c) (h : hapR k q a i x y d (q', a', e) p) (m : k = 4) (he : e = 0) (c0 : 0 ≤ c) : runP q' a' sent (c + 1) := by
  obtain ⟨_, n1, n2, n3, n4⟩ := (cutQ_in (h.2.2.2.2.1 m).2).resolve_right fun n => n.1 he
  refine ⟨?_, by rw [n3]; exact r.2.1, fun z => by omega⟩
  rw [n3]; exact ok_cut n1 (link_pr n2) n4
theorem run_5 (r : runP q a sent c) (h : hapR k q a i x y d (q', a', e) p) (m : k = 5) (he : e = 0) : runP q' a' sent c := by
  obtain ⟨_, n1, n2, n3, n4⟩ := (cutQ_in (h.2.2.2.2.2 m).2).resolve_right fun n => n.1 he
  refine ⟨?_, by rw [n3]; exact r.2.1, fun z => ?_⟩
  · rw [n3]; exact ok_cut n1 (link_pr n2) n4
  · have e0 := r.2.2 z
    refine List.eq_nil_iff_forall_not_mem.2 fun w hw => ?_
    rcases (n4.2 w).1 hw with n | n
    · exact n.2
    · rw [e0] at n; exact absurd n.2 List.not_mem_nil
end
set_option maxRecDepth 100000 in
theorem NetworkOnlySent_any (v0 : Value) (w : World) (hG : Glb tb w) (g0 : ∃ l, cellA w mvS (.sl none 0 l) v0) :
    Calls Try.prog 5 #[v0] w fun e w' => e = .returned (.bool true) ∧ Below w.heap.size w w' := by
  obtain ⟨M, h0⟩ := g0
  have hM : HasSh mvS (.sl none 0 M) := h0.1
  refine law_of_walk (tb := tb) (P := Try.prog) fine (C := [lawCon 9 [], cHap 27, cChk 13, cSameP 22, cSame 15, lRun, lRun2]) (conCons cSane_ok (conCons cHap_ok (conCons cChk_ok (conCons cSameP_ok (conCons cSame_ok (lopCons rfl (lopCons rfl noCon))))))) 200 5 [.c mvS] rfl (w := w) hG
    (xs := [.sl none 0 M]) ?_ ?_
  · exact ⟨h0, by simp [ArgsV]⟩
  clear h0
  have lM := len_of hM (Nat.le_refl _)
  rw [tree_lrun]
  refine res_con rfl trivial (fun z _ _ hz => ?_)
  obtain rfl := n_inj (show [DV.n z] = [DV.n 1] from hz)
  refine res_ite (fun h => absurd (show (1 : Int) = 0 from h) (by decide)) fun _ => ?_
  refine res_ite (fun _ => rfl) fun hm => ?_
  have hm : ¬ 60 < (DV.sl none 0 M).len := cv hm (by kernel_rfl)
  refine res_dat (.sl none 0 []) rfl (res_dat (.sl none 0 []) rfl (res_dat (.sl none 0 []) rfl ?_))
  refine res_lop_of rfl (P := (0 : Int) ≤ (DV.sl none 0 M).len ∧ (0 : Int) ≤ 0 ∧ (0 : Int) ≤ 0 ∧ runP [] [] [] 0) (by kernel_rfl) rfl ⟨len_nn _, Int.le_refl 0, Int.le_refl 0, okP_0, fun p hp => (by cases hp), fun _ => rfl⟩ (fun q hq a ha S hS c c0 c1 i i0 i1 hI => ?_)
  obtain ⟨hi, hc, hn, hr⟩ := cv hI (by kernel_rfl : _ = (i ≤ (DV.sl none 0 M).len ∧ c ≤ i ∧ (DV.sl none 0 S).len ≤ i ∧ runP (pks (.sl none 0 q)) (prs (.sl none 0 a)) (pks (.sl none 0 S)) c))
  have c0 : 0 ≤ c := c0
  have i0 : 0 ≤ i := i0
  have lS := len_of hS (Nat.le_refl _)
  have pS := pks_len S
  refine res_ite (fun hlt => ?_) fun _ => cv rfl (by kernel_rfl : ([DV.n 1] = [DV.n 1]) = _)
  have hlt : i < (DV.sl none 0 M).len := cv hlt (by kernel_rfl)
  have mea : ((DV.sl none 0 M).len - (i + 1)).toNat < ((DV.sl none 0 M).len - i).toNat := by omega
  have u0 := u8_at hM i
  have m0 := Int.tmod_nonneg 6 u0
  have m1 := Int.tmod_lt_of_pos ((DV.sl none 0 M).at i 0) (show (0 : Int) < 6 by decide)
  refine res_con rfl trivial (fun q1 hq1 a1 ha1 f _ _ g _ _ z hz e _ _ hw => ?_)
  have hw := cv hw (by kernel_rfl : _ = hapR (Int.tmod ((DV.sl none 0 M).at i 0) 6) (pks (.sl none 0 q)) (prs (.sl none 0 a)) (atF (pks (.sl none 0 q)) ((DV.sl none 0 M).at i 1)) (Int.tmod ((DV.sl none 0 M).at i 2) 24) (Int.tmod ((DV.sl none 0 M).at i 3) 24) ((DV.sl none 0 M).at i 4) (pks (.sl none 0 q1), prs (.sl none 0 a1), e) (f, g, numsOf z))
  refine res_ite (fun he => ?_) fun he => ?_
  · have he : ¬ e = 0 := cv he (by kernel_rfl)
    obtain ⟨eq, ea⟩ := run_er hw m0 m1 he
    refine res_con rfl trivial (fun d _ _ hd => ?_)
    have hd := chk0 (cv hd (by kernel_rfl : _ = ([DV.n d] = [.n (chkF (pks (.sl none 0 q)) (prs (.sl none 0 a)))]))) hr.1
    refine res_ite (fun _ => ?_) fun k => absurd (cv hd (by kernel_rfl)) k
    refine res_dat (.sl none 0 []) rfl (res_dat (.sl none 0 []) rfl (res_con rfl trivial (fun s _ _ hs => ?_)))
    have hs := hold (cv hs (by kernel_rfl : _ = ([DV.n s] = yn (pks (.sl none 0 q1) = [] ∧ prs (.sl none 0 a1) = [])))) ⟨eq, ea⟩
    refine res_ite (fun k => ?_) fun _ => ?_
    · have k : s = 0 := cv k (by kernel_rfl)
      omega
    exact res_chk_of rfl (P := i + 1 ≤ (DV.sl none 0 M).len ∧ c ≤ i + 1 ∧ (DV.sl none 0 S).len ≤ i + 1 ∧ runP (pks (.sl none 0 q)) (prs (.sl none 0 a)) (pks (.sl none 0 S)) c) (by kernel_rfl) (by kernel_rfl) (by kernel_rfl) ⟨by omega, by omega, by omega, hr⟩ mea
  have he : ¬ ¬ e = 0 := cv he (by kernel_rfl)
  have he : e = 0 := Classical.not_not.1 he
  refine res_ite (fun k0 => ?_) fun k0 => ?_
  · have k0 : Int.tmod ((DV.sl none 0 M).at i 0) 6 = 0 := cv k0 (by kernel_rfl)
    obtain ⟨kq, kr⟩ := run_0 hr hw k0 he
    have l1 := len_of hq1 (Nat.le_refl _)
    have p1 := pks_len q1
    have p2 := congrArg List.length kq
    rw [List.length_append] at p2
    simp only [List.length_cons, List.length_nil] at p2
    refine res_ite (fun k => ?_) fun _ => ?_
    · have k : (DV.sl none 0 q1).len = 0 := cv k (by kernel_rfl)
      omega
    refine res_ok (cv (⟨by omega, by omega⟩ : 0 ≤ (DV.sl none 0 q1).len - 1 ∧ (DV.sl none 0 q1).len - 1 < (DV.sl none 0 q1).len) (by kernel_rfl)) ?_
    refine res_ok (cv (by omega : (DV.sl none 0 S).len + 1 ≤ 3432621667203) (by kernel_rfl)) ?_
    obtain ⟨e1, e2⟩ := pk_at hq1 (i := (DV.sl none 0 q1).len - 1) (by omega) (by omega)
    have e3 : (pks (.sl none 0 q1)).getD ((DV.sl none 0 q1).len - 1).toNat zero = (Int.tmod ((DV.sl none 0 M).at i 2) 24, Int.tmod ((DV.sl none 0 M).at i 3) 24, [(DV.sl none 0 M).at i 4]) := by
      rw [kq, show ((DV.sl none 0 q1).len - 1).toNat = (pks (.sl none 0 q)).length by omega, List.getD_eq_getElem?_getD, List.getElem?_append_right (Nat.le_refl _), Nat.sub_self]
      rfl
    refine res_dat (.sl none 0 [[.n ((DV.sl none 0 q1).at ((DV.sl none 0 q1).len - 1) 0), .n ((DV.sl none 0 q1).at ((DV.sl none 0 q1).len - 1) 1), (DV.sl none 0 q1).cell ((DV.sl none 0 q1).len - 1) 2]]) (by kernel_rfl) ?_
    refine res_dat (.sl none 0 (S ++ [[.n ((DV.sl none 0 q1).at ((DV.sl none 0 q1).len - 1) 0), .n ((DV.sl none 0 q1).at ((DV.sl none 0 q1).len - 1) 1), (DV.sl none 0 q1).cell ((DV.sl none 0 q1).len - 1) 2]])) (by kernel_rfl) ?_
    refine res_con rfl trivial (fun d _ _ hd => ?_)
    have hd := chk0 (cv hd (by kernel_rfl : _ = ([DV.n d] = [.n (chkF (pks (.sl none 0 q1)) (prs (.sl none 0 a1)))]))) kr.1
    refine res_ite (fun k => absurd hd (cv k (by kernel_rfl))) fun _ => ?_
    rw [← e3, e1] at kr
    refine res_chk_of rfl (P := i + 1 ≤ (DV.sl none 0 M).len ∧ c ≤ i + 1 ∧ (DV.sl none 0 (S ++ [[.n ((DV.sl none 0 q1).at ((DV.sl none 0 q1).len - 1) 0), .n ((DV.sl none 0 q1).at ((DV.sl none 0 q1).len - 1) 1), (DV.sl none 0 q1).cell ((DV.sl none 0 q1).len - 1) 2]])).len ≤ i + 1 ∧ runP (pks (.sl none 0 q1)) (prs (.sl none 0 a1)) (pks (.sl none 0 (S ++ [[.n ((DV.sl none 0 q1).at ((DV.sl none 0 q1).len - 1) 0), .n ((DV.sl none 0 q1).at ((DV.sl none 0 q1).len - 1) 1), (DV.sl none 0 q1).cell ((DV.sl none 0 q1).len - 1) 2]]))) c) (by kernel_rfl) (by kernel_rfl) (by kernel_rfl) ⟨by omega, by omega, ?_, by rw [pks_app]; exact kr⟩ mea
    generalize [DV.n ((DV.sl none 0 q1).at ((DV.sl none 0 q1).len - 1) 0), .n ((DV.sl none 0 q1).at ((DV.sl none 0 q1).len - 1) 1), (DV.sl none 0 q1).cell ((DV.sl none 0 q1).len - 1) 2] = row
    have l3 : (S ++ [row]).length = S.length + 1 := List.length_append
    have : (DV.sl none 0 (S ++ [row])).len = ((S ++ [row]).length : Int) := clampL_eq (show (S ++ [row]).length ≤ 9223372036854775807 by omega)
    omega
  have k0 : ¬ Int.tmod ((DV.sl none 0 M).at i 0) 6 = 0 := cv k0 (by kernel_rfl)
  refine res_ite (fun k1 => ?_) fun k1 => ?_
  · have k1 : Int.tmod ((DV.sl none 0 M).at i 0) 6 = 1 := cv k1 (by kernel_rfl)
    obtain ⟨kr, kp⟩ := run_1 hr hw k1 he
    refine res_dat (.sl none 0 []) rfl (res_con rfl trivial (fun s _ _ hs => ?_))
    have hs := cv hs (by kernel_rfl : _ = ([DV.n s] = yn ((f, g, numsOf z) = zero)))
    refine res_ite (fun hz => ?_) fun hz => ?_
    · refine res_lop_of rfl (P := (0 : Int) ≤ (DV.sl none 0 S).len ∧ (¬ s = 0 ∧ 0 < c → (1 : Int) = 1) ∧ ((f, g, numsOf z) ∈ (pks (.sl none 0 S)).take (0 : Int).toNat → (1 : Int) = 1)) (by kernel_rfl) rfl ⟨len_nn _, fun _ => rfl, fun m => by simp at m⟩ (fun o o0 o1 j j0 j1 hJ => ?_)
      obtain ⟨hj, hJ1, hJ2⟩ := cv hJ (by kernel_rfl : _ = (j ≤ (DV.sl none 0 S).len ∧ (¬ s = 0 ∧ 0 < c → o = 1) ∧ ((f, g, numsOf z) ∈ (pks (.sl none 0 S)).take j.toNat → o = 1)))
      have o0 : 0 ≤ o := o0
      have o1 : o ≤ 1 := o1
      have j0 : 0 ≤ j := j0
      refine res_ite (fun hlt => ?_) fun hge => ?_
      · have hlt : j < (DV.sl none 0 S).len := cv hlt (by kernel_rfl)
        have mea : ((DV.sl none 0 S).len - (j + 1)).toNat < ((DV.sl none 0 S).len - j).toNat := by omega
        refine res_ite (fun ho => ?_) fun ho => ?_
        · have ho : o = 0 := cv ho (by kernel_rfl)
          obtain ⟨p1, p2⟩ := pk_at hS j0 (by omega)
          refine res_dat (.sl none 0 ((((DV.sl none 0 S).cell j 2).els.take ((DV.sl none 0 S).cell j 2).len.toNat).drop 0)) (by kernel_rfl) ?_
          rw [sub_all p2]
          refine res_con rfl trivial (fun t _ _ ht => ?_)
          have ht := cv ht (by kernel_rfl : _ = ([DV.n t] = yn (((DV.sl none 0 S).at j 0, (DV.sl none 0 S).at j 1, numsOf ((DV.sl none 0 S).cell j 2).els) = (f, g, numsOf z))))
          rw [← p1] at ht
          refine res_chk_of rfl (P := j + 1 ≤ (DV.sl none 0 S).len ∧ (¬ s = 0 ∧ 0 < c → t = 1) ∧ ((f, g, numsOf z) ∈ (pks (.sl none 0 S)).take (j + 1).toNat → t = 1)) (by kernel_rfl) (by kernel_rfl) (by kernel_rfl) ⟨by omega, fun m => by have := hJ1 m; omega, fun m => ?_⟩ mea
          rw [take_next zero j0 (by omega)] at m
          rcases List.mem_append.1 m with m | m
          · have := hJ2 m; omega
          · exact hold ht (List.mem_singleton.1 m).symm
        · have ho : ¬ o = 0 := cv ho (by kernel_rfl)
          exact res_chk_of rfl (P := j + 1 ≤ (DV.sl none 0 S).len ∧ (¬ s = 0 ∧ 0 < c → (1 : Int) = 1) ∧ ((f, g, numsOf z) ∈ (pks (.sl none 0 S)).take (j + 1).toNat → (1 : Int) = 1)) (by kernel_rfl) (by kernel_rfl) (by kernel_rfl) ⟨by omega, fun _ => rfl, fun _ => rfl⟩ mea
      have hge : ¬ j < (DV.sl none 0 S).len := cv hge (by kernel_rfl)
      refine res_ite (fun ho => ?_) fun _ => ?_
      · have ho : o = 0 := cv ho (by kernel_rfl)
        exfalso
        rcases kp with kp | kp
        · have := hJ2 (by rw [show j.toNat = (pks (.sl none 0 S)).length by omega, List.take_length]; exact kp)
          omega
        · have := hJ1 ⟨by have := hold hs kp.1; omega, by omega⟩
          omega
      refine res_con rfl trivial (fun d _ _ hd => ?_)
      have hd := chk0 (cv hd (by kernel_rfl : _ = ([DV.n d] = [.n (chkF (pks (.sl none 0 q1)) (prs (.sl none 0 a1)))]))) kr.1
      refine res_ite (fun k => absurd hd (cv k (by kernel_rfl))) fun _ => ?_
      exact res_chk_of rfl (P := i + 1 ≤ (DV.sl none 0 M).len ∧ c ≤ i + 1 ∧ (DV.sl none 0 S).len ≤ i + 1 ∧ runP (pks (.sl none 0 q1)) (prs (.sl none 0 a1)) (pks (.sl none 0 S)) c) (by kernel_rfl) (by kernel_rfl) (by kernel_rfl) ⟨by omega, by omega, by omega, kr⟩ mea
    · have hz : ¬ (¬ s = 0 ∧ 0 < c) := cv hz (by kernel_rfl)
      refine res_lop_of rfl (P := (0 : Int) ≤ (DV.sl none 0 S).len ∧ (¬ s = 0 ∧ 0 < c → (0 : Int) = 1) ∧ ((f, g, numsOf z) ∈ (pks (.sl none 0 S)).take (0 : Int).toNat → (0 : Int) = 1)) (by kernel_rfl) rfl ⟨len_nn _, fun m => absurd m hz, fun m => by simp at m⟩ (fun o o0 o1 j j0 j1 hJ => ?_)
      obtain ⟨hj, hJ1, hJ2⟩ := cv hJ (by kernel_rfl : _ = (j ≤ (DV.sl none 0 S).len ∧ (¬ s = 0 ∧ 0 < c → o = 1) ∧ ((f, g, numsOf z) ∈ (pks (.sl none 0 S)).take j.toNat → o = 1)))
      have o0 : 0 ≤ o := o0
      have o1 : o ≤ 1 := o1
      have j0 : 0 ≤ j := j0
      refine res_ite (fun hlt => ?_) fun hge => ?_
      · have hlt : j < (DV.sl none 0 S).len := cv hlt (by kernel_rfl)
        have mea : ((DV.sl none 0 S).len - (j + 1)).toNat < ((DV.sl none 0 S).len - j).toNat := by omega
        refine res_ite (fun ho => ?_) fun ho => ?_
        · have ho : o = 0 := cv ho (by kernel_rfl)
          obtain ⟨p1, p2⟩ := pk_at hS j0 (by omega)
          refine res_dat (.sl none 0 ((((DV.sl none 0 S).cell j 2).els.take ((DV.sl none 0 S).cell j 2).len.toNat).drop 0)) (by kernel_rfl) ?_
          rw [sub_all p2]
          refine res_con rfl trivial (fun t _ _ ht => ?_)
          have ht := cv ht (by kernel_rfl : _ = ([DV.n t] = yn (((DV.sl none 0 S).at j 0, (DV.sl none 0 S).at j 1, numsOf ((DV.sl none 0 S).cell j 2).els) = (f, g, numsOf z))))
          rw [← p1] at ht
          refine res_chk_of rfl (P := j + 1 ≤ (DV.sl none 0 S).len ∧ (¬ s = 0 ∧ 0 < c → t = 1) ∧ ((f, g, numsOf z) ∈ (pks (.sl none 0 S)).take (j + 1).toNat → t = 1)) (by kernel_rfl) (by kernel_rfl) (by kernel_rfl) ⟨by omega, fun m => by have := hJ1 m; omega, fun m => ?_⟩ mea
          rw [take_next zero j0 (by omega)] at m
          rcases List.mem_append.1 m with m | m
          · have := hJ2 m; omega
          · exact hold ht (List.mem_singleton.1 m).symm
        · have ho : ¬ o = 0 := cv ho (by kernel_rfl)
          exact res_chk_of rfl (P := j + 1 ≤ (DV.sl none 0 S).len ∧ (¬ s = 0 ∧ 0 < c → (1 : Int) = 1) ∧ ((f, g, numsOf z) ∈ (pks (.sl none 0 S)).take (j + 1).toNat → (1 : Int) = 1)) (by kernel_rfl) (by kernel_rfl) (by kernel_rfl) ⟨by omega, fun _ => rfl, fun _ => rfl⟩ mea
      have hge : ¬ j < (DV.sl none 0 S).len := cv hge (by kernel_rfl)
      refine res_ite (fun ho => ?_) fun _ => ?_
      · have ho : o = 0 := cv ho (by kernel_rfl)
        exfalso
        rcases kp with kp | kp
        · have := hJ2 (by rw [show j.toNat = (pks (.sl none 0 S)).length by omega, List.take_length]; exact kp)
          omega
        · have := hJ1 ⟨by have := hold hs kp.1; omega, by omega⟩
          omega
      refine res_con rfl trivial (fun d _ _ hd => ?_)
      have hd := chk0 (cv hd (by kernel_rfl : _ = ([DV.n d] = [.n (chkF (pks (.sl none 0 q1)) (prs (.sl none 0 a1)))]))) kr.1
      refine res_ite (fun k => absurd hd (cv k (by kernel_rfl))) fun _ => ?_
      exact res_chk_of rfl (P := i + 1 ≤ (DV.sl none 0 M).len ∧ c ≤ i + 1 ∧ (DV.sl none 0 S).len ≤ i + 1 ∧ runP (pks (.sl none 0 q1)) (prs (.sl none 0 a1)) (pks (.sl none 0 S)) c) (by kernel_rfl) (by kernel_rfl) (by kernel_rfl) ⟨by omega, by omega, by omega, kr⟩ mea
  have k1 : ¬ Int.tmod ((DV.sl none 0 M).at i 0) 6 = 1 := cv k1 (by kernel_rfl)
  refine res_ite (fun k4 => ?_) fun k4 => ?_
  · have k4 : Int.tmod ((DV.sl none 0 M).at i 0) 6 = 4 := cv k4 (by kernel_rfl)
    have kr := run_4 hr hw k4 he c0
    refine res_con rfl trivial (fun d _ _ hd => ?_)
    have hd := chk0 (cv hd (by kernel_rfl : _ = ([DV.n d] = [.n (chkF (pks (.sl none 0 q1)) (prs (.sl none 0 a1)))]))) kr.1
    refine res_ite (fun k => absurd hd (cv k (by kernel_rfl))) fun _ => ?_
    refine res_ok (cv (⟨by omega, by omega⟩ : 0 ≤ c + 1 ∧ c + 1 ≤ 60) (by kernel_rfl)) ?_
    exact res_chk_of rfl (P := i + 1 ≤ (DV.sl none 0 M).len ∧ c + 1 ≤ i + 1 ∧ (DV.sl none 0 S).len ≤ i + 1 ∧ runP (pks (.sl none 0 q1)) (prs (.sl none 0 a1)) (pks (.sl none 0 S)) (c + 1)) (by kernel_rfl) (by kernel_rfl) (by kernel_rfl) ⟨by omega, by omega, by omega, kr⟩ mea
  have k4 : ¬ Int.tmod ((DV.sl none 0 M).at i 0) 6 = 4 := cv k4 (by kernel_rfl)
  have kr : runP (pks (.sl none 0 q1)) (prs (.sl none 0 a1)) (pks (.sl none 0 S)) c := by
    rcases (by omega : Int.tmod ((DV.sl none 0 M).at i 0) 6 = 2 ∨ Int.tmod ((DV.sl none 0 M).at i 0) 6 = 3 ∨ Int.tmod ((DV.sl none 0 M).at i 0) 6 = 5) with m | m | m
    · exact run_2 hr hw m he
    · exact run_3 hr hw m he
    · exact run_5 hr hw m he
  refine res_con rfl trivial (fun d _ _ hd => ?_)
  have hd := chk0 (cv hd (by kernel_rfl : _ = ([DV.n d] = [.n (chkF (pks (.sl none 0 q1)) (prs (.sl none 0 a1)))]))) kr.1
  refine res_ite (fun k => absurd hd (cv k (by kernel_rfl))) fun _ => ?_
  exact res_chk_of rfl (P := i + 1 ≤ (DV.sl none 0 M).len ∧ c ≤ i + 1 ∧ (DV.sl none 0 S).len ≤ i + 1 ∧ runP (pks (.sl none 0 q1)) (prs (.sl none 0 a1)) (pks (.sl none 0 S)) c) (by kernel_rfl) (by kernel_rfl) (by kernel_rfl) ⟨by omega, by omega, by omega, kr⟩ mea
end Go.Proofs.Ytmphcgafegmheaa
