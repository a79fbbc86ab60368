/- DERIVED. The law that all is delivered in the end, walked. -/
import Derived.Test.YtmphcgafegmheaaDlawc
import Derived.Test.YtmphcgafegmheaaDtreeg
namespace Go.Proofs.Ytmphcgafegmheaa
open Go.Dx Go.RowKit
set_option linter.unusedVariables false
set_option linter.unusedSimpArgs false
set_option maxRecDepth 100000 in
theorem NetworkAll_any (v0 v1 : Value) (w : World) (hG : Glb tb w) (g0 : ∃ l, cellA w queS (.sl none 0 l) v0) (g1 : ∃ l, cellA w u8L (.sl none 0 l) v1) :
    Calls Try.prog 6 #[v0, v1] w fun e w' => e = .returned (.bool true) ∧ Below w.heap.size w w' := by
  obtain ⟨L, h0⟩ := g0
  obtain ⟨O, h1⟩ := g1
  have hL : HasSh queS (.sl none 0 L) := h0.1
  have hO : HasSh u8L (.sl none 0 O) := h1.1
  refine law_of_walk (tb := tb) (P := Try.prog) fine (C := [lawCon 9 [], cSend 11, cDel 20, cSameP 22, lAll, lAll2]) (conCons cSane_ok (conCons cSend_ok (conCons cDel_ok (conCons cSameP_ok (lopCons rfl (lopCons rfl noCon)))))) 200 6 [.c queS, .c u8L] rfl (w := w) hG
    (xs := [.sl none 0 L, .sl none 0 O]) ?_ ?_
  · exact ⟨h0, h1, by simp [ArgsV]⟩
  clear h0 h1
  have lL := len_of hL (Nat.le_refl _)
  rw [tree_lall]
  refine res_con rfl trivial (fun z _ _ hz => ?_)
  obtain rfl := n_inj (show [DV.n z] = [DV.n 1] from hz)
  refine res_ite (fun h => absurd (show (1 : Int) = 0 from h) (by decide)) fun _ => ?_
  refine res_ite (fun _ => rfl) fun hm => ?_
  have hm : ¬ 12 < (DV.sl none 0 L).len := cv hm (by kernel_rfl)
  refine res_dat (.sl none 0 []) rfl (res_dat (.sl none 0 []) rfl (res_dat (.sl none 0 []) rfl ?_))
  refine res_lop_of rfl (P := (0 : Int) ≤ (DV.sl none 0 L).len ∧ (0 : Int) ≤ 0 ∧ ([] : List P3) = [] ∧ ([] : List (Int × Int)) = [] ∧ okP [] []) (by kernel_rfl) rfl ⟨len_nn _, Int.le_refl 0, rfl, rfl, okP_0⟩ (fun q hq a ha S hS i i0 i1 hI => ?_)
  obtain ⟨hi, hn, hqs, has, ok⟩ := cv hI (by kernel_rfl : _ = (i ≤ (DV.sl none 0 L).len ∧ (DV.sl none 0 S).len ≤ i ∧ pks (.sl none 0 q) = pks (.sl none 0 S) ∧ prs (.sl none 0 a) = [] ∧ okP (pks (.sl none 0 q)) []))
  have i0 : 0 ≤ i := i0
  have lS := len_of hS (Nat.le_refl _)
  have pS := pks_len S
  refine res_ite (fun hlt => ?_) fun hge => ?_
  · have hlt : i < (DV.sl none 0 L).len := cv hlt (by kernel_rfl)
    have mea : ((DV.sl none 0 L).len - (i + 1)).toNat < ((DV.sl none 0 L).len - i).toNat := by omega
    obtain ⟨e1, e2⟩ := pk_at hL i0 (by omega)
    refine res_dat (.sl none 0 ((((DV.sl none 0 L).cell i 2).els.take ((DV.sl none 0 L).cell i 2).len.toNat).drop 0)) (by kernel_rfl) ?_
    rw [sub_all e2]
    refine res_con rfl trivial (fun q1 hq1 a1 ha1 e _ _ hw => ?_)
    have hw := cv hw (by kernel_rfl : _ = (((pks (.sl none 0 q1), prs (.sl none 0 a1), e) : Net) = sendQ (pks (.sl none 0 q)) (prs (.sl none 0 a)) ((DV.sl none 0 L).at i 0, (DV.sl none 0 L).at i 1, numsOf ((DV.sl none 0 L).cell i 2).els)))
    refine res_ite (fun he => ?_) fun he => ?_
    · have he : e = 0 := cv he (by kernel_rfl)
      obtain ⟨n1, n2, n3, n4, n5⟩ := send_in hw he
      refine res_ok (cv (by omega : (DV.sl none 0 S).len + 1 ≤ 3432621667203) (by kernel_rfl)) ?_
      refine res_dat (.sl none 0 [[.n ((DV.sl none 0 L).at i 0), .n ((DV.sl none 0 L).at i 1), (DV.sl none 0 L).cell i 2]]) (by kernel_rfl) ?_
      refine res_dat (.sl none 0 (S ++ [[.n ((DV.sl none 0 L).at i 0), .n ((DV.sl none 0 L).at i 1), (DV.sl none 0 L).cell i 2]])) (by kernel_rfl) ?_
      refine res_chk_of rfl (P := i + 1 ≤ (DV.sl none 0 L).len ∧ (DV.sl none 0 (S ++ [[.n ((DV.sl none 0 L).at i 0), .n ((DV.sl none 0 L).at i 1), (DV.sl none 0 L).cell i 2]])).len ≤ i + 1 ∧ pks (.sl none 0 q1) = pks (.sl none 0 (S ++ [[.n ((DV.sl none 0 L).at i 0), .n ((DV.sl none 0 L).at i 1), (DV.sl none 0 L).cell i 2]])) ∧ prs (.sl none 0 a1) = [] ∧ okP (pks (.sl none 0 q1)) []) (by kernel_rfl) (by kernel_rfl) (by kernel_rfl) ⟨by omega, ?_, by rw [pks_app, n4, hqs], by rw [n5, has], by rw [n4]; exact ok_add ok n2 n3⟩ mea
      generalize [DV.n ((DV.sl none 0 L).at i 0), .n ((DV.sl none 0 L).at i 1), (DV.sl none 0 L).cell i 2] = row
      have l3 : (S ++ [row]).length = S.length + 1 := List.length_append
      have : (DV.sl none 0 (S ++ [row])).len = ((S ++ [row]).length : Int) := clampL_eq (show (S ++ [row]).length ≤ 9223372036854775807 by omega)
      omega
    · exact res_chk_of rfl (P := i + 1 ≤ (DV.sl none 0 L).len ∧ (DV.sl none 0 S).len ≤ i + 1 ∧ pks (.sl none 0 q) = pks (.sl none 0 S) ∧ prs (.sl none 0 a) = [] ∧ okP (pks (.sl none 0 q)) []) (by kernel_rfl) (by kernel_rfl) (by kernel_rfl) ⟨by omega, by omega, hqs, has, ok⟩ mea
  clear lL hge
  refine res_lop_of rfl (P := (0 : Int) + (DV.sl none 0 S).len ≤ 12 ∧ pks (.sl none 0 q) = pks (.sl none 0 S) ∧ prs (.sl none 0 a) = [] ∧ okP (pks (.sl none 0 q)) []) (by kernel_rfl) rfl ⟨by omega, hqs, has, ok⟩ (fun q' hq' a' ha' T hT j j0 j1 hJ => ?_)
  clear hqs has ok hn hi lS pS
  obtain ⟨hj, hqt, hat, ok⟩ := cv hJ (by kernel_rfl : _ = (j + (DV.sl none 0 T).len ≤ 12 ∧ pks (.sl none 0 q') = pks (.sl none 0 T) ∧ prs (.sl none 0 a') = [] ∧ okP (pks (.sl none 0 q')) []))
  have j0 : 0 ≤ j := j0
  have lT := len_of hT (Nat.le_refl _)
  have pT := pks_len T
  refine res_ite (fun hlt => ?_) fun hge => ?_
  · have hlt : 0 < (DV.sl none 0 T).len := cv hlt (by kernel_rfl)
    refine res_ite (fun hjo => ?_) fun hjo => ?_
    · have u0 := u8_at hO j
      have r0 := Int.tmod_nonneg (DV.sl none 0 T).len u0
      have r1 := Int.tmod_lt_of_pos ((DV.sl none 0 O).at j 0) (b := (DV.sl none 0 T).len) hlt
      have hin : inQ (pks (.sl none 0 q')) (Int.tmod ((DV.sl none 0 O).at j 0) (DV.sl none 0 T).len) := by rw [hqt]; unfold inQ; omega
      refine res_con rfl trivial (fun f _ _ g _ _ z hz q1 hq1 a1 ha1 e _ _ hw => ?_)
      have hw := cv hw (by kernel_rfl : _ = ((((f, g, numsOf z), pks (.sl none 0 q1), prs (.sl none 0 a1), e) : P3 × Net) = delQ (pks (.sl none 0 q')) (prs (.sl none 0 a')) (Int.tmod ((DV.sl none 0 O).at j 0) (DV.sl none 0 T).len)))
      rw [hat] at hw
      obtain ⟨he, _, _, kq, ka, kp⟩ := (del_in hw).resolve_right fun m => m.2.1 ⟨ok, hin⟩
      have kp := (kp.resolve_left fun m => List.not_mem_nil m.2).1
      obtain ⟨e1, e2⟩ := pk_at hT (i := (Int.tmod ((DV.sl none 0 O).at j 0) (DV.sl none 0 T).len)) (by omega) (by omega)
      rw [hqt, e1] at kp
      refine res_ite (fun _ => ?_) fun k => absurd (cv he (by kernel_rfl)) k
      refine res_ok (cv (⟨r0, r1⟩ : 0 ≤ (Int.tmod ((DV.sl none 0 O).at j 0) (DV.sl none 0 T).len) ∧ (Int.tmod ((DV.sl none 0 O).at j 0) (DV.sl none 0 T).len) < (DV.sl none 0 T).len) (by kernel_rfl)) ?_
      refine res_dat (.sl none 0 ((((DV.sl none 0 T).cell (Int.tmod ((DV.sl none 0 O).at j 0) (DV.sl none 0 T).len) 2).els.take ((DV.sl none 0 T).cell (Int.tmod ((DV.sl none 0 O).at j 0) (DV.sl none 0 T).len) 2).len.toNat).drop 0)) (by kernel_rfl) ?_
      rw [sub_all e2]
      refine res_con rfl trivial (fun s _ _ hs => ?_)
      have hs := hold (cv hs (by kernel_rfl : _ = ([DV.n s] = yn ((f, g, numsOf z) = ((DV.sl none 0 T).at (Int.tmod ((DV.sl none 0 O).at j 0) (DV.sl none 0 T).len) 0, (DV.sl none 0 T).at (Int.tmod ((DV.sl none 0 O).at j 0) (DV.sl none 0 T).len) 1, numsOf ((DV.sl none 0 T).cell (Int.tmod ((DV.sl none 0 O).at j 0) (DV.sl none 0 T).len) 2).els))))) kp
      refine res_ite (fun k => ?_) fun _ => ?_
      · have k : s = 0 := cv k (by kernel_rfl)
        omega
      have ht := erase_as (Q := T) (k := (Int.tmod ((DV.sl none 0 O).at j 0) (DV.sl none 0 T).len)) (by omega) (by omega)
      have lc : (T.take ((Int.tmod ((DV.sl none 0 O).at j 0) (DV.sl none 0 T).len)).toNat ++ (T.take (T.length : Int).toNat).drop ((Int.tmod ((DV.sl none 0 O).at j 0) (DV.sl none 0 T).len) + 1).toNat).length + 1 = T.length := by
        simp only [List.length_append, List.length_take, List.length_drop, Int.toNat_natCast, Nat.min_self]
        omega
      have ld : (DV.sl none 0 (T.take ((Int.tmod ((DV.sl none 0 O).at j 0) (DV.sl none 0 T).len)).toNat ++ (T.take (T.length : Int).toNat).drop ((Int.tmod ((DV.sl none 0 O).at j 0) (DV.sl none 0 T).len) + 1).toNat)).len + 1 = (DV.sl none 0 T).len := by
        have : (DV.sl none 0 (T.take ((Int.tmod ((DV.sl none 0 O).at j 0) (DV.sl none 0 T).len)).toNat ++ (T.take (T.length : Int).toNat).drop ((Int.tmod ((DV.sl none 0 O).at j 0) (DV.sl none 0 T).len) + 1).toNat)).len = ((T.take ((Int.tmod ((DV.sl none 0 O).at j 0) (DV.sl none 0 T).len)).toNat ++ (T.take (T.length : Int).toNat).drop ((Int.tmod ((DV.sl none 0 O).at j 0) (DV.sl none 0 T).len) + 1).toNat).length : Int) := clampL_eq (show (T.take ((Int.tmod ((DV.sl none 0 O).at j 0) (DV.sl none 0 T).len)).toNat ++ (T.take (T.length : Int).toNat).drop ((Int.tmod ((DV.sl none 0 O).at j 0) (DV.sl none 0 T).len) + 1).toNat).length ≤ 9223372036854775807 by omega)
        omega
      have hP : j + 1 + (DV.sl none 0 (T.take ((Int.tmod ((DV.sl none 0 O).at j 0) (DV.sl none 0 T).len)).toNat ++ (T.take (T.length : Int).toNat).drop ((Int.tmod ((DV.sl none 0 O).at j 0) (DV.sl none 0 T).len) + 1).toNat)).len ≤ 12 ∧ pks (.sl none 0 q1) = pks (.sl none 0 (T.take ((Int.tmod ((DV.sl none 0 O).at j 0) (DV.sl none 0 T).len)).toNat ++ (T.take (T.length : Int).toNat).drop ((Int.tmod ((DV.sl none 0 O).at j 0) (DV.sl none 0 T).len) + 1).toNat)) ∧ prs (.sl none 0 a1) = [] ∧ okP (pks (.sl none 0 q1)) [] :=
        ⟨by omega, by rw [kq, ht, hqt], ka, by rw [kq]; exact ok_er ok⟩
      have mea : ((DV.sl none 0 (T.take ((Int.tmod ((DV.sl none 0 O).at j 0) (DV.sl none 0 T).len)).toNat ++ (T.take (T.length : Int).toNat).drop ((Int.tmod ((DV.sl none 0 O).at j 0) (DV.sl none 0 T).len) + 1).toNat)).len).toNat < ((DV.sl none 0 T).len).toNat := by omega
      have hcat : DV.sl none 0 ((DV.sl none 0 ((T.take ((Int.tmod ((DV.sl none 0 O).at j 0) (DV.sl none 0 T).len)).toNat).drop 0)).els ++ (DV.sl none 0 ((T.take (DV.sl none 0 T).len.toNat).drop ((Int.tmod ((DV.sl none 0 O).at j 0) (DV.sl none 0 T).len) + 1).toNat)).els) = DV.sl none 0 (T.take ((Int.tmod ((DV.sl none 0 O).at j 0) (DV.sl none 0 T).len)).toNat ++ (T.take (T.length : Int).toNat).drop ((Int.tmod ((DV.sl none 0 O).at j 0) (DV.sl none 0 T).len) + 1).toNat) := by rw [List.drop_zero, lT]; rfl
      refine res_both ?_ ?_
      · refine res_dat (.sl none 0 ((T.take ((Int.tmod ((DV.sl none 0 O).at j 0) (DV.sl none 0 T).len)).toNat).drop 0)) (by kernel_rfl) (res_ok (cv (by omega : (Int.tmod ((DV.sl none 0 O).at j 0) (DV.sl none 0 T).len) + 1 ≤ (DV.sl none 0 T).len) (by kernel_rfl)) (res_dat (.sl none 0 ((T.take (DV.sl none 0 T).len.toNat).drop ((Int.tmod ((DV.sl none 0 O).at j 0) (DV.sl none 0 T).len) + 1).toNat)) (by kernel_rfl) (res_ok (cv (by omega : (Int.tmod ((DV.sl none 0 O).at j 0) (DV.sl none 0 T).len) + ((DV.sl none 0 T).len - ((Int.tmod ((DV.sl none 0 O).at j 0) (DV.sl none 0 T).len) + 1)) ≤ 3432621667203) (by kernel_rfl)) (res_dat _ hcat (res_ok (cv (⟨by omega, by omega⟩ : 0 ≤ j + 1 ∧ j + 1 ≤ 12) (by kernel_rfl)) ?_)))))
        exact res_chk_of rfl (by kernel_rfl) (by kernel_rfl) (by kernel_rfl) hP mea
      · refine res_ok (cv (by omega : (Int.tmod ((DV.sl none 0 O).at j 0) (DV.sl none 0 T).len) + 1 ≤ (DV.sl none 0 T).len) (by kernel_rfl)) (res_dat (.sl none 0 ((T.take (DV.sl none 0 T).len.toNat).drop ((Int.tmod ((DV.sl none 0 O).at j 0) (DV.sl none 0 T).len) + 1).toNat)) (by kernel_rfl) (res_dat (.sl none 0 ((T.take ((Int.tmod ((DV.sl none 0 O).at j 0) (DV.sl none 0 T).len)).toNat).drop 0)) (by kernel_rfl) (res_ok (cv (by omega : (Int.tmod ((DV.sl none 0 O).at j 0) (DV.sl none 0 T).len) + ((DV.sl none 0 T).len - ((Int.tmod ((DV.sl none 0 O).at j 0) (DV.sl none 0 T).len) + 1)) ≤ 3432621667203) (by kernel_rfl)) (res_dat _ hcat (res_ok (cv (⟨by omega, by omega⟩ : 0 ≤ j + 1 ∧ j + 1 ≤ 12) (by kernel_rfl)) ?_)))))
        exact res_chk_of rfl (by kernel_rfl) (by kernel_rfl) (by kernel_rfl) hP mea
    · have hin : inQ (pks (.sl none 0 q')) (0 : Int) := by rw [hqt]; unfold inQ; omega
      refine res_con rfl trivial (fun f _ _ g _ _ z hz q1 hq1 a1 ha1 e _ _ hw => ?_)
      have hw := cv hw (by kernel_rfl : _ = ((((f, g, numsOf z), pks (.sl none 0 q1), prs (.sl none 0 a1), e) : P3 × Net) = delQ (pks (.sl none 0 q')) (prs (.sl none 0 a')) (0 : Int)))
      rw [hat] at hw
      obtain ⟨he, _, _, kq, ka, kp⟩ := (del_in hw).resolve_right fun m => m.2.1 ⟨ok, hin⟩
      have kp := (kp.resolve_left fun m => List.not_mem_nil m.2).1
      obtain ⟨e1, e2⟩ := pk_at hT (i := (0 : Int)) (by omega) (by omega)
      rw [hqt, e1] at kp
      refine res_ite (fun _ => ?_) fun k => absurd (cv he (by kernel_rfl)) k
      refine res_dat (.sl none 0 ((((DV.sl none 0 T).cell (0 : Int) 2).els.take ((DV.sl none 0 T).cell (0 : Int) 2).len.toNat).drop 0)) (by kernel_rfl) ?_
      rw [sub_all e2]
      refine res_con rfl trivial (fun s _ _ hs => ?_)
      have hs := hold (cv hs (by kernel_rfl : _ = ([DV.n s] = yn ((f, g, numsOf z) = ((DV.sl none 0 T).at (0 : Int) 0, (DV.sl none 0 T).at (0 : Int) 1, numsOf ((DV.sl none 0 T).cell (0 : Int) 2).els))))) kp
      refine res_ite (fun k => ?_) fun _ => ?_
      · have k : s = 0 := cv k (by kernel_rfl)
        omega
      have ht := erase_as (Q := T) (k := (0 : Int)) (by omega) (by omega)
      have lc : (T.take ((0 : Int)).toNat ++ (T.take (T.length : Int).toNat).drop ((0 : Int) + 1).toNat).length + 1 = T.length := by
        simp only [List.length_append, List.length_take, List.length_drop, Int.toNat_natCast, Nat.min_self]
        omega
      have ld : (DV.sl none 0 (T.take ((0 : Int)).toNat ++ (T.take (T.length : Int).toNat).drop ((0 : Int) + 1).toNat)).len + 1 = (DV.sl none 0 T).len := by
        have : (DV.sl none 0 (T.take ((0 : Int)).toNat ++ (T.take (T.length : Int).toNat).drop ((0 : Int) + 1).toNat)).len = ((T.take ((0 : Int)).toNat ++ (T.take (T.length : Int).toNat).drop ((0 : Int) + 1).toNat).length : Int) := clampL_eq (show (T.take ((0 : Int)).toNat ++ (T.take (T.length : Int).toNat).drop ((0 : Int) + 1).toNat).length ≤ 9223372036854775807 by omega)
        omega
      have hP : j + 1 + (DV.sl none 0 (T.take ((0 : Int)).toNat ++ (T.take (T.length : Int).toNat).drop ((0 : Int) + 1).toNat)).len ≤ 12 ∧ pks (.sl none 0 q1) = pks (.sl none 0 (T.take ((0 : Int)).toNat ++ (T.take (T.length : Int).toNat).drop ((0 : Int) + 1).toNat)) ∧ prs (.sl none 0 a1) = [] ∧ okP (pks (.sl none 0 q1)) [] :=
        ⟨by omega, by rw [kq, ht, hqt], ka, by rw [kq]; exact ok_er ok⟩
      have mea : ((DV.sl none 0 (T.take ((0 : Int)).toNat ++ (T.take (T.length : Int).toNat).drop ((0 : Int) + 1).toNat)).len).toNat < ((DV.sl none 0 T).len).toNat := by omega
      have hcat : DV.sl none 0 ((DV.sl none 0 ((T.take ((0 : Int)).toNat).drop 0)).els ++ (DV.sl none 0 ((T.take (DV.sl none 0 T).len.toNat).drop ((0 : Int) + 1).toNat)).els) = DV.sl none 0 (T.take ((0 : Int)).toNat ++ (T.take (T.length : Int).toNat).drop ((0 : Int) + 1).toNat) := by rw [List.drop_zero, lT]; rfl
      refine res_both ?_ ?_
      · refine res_dat (.sl none 0 ((T.take ((0 : Int)).toNat).drop 0)) (by kernel_rfl) (res_dat (.sl none 0 ((T.take (DV.sl none 0 T).len.toNat).drop ((0 : Int) + 1).toNat)) (by kernel_rfl) (res_ok (cv (by omega : (DV.sl none 0 T).len - 1 ≤ 3432621667203) (by kernel_rfl)) (res_dat _ hcat (res_ok (cv (⟨by omega, by omega⟩ : 0 ≤ j + 1 ∧ j + 1 ≤ 12) (by kernel_rfl)) ?_))))
        exact res_chk_of rfl (by kernel_rfl) (by kernel_rfl) (by kernel_rfl) hP mea
      · refine res_dat (.sl none 0 ((T.take (DV.sl none 0 T).len.toNat).drop ((0 : Int) + 1).toNat)) (by kernel_rfl) (res_dat (.sl none 0 ((T.take ((0 : Int)).toNat).drop 0)) (by kernel_rfl) (res_ok (cv (by omega : (DV.sl none 0 T).len - 1 ≤ 3432621667203) (by kernel_rfl)) (res_dat _ hcat (res_ok (cv (⟨by omega, by omega⟩ : 0 ≤ j + 1 ∧ j + 1 ≤ 12) (by kernel_rfl)) ?_))))
        exact res_chk_of rfl (by kernel_rfl) (by kernel_rfl) (by kernel_rfl) hP mea
  have hge : ¬ 0 < (DV.sl none 0 T).len := cv hge (by kernel_rfl)
  have lq := len_of hq' (Nat.le_refl _)
  have pq := pks_len q'
  rw [hqt] at pq
  exact res_ite (fun _ => rfl) fun k => absurd (cv (by omega : (DV.sl none 0 q').len = 0) (by kernel_rfl)) k
end Go.Proofs.Ytmphcgafegmheaa
