/- DERIVED. Packets that are delivered, lost, repeated: the contracts, proved. -/
import Derived.Test.YtmphcgafegmheaaDctc
namespace Go.Proofs.Ytmphcgafegmheaa
open Go.Dx
set_option linter.unusedVariables false
set_option linter.unusedSimpArgs false
theorem los_no {q : List P3} {a : List (Int × Int)} {k : Int} (h : ¬ okP q a) : (([], [], 60) : Net) = losQ q a k := by unfold losQ; rw [if_neg h]
theorem los_out {q : List P3} {a : List (Int × Int)} {k : Int} (h : okP q a) (m : ¬ inQ q k) : (([], [], 1) : Net) = losQ q a k := by unfold losQ; rw [if_pos h, if_neg m]
theorem los_yes {q : List P3} {a : List (Int × Int)} {k : Int} (h : okP q a) (m : inQ q k) : ((q.eraseIdx k.toNat, a, 0) : Net) = losQ q a k := by unfold losQ; rw [if_pos h, if_pos m]
theorem rep_no {q : List P3} {a : List (Int × Int)} {k : Int} (h : ¬ okP q a) : (([], [], 60) : Net) = repQ q a k := by unfold repQ; rw [if_neg h]
theorem rep_out {q : List P3} {a : List (Int × Int)} {k : Int} (h : okP q a) (m : ¬ inQ q k) : (([], [], 1) : Net) = repQ q a k := by unfold repQ; rw [if_pos h, if_neg m]
theorem rep_lim {q : List P3} {a : List (Int × Int)} {k : Int} (h : okP q a) (m : inQ q k) (n : q.length = 4096) : (([], [], 2) : Net) = repQ q a k := by unfold repQ; rw [if_pos h, if_pos m, if_pos n]
theorem rep_yes {q : List P3} {a : List (Int × Int)} {k : Int} (h : okP q a) (m : inQ q k) (n : ¬ q.length = 4096) : ((q ++ [q.getD k.toNat zero], a, 0) : Net) = repQ q a k := by unfold repQ; rw [if_pos h, if_pos m, if_neg n]
theorem del_no {q : List P3} {a : List (Int × Int)} {k : Int} (h : ¬ okP q a) : ((zero, [], [], 60) : P3 × Net) = delQ q a k := by unfold delQ; rw [if_neg h]
theorem del_out {q : List P3} {a : List (Int × Int)} {k : Int} (h : okP q a) (m : ¬ inQ q k) : ((zero, [], [], 1) : P3 × Net) = delQ q a k := by unfold delQ; rw [if_pos h, if_neg m]
theorem del_cut {q : List P3} {a : List (Int × Int)} {k : Int} (h : okP q a) (m : inQ q k) (c : link (q.getD k.toNat zero).1 (q.getD k.toNat zero).2.1 ∈ a) : ((zero, q.eraseIdx k.toNat, a, 0) : P3 × Net) = delQ q a k := by unfold delQ; rw [if_pos h, if_pos m, if_pos c]
theorem del_yes {q : List P3} {a : List (Int × Int)} {k : Int} (h : okP q a) (m : inQ q k) (c : link (q.getD k.toNat zero).1 (q.getD k.toNat zero).2.1 ∉ a) : ((q.getD k.toNat zero, q.eraseIdx k.toNat, a, 0) : P3 × Net) = delQ q a k := by unfold delQ; rw [if_pos h, if_pos m, if_neg c]
/-- Where both begin: the links are valid, the number is that of a packet. -/
theorem net_eq {q q' : List P3} {a a' : List (Int × Int)} {e : Int} (h1 : q' = q) (h2 : a' = a) : ((q', a', e) : Net) = (q, a, e) := by rw [h1, h2]
set_option maxRecDepth 100000 in
theorem cLos_ok (N : Nat) (w0 : World) : ConOk Try.prog tb N w0 (cLos 23) := by
  refine con_of_walk (tb := tb) fine (C := [cChk 13, cWo 39]) (conCons cChk_ok (conCons cWo_ok noCon)) 120 rfl ?_ N w0
  refine fun Q hQ A hA k _ _ _ => ?_
  have lQ := len_of hQ (Nat.le_refl _)
  have pQ := pks_len Q
  rw [tree_los]
  show T.res _ (fun y => net3 y 0 = losQ (pks (.sl none 0 Q)) (prs (.sl none 0 A)) k) _ _
  refine res_con rfl trivial (fun e _ _ he => ?_)
  have he := chk_in (show [DV.n e] = [.n (chkF (pks (.sl none 0 Q)) (prs (.sl none 0 A)))] from he)
  refine res_ite (fun h => ?_) fun h => ?_
  · have h : ¬ e = 0 := h
    refine res_dat (.sl none 0 []) rfl (res_dat (.sl none 0 []) rfl ?_)
    exact cv (los_no fun m => by rcases he with he | he; exact h he.1; exact he.2 m) (by kernel_rfl : ((([], [], 60) : Net) = losQ (pks (.sl none 0 Q)) (prs (.sl none 0 A)) k) = _)
  have h : ¬ ¬ e = 0 := h
  have ok : okP (pks (.sl none 0 Q)) (prs (.sl none 0 A)) := by
    rcases he with he | he
    · exact he.2
    · omega
  have hl := ok.1
  refine res_ite (fun h => ?_) fun h => ?_
  · have h : k < 0 ∨ (DV.sl none 0 Q).len ≤ k := h
    refine res_dat (.sl none 0 []) rfl (res_dat (.sl none 0 []) rfl ?_)
    exact cv (los_out ok (fun m => by unfold inQ at m; omega)) (by kernel_rfl : ((([], [], 1) : Net) = losQ (pks (.sl none 0 Q)) (prs (.sl none 0 A)) k) = _)
  have h : ¬ (k < 0 ∨ (DV.sl none 0 Q).len ≤ k) := h
  refine res_ok (cv (by omega : (DV.sl none 0 Q).len ≤ 4096) (by kernel_rfl)) (res_ok (cv (⟨by omega, by omega⟩ : 0 ≤ k ∧ k ≤ 4095) (by kernel_rfl)) ?_)
  refine res_con rfl (show k < (DV.sl none 0 Q).len by omega) (fun q' hq' a' ha' hw => ?_)
  obtain ⟨w1, w2⟩ := cv hw (by kernel_rfl : _ = (pks (.sl none 0 q') = (pks (.sl none 0 Q)).eraseIdx k.toNat ∧ prs (.sl none 0 a') = prs (.sl none 0 A)))
  exact cv ((net_eq w1 w2).trans (los_yes ok (by unfold inQ; omega))) (by kernel_rfl)
set_option maxRecDepth 100000 in
theorem cLosR_ok (N : Nat) (w0 : World) : ConOk Try.prog tb N w0 (cLos 24) := by
  refine con_of_walk (tb := tb) fine (C := [cChk 14, cWo 41]) (conCons cChkR_ok (conCons cWoR_ok noCon)) 120 rfl ?_ N w0
  refine fun Q hQ A hA k _ _ _ => ?_
  have lQ := len_of hQ (Nat.le_refl _)
  have pQ := pks_len Q
  rw [tree_losR]
  show T.res _ (fun y => net3 y 0 = losQ (pks (.sl none 0 Q)) (prs (.sl none 0 A)) k) _ _
  refine res_con rfl trivial (fun e _ _ he => ?_)
  have he := chk_in (show [DV.n e] = [.n (chkF (pks (.sl none 0 Q)) (prs (.sl none 0 A)))] from he)
  refine res_ite (fun h => ?_) fun h => ?_
  · have h : ¬ e = 0 := h
    refine res_dat (.sl none 0 []) rfl (res_dat (.sl none 0 []) rfl ?_)
    exact cv (los_no fun m => by rcases he with he | he; exact h he.1; exact he.2 m) (by kernel_rfl : ((([], [], 60) : Net) = losQ (pks (.sl none 0 Q)) (prs (.sl none 0 A)) k) = _)
  have h : ¬ ¬ e = 0 := h
  have ok : okP (pks (.sl none 0 Q)) (prs (.sl none 0 A)) := by
    rcases he with he | he
    · exact he.2
    · omega
  have hl := ok.1
  refine res_ite (fun h => ?_) fun h => ?_
  · have h : k < 0 ∨ (DV.sl none 0 Q).len ≤ k := h
    refine res_dat (.sl none 0 []) rfl (res_dat (.sl none 0 []) rfl ?_)
    exact cv (los_out ok (fun m => by unfold inQ at m; omega)) (by kernel_rfl : ((([], [], 1) : Net) = losQ (pks (.sl none 0 Q)) (prs (.sl none 0 A)) k) = _)
  have h : ¬ (k < 0 ∨ (DV.sl none 0 Q).len ≤ k) := h
  refine res_ok (cv (by omega : (DV.sl none 0 Q).len ≤ 4096) (by kernel_rfl)) (res_ok (cv (⟨by omega, by omega⟩ : 0 ≤ k ∧ k ≤ 4095) (by kernel_rfl)) ?_)
  refine res_con rfl (show k < (DV.sl none 0 Q).len by omega) (fun q' hq' a' ha' hw => ?_)
  obtain ⟨w1, w2⟩ := cv hw (by kernel_rfl : _ = (pks (.sl none 0 q') = (pks (.sl none 0 Q)).eraseIdx k.toNat ∧ prs (.sl none 0 a') = prs (.sl none 0 A)))
  exact cv ((net_eq w1 w2).trans (los_yes ok (by unfold inQ; omega))) (by kernel_rfl)
set_option maxRecDepth 100000 in
theorem cRep_ok (N : Nat) (w0 : World) : ConOk Try.prog tb N w0 (cRep 25) := by
  refine con_of_walk (tb := tb) fine (C := [cChk 13]) (conCons cChk_ok noCon) 120 rfl ?_ N w0
  refine fun Q hQ A hA k _ _ _ => ?_
  have lQ := len_of hQ (Nat.le_refl _)
  have pQ := pks_len Q
  rw [tree_rep]
  show T.res _ (fun y => net3 y 0 = repQ (pks (.sl none 0 Q)) (prs (.sl none 0 A)) k) _ _
  refine res_con rfl trivial (fun e _ _ he => ?_)
  have he := chk_in (show [DV.n e] = [.n (chkF (pks (.sl none 0 Q)) (prs (.sl none 0 A)))] from he)
  refine res_ite (fun h => ?_) fun h => ?_
  · have h : ¬ e = 0 := h
    refine res_dat (.sl none 0 []) rfl (res_dat (.sl none 0 []) rfl ?_)
    exact cv (rep_no fun m => by rcases he with he | he; exact h he.1; exact he.2 m) (by kernel_rfl : ((([], [], 60) : Net) = repQ (pks (.sl none 0 Q)) (prs (.sl none 0 A)) k) = _)
  have h : ¬ ¬ e = 0 := h
  have ok : okP (pks (.sl none 0 Q)) (prs (.sl none 0 A)) := by
    rcases he with he | he
    · exact he.2
    · omega
  have hl := ok.1
  refine res_ite (fun h => ?_) fun h => ?_
  · have h : k < 0 ∨ (DV.sl none 0 Q).len ≤ k := h
    refine res_dat (.sl none 0 []) rfl (res_dat (.sl none 0 []) rfl ?_)
    exact cv (rep_out ok (fun m => by unfold inQ at m; omega)) (by kernel_rfl : ((([], [], 1) : Net) = repQ (pks (.sl none 0 Q)) (prs (.sl none 0 A)) k) = _)
  have h : ¬ (k < 0 ∨ (DV.sl none 0 Q).len ≤ k) := h
  have hin : inQ (pks (.sl none 0 Q)) k := by unfold inQ; omega
  refine res_ite (fun m => ?_) fun m => ?_
  · have m : (DV.sl none 0 Q).len = 4096 := m
    refine res_dat (.sl none 0 []) rfl (res_dat (.sl none 0 []) rfl ?_)
    exact cv (rep_lim ok hin (by omega)) (by kernel_rfl : ((([], [], 2) : Net) = repQ (pks (.sl none 0 Q)) (prs (.sl none 0 A)) k) = _)
  have m : ¬ (DV.sl none 0 Q).len = 4096 := m
  obtain ⟨e1, _⟩ := pk_at hQ (i := k) (by omega) (by omega)
  refine res_dat (.sl none 0 ((Q.take (DV.sl none 0 Q).len.toNat).drop 0)) rfl ?_
  rw [all_of hQ (Nat.le_refl _)]
  refine res_ok (cv (by omega : (DV.sl none 0 Q).len + 1 ≤ 3432621667203) (by kernel_rfl)) ?_
  refine res_dat (.sl none 0 [[.n ((DV.sl none 0 Q).at k 0), .n ((DV.sl none 0 Q).at k 1), (DV.sl none 0 Q).cell k 2]]) (by kernel_rfl) (res_dat (.sl none 0 (Q ++ [[.n ((DV.sl none 0 Q).at k 0), .n ((DV.sl none 0 Q).at k 1), (DV.sl none 0 Q).cell k 2]])) (by kernel_rfl) ?_)
  refine cv (?_ : ((pks (.sl none 0 (Q ++ [[.n ((DV.sl none 0 Q).at k 0), .n ((DV.sl none 0 Q).at k 1), (DV.sl none 0 Q).cell k 2]])), prs (.sl none 0 A), 0) : Net) = repQ (pks (.sl none 0 Q)) (prs (.sl none 0 A)) k) (by kernel_rfl)
  rw [pks_app, ← e1]
  exact rep_yes ok hin (by omega)
theorem send_rep {q : List P3} {a : List (Int × Int)} {k : Int} (ok : okP q a) (hin : inQ q k) : sendQ q a (q.getD k.toNat zero) = repQ q a k := by
  have hp : pkP (q.getD k.toNat zero) := ok_pk ok hin.1 hin.2
  by_cases m : q.length = 4096
  · rw [← send_lim ⟨ok, hp⟩ m, ← rep_lim ok hin m]
  · rw [← send_yes ⟨ok, hp⟩ m, ← rep_yes ok hin m]
set_option maxRecDepth 100000 in
theorem cRepR_ok (N : Nat) (w0 : World) : ConOk Try.prog tb N w0 (cRep 26) := by
  refine con_of_walk (tb := tb) fine (C := [cChk 14, cSend 12]) (conCons cChkR_ok (conCons cSendR_ok noCon)) 120 rfl ?_ N w0
  refine fun Q hQ A hA k _ _ _ => ?_
  have lQ := len_of hQ (Nat.le_refl _)
  have pQ := pks_len Q
  rw [tree_repR]
  show T.res _ (fun y => net3 y 0 = repQ (pks (.sl none 0 Q)) (prs (.sl none 0 A)) k) _ _
  refine res_con rfl trivial (fun e _ _ he => ?_)
  have he := chk_in (show [DV.n e] = [.n (chkF (pks (.sl none 0 Q)) (prs (.sl none 0 A)))] from he)
  refine res_ite (fun h => ?_) fun h => ?_
  · have h : ¬ e = 0 := h
    refine res_dat (.sl none 0 []) rfl (res_dat (.sl none 0 []) rfl ?_)
    exact cv (rep_no fun m => by rcases he with he | he; exact h he.1; exact he.2 m) (by kernel_rfl : ((([], [], 60) : Net) = repQ (pks (.sl none 0 Q)) (prs (.sl none 0 A)) k) = _)
  have h : ¬ ¬ e = 0 := h
  have ok : okP (pks (.sl none 0 Q)) (prs (.sl none 0 A)) := by
    rcases he with he | he
    · exact he.2
    · omega
  have hl := ok.1
  refine res_ite (fun h => ?_) fun h => ?_
  · have h : k < 0 ∨ (DV.sl none 0 Q).len ≤ k := h
    refine res_dat (.sl none 0 []) rfl (res_dat (.sl none 0 []) rfl ?_)
    exact cv (rep_out ok (fun m => by unfold inQ at m; omega)) (by kernel_rfl : ((([], [], 1) : Net) = repQ (pks (.sl none 0 Q)) (prs (.sl none 0 A)) k) = _)
  have h : ¬ (k < 0 ∨ (DV.sl none 0 Q).len ≤ k) := h
  have hin : inQ (pks (.sl none 0 Q)) k := by unfold inQ; omega
  obtain ⟨e1, e2⟩ := pk_at hQ (i := k) (by omega) (by omega)
  refine res_dat (.sl none 0 ((((DV.sl none 0 Q).cell k 2).els.take ((DV.sl none 0 Q).cell k 2).len.toNat).drop 0)) (by kernel_rfl) ?_
  rw [sub_all e2]
  refine res_con rfl trivial (fun q' hq' a' ha' z _ _ hw => ?_)
  have hw := cv hw (by kernel_rfl : _ = (((pks (.sl none 0 q'), prs (.sl none 0 a'), z) : Net) = sendQ (pks (.sl none 0 Q)) (prs (.sl none 0 A)) ((DV.sl none 0 Q).at k 0, (DV.sl none 0 Q).at k 1, numsOf ((DV.sl none 0 Q).cell k 2).els)))
  rw [← e1, send_rep ok hin] at hw
  exact cv hw (by kernel_rfl)
set_option maxRecDepth 100000 in
theorem cDel_ok (N : Nat) (w0 : World) : ConOk Try.prog tb N w0 (cDel 20) := by
  refine con_of_walk (tb := tb) fine (C := [cChk 13, cIsC 38, cWo 39]) (conCons cChk_ok (conCons cIsC_ok (conCons cWo_ok noCon))) 120 rfl ?_ N w0
  refine fun Q hQ A hA k _ _ _ => ?_
  have lQ := len_of hQ (Nat.le_refl _)
  have pQ := pks_len Q
  rw [tree_del]
  show T.res _ (fun y => (pk3 y 0, net3 y 3) = delQ (pks (.sl none 0 Q)) (prs (.sl none 0 A)) k) _ _
  refine res_con rfl trivial (fun e _ _ he => ?_)
  have he := chk_in (show [DV.n e] = [.n (chkF (pks (.sl none 0 Q)) (prs (.sl none 0 A)))] from he)
  refine res_ite (fun h => ?_) fun h => ?_
  · have h : ¬ e = 0 := h
    refine res_dat (.sl none 0 []) rfl (res_dat (.sl none 0 []) rfl (res_dat (.sl none 0 []) rfl ?_))
    exact cv (del_no fun m => by rcases he with he | he; exact h he.1; exact he.2 m) (by kernel_rfl : (((zero, [], [], 60) : P3 × Net) = delQ (pks (.sl none 0 Q)) (prs (.sl none 0 A)) k) = _)
  have h : ¬ ¬ e = 0 := h
  have ok : okP (pks (.sl none 0 Q)) (prs (.sl none 0 A)) := by
    rcases he with he | he
    · exact he.2
    · omega
  have hl := ok.1
  refine res_ite (fun h => ?_) fun h => ?_
  · have h : k < 0 ∨ (DV.sl none 0 Q).len ≤ k := h
    refine res_dat (.sl none 0 []) rfl (res_dat (.sl none 0 []) rfl (res_dat (.sl none 0 []) rfl ?_))
    exact cv (del_out ok (fun m => by unfold inQ at m; omega)) (by kernel_rfl : (((zero, [], [], 1) : P3 × Net) = delQ (pks (.sl none 0 Q)) (prs (.sl none 0 A)) k) = _)
  have h : ¬ (k < 0 ∨ (DV.sl none 0 Q).len ≤ k) := h
  have hin : inQ (pks (.sl none 0 Q)) k := by unfold inQ; omega
  obtain ⟨e1, e2⟩ := pk_at hQ (i := k) (by omega) (by omega)
  refine res_con rfl trivial (fun c _ _ hc => ?_)
  have hc := yn_01 (cv hc (by kernel_rfl : _ = ([DV.n c] = yn (link ((DV.sl none 0 Q).at k 0) ((DV.sl none 0 Q).at k 1) ∈ prs (.sl none 0 A)))))
  have el : link ((pks (.sl none 0 Q)).getD k.toNat zero).1 ((pks (.sl none 0 Q)).getD k.toNat zero).2.1 = link ((DV.sl none 0 Q).at k 0) ((DV.sl none 0 Q).at k 1) := by rw [e1]
  rw [← el] at hc
  refine res_ite (fun m => ?_) fun m => ?_
  · have m : ¬ c = 0 := cv m (by kernel_rfl)
    refine res_ok (cv (by omega : (DV.sl none 0 Q).len ≤ 4096) (by kernel_rfl)) (res_ok (cv (⟨by omega, by omega⟩ : 0 ≤ k ∧ k ≤ 4095) (by kernel_rfl)) ?_)
    refine res_con rfl (show k < (DV.sl none 0 Q).len by omega) (fun q' hq' a' ha' hw => ?_)
    obtain ⟨w1, w2⟩ := cv hw (by kernel_rfl : _ = (pks (.sl none 0 q') = (pks (.sl none 0 Q)).eraseIdx k.toNat ∧ prs (.sl none 0 a') = prs (.sl none 0 A)))
    refine res_dat (.sl none 0 []) rfl ?_
    refine cv (?_ : ((zero, pks (.sl none 0 q'), prs (.sl none 0 a'), 0) : P3 × Net) = delQ (pks (.sl none 0 Q)) (prs (.sl none 0 A)) k) (by kernel_rfl)
    rw [w1, w2]
    exact del_cut ok hin (hc.resolve_right fun x => m x.1).2
  · have m : ¬ ¬ c = 0 := cv m (by kernel_rfl)
    refine res_ok (cv (by omega : (DV.sl none 0 Q).len ≤ 4096) (by kernel_rfl)) (res_ok (cv (⟨by omega, by omega⟩ : 0 ≤ k ∧ k ≤ 4095) (by kernel_rfl)) ?_)
    refine res_con rfl (show k < (DV.sl none 0 Q).len by omega) (fun q' hq' a' ha' hw => ?_)
    obtain ⟨w1, w2⟩ := cv hw (by kernel_rfl : _ = (pks (.sl none 0 q') = (pks (.sl none 0 Q)).eraseIdx k.toNat ∧ prs (.sl none 0 a') = prs (.sl none 0 A)))
    refine res_dat (.sl none 0 ((((DV.sl none 0 Q).cell k 2).els.take ((DV.sl none 0 Q).cell k 2).len.toNat).drop 0)) (by kernel_rfl) ?_
    rw [sub_all e2]
    refine cv (?_ : ((((DV.sl none 0 Q).at k 0, (DV.sl none 0 Q).at k 1, numsOf ((DV.sl none 0 Q).cell k 2).els), pks (.sl none 0 q'), prs (.sl none 0 a'), 0) : P3 × Net) = delQ (pks (.sl none 0 Q)) (prs (.sl none 0 A)) k) (by kernel_rfl)
    rw [w1, w2, ← e1]
    exact del_yes ok hin (hc.resolve_left fun x => by omega).2
set_option maxRecDepth 100000 in
theorem cDelR_ok (N : Nat) (w0 : World) : ConOk Try.prog tb N w0 (cDel 21) := by
  refine con_of_walk (tb := tb) fine (C := [cChk 14, cIsR 36, cWo 41]) (conCons cChkR_ok (conCons cIsR_ok (conCons cWoR_ok noCon))) 120 rfl ?_ N w0
  refine fun Q hQ A hA k _ _ _ => ?_
  have lQ := len_of hQ (Nat.le_refl _)
  have pQ := pks_len Q
  rw [tree_delR]
  show T.res _ (fun y => (pk3 y 0, net3 y 3) = delQ (pks (.sl none 0 Q)) (prs (.sl none 0 A)) k) _ _
  refine res_con rfl trivial (fun e _ _ he => ?_)
  have he := chk_in (show [DV.n e] = [.n (chkF (pks (.sl none 0 Q)) (prs (.sl none 0 A)))] from he)
  refine res_ite (fun h => ?_) fun h => ?_
  · have h : ¬ e = 0 := h
    refine res_dat (.sl none 0 []) rfl (res_dat (.sl none 0 []) rfl (res_dat (.sl none 0 []) rfl ?_))
    exact cv (del_no fun m => by rcases he with he | he; exact h he.1; exact he.2 m) (by kernel_rfl : (((zero, [], [], 60) : P3 × Net) = delQ (pks (.sl none 0 Q)) (prs (.sl none 0 A)) k) = _)
  have h : ¬ ¬ e = 0 := h
  have ok : okP (pks (.sl none 0 Q)) (prs (.sl none 0 A)) := by
    rcases he with he | he
    · exact he.2
    · omega
  have hl := ok.1
  refine res_ite (fun h => ?_) fun h => ?_
  · have h : k < 0 ∨ (DV.sl none 0 Q).len ≤ k := h
    refine res_dat (.sl none 0 []) rfl (res_dat (.sl none 0 []) rfl (res_dat (.sl none 0 []) rfl ?_))
    exact cv (del_out ok (fun m => by unfold inQ at m; omega)) (by kernel_rfl : (((zero, [], [], 1) : P3 × Net) = delQ (pks (.sl none 0 Q)) (prs (.sl none 0 A)) k) = _)
  have h : ¬ (k < 0 ∨ (DV.sl none 0 Q).len ≤ k) := h
  have hin : inQ (pks (.sl none 0 Q)) k := by unfold inQ; omega
  obtain ⟨e1, e2⟩ := pk_at hQ (i := k) (by omega) (by omega)
  refine res_con rfl trivial (fun c _ _ hc => ?_)
  have hc := yn_01 (cv hc (by kernel_rfl : _ = ([DV.n c] = yn (link ((DV.sl none 0 Q).at k 0) ((DV.sl none 0 Q).at k 1) ∈ prs (.sl none 0 A)))))
  have el : link ((pks (.sl none 0 Q)).getD k.toNat zero).1 ((pks (.sl none 0 Q)).getD k.toNat zero).2.1 = link ((DV.sl none 0 Q).at k 0) ((DV.sl none 0 Q).at k 1) := by rw [e1]
  rw [← el] at hc
  refine res_ite (fun m => ?_) fun m => ?_
  · have m : ¬ c = 0 := cv m (by kernel_rfl)
    refine res_ok (cv (by omega : (DV.sl none 0 Q).len ≤ 4096) (by kernel_rfl)) (res_ok (cv (⟨by omega, by omega⟩ : 0 ≤ k ∧ k ≤ 4095) (by kernel_rfl)) ?_)
    refine res_con rfl (show k < (DV.sl none 0 Q).len by omega) (fun q' hq' a' ha' hw => ?_)
    obtain ⟨w1, w2⟩ := cv hw (by kernel_rfl : _ = (pks (.sl none 0 q') = (pks (.sl none 0 Q)).eraseIdx k.toNat ∧ prs (.sl none 0 a') = prs (.sl none 0 A)))
    refine res_dat (.sl none 0 []) rfl ?_
    refine cv (?_ : ((zero, pks (.sl none 0 q'), prs (.sl none 0 a'), 0) : P3 × Net) = delQ (pks (.sl none 0 Q)) (prs (.sl none 0 A)) k) (by kernel_rfl)
    rw [w1, w2]
    exact del_cut ok hin (hc.resolve_right fun x => m x.1).2
  · have m : ¬ ¬ c = 0 := cv m (by kernel_rfl)
    refine res_ok (cv (by omega : (DV.sl none 0 Q).len ≤ 4096) (by kernel_rfl)) (res_ok (cv (⟨by omega, by omega⟩ : 0 ≤ k ∧ k ≤ 4095) (by kernel_rfl)) ?_)
    refine res_con rfl (show k < (DV.sl none 0 Q).len by omega) (fun q' hq' a' ha' hw => ?_)
    obtain ⟨w1, w2⟩ := cv hw (by kernel_rfl : _ = (pks (.sl none 0 q') = (pks (.sl none 0 Q)).eraseIdx k.toNat ∧ prs (.sl none 0 a') = prs (.sl none 0 A)))
    refine res_dat (.sl none 0 ((((DV.sl none 0 Q).cell k 2).els.take ((DV.sl none 0 Q).cell k 2).len.toNat).drop 0)) (by kernel_rfl) ?_
    rw [sub_all e2]
    refine cv (?_ : ((((DV.sl none 0 Q).at k 0, (DV.sl none 0 Q).at k 1, numsOf ((DV.sl none 0 Q).cell k 2).els), pks (.sl none 0 q'), prs (.sl none 0 a'), 0) : P3 × Net) = delQ (pks (.sl none 0 Q)) (prs (.sl none 0 A)) k) (by kernel_rfl)
    rw [w1, w2, ← e1]
    exact del_yes ok hin (hc.resolve_left fun x => by omega).2
end Go.Proofs.Ytmphcgafegmheaa
