/- DERIVED. Packets that are sent, delivered, lost, repeated: the contracts, proved. -/
import Derived.Test.YtmphcgafegmheaaDctb
import Derived.Test.YtmphcgafegmheaaDtreeb
namespace Go.Proofs.Ytmphcgafegmheaa
open Go.Dx
set_option linter.unusedVariables false
set_option linter.unusedSimpArgs false
theorem erase_as {Q : List (List DV)} {k : Int} (h0 : 0 ≤ k) (h1 : k < Q.length) : pks (.sl none 0 (Q.take k.toNat ++ (Q.take (Q.length : Int).toNat).drop (k + 1).toNat)) = (pks (.sl none 0 Q)).eraseIdx k.toNat := by
  simp only [pks, DV.els, List.map_append, List.map_drop, List.map_take, Int.toNat_natCast, List.take_length]
  rw [List.eraseIdx_eq_take_drop_succ, show (k + 1).toNat = k.toNat + 1 by omega]
theorem erase_last {Q : List (List DV)} {k : Int} (h0 : 0 ≤ k) (h1 : k + 1 = Q.length) : pks (.sl none 0 (Q.take k.toNat)) = (pks (.sl none 0 Q)).eraseIdx k.toNat := by
  rw [List.eraseIdx_eq_take_drop_succ]
  simp only [pks, DV.els, List.map_take]
  rw [List.drop_of_length_le (by simp; omega), List.append_nil]
set_option maxRecDepth 100000 in
theorem cWo_ok (N : Nat) (w0 : World) : ConOk Try.prog tb N w0 (cWo 39) := by
  refine con_of_walk (tb := tb) fine (C := []) noCon 120 rfl ?_ N w0
  refine fun Q hQ A hA k k0 k1 hp => ?_
  have hp : k < (DV.sl none 0 Q).len := hp
  have lQ := len_of hQ (by decide)
  have k0 : 0 ≤ k := k0
  rw [tree_wo]
  have fin : ∀ v, v = (DV.sl none 0 ((Q.take k.toNat).drop 0)) → ∀ u, u = (DV.sl none 0 ((Q.take (DV.sl none 0 Q).len.toNat).drop (k + 1).toNat)) →
      (((DV.sl none 0 Q).len - (k + 1) = 0 → pks v = (pks (.sl none 0 Q)).eraseIdx k.toNat) ∧ pks (.sl none 0 (v.els ++ u.els)) = (pks (.sl none 0 Q)).eraseIdx k.toNat) := fun v hv u hu => by
    subst hv hu
    rw [List.drop_zero]
    refine ⟨fun h => erase_last k0 (by omega), ?_⟩
    rw [lQ]
    exact erase_as k0 (by omega)
  refine res_both ?_ ?_
  · refine res_ok (cv (by omega : k ≤ (DV.sl none 0 Q).len) (by kernel_rfl)) ?_
    refine res_dat _ rfl (res_ok (cv (by omega : k + 1 ≤ (DV.sl none 0 Q).len) (by kernel_rfl)) (res_dat _ rfl ?_))
    obtain ⟨f1, f2⟩ := fin _ rfl _ rfl
    refine res_ite (fun h => ?_) fun h => res_dat _ rfl ?_
    · have h : (DV.sl none 0 Q).len - (k + 1) = 0 := cv h (by kernel_rfl)
      exact cv (⟨f1 h, rfl⟩ : pks (DV.sl none 0 ((Q.take k.toNat).drop 0)) = _ ∧ prs (.sl none 0 A) = prs (.sl none 0 A)) (by kernel_rfl)
    · exact cv (⟨f2, rfl⟩ : _ ∧ prs (.sl none 0 A) = prs (.sl none 0 A)) (by kernel_rfl)
  · refine res_ok (cv (by omega : k + 1 ≤ (DV.sl none 0 Q).len) (by kernel_rfl)) ?_
    refine res_dat _ rfl (res_ok (cv (by omega : k ≤ (DV.sl none 0 Q).len) (by kernel_rfl)) (res_dat _ rfl ?_))
    obtain ⟨f1, f2⟩ := fin _ rfl _ rfl
    refine res_ite (fun h => ?_) fun h => res_dat _ rfl ?_
    · have h : (DV.sl none 0 Q).len - (k + 1) = 0 := cv h (by kernel_rfl)
      exact cv (⟨f1 h, rfl⟩ : pks (DV.sl none 0 ((Q.take k.toNat).drop 0)) = _ ∧ prs (.sl none 0 A) = prs (.sl none 0 A)) (by kernel_rfl)
    · exact cv (⟨f2, rfl⟩ : _ ∧ prs (.sl none 0 A) = prs (.sl none 0 A)) (by kernel_rfl)
set_option maxRecDepth 100000 in
theorem cWoR_ok (N : Nat) (w0 : World) : ConOk Try.prog tb N w0 (cWo 41) := by
  refine con_of_walk (tb := tb) fine (C := []) noCon 120 rfl ?_ N w0
  refine fun Q hQ A hA k k0 k1 hp => ?_
  have hp : k < (DV.sl none 0 Q).len := hp
  have lQ := len_of hQ (by decide)
  have k0 : 0 ≤ k := k0
  rw [tree_woR]
  have f2 : pks (.sl none 0 ((DV.sl none 0 ((Q.take k.toNat).drop 0)).els ++ (DV.sl none 0 ((Q.take (DV.sl none 0 Q).len.toNat).drop (k + 1).toNat)).els)) = (pks (.sl none 0 Q)).eraseIdx k.toNat := by
    rw [List.drop_zero, lQ]
    exact erase_as k0 (by omega)
  refine res_both ?_ ?_
  · refine res_ok (cv (by omega : k ≤ (DV.sl none 0 Q).len) (by kernel_rfl)) ?_
    refine res_dat _ rfl (res_ok (cv (by omega : k + 1 ≤ (DV.sl none 0 Q).len) (by kernel_rfl)) (res_dat _ rfl (res_dat _ rfl ?_)))
    exact cv (⟨f2, rfl⟩ : _ ∧ prs (.sl none 0 A) = prs (.sl none 0 A)) (by kernel_rfl)
  · refine res_ok (cv (by omega : k + 1 ≤ (DV.sl none 0 Q).len) (by kernel_rfl)) ?_
    refine res_dat _ rfl (res_ok (cv (by omega : k ≤ (DV.sl none 0 Q).len) (by kernel_rfl)) (res_dat _ rfl (res_dat _ rfl ?_)))
    exact cv (⟨f2, rfl⟩ : _ ∧ prs (.sl none 0 A) = prs (.sl none 0 A)) (by kernel_rfl)
/-! Sending. -/
theorem send_no {q : List P3} {a : List (Int × Int)} {p : P3} (h : ¬ (okP q a ∧ pkP p)) : (([], [], 60) : Net) = sendQ q a p := by unfold sendQ; rw [if_neg h]
theorem send_lim {q : List P3} {a : List (Int × Int)} {p : P3} (h : okP q a ∧ pkP p) (k : q.length = 4096) : (([], [], 2) : Net) = sendQ q a p := by unfold sendQ; rw [if_pos h, if_pos k]
theorem send_yes {q : List P3} {a : List (Int × Int)} {p : P3} (h : okP q a ∧ pkP p) (k : ¬ q.length = 4096) : ((q ++ [p], a, 0) : Net) = sendQ q a p := by unfold sendQ; rw [if_pos h, if_neg k]
theorem pks_app (Q : List (List DV)) (a b : Int) (z : DV) : pks (.sl none 0 (Q ++ [[.n a, .n b, z]])) = pks (.sl none 0 Q) ++ [(a, b, numsOf z.els)] := by simp only [pks, DV.els, List.map_append]; rfl
theorem all_of {Q : List (List DV)} {mx : Nat} {row : List Sh} (h : HasSh (.sl mx row) (.sl none 0 Q)) (hm : mx ≤ 9223372036854775807) : (Q.take (DV.sl none 0 Q).len.toNat).drop 0 = Q := by
  rw [len_of h hm, List.drop_zero, Int.toNat_natCast, List.take_length]
set_option maxRecDepth 100000 in
theorem cSend_ok (N : Nat) (w0 : World) : ConOk Try.prog tb N w0 (cSend 11) := by
  refine con_of_walk (tb := tb) fine (C := [cChk 13, cVal 28]) (conCons cChk_ok (conCons cVal_ok noCon)) 120 rfl ?_ N w0
  refine fun Q hQ A hA a _ _ b _ _ D hD _ => ?_
  have lQ := len_of hQ (Nat.le_refl _)
  have pQ := pks_len Q
  rw [tree_send]
  show T.res _ (fun y => net3 y 0 = sendQ (pks (.sl none 0 Q)) (prs (.sl none 0 A)) (a, b, numsOf D)) _ _
  refine res_con rfl trivial (fun e _ _ he => ?_)
  have he := chk_in (show [DV.n e] = [.n (chkF (pks (.sl none 0 Q)) (prs (.sl none 0 A)))] from he)
  refine res_ite (fun h => ?_) fun h => ?_
  · have h : e = 0 := h
    have ok : okP (pks (.sl none 0 Q)) (prs (.sl none 0 A)) := by
      rcases he with he | he
      · exact he.2
      · omega
    refine res_con rfl trivial (fun v _ _ hv => ?_)
    have hv := yn_01 (show [DV.n v] = yn (pkP (a, b, numsOf D)) from hv)
    refine res_ite (fun k => ?_) fun k => ?_
    · have k : v = 0 := k
      refine res_dat (.sl none 0 []) rfl (res_dat (.sl none 0 []) rfl ?_)
      refine cv (send_no fun m => ?_) (by kernel_rfl : ((([], [], 60) : Net) = sendQ (pks (.sl none 0 Q)) (prs (.sl none 0 A)) (a, b, numsOf D)) = _)
      rcases hv with hv | hv
      · omega
      · exact hv.2 m.2
    · have k : ¬ v = 0 := k
      have kv := (hv.resolve_right fun m => k m.1).2
      refine res_ite (fun m => ?_) fun m => ?_
      · have m : (DV.sl none 0 Q).len = 4096 := m
        refine res_dat (.sl none 0 []) rfl (res_dat (.sl none 0 []) rfl ?_)
        exact cv (send_lim ⟨ok, kv⟩ (by omega)) (by kernel_rfl : ((([], [], 2) : Net) = sendQ (pks (.sl none 0 Q)) (prs (.sl none 0 A)) (a, b, numsOf D)) = _)
      · have m : ¬ (DV.sl none 0 Q).len = 4096 := m
        have hl := ok.1
        have fin : ∀ ad cap, ((pks (.sl none 0 (Q ++ [[.n a, .n b, .sl ad cap D]])), prs (.sl none 0 A), 0) : Net) = sendQ (pks (.sl none 0 Q)) (prs (.sl none 0 A)) (a, b, numsOf D) := fun ad cap => by
          rw [pks_app]; exact send_yes ⟨ok, kv⟩ (by omega)
        refine res_both ?_ ?_
        · refine res_dat (.sl none 0 ((Q.take (DV.sl none 0 Q).len.toNat).drop 0)) rfl ?_
          rw [all_of hQ (Nat.le_refl _)]
          refine fun ad cap => res_ok (cv (by omega : (DV.sl none 0 Q).len + 1 ≤ 3432621667203) (by kernel_rfl)) ?_
          refine res_dat (.sl none 0 [[.n a, .n b, .sl ad cap D]]) rfl (res_dat (.sl none 0 (Q ++ [[.n a, .n b, .sl ad cap D]])) rfl ?_)
          exact cv (fin ad cap) (by kernel_rfl)
        · refine fun ad cap => res_dat (.sl none 0 ((Q.take (DV.sl none 0 Q).len.toNat).drop 0)) rfl ?_
          rw [all_of hQ (Nat.le_refl _)]
          refine res_ok (cv (by omega : (DV.sl none 0 Q).len + 1 ≤ 3432621667203) (by kernel_rfl)) ?_
          refine res_dat (.sl none 0 [[.n a, .n b, .sl ad cap D]]) rfl (res_dat (.sl none 0 (Q ++ [[.n a, .n b, .sl ad cap D]])) rfl ?_)
          exact cv (fin ad cap) (by kernel_rfl)
  · have h : ¬ e = 0 := h
    refine res_dat (.sl none 0 []) rfl (res_dat (.sl none 0 []) rfl ?_)
    refine cv (send_no fun m => ?_) (by kernel_rfl : ((([], [], 60) : Net) = sendQ (pks (.sl none 0 Q)) (prs (.sl none 0 A)) (a, b, numsOf D)) = _)
    rcases he with he | he
    · omega
    · exact he.2 m.1
set_option maxRecDepth 100000 in
theorem cSendR_ok (N : Nat) (w0 : World) : ConOk Try.prog tb N w0 (cSend 12) := by
  refine con_of_walk (tb := tb) fine (C := [cChk 14, cVal 30]) (conCons cChkR_ok (conCons cValR_ok noCon)) 120 rfl ?_ N w0
  refine fun Q hQ A hA a _ _ b _ _ D hD _ => ?_
  have lQ := len_of hQ (Nat.le_refl _)
  have pQ := pks_len Q
  rw [tree_sendR]
  show T.res _ (fun y => net3 y 0 = sendQ (pks (.sl none 0 Q)) (prs (.sl none 0 A)) (a, b, numsOf D)) _ _
  refine res_con rfl trivial (fun e _ _ he => ?_)
  have he := chk_in (show [DV.n e] = [.n (chkF (pks (.sl none 0 Q)) (prs (.sl none 0 A)))] from he)
  refine res_ite (fun h => ?_) fun h => ?_
  · have h : e = 0 := h
    have ok : okP (pks (.sl none 0 Q)) (prs (.sl none 0 A)) := by
      rcases he with he | he
      · exact he.2
      · omega
    refine res_con rfl trivial (fun v _ _ hv => ?_)
    have hv := yn_01 (show [DV.n v] = yn (pkP (a, b, numsOf D)) from hv)
    refine res_ite (fun k => ?_) fun k => ?_
    · have k : v = 0 := k
      refine res_dat (.sl none 0 []) rfl (res_dat (.sl none 0 []) rfl ?_)
      refine cv (send_no fun m => ?_) (by kernel_rfl : ((([], [], 60) : Net) = sendQ (pks (.sl none 0 Q)) (prs (.sl none 0 A)) (a, b, numsOf D)) = _)
      rcases hv with hv | hv
      · omega
      · exact hv.2 m.2
    · have k : ¬ v = 0 := k
      have kv := (hv.resolve_right fun m => k m.1).2
      refine res_ite (fun m => ?_) fun m => ?_
      · have m : (DV.sl none 0 Q).len = 4096 := m
        refine res_dat (.sl none 0 []) rfl (res_dat (.sl none 0 []) rfl ?_)
        exact cv (send_lim ⟨ok, kv⟩ (by omega)) (by kernel_rfl : ((([], [], 2) : Net) = sendQ (pks (.sl none 0 Q)) (prs (.sl none 0 A)) (a, b, numsOf D)) = _)
      · have m : ¬ (DV.sl none 0 Q).len = 4096 := m
        have hl := ok.1
        have fin : ∀ ad cap, ((pks (.sl none 0 (Q ++ [[.n a, .n b, .sl ad cap D]])), prs (.sl none 0 A), 0) : Net) = sendQ (pks (.sl none 0 Q)) (prs (.sl none 0 A)) (a, b, numsOf D) := fun ad cap => by
          rw [pks_app]; exact send_yes ⟨ok, kv⟩ (by omega)
        refine res_both ?_ ?_
        · refine res_ok (cv (by omega : (DV.sl none 0 Q).len ≤ 3432621667203) (by kernel_rfl)) ?_
          refine fun ad cap => res_ok (cv (by omega : (DV.sl none 0 Q).len + 1 ≤ 3432621667203) (by kernel_rfl)) ?_
          refine res_dat (.sl none 0 [[.n a, .n b, .sl ad cap D]]) rfl (res_dat (.sl none 0 (Q ++ [[.n a, .n b, .sl ad cap D]])) rfl ?_)
          exact cv (fin ad cap) (by kernel_rfl)
        · refine fun ad cap => res_ok (cv (by omega : (DV.sl none 0 Q).len ≤ 3432621667203) (by kernel_rfl)) ?_
          refine res_ok (cv (by omega : (DV.sl none 0 Q).len + 1 ≤ 3432621667203) (by kernel_rfl)) ?_
          refine res_dat (.sl none 0 [[.n a, .n b, .sl ad cap D]]) rfl (res_dat (.sl none 0 (Q ++ [[.n a, .n b, .sl ad cap D]])) rfl ?_)
          exact cv (fin ad cap) (by kernel_rfl)
  · have h : ¬ e = 0 := h
    refine res_dat (.sl none 0 []) rfl (res_dat (.sl none 0 []) rfl ?_)
    refine cv (send_no fun m => ?_) (by kernel_rfl : ((([], [], 60) : Net) = sendQ (pks (.sl none 0 Q)) (prs (.sl none 0 A)) (a, b, numsOf D)) = _)
    rcases he with he | he
    · omega
    · exact he.2 m.1
end Go.Proofs.Ytmphcgafegmheaa
