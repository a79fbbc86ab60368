/- DERIVED. Writes that are performed: the reference's contract, proved. -/
import Derived.Test.YtdhdpgdifphfkaaDctd
import Derived.Test.YtdhdpgdifphfkaaDtreed
namespace Go.Proofs.Ytdhdpgdifphfkaa
open Go.Dx
set_option linter.unusedVariables false
set_option linter.unusedSimpArgs false
theorem tear_as2 {c z : List (List DV)} {m : Int} (hm : m = z.length) : numsOf ((c.take (64 : Int).toNat).drop 0 ++ (z.take m.toNat).drop (64 : Int).toNat) = (numsOf c).take 64 ++ (numsOf z).drop 64 := by
  rw [hm, numsOf, List.map_append, List.drop_zero, Int.toNat_natCast, List.take_length, List.map_take, List.map_drop]; rfl
set_option maxRecDepth 100000 in
theorem cSyncR_ok (N : Nat) (w0 : World) : ConOk Try.prog tb N w0 (cSync 24) := by
  refine con_of_walk (tb := tb) fine (C := [cChk 16, lSyncR]) (conCons cChkR_ok (lopCons rfl noCon)) 120 rfl ?_ N w0
  refine fun S hS P hP l l0 l1 t _ _ _ => ?_
  have lS := len_of hS (Nat.le_refl _)
  have lP := len_of hP (Nat.le_refl _)
  have pS := secs_len S
  have pP := pens_len P
  rw [tree_syncR]
  show T.res _ (fun y => (d4 y 0, gi y 4) = syncQ (secs (.sl none 0 S), pens (.sl none 0 P), l, t)) _ _
  refine res_con rfl trivial (fun e _ _ he => ?_)
  have he := chk_in (cv he (by kernel_rfl : _ = ([DV.n e] = [.n (chkF (secs (.sl none 0 S), pens (.sl none 0 P), l, t))])))
  refine res_ite (fun h => ?_) fun h => ?_
  · have h : ¬ e = 0 ∨ ¬ t = 0 := cv h (by kernel_rfl)
    refine res_dat (.sl none 0 []) rfl (res_dat (.sl none 0 []) rfl ?_)
    refine cv (sync_no fun r => ?_) (by kernel_rfl : (((nil4, 40) : D4 × Int) = syncQ (secs (.sl none 0 S), pens (.sl none 0 P), l, t)) = _)
    rcases h with h | h
    · exact h (he.resolve_right fun m => m.2 r.1).1
    · exact h r.2
  have h : ¬ (¬ e = 0 ∨ ¬ t = 0) := cv h (by kernel_rfl)
  have run : runD (secs (.sl none 0 S), pens (.sl none 0 P), l, t) := run_of he (by omega) (show t = 0 by omega)
  have hSn := run.1.1.1
  have hall0 := run.1.2.2
  have hal0 := run.1.2.1
  simp only at hSn hall0 hal0
  refine res_ite (fun hs => ?_) fun hs => ?_
  · have hs : 0 ≤ l ∧ l < (DV.sl none 0 P).len := cv hs (by kernel_rfl)
    have hmany : manyS l (DV.sl none 0 P).len = l := if_pos hs
    refine res_ok (cv (by omega : (DV.sl none 0 S).len ≤ 5629499534213) (by kernel_rfl)) ?_
    refine res_lop_of rfl (P := (0 : Int) ≤ manyS l (DV.sl none 0 P).len ∧ secs (.sl none 0 S) = doP (secs (.sl none 0 S)) ((pens (.sl none 0 P)).take (0 : Int).toNat)) (by kernel_rfl) rfl ⟨by omega, rfl⟩ (fun T hT i i0 i1 hI => ?_)
    obtain ⟨hi, hI⟩ := cv hI (by kernel_rfl : _ = (i ≤ manyS l (DV.sl none 0 P).len ∧ secs (.sl none 0 T) = doP (secs (.sl none 0 S)) ((pens (.sl none 0 P)).take i.toNat)))
    have i0 : 0 ≤ i := i0
    have lT := len_of hT (Nat.le_refl _)
    have pT := secs_len T
    have eT : (secs (.sl none 0 T)).length = (secs (.sl none 0 S)).length := by rw [hI, do_len]
    refine res_ite (fun hlt => ?_) fun hge => ?_
    · have hlt : i < l := cv hlt (by kernel_rfl)
      refine res_ok (cv (⟨i0, by omega⟩ : 0 ≤ i ∧ i < (DV.sl none 0 P).len) (by kernel_rfl)) ?_
      obtain ⟨e1, e2⟩ := pen_at hP i0 (by omega)
      have hpw := hall0 _ (getD_in (0, []) (show i.toNat < (pens (.sl none 0 P)).length by omega))
      rw [e1] at hpw
      unfold inD at hpw
      simp only at hpw
      refine res_ok (cv (⟨by omega, by omega⟩ : 0 ≤ (DV.sl none 0 P).at i 0 ∧ (DV.sl none 0 P).at i 0 < (DV.sl none 0 T).len) (by kernel_rfl)) ?_
      refine res_dat (.sl none 0 (T.modify ((DV.sl none 0 P).at i 0).toNat fun e => layG e 0 [(DV.sl none 0 P).cell i 1])) (by kernel_rfl) ?_
      exact res_chk_of rfl (P := i + 1 ≤ manyS l (DV.sl none 0 P).len ∧ secs (.sl none 0 (T.modify ((DV.sl none 0 P).at i 0).toNat fun e => layG e 0 [(DV.sl none 0 P).cell i 1])) = doP (secs (.sl none 0 S)) ((pens (.sl none 0 P)).take (i + 1).toNat)) (a := (manyS l (DV.sl none 0 P).len - (i + 1)).toNat) (b := (manyS l (DV.sl none 0 P).len - i).toNat) (by kernel_rfl) (by kernel_rfl) (by kernel_rfl) ⟨by omega, sync_step hT hP i0 (by omega) hI rfl⟩ (by omega)
    have hge : ¬ i < l := cv hge (by kernel_rfl)
    have hI : secs (.sl none 0 T) = doP (secs (.sl none 0 S)) ((pens (.sl none 0 P)).take l.toNat) := by
      rw [hI, show i = l by omega]
    obtain ⟨e1, e2⟩ := pen_at hP hs.1 (by omega)
    have hpw := hall0 _ (getD_in (0, []) (show l.toNat < (pens (.sl none 0 P)).length by omega))
    have eP := e1
    rw [e1] at hpw
    unfold inD at hpw
    simp only at hpw
    obtain ⟨f1, f2⟩ := sec_at hT (i := (DV.sl none 0 P).at l 0) (by omega) (by omega)
    have hsl : (bys ((DV.sl none 0 T).cell ((DV.sl none 0 P).at l 0) 0)).length = 128 := by
      rw [← f1]
      refine do_all (s := secs (.sl none 0 S)) (l := (pens (.sl none 0 P)).take l.toNat) hal0 (fun p hp => (hall0 p (List.mem_of_mem_take hp)).2) _ ?_
      rw [← hI]
      exact getD_in [] (by omega)
    have lc := bytes_len e2
    have lt := bytes_len f2
    have hc : numsOf ((((DV.sl none 0 P).cell l 1).els.take (64 : Int).toNat).drop 0 ++ (((DV.sl none 0 T).cell ((DV.sl none 0 P).at l 0) 0).els.take ((DV.sl none 0 T).cell ((DV.sl none 0 P).at l 0) 0).len.toNat).drop (64 : Int).toNat) = (bys ((DV.sl none 0 P).cell l 1)).take 64 ++ (bys ((DV.sl none 0 T).cell ((DV.sl none 0 P).at l 0) 0)).drop 64 :=
      tear_as2 (by rw [lt, bys, numsOf, List.length_map])
    have hb : ∀ ad cap, bys (.sl ad cap ((((DV.sl none 0 P).cell l 1).els.take (64 : Int).toNat).drop 0 ++ (((DV.sl none 0 T).cell ((DV.sl none 0 P).at l 0) 0).els.take ((DV.sl none 0 T).cell ((DV.sl none 0 P).at l 0) 0).len.toNat).drop (64 : Int).toNat)) = (bys ((DV.sl none 0 P).cell l 1)).take 64 ++ (bys ((DV.sl none 0 T).cell ((DV.sl none 0 P).at l 0) 0)).drop 64 := fun _ _ => hc
    have hfin : ∀ ad cap, (((secs (.sl none 0 (T.modify ((DV.sl none 0 P).at l 0).toNat fun e => layG e 0 [.sl ad cap ((((DV.sl none 0 P).cell l 1).els.take (64 : Int).toNat).drop 0 ++ (((DV.sl none 0 T).cell ((DV.sl none 0 P).at l 0) 0).els.take ((DV.sl none 0 T).cell ((DV.sl none 0 P).at l 0) 0).len.toNat).drop (64 : Int).toNat)])), [], 0, 1), 40) : D4 × Int) = syncQ (secs (.sl none 0 S), pens (.sl none 0 P), l, t) := fun ad cap => by
      rw [set_as hT, ← sync_stop run (by omega), ← hI]
      show (((_, _), _) : D4 × Int) = ((tearL _ _, _), _)
      unfold tearL
      rw [eP]
      rw [hb, f1]
    refine res_both ?_ ?_
    · refine res_ok (cv (by omega : 64 ≤ ((DV.sl none 0 P).cell l 1).len) (by kernel_rfl)) (res_dat (.sl none 0 ((((DV.sl none 0 P).cell l 1).els.take (64 : Int).toNat).drop 0)) (by kernel_rfl) (res_ok (cv (⟨by omega, by omega⟩ : 0 ≤ (DV.sl none 0 P).at l 0 ∧ (DV.sl none 0 P).at l 0 < (DV.sl none 0 T).len) (by kernel_rfl)) (res_ok (cv (by omega : 64 ≤ ((DV.sl none 0 T).cell ((DV.sl none 0 P).at l 0) 0).len) (by kernel_rfl)) (res_dat (.sl none 0 ((((DV.sl none 0 T).cell ((DV.sl none 0 P).at l 0) 0).els.take ((DV.sl none 0 T).cell ((DV.sl none 0 P).at l 0) 0).len.toNat).drop (64 : Int).toNat)) (by kernel_rfl) (res_ok (cv (by omega : 64 + (((DV.sl none 0 T).cell ((DV.sl none 0 P).at l 0) 0).len - 64) ≤ 70368744177664) (by kernel_rfl)) ?_)))))
      refine res_dat (.sl none 0 ((((DV.sl none 0 P).cell l 1).els.take (64 : Int).toNat).drop 0 ++ (((DV.sl none 0 T).cell ((DV.sl none 0 P).at l 0) 0).els.take ((DV.sl none 0 T).cell ((DV.sl none 0 P).at l 0) 0).len.toNat).drop (64 : Int).toNat)) (by kernel_rfl) ?_
      refine fun ad cap => res_dat (.sl none 0 (T.modify ((DV.sl none 0 P).at l 0).toNat fun e => layG e 0 [.sl ad cap ((((DV.sl none 0 P).cell l 1).els.take (64 : Int).toNat).drop 0 ++ (((DV.sl none 0 T).cell ((DV.sl none 0 P).at l 0) 0).els.take ((DV.sl none 0 T).cell ((DV.sl none 0 P).at l 0) 0).len.toNat).drop (64 : Int).toNat)])) (by kernel_rfl) ?_
      refine res_dat (.sl none 0 []) rfl ?_
      exact cv (hfin ad cap) (by kernel_rfl)
    · refine res_ok (cv (⟨by omega, by omega⟩ : 0 ≤ (DV.sl none 0 P).at l 0 ∧ (DV.sl none 0 P).at l 0 < (DV.sl none 0 T).len) (by kernel_rfl)) (res_both ?_ ?_)
      · refine res_ok (cv (by omega : 64 ≤ ((DV.sl none 0 P).cell l 1).len) (by kernel_rfl)) (res_dat (.sl none 0 ((((DV.sl none 0 P).cell l 1).els.take (64 : Int).toNat).drop 0)) (by kernel_rfl) (res_ok (cv (by omega : 64 ≤ ((DV.sl none 0 T).cell ((DV.sl none 0 P).at l 0) 0).len) (by kernel_rfl)) (res_dat (.sl none 0 ((((DV.sl none 0 T).cell ((DV.sl none 0 P).at l 0) 0).els.take ((DV.sl none 0 T).cell ((DV.sl none 0 P).at l 0) 0).len.toNat).drop (64 : Int).toNat)) (by kernel_rfl) (res_ok (cv (by omega : 64 + (((DV.sl none 0 T).cell ((DV.sl none 0 P).at l 0) 0).len - 64) ≤ 70368744177664) (by kernel_rfl)) ?_))))
        refine res_dat (.sl none 0 ((((DV.sl none 0 P).cell l 1).els.take (64 : Int).toNat).drop 0 ++ (((DV.sl none 0 T).cell ((DV.sl none 0 P).at l 0) 0).els.take ((DV.sl none 0 T).cell ((DV.sl none 0 P).at l 0) 0).len.toNat).drop (64 : Int).toNat)) (by kernel_rfl) ?_
        refine fun ad cap => res_dat (.sl none 0 (T.modify ((DV.sl none 0 P).at l 0).toNat fun e => layG e 0 [.sl ad cap ((((DV.sl none 0 P).cell l 1).els.take (64 : Int).toNat).drop 0 ++ (((DV.sl none 0 T).cell ((DV.sl none 0 P).at l 0) 0).els.take ((DV.sl none 0 T).cell ((DV.sl none 0 P).at l 0) 0).len.toNat).drop (64 : Int).toNat)])) (by kernel_rfl) ?_
        refine res_dat (.sl none 0 []) rfl ?_
        exact cv (hfin ad cap) (by kernel_rfl)
      · refine res_ok (cv (by omega : 64 ≤ ((DV.sl none 0 T).cell ((DV.sl none 0 P).at l 0) 0).len) (by kernel_rfl)) (res_dat (.sl none 0 ((((DV.sl none 0 T).cell ((DV.sl none 0 P).at l 0) 0).els.take ((DV.sl none 0 T).cell ((DV.sl none 0 P).at l 0) 0).len.toNat).drop (64 : Int).toNat)) (by kernel_rfl) (res_ok (cv (by omega : 64 ≤ ((DV.sl none 0 P).cell l 1).len) (by kernel_rfl)) (res_dat (.sl none 0 ((((DV.sl none 0 P).cell l 1).els.take (64 : Int).toNat).drop 0)) (by kernel_rfl) (res_ok (cv (by omega : 64 + (((DV.sl none 0 T).cell ((DV.sl none 0 P).at l 0) 0).len - 64) ≤ 70368744177664) (by kernel_rfl)) ?_))))
        refine res_dat (.sl none 0 ((((DV.sl none 0 P).cell l 1).els.take (64 : Int).toNat).drop 0 ++ (((DV.sl none 0 T).cell ((DV.sl none 0 P).at l 0) 0).els.take ((DV.sl none 0 T).cell ((DV.sl none 0 P).at l 0) 0).len.toNat).drop (64 : Int).toNat)) (by kernel_rfl) ?_
        refine fun ad cap => res_dat (.sl none 0 (T.modify ((DV.sl none 0 P).at l 0).toNat fun e => layG e 0 [.sl ad cap ((((DV.sl none 0 P).cell l 1).els.take (64 : Int).toNat).drop 0 ++ (((DV.sl none 0 T).cell ((DV.sl none 0 P).at l 0) 0).els.take ((DV.sl none 0 T).cell ((DV.sl none 0 P).at l 0) 0).len.toNat).drop (64 : Int).toNat)])) (by kernel_rfl) ?_
        refine res_dat (.sl none 0 []) rfl ?_
        exact cv (hfin ad cap) (by kernel_rfl)
  · have hs : ¬ (0 ≤ l ∧ l < (DV.sl none 0 P).len) := cv hs (by kernel_rfl)
    have hmany : manyS l (DV.sl none 0 P).len = (DV.sl none 0 P).len := if_neg hs
    refine res_ok (cv (by omega : (DV.sl none 0 S).len ≤ 5629499534213) (by kernel_rfl)) ?_
    refine res_lop_of rfl (P := (0 : Int) ≤ manyS l (DV.sl none 0 P).len ∧ secs (.sl none 0 S) = doP (secs (.sl none 0 S)) ((pens (.sl none 0 P)).take (0 : Int).toNat)) (by kernel_rfl) rfl ⟨by omega, rfl⟩ (fun T hT i i0 i1 hI => ?_)
    obtain ⟨hi, hI⟩ := cv hI (by kernel_rfl : _ = (i ≤ manyS l (DV.sl none 0 P).len ∧ secs (.sl none 0 T) = doP (secs (.sl none 0 S)) ((pens (.sl none 0 P)).take i.toNat)))
    have i0 : 0 ≤ i := i0
    have lT := len_of hT (Nat.le_refl _)
    have pT := secs_len T
    have eT : (secs (.sl none 0 T)).length = (secs (.sl none 0 S)).length := by rw [hI, do_len]
    refine res_ite (fun hlt => ?_) fun hge => ?_
    · have hlt : i < (DV.sl none 0 P).len := cv hlt (by kernel_rfl)
      obtain ⟨e1, e2⟩ := pen_at hP i0 (by omega)
      have hpw := hall0 _ (getD_in (0, []) (show i.toNat < (pens (.sl none 0 P)).length by omega))
      rw [e1] at hpw
      unfold inD at hpw
      simp only at hpw
      refine res_ok (cv (⟨by omega, by omega⟩ : 0 ≤ (DV.sl none 0 P).at i 0 ∧ (DV.sl none 0 P).at i 0 < (DV.sl none 0 T).len) (by kernel_rfl)) ?_
      refine res_dat (.sl none 0 (T.modify ((DV.sl none 0 P).at i 0).toNat fun e => layG e 0 [(DV.sl none 0 P).cell i 1])) (by kernel_rfl) ?_
      exact res_chk_of rfl (P := i + 1 ≤ manyS l (DV.sl none 0 P).len ∧ secs (.sl none 0 (T.modify ((DV.sl none 0 P).at i 0).toNat fun e => layG e 0 [(DV.sl none 0 P).cell i 1])) = doP (secs (.sl none 0 S)) ((pens (.sl none 0 P)).take (i + 1).toNat)) (a := (manyS l (DV.sl none 0 P).len - (i + 1)).toNat) (b := (manyS l (DV.sl none 0 P).len - i).toNat) (by kernel_rfl) (by kernel_rfl) (by kernel_rfl) ⟨by omega, sync_step hT hP i0 (by omega) hI rfl⟩ (by omega)
    have hge : ¬ i < (DV.sl none 0 P).len := cv hge (by kernel_rfl)
    rw [List.take_of_length_le (by omega)] at hI
    refine res_ite (fun hl => ?_) fun hl => ?_
    · have hl : 0 ≤ l := cv hl (by kernel_rfl)
      refine res_dat (.sl none 0 []) rfl ?_
      refine cv (?_ : (((secs (.sl none 0 T), [], l - (DV.sl none 0 P).len, 0), 0) : D4 × Int) = syncQ (secs (.sl none 0 S), pens (.sl none 0 P), l, t)) (by kernel_rfl)
      rw [← sync_yes run (by omega), if_pos hl, hI, lP, ← pP]
    · have hl : ¬ 0 ≤ l := cv hl (by kernel_rfl)
      refine res_dat (.sl none 0 []) rfl ?_
      refine cv (?_ : (((secs (.sl none 0 T), [], l, 0), 0) : D4 × Int) = syncQ (secs (.sl none 0 S), pens (.sl none 0 P), l, t)) (by kernel_rfl)
      rw [← sync_yes run (by omega), if_neg hl, hI]
end Go.Proofs.Ytdhdpgdifphfkaa
