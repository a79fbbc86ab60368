/- DERIVED. Writes that are performed: the contract, proved. -/
import Derived.Test.YtdhdpgdifphfkaaEctc
import Derived.Test.YtdhdpgdifphfkaaEtreec
namespace Go.Proofs.Ytdhdpgdifphfkaa
open Go.Dx
set_option linter.unusedVariables false
set_option linter.unusedSimpArgs false
theorem sub_sh {mx : Nat} {row : List Sh} {l : List (List DV)} (h : HasSh (.sl mx row) (.sl none 0 l)) (n : Nat) : HasSh (.sl mx row) (.sl none 0 (l.take n)) := by
  simp only [HasSh, DV.els] at *
  exact ⟨by rw [List.length_take]; omega, fun e he => h.2 e (List.mem_of_mem_take he)⟩
theorem pens_take (P : List (List DV)) (n : Nat) : pens (.sl none 0 (P.take n)) = (pens (.sl none 0 P)).take n := by simp only [pens, DV.els, List.map_take]
theorem do_all {s : Sec} : ∀ {l : Pen}, (∀ x ∈ s, x.length = 128) → (∀ p ∈ l, p.2.length = 128) → ∀ x ∈ doP s l, x.length = 128 := by
  intro l
  unfold doP
  induction l generalizing s with
  | nil => exact fun h _ => h
  | cons p l ih =>
    intro h k
    rw [List.foldl_cons]
    refine ih (fun x hx => ?_) fun q hq => k q (List.mem_cons_of_mem _ hq)
    rcases List.mem_or_eq_of_mem_set hx with m | m
    · exact h x m
    · rw [m]; exact k p (List.mem_cons_self ..)
theorem tear_as {c z : List (List DV)} {m : Int} (hm : m = 64) (hz : z.length = 128) : numsOf ((c.take m.toNat).drop 0 ++ (z.take (z.length : Int).toNat).drop m.toNat) = (numsOf c).take 64 ++ (numsOf z).drop 64 := by
  rw [hm, numsOf, List.map_append, List.drop_zero, Int.toNat_natCast, List.take_length, List.map_take, List.map_drop]; rfl
/-- What stays true while writes are performed. -/
theorem sync_step {S T Q : List (List DV)} {z : DV} {i : Int} {mx my : Nat} (hT : HasSh (.sl mx [bytes]) (.sl none 0 T)) (hQ : HasSh (.sl my wr) (.sl none 0 Q)) (h0 : 0 ≤ i) (h1 : i < Q.length)
    (hI : secs (.sl none 0 T) = doP (secs (.sl none 0 S)) ((pens (.sl none 0 Q)).take i.toNat)) (hz : bys z = bys ((DV.sl none 0 Q).cell i 1)) :
    secs (.sl none 0 (T.modify ((DV.sl none 0 Q).at i 0).toNat fun e => layG e 0 [z])) = doP (secs (.sl none 0 S)) ((pens (.sl none 0 Q)).take (i + 1).toNat) := by
  obtain ⟨e1, _⟩ := pen_at hQ h0 h1
  rw [set_as hT, do_next h0 (by rw [pens_len]; exact h1), ← hI, e1, hz]
set_option maxRecDepth 100000 in
theorem cSync_ok (N : Nat) (w0 : World) : ConOk Try.prog tb N w0 (cSync 23) := by
  refine con_of_walk (tb := tb) fine (C := [cRun 30, cPad 31, lSync]) (conCons cRun_ok (conCons cPad_ok (lopCons rfl noCon))) 120 rfl ?_ N w0
  refine fun S hS P hP l l0 l1 t _ _ _ => ?_
  have lS := len_of hS (Nat.le_refl _)
  have lP := len_of hP (Nat.le_refl _)
  have pS := secs_len S
  have pP := pens_len P
  rw [tree_sync]
  show T.res _ (fun y => (d4 y 0, gi y 4) = syncQ (secs (.sl none 0 S), pens (.sl none 0 P), l, t)) _ _
  refine res_con rfl trivial (fun e _ _ he => ?_)
  have he := yn_01 (cv he (by kernel_rfl : _ = ([DV.n e] = yn (runD (secs (.sl none 0 S), pens (.sl none 0 P), l, t)))))
  refine res_ite (fun h => ?_) fun h => ?_
  · have h : e = 0 := cv h (by kernel_rfl)
    refine res_dat (.sl none 0 []) rfl (res_dat (.sl none 0 []) rfl ?_)
    exact cv (sync_no (he.resolve_left fun m => by omega).2) (by kernel_rfl : (((nil4, 40) : D4 × Int) = syncQ (secs (.sl none 0 S), pens (.sl none 0 P), l, t)) = _)
  have h : ¬ e = 0 := cv h (by kernel_rfl)
  have run := (he.resolve_right fun m => h m.1).2
  have hSn := run.1.1.1
  have hall0 := run.1.2.2
  have hal0 := run.1.2.1
  simp only at hSn hall0 hal0
  refine res_ite (fun hs => ?_) fun hs => ?_
  · have hs : 0 ≤ l ∧ l < (DV.sl none 0 P).len := cv hs (by kernel_rfl)
    refine res_ok (cv (by omega : (DV.sl none 0 S).len ≤ 5629499534213) (by kernel_rfl)) ?_
    refine res_dat (.sl none 0 ((P.take l.toNat).drop 0)) (by kernel_rfl) ?_
    rw [List.drop_zero]
    have hQ := sub_sh hP l.toNat
    have lQ := len_of hQ (Nat.le_refl _)
    have lQ2 : (P.take l.toNat).length = l.toNat := by rw [List.length_take]; omega
    have hall : ∀ p ∈ pens (.sl none 0 (P.take l.toNat)), inD (secs (.sl none 0 S), pens (.sl none 0 P), l, t) p.1 ∧ p.2.length = 128 := fun p hp => by
      rw [pens_take] at hp; exact hall0 p (List.mem_of_mem_take hp)
    refine res_lop_of rfl (P := (0 : Int) ≤ (DV.sl none 0 (P.take l.toNat)).len ∧ secs (.sl none 0 S) = doP (secs (.sl none 0 S)) ((pens (.sl none 0 (P.take l.toNat))).take (0 : Int).toNat)) (by kernel_rfl) rfl ⟨len_nn _, rfl⟩ (fun T hT i i0 i1 hI => ?_)
    obtain ⟨hi, hI⟩ := cv hI (by kernel_rfl : _ = (i ≤ (DV.sl none 0 (P.take l.toNat)).len ∧ secs (.sl none 0 T) = doP (secs (.sl none 0 S)) ((pens (.sl none 0 (P.take l.toNat))).take i.toNat)))
    have i0 : 0 ≤ i := i0
    have lT := len_of hT (Nat.le_refl _)
    have pT := secs_len T
    have eT : (secs (.sl none 0 T)).length = (secs (.sl none 0 S)).length := by rw [hI, do_len]
    refine res_ite (fun hlt => ?_) fun hge => ?_
    · have hlt : i < l := cv hlt (by kernel_rfl)
      obtain ⟨e1, e2⟩ := pen_at hQ i0 (by omega)
      have hpw := hall _ (getD_in (0, []) (show i.toNat < (pens (.sl none 0 (P.take l.toNat))).length by rw [pens_len]; omega))
      rw [e1] at hpw
      unfold inD at hpw
      simp only at hpw
      refine res_dat (.sl none 0 ((((DV.sl none 0 (P.take l.toNat)).cell i 1).els.take ((DV.sl none 0 (P.take l.toNat)).cell i 1).len.toNat).drop 0)) (by kernel_rfl) ?_
      rw [sub_all e2]
      refine res_con rfl trivial (fun z hz hw => ?_)
      have hw := cv hw (by kernel_rfl : _ = (numsOf z = padL (bys ((DV.sl none 0 (P.take l.toNat)).cell i 1))))
      rw [pad_id hpw.2] at hw
      refine res_ok (cv (⟨by omega, by omega⟩ : 0 ≤ (DV.sl none 0 (P.take l.toNat)).at i 0 ∧ (DV.sl none 0 (P.take l.toNat)).at i 0 < (DV.sl none 0 T).len) (by kernel_rfl)) ?_
      refine fun ad cap => res_dat (.sl none 0 (T.modify ((DV.sl none 0 (P.take l.toNat)).at i 0).toNat fun e => layG e 0 [.sl ad cap z])) (by kernel_rfl) ?_
      exact res_chk_of rfl (P := i + 1 ≤ (DV.sl none 0 (P.take l.toNat)).len ∧ secs (.sl none 0 (T.modify ((DV.sl none 0 (P.take l.toNat)).at i 0).toNat fun e => layG e 0 [.sl ad cap z])) = doP (secs (.sl none 0 S)) ((pens (.sl none 0 (P.take l.toNat))).take (i + 1).toNat)) (a := ((DV.sl none 0 (P.take l.toNat)).len - (i + 1)).toNat) (b := ((DV.sl none 0 (P.take l.toNat)).len - i).toNat) (by kernel_rfl) (by kernel_rfl) (by kernel_rfl) ⟨by omega, sync_step hT hQ i0 (by omega) hI hw⟩ (by omega)
    have hge : ¬ i < l := cv hge (by kernel_rfl)
    have hI : secs (.sl none 0 T) = doP (secs (.sl none 0 S)) ((pens (.sl none 0 P)).take l.toNat) := by
      rw [hI, pens_take, List.take_take, show min i.toNat l.toNat = l.toNat by omega]
    obtain ⟨e1, e2⟩ := pen_at hP hs.1 (by omega)
    have hpw := hall0 _ (getD_in (0, []) (show l.toNat < (pens (.sl none 0 P)).length by omega))
    have eP := e1
    rw [e1] at hpw
    unfold inD at hpw
    simp only at hpw
    refine res_ok (cv (⟨by omega, by omega⟩ : 0 ≤ (DV.sl none 0 P).at l 0 ∧ (DV.sl none 0 P).at l 0 < (DV.sl none 0 T).len) (by kernel_rfl)) ?_
    obtain ⟨f1, f2⟩ := sec_at hT (i := (DV.sl none 0 P).at l 0) (by omega) (by omega)
    have hsl : (bys ((DV.sl none 0 T).cell ((DV.sl none 0 P).at l 0) 0)).length = 128 := by
      rw [← f1]
      refine do_all (s := secs (.sl none 0 S)) (l := (pens (.sl none 0 P)).take l.toNat) hal0 (fun p hp => (hall0 p (List.mem_of_mem_take hp)).2) _ ?_
      rw [← hI]
      exact getD_in [] (by omega)
    refine res_dat (.sl none 0 ((((DV.sl none 0 T).cell ((DV.sl none 0 P).at l 0) 0).els.take ((DV.sl none 0 T).cell ((DV.sl none 0 P).at l 0) 0).len.toNat).drop 0)) (by kernel_rfl) ?_
    rw [sub_all f2]
    refine res_con rfl trivial (fun z hz hw => ?_)
    have hw := cv hw (by kernel_rfl : _ = (numsOf z = padL (bys ((DV.sl none 0 T).cell ((DV.sl none 0 P).at l 0) 0))))
    rw [pad_id hsl] at hw
    have lz := len_of hz (Nat.le_refl _)
    have pz : z.length = 128 := by
      have := congrArg List.length hw
      rw [hsl, numsOf, List.length_map] at this; exact this
    have lc := bytes_len e2
    refine res_ok (cv (by omega : 64 ≤ (DV.sl none 0 z).len) (by kernel_rfl)) ?_
    refine res_dat (.sl none 0 ((z.take (64 : Int).toNat).drop 0)) (by kernel_rfl) ?_
    refine res_dat (.sl none 0 ((((DV.sl none 0 P).cell l 1).els.take (min 64 ((DV.sl none 0 P).cell l 1).len).toNat).drop 0)) (by kernel_rfl) ?_
    refine res_dat (.sl none 0 ((z.take (DV.sl none 0 z).len.toNat).drop (min 64 ((DV.sl none 0 P).cell l 1).len).toNat)) (by kernel_rfl) ?_
    have hc : numsOf ((((DV.sl none 0 P).cell l 1).els.take (min 64 ((DV.sl none 0 P).cell l 1).len).toNat).drop 0 ++ (z.take (DV.sl none 0 z).len.toNat).drop (min 64 ((DV.sl none 0 P).cell l 1).len).toNat) = (bys ((DV.sl none 0 P).cell l 1)).take 64 ++ (numsOf z).drop 64 := by
      rw [lz]; exact tear_as (by omega) pz
    generalize hg : (((DV.sl none 0 P).cell l 1).els.take (min 64 ((DV.sl none 0 P).cell l 1).len).toNat).drop 0 ++ (z.take (DV.sl none 0 z).len.toNat).drop (min 64 ((DV.sl none 0 P).cell l 1).len).toNat = g at hc
    refine res_dat (.sl none 0 g) (by rw [← hg]; kernel_rfl) ?_
    refine fun ad cap => res_dat (.sl none 0 (T.modify ((DV.sl none 0 P).at l 0).toNat fun e => layG e 0 [.sl ad cap g])) (by kernel_rfl) ?_
    refine res_dat (.sl none 0 []) rfl ?_
    refine cv (?_ : (((secs (.sl none 0 (T.modify ((DV.sl none 0 P).at l 0).toNat fun e => layG e 0 [.sl ad cap g])), [], 0, 1), 40) : D4 × Int) = syncQ (secs (.sl none 0 S), pens (.sl none 0 P), l, t)) (by kernel_rfl)
    rw [set_as hT, ← sync_stop run (by omega), ← hI]
    show (((_, _), _) : D4 × Int) = ((tearL _ _, _), _)
    unfold tearL
    rw [eP]
    show (((List.set _ _ (numsOf g), _), _) : D4 × Int) = _
    rw [hc, hw, f1]
  · have hs : ¬ (0 ≤ l ∧ l < (DV.sl none 0 P).len) := cv hs (by kernel_rfl)
    refine res_ok (cv (by omega : (DV.sl none 0 S).len ≤ 5629499534213) (by kernel_rfl)) ?_
    refine res_dat (.sl none 0 ((P.take (DV.sl none 0 P).len.toNat).drop 0)) (by kernel_rfl) ?_
    rw [all_of hP (Nat.le_refl _)]
    have hQ := hP
    have hall := hall0
    refine res_lop_of rfl (P := (0 : Int) ≤ (DV.sl none 0 P).len ∧ secs (.sl none 0 S) = doP (secs (.sl none 0 S)) ((pens (.sl none 0 P)).take (0 : Int).toNat)) (by kernel_rfl) rfl ⟨len_nn _, rfl⟩ (fun T hT i i0 i1 hI => ?_)
    obtain ⟨hi, hI⟩ := cv hI (by kernel_rfl : _ = (i ≤ (DV.sl none 0 P).len ∧ secs (.sl none 0 T) = doP (secs (.sl none 0 S)) ((pens (.sl none 0 P)).take i.toNat)))
    have i0 : 0 ≤ i := i0
    have lT := len_of hT (Nat.le_refl _)
    have pT := secs_len T
    have eT : (secs (.sl none 0 T)).length = (secs (.sl none 0 S)).length := by rw [hI, do_len]
    refine res_ite (fun hlt => ?_) fun hge => ?_
    · have hlt : i < (DV.sl none 0 P).len := cv hlt (by kernel_rfl)
      obtain ⟨e1, e2⟩ := pen_at hQ i0 (by omega)
      have hpw := hall _ (getD_in (0, []) (show i.toNat < (pens (.sl none 0 P)).length by rw [pens_len]; omega))
      rw [e1] at hpw
      unfold inD at hpw
      simp only at hpw
      refine res_dat (.sl none 0 ((((DV.sl none 0 P).cell i 1).els.take ((DV.sl none 0 P).cell i 1).len.toNat).drop 0)) (by kernel_rfl) ?_
      rw [sub_all e2]
      refine res_con rfl trivial (fun z hz hw => ?_)
      have hw := cv hw (by kernel_rfl : _ = (numsOf z = padL (bys ((DV.sl none 0 P).cell i 1))))
      rw [pad_id hpw.2] at hw
      refine res_ok (cv (⟨by omega, by omega⟩ : 0 ≤ (DV.sl none 0 P).at i 0 ∧ (DV.sl none 0 P).at i 0 < (DV.sl none 0 T).len) (by kernel_rfl)) ?_
      refine fun ad cap => res_dat (.sl none 0 (T.modify ((DV.sl none 0 P).at i 0).toNat fun e => layG e 0 [.sl ad cap z])) (by kernel_rfl) ?_
      exact res_chk_of rfl (P := i + 1 ≤ (DV.sl none 0 P).len ∧ secs (.sl none 0 (T.modify ((DV.sl none 0 P).at i 0).toNat fun e => layG e 0 [.sl ad cap z])) = doP (secs (.sl none 0 S)) ((pens (.sl none 0 P)).take (i + 1).toNat)) (a := ((DV.sl none 0 P).len - (i + 1)).toNat) (b := ((DV.sl none 0 P).len - i).toNat) (by kernel_rfl) (by kernel_rfl) (by kernel_rfl) ⟨by omega, sync_step hT hQ i0 (by omega) hI hw⟩ (by omega)
    have hge : ¬ i < (DV.sl none 0 P).len := cv hge (by kernel_rfl)
    rw [List.take_of_length_le (by omega)] at hI
    refine res_ite (fun hl => ?_) fun hl => ?_
    · have hl : 0 ≤ l := cv hl (by kernel_rfl)
      refine res_dat (.sl none 0 []) rfl ?_
      refine cv (?_ : (((secs (.sl none 0 T), [], l - (DV.sl none 0 P).len, 0), 0) : D4 × Int) = syncQ (secs (.sl none 0 S), pens (.sl none 0 P), l, t)) (by kernel_rfl)
      rw [← sync_yes run (by omega), if_pos hl, hI, lP, ← pP]
    · have hl : ¬ 0 ≤ l := cv hl (by kernel_rfl)
      refine res_dat (.sl none 0 []) rfl ?_
      refine cv (?_ : (((secs (.sl none 0 T), [], l, 0), 0) : D4 × Int) = syncQ (secs (.sl none 0 S), pens (.sl none 0 P), l, t)) (by kernel_rfl)
      rw [← sync_yes run (by omega), if_neg hl, hI]
end Go.Proofs.Ytdhdpgdifphfkaa
