/- DERIVED. The laws of both sides, walked. -/
import Derived.Test.YtdhdpgdifphfkaaDarg
namespace Go.Proofs.Ytdhdpgdifphfkaa
open Go.Dx Go.RowKit
set_option linter.unusedVariables false
set_option linter.unusedSimpArgs false
set_option maxRecDepth 100000 in
theorem DiskNewSpec_any (v1 : Value) (n : Int) (w : World) (hG : Glb tb w) (hn : -9223372036854775808 ≤ n ∧ n ≤ 9223372036854775807) (g0 : DiskA w v1) :
    Calls Try.prog 3 #[.int .i64 n, v1] w fun e w' => e = .returned (.bool true) ∧ Below w.heap.size w w' := by
  obtain ⟨S, P, l, t, c0, rfl, h0⟩ := g0
  have cn := cell_int (w := w) hn
  refine law_of_walk (tb := tb) (P := Try.prog) fine (C := [lawCon 10 [], cFew 11, cNew 12, cNew 13, cSame 14, cChk 15, cChk 16, cRes 17, cRes 18]) (conCons cSane_ok (conCons cFew_ok (conCons cNew_ok (conCons cNewR_ok (conCons cSame_ok (conCons cChk_ok (conCons cChkR_ok (conCons cRes_ok (conCons cResR_ok noCon))))))))) 200 3 [aI, .agg disk] rfl (w := w) hG
    (xs := [.n n, .sl none 0 S, .sl none 0 P, .n l, .n t]) ?_ ?_
  · exact ⟨cn, _, [], c0, rfl, rfl, h0, by simp [ArgsV]⟩
  clear h0 cn
  rw [tree_lnew]
  refine res_con rfl trivial (fun z _ _ hz => ?_)
  obtain rfl := n_inj (show [DV.n z] = [DV.n 1] from hz)
  refine res_ite (fun h => absurd (show (1 : Int) = 0 from h) (by decide)) fun _ => res_ite (fun _ => ?_) fun _ => rfl
  refine res_con rfl trivial (fun f _ _ _ => res_ite (fun _ => rfl) fun _ => ?_)
  refine res_con rfl trivial (fun S1 _ P1 _ l1 _ _ t1 _ _ e1 _ _ h1 => ?_)
  have h1 := cv h1 (by kernel_rfl : _ = (((dk S1 P1 l1 t1, e1) : D4 × Int) = newQ n))
  refine res_con rfl trivial (fun S2 _ P2 _ l2 _ _ t2 _ _ e2 _ _ h2 => ?_)
  have h2 := cv h2 (by kernel_rfl : _ = (((dk S2 P2 l2 t2, e2) : D4 × Int) = newQ n))
  obtain ⟨k1, k2⟩ := d5_in (h1.trans h2.symm)
  refine res_con rfl trivial (fun s _ _ hs => ?_)
  have hs := hold (cv hs (by kernel_rfl : _ = ([DV.n s] = yn (dk S1 P1 l1 t1 = dk S2 P2 l2 t2)))) k1
  refine res_ite (fun _ => ?_) fun k => absurd (cv (⟨by omega, k2⟩ : (¬ s = 0) ∧ e1 = e2) (by kernel_rfl)) k
  refine res_con rfl trivial (fun c _ _ hc => ?_)
  have hc := n_inj (cv hc (by kernel_rfl : _ = ([DV.n c] = [.n (chkF (dk S P l t))])))
  refine res_con rfl trivial (fun d _ _ hd => ?_)
  have hd := n_inj (cv hd (by kernel_rfl : _ = ([DV.n d] = [.n (chkF (dk S P l t))])))
  refine res_ite (fun _ => ?_) fun k => absurd (cv (hc.trans hd.symm) (by kernel_rfl)) k
  refine res_con rfl trivial (fun S3 _ P3 _ l3 _ _ t3 _ _ h3 => ?_)
  have h3 := cv h3 (by kernel_rfl : _ = (dk S3 P3 l3 t3 = resQ (dk S P l t)))
  refine res_con rfl trivial (fun S4 _ P4 _ l4 _ _ t4 _ _ h4 => ?_)
  have h4 := cv h4 (by kernel_rfl : _ = (dk S4 P4 l4 t4 = resQ (dk S P l t)))
  refine res_con rfl trivial (fun u _ _ hu => ?_)
  have hu := hold (cv hu (by kernel_rfl : _ = ([DV.n u] = yn (dk S3 P3 l3 t3 = dk S4 P4 l4 t4)))) (h3.trans h4.symm)
  exact cv (one_n hu) (by kernel_rfl)
set_option maxRecDepth 100000 in
theorem DiskWriteSpec_any (v0 v2 : Value) (k : Int) (w : World) (hG : Glb tb w) (g0 : DiskA w v0) (hk : -9223372036854775808 ≤ k ∧ k ≤ 9223372036854775807) (g2 : ∃ l, cellA w bytes (.sl none 0 l) v2) :
    Calls Try.prog 4 #[v0, .int .i64 k, v2] w fun e w' => e = .returned (.bool true) ∧ Below w.heap.size w w' := by
  obtain ⟨S, P, l, t, c0, rfl, h0⟩ := g0
  obtain ⟨B, h2⟩ := g2
  have ck := cell_int (w := w) hk
  refine law_of_walk (tb := tb) (P := Try.prog) fine (C := [lawCon 10 [], cFew 11, cWrite 19, cWrite 20, cRead 21, cRead 22, cSame 14]) (conCons cSane_ok (conCons cFew_ok (conCons cWrite_ok (conCons cWriteR_ok (conCons cRead_ok (conCons cReadR_ok (conCons cSame_ok noCon))))))) 200 4 [.agg disk, aI, .c bytes] rfl (w := w) hG
    (xs := [.sl none 0 S, .sl none 0 P, .n l, .n t, .n k, .sl none 0 B]) ?_ ?_
  · exact ⟨_, [.n k, .sl none 0 B], c0, rfl, rfl, h0, ck, h2, by simp [ArgsV]⟩
  clear h0 h2 ck
  rw [tree_lwrite]
  refine res_con rfl trivial (fun z _ _ hz => ?_)
  obtain rfl := n_inj (show [DV.n z] = [DV.n 1] from hz)
  refine res_ite (fun h => absurd (show (1 : Int) = 0 from h) (by decide)) fun _ => ?_
  refine res_con rfl trivial (fun f _ _ _ => res_ite (fun _ => rfl) fun _ => ?_)
  refine res_con rfl trivial (fun S1 _ P1 _ l1 _ _ t1 _ _ e1 _ _ h1 => ?_)
  have h1 := cv h1 (by kernel_rfl : _ = (((dk S1 P1 l1 t1, e1) : D4 × Int) = writeQ (dk S P l t) k (numsOf B)))
  refine res_con rfl trivial (fun S2 _ P2 _ l2 _ _ t2 _ _ e2 _ _ h2 => ?_)
  have h2 := cv h2 (by kernel_rfl : _ = (((dk S2 P2 l2 t2, e2) : D4 × Int) = writeQ (dk S P l t) k (numsOf B)))
  obtain ⟨k1, k2⟩ := d5_in (h1.trans h2.symm)
  refine res_con rfl trivial (fun b3 _ e3 _ _ h3 => ?_)
  have h3 := cv h3 (by kernel_rfl : _ = (((numsOf b3, e3) : List Int × Int) = readQ (dk S P l t) k))
  refine res_con rfl trivial (fun b4 _ e4 _ _ h4 => ?_)
  have h4 := cv h4 (by kernel_rfl : _ = (((numsOf b4, e4) : List Int × Int) = readQ (dk S P l t) k))
  obtain ⟨k3, k4⟩ := b5_in (h3.trans h4.symm)
  refine res_con rfl trivial (fun s _ _ hs => ?_)
  have hs := hold (cv hs (by kernel_rfl : _ = ([DV.n s] = yn (dk S1 P1 l1 t1 = dk S2 P2 l2 t2)))) k1
  refine res_ite (fun _ => ?_) fun q => absurd (cv (⟨by omega, k2⟩ : (¬ s = 0) ∧ e1 = e2) (by kernel_rfl)) q
  refine res_dat (.s (strOfNums (numsOf b3))) (by kernel_rfl) (res_dat (.s (strOfNums (numsOf b4))) (by kernel_rfl) ?_)
  exact res_ite (fun _ => rfl) fun q => absurd (cv (⟨congrArg strOfNums k3, k4⟩ : strOfNums (numsOf b3) = strOfNums (numsOf b4) ∧ e3 = e4) (by kernel_rfl)) q
set_option maxRecDepth 100000 in
theorem DiskSyncSpec_any (v0 : Value) (k : Int) (w : World) (hG : Glb tb w) (g0 : DiskA w v0) (hk : -9223372036854775808 ≤ k ∧ k ≤ 9223372036854775807) :
    Calls Try.prog 5 #[v0, .int .i64 k] w fun e w' => e = .returned (.bool true) ∧ Below w.heap.size w w' := by
  obtain ⟨S, P, l, t, c0, rfl, h0⟩ := g0
  have ck := cell_int (w := w) hk
  refine law_of_walk (tb := tb) (P := Try.prog) fine (C := [lawCon 10 [], cFew 11, cSync 23, cSync 24, cStop 25, cStop 26, cSame 14]) (conCons cSane_ok (conCons cFew_ok (conCons cSync_ok (conCons cSyncR_ok (conCons cStop_ok (conCons cStopR_ok (conCons cSame_ok noCon))))))) 200 5 [.agg disk, aI] rfl (w := w) hG
    (xs := [.sl none 0 S, .sl none 0 P, .n l, .n t, .n k]) ?_ ?_
  · exact ⟨_, [.n k], c0, rfl, rfl, h0, ck, by simp [ArgsV]⟩
  clear h0 ck
  rw [tree_lsync]
  refine res_con rfl trivial (fun z _ _ hz => ?_)
  obtain rfl := n_inj (show [DV.n z] = [DV.n 1] from hz)
  refine res_ite (fun h => absurd (show (1 : Int) = 0 from h) (by decide)) fun _ => ?_
  refine res_con rfl trivial (fun f _ _ _ => res_ite (fun _ => rfl) fun _ => ?_)
  refine res_con rfl trivial (fun S1 _ P1 _ l1 _ _ t1 _ _ e1 _ _ h1 => ?_)
  have h1 := cv h1 (by kernel_rfl : _ = (((dk S1 P1 l1 t1, e1) : D4 × Int) = syncQ (dk S P l t)))
  refine res_con rfl trivial (fun S2 _ P2 _ l2 _ _ t2 _ _ e2 _ _ h2 => ?_)
  have h2 := cv h2 (by kernel_rfl : _ = (((dk S2 P2 l2 t2, e2) : D4 × Int) = syncQ (dk S P l t)))
  obtain ⟨k1, k2⟩ := d5_in (h1.trans h2.symm)
  refine res_con rfl trivial (fun S3 _ P3 _ l3 _ _ t3 _ _ e3 _ _ h3 => ?_)
  have h3 := cv h3 (by kernel_rfl : _ = (((dk S3 P3 l3 t3, e3) : D4 × Int) = stopQ (dk S P l t) k))
  refine res_con rfl trivial (fun S4 _ P4 _ l4 _ _ t4 _ _ e4 _ _ h4 => ?_)
  have h4 := cv h4 (by kernel_rfl : _ = (((dk S4 P4 l4 t4, e4) : D4 × Int) = stopQ (dk S P l t) k))
  obtain ⟨k3, k4⟩ := d5_in (h3.trans h4.symm)
  refine res_con rfl trivial (fun s _ _ hs => ?_)
  have hs := hold (cv hs (by kernel_rfl : _ = ([DV.n s] = yn (dk S1 P1 l1 t1 = dk S2 P2 l2 t2)))) k1
  refine res_ite (fun _ => ?_) fun q => absurd (cv (⟨by omega, k2⟩ : (¬ s = 0) ∧ e1 = e2) (by kernel_rfl)) q
  refine res_con rfl trivial (fun u _ _ hu => ?_)
  have hu := hold (cv hu (by kernel_rfl : _ = ([DV.n u] = yn (dk S3 P3 l3 t3 = dk S4 P4 l4 t4)))) k3
  exact res_ite (fun _ => rfl) fun q => absurd (cv (⟨by omega, k4⟩ : (¬ u = 0) ∧ e3 = e4) (by kernel_rfl)) q
set_option maxRecDepth 100000 in
theorem DiskStopped_any (v0 v3 : Value) (k m : Int) (w : World) (hG : Glb tb w) (g0 : DiskA w v0) (hk : -9223372036854775808 ≤ k ∧ k ≤ 9223372036854775807) (hm : -9223372036854775808 ≤ m ∧ m ≤ 9223372036854775807) (g3 : ∃ l, cellA w bytes (.sl none 0 l) v3) :
    Calls Try.prog 9 #[v0, .int .i64 k, .int .i64 m, v3] w fun e w' => e = .returned (.bool true) ∧ Below w.heap.size w w' := by
  obtain ⟨S, P, l, t, c0, rfl, h0⟩ := g0
  obtain ⟨B, h3⟩ := g3
  have ck := cell_int (w := w) hk
  have cm := cell_int (w := w) hm
  have hS : HasSh secS (.sl none 0 S) := (cells_fst h0).1
  refine law_of_walk (tb := tb) (P := Try.prog) fine (C := [lawCon 10 [], cFew 11, cRes 17, cSame 14, cRead 21, cWrite 19, cSync 23, cStop 25, lStp]) (conCons cSane_ok (conCons cFew_ok (conCons cRes_ok (conCons cSame_ok (conCons cRead_ok (conCons cWrite_ok (conCons cSync_ok (conCons cStop_ok (lopCons rfl noCon))))))))) 200 9 [.agg disk, aI, aI, .c bytes] rfl (w := w) hG
    (xs := [.sl none 0 S, .sl none 0 P, .n l, .n t, .n k, .n m, .sl none 0 B]) ?_ ?_
  · exact ⟨_, [.n k, .n m, .sl none 0 B], c0, rfl, rfl, h0, ck, cm, h3, by simp [ArgsV]⟩
  clear h0 h3 ck cm
  have lS := len_of hS (Nat.le_refl _)
  have pS := secs_len S
  rw [tree_lstop]
  refine res_con rfl trivial (fun z _ _ hz => ?_)
  obtain rfl := n_inj (show [DV.n z] = [DV.n 1] from hz)
  refine res_ite (fun h => absurd (show (1 : Int) = 0 from h) (by decide)) fun _ => ?_
  refine res_con rfl trivial (fun f _ _ _ => res_ite (fun _ => rfl) fun _ => ?_)
  refine res_con rfl trivial (fun S1 hS1 P1 hP1 l1 _ _ t1 _ _ h1 => ?_)
  have h1 := cv h1 (by kernel_rfl : _ = (dk S1 P1 l1 t1 = resQ (dk S P l t)))
  refine res_con rfl trivial (fun S2 _ P2 _ l2 _ _ t2 _ _ h2 => ?_)
  have h2 := cv h2 (by kernel_rfl : _ = (dk S2 P2 l2 t2 = resQ (dk S1 P1 l1 t1)))
  have k0 : secs (.sl none 0 S1) = secs (.sl none 0 S) := congrArg (fun d : D4 => d.1) h1
  have k1 : pens (.sl none 0 P1) = [] := congrArg (fun d : D4 => d.2.1) h1
  have k2 : l1 = -1 := congrArg (fun d : D4 => d.2.2.1) h1
  have k3 : t1 = 0 := congrArg (fun d : D4 => d.2.2.2) h1
  have lS1 := len_of hS1 (Nat.le_refl _)
  have lP1 := len_of hP1 (Nat.le_refl _)
  have pS1 := secs_len S1
  have pP1 := pens_len P1
  rw [k0] at pS1
  rw [k1] at pP1
  simp only [List.length_nil] at pP1
  refine res_ite (fun _ => ?_) fun q => absurd (cv (by omega : ¬ ((¬ t1 = 0 ∨ ¬ l1 = -1) ∨ ¬ (DV.sl none 0 P1).len = 0)) (by kernel_rfl)) q
  refine res_con rfl trivial (fun s _ _ hs => ?_)
  have hs := hold (cv hs (by kernel_rfl : _ = ([DV.n s] = yn (dk S1 P1 l1 t1 = dk S2 P2 l2 t2)))) (by
    rw [h2, h1]; rfl)
  refine res_ite (fun q => ?_) fun _ => ?_
  · have q : s = 0 ∨ ¬ (DV.sl none 0 S1).len = (DV.sl none 0 S).len := cv q (by kernel_rfl)
    omega
  refine res_lop_of rfl (P := (0 : Int) ≤ (DV.sl none 0 S).len) (by kernel_rfl) rfl (len_nn _) (fun i i0 i1 hI => ?_)
  have hI : i ≤ (DV.sl none 0 S).len := cv hI (by kernel_rfl)
  have i0 : 0 ≤ i := i0
  refine res_ite (fun hlt => ?_) fun _ => ?_
  · have hlt : i < (DV.sl none 0 S).len := cv hlt (by kernel_rfl)
    obtain ⟨e1, e2⟩ := sec_at hS i0 (by omega)
    obtain ⟨f1, f2⟩ := sec_at hS1 i0 (by omega)
    have eq : strOfNums (bys ((DV.sl none 0 S1).cell i 0)) = strOfNums (bys ((DV.sl none 0 S).cell i 0)) := by rw [← e1, ← f1, k0]
    have hr : 0 ≤ i ∧ i < (DV.sl none 0 S1).len := ⟨i0, by omega⟩
    have mea : ((DV.sl none 0 S).len - (i + 1)).toNat < ((DV.sl none 0 S).len - i).toNat := by omega
    have hP : i + 1 ≤ (DV.sl none 0 S).len := by omega
    refine res_both (res_ok (cv hr (by kernel_rfl)) (res_both ?_ ?_)) ?_
    · refine res_dat (.s (strOfNums (bys ((DV.sl none 0 S1).cell i 0)))) (by kernel_rfl) (res_dat (.s (strOfNums (bys ((DV.sl none 0 S).cell i 0)))) (by kernel_rfl) ?_)
      exact res_ite (fun q => absurd (cv q (by kernel_rfl : _ = ¬ strOfNums (bys ((DV.sl none 0 S1).cell i 0)) = strOfNums (bys ((DV.sl none 0 S).cell i 0)))) fun x => x eq) fun _ => res_chk_of rfl (P := i + 1 ≤ (DV.sl none 0 S).len) (by kernel_rfl) (by kernel_rfl) (by kernel_rfl) hP mea
    · refine res_dat (.s (strOfNums (bys ((DV.sl none 0 S).cell i 0)))) (by kernel_rfl) (res_dat (.s (strOfNums (bys ((DV.sl none 0 S1).cell i 0)))) (by kernel_rfl) ?_)
      exact res_ite (fun q => absurd (cv q (by kernel_rfl : _ = ¬ strOfNums (bys ((DV.sl none 0 S1).cell i 0)) = strOfNums (bys ((DV.sl none 0 S).cell i 0)))) fun x => x eq) fun _ => res_chk_of rfl (P := i + 1 ≤ (DV.sl none 0 S).len) (by kernel_rfl) (by kernel_rfl) (by kernel_rfl) hP mea
    · refine res_dat (.s (strOfNums (bys ((DV.sl none 0 S).cell i 0)))) (by kernel_rfl) (res_ok (cv hr (by kernel_rfl)) (res_dat (.s (strOfNums (bys ((DV.sl none 0 S1).cell i 0)))) (by kernel_rfl) ?_))
      exact res_ite (fun q => absurd (cv q (by kernel_rfl : _ = ¬ strOfNums (bys ((DV.sl none 0 S1).cell i 0)) = strOfNums (bys ((DV.sl none 0 S).cell i 0)))) fun x => x eq) fun _ => res_chk_of rfl (P := i + 1 ≤ (DV.sl none 0 S).len) (by kernel_rfl) (by kernel_rfl) (by kernel_rfl) hP mea
  have nr : ¬ runD (dk S P l 1) := fun r => absurd (show (1 : Int) = 0 from r.2) (by decide)
  refine res_con rfl trivial (fun b3 _ e3 _ _ h3 => ?_)
  have h3 := (b5_in ((cv h3 (by kernel_rfl : _ = (((numsOf b3, e3) : List Int × Int) = readQ (dk S P l 1) k))).trans (read_no fun x => nr x.1).symm)).2
  refine res_con rfl trivial (fun S4 _ P4 _ l4 _ _ t4 _ _ e4 _ _ h4 => ?_)
  have h4 := (d5_in ((cv h4 (by kernel_rfl : _ = (((dk S4 P4 l4 t4, e4) : D4 × Int) = writeQ (dk S P l 1) k (numsOf B)))).trans (write_no fun x => nr x.1).symm)).2
  refine res_con rfl trivial (fun S5 _ P5 _ l5 _ _ t5 _ _ e5 _ _ h5 => ?_)
  have h5 := (d5_in ((cv h5 (by kernel_rfl : _ = (((dk S5 P5 l5 t5, e5) : D4 × Int) = syncQ (dk S P l 1)))).trans (sync_no nr).symm)).2
  refine res_con rfl trivial (fun S6 _ P6 _ l6 _ _ t6 _ _ e6 _ _ h6 => ?_)
  have h6 := (d5_in ((cv h6 (by kernel_rfl : _ = (((dk S6 P6 l6 t6, e6) : D4 × Int) = stopQ (dk S P l 1) m))).trans (stop_no nr).symm)).2
  exact res_ite (fun _ => rfl) fun q => absurd (cv (⟨⟨⟨h3, h4⟩, h5⟩, h6⟩ : ((e3 = 40 ∧ e4 = 40) ∧ e5 = 40) ∧ e6 = 40) (by kernel_rfl)) q
end Go.Proofs.Ytdhdpgdifphfkaa
