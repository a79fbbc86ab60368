/- DERIVED. The law of a disk's history, walked. -/
import Derived.Test.YtdhdpgdifphfkaaDmathh
import Derived.Test.YtdhdpgdifphfkaaDtreeh
namespace Go.Proofs.Ytdhdpgdifphfkaa
open Go.Dx Go.RowKit
set_option linter.unusedVariables false
set_option linter.unusedSimpArgs false
theorem hold_bytes {z : List (List DV)} (hz : HasSh bytes (.sl none 0 z)) {e f s : Int} (h : ((numsOf z, e) : List Int × Int) = (sec2 f s, 0)) : e = 0 ∧ (DV.sl none 0 z).len = 128 ∧ (DV.sl none 0 z).at 0 0 = f ∧ (DV.sl none 0 z).at 64 0 = s ∧ (DV.sl none 0 z).at 1 0 = 0 ∧ (DV.sl none 0 z).at 127 0 = 0 := by
  obtain ⟨h1, h2⟩ := b5_in h
  have l1 : z.length = 128 := by have := congrArg List.length h1; rw [numsOf, List.length_map, sec2_len] at this; exact this
  have n1 := len_of hz (Nat.le_refl _)
  have v0 := byte_at hz (k := 0) (by decide) (by omega)
  have v1 := byte_at hz (k := 1) (by decide) (by omega)
  have v64 := byte_at hz (k := 64) (by decide) (by omega)
  have v127 := byte_at hz (k := 127) (by decide) (by omega)
  rw [h1] at v0 v1 v64 v127
  exact ⟨h2, by omega, v0.symm, v64.symm, v1.symm, v127.symm⟩
set_option maxRecDepth 100000 in
theorem cHold_ok (N : Nat) (w0 : World) : ConOk Try.prog tb N w0 cHold := by
  refine con_of_walk (tb := tb) fine (C := [cRead 21]) (conCons cRead_ok noCon) 200 rfl ?_ N w0
  refine fun S _ P _ l _ _ t _ _ f0 _ _ f1 _ _ f2 _ _ f3 _ _ s0 _ _ s1 _ _ s2 _ _ s3 _ _ _ => ?_
  rw [tree_hold]
  refine res_con rfl trivial (fun b0 hb0 e0 _ _ h0 => ?_)
  have h0 := cv h0 (by kernel_rfl : _ = (((numsOf b0, e0) : List Int × Int) = readQ (dk S P l t) 0))
  refine res_ite (fun q => ?_) fun _ => ?_
  · have q : ((((¬ e0 = 0 ∨ ¬ (DV.sl none 0 b0).len = 128) ∨ ¬ (DV.sl none 0 b0).at 0 0 = f0) ∨ ¬ (DV.sl none 0 b0).at 64 0 = s0) ∨ ¬ (DV.sl none 0 b0).at 1 0 = 0) ∨ ¬ (DV.sl none 0 b0).at 127 0 = 0 := cv q (by kernel_rfl)
    refine cv (fun hy => ?_ : hYes (dk S P l t) (f0, f1, f2, f3) (s0, s1, s2, s3) → [DV.n 0] = [DV.n 1]) (by kernel_rfl)
    have hh := hold_bytes hb0 (f := f0) (s := s0) (h0.trans (hy 0 (by decide) (by decide)))
    omega
  refine res_con rfl trivial (fun b1 hb1 e1 _ _ h1 => ?_)
  have h1 := cv h1 (by kernel_rfl : _ = (((numsOf b1, e1) : List Int × Int) = readQ (dk S P l t) 1))
  refine res_ite (fun q => ?_) fun _ => ?_
  · have q : ((((¬ e1 = 0 ∨ ¬ (DV.sl none 0 b1).len = 128) ∨ ¬ (DV.sl none 0 b1).at 0 0 = f1) ∨ ¬ (DV.sl none 0 b1).at 64 0 = s1) ∨ ¬ (DV.sl none 0 b1).at 1 0 = 0) ∨ ¬ (DV.sl none 0 b1).at 127 0 = 0 := cv q (by kernel_rfl)
    refine cv (fun hy => ?_ : hYes (dk S P l t) (f0, f1, f2, f3) (s0, s1, s2, s3) → [DV.n 0] = [DV.n 1]) (by kernel_rfl)
    have hh := hold_bytes hb1 (f := f1) (s := s1) (h1.trans (hy 1 (by decide) (by decide)))
    omega
  refine res_con rfl trivial (fun b2 hb2 e2 _ _ h2 => ?_)
  have h2 := cv h2 (by kernel_rfl : _ = (((numsOf b2, e2) : List Int × Int) = readQ (dk S P l t) 2))
  refine res_ite (fun q => ?_) fun _ => ?_
  · have q : ((((¬ e2 = 0 ∨ ¬ (DV.sl none 0 b2).len = 128) ∨ ¬ (DV.sl none 0 b2).at 0 0 = f2) ∨ ¬ (DV.sl none 0 b2).at 64 0 = s2) ∨ ¬ (DV.sl none 0 b2).at 1 0 = 0) ∨ ¬ (DV.sl none 0 b2).at 127 0 = 0 := cv q (by kernel_rfl)
    refine cv (fun hy => ?_ : hYes (dk S P l t) (f0, f1, f2, f3) (s0, s1, s2, s3) → [DV.n 0] = [DV.n 1]) (by kernel_rfl)
    have hh := hold_bytes hb2 (f := f2) (s := s2) (h2.trans (hy 2 (by decide) (by decide)))
    omega
  refine res_con rfl trivial (fun b3 hb3 e3 _ _ h3 => ?_)
  have h3 := cv h3 (by kernel_rfl : _ = (((numsOf b3, e3) : List Int × Int) = readQ (dk S P l t) 3))
  refine res_ite (fun q => ?_) fun _ => ?_
  · have q : ((((¬ e3 = 0 ∨ ¬ (DV.sl none 0 b3).len = 128) ∨ ¬ (DV.sl none 0 b3).at 0 0 = f3) ∨ ¬ (DV.sl none 0 b3).at 64 0 = s3) ∨ ¬ (DV.sl none 0 b3).at 1 0 = 0) ∨ ¬ (DV.sl none 0 b3).at 127 0 = 0 := cv q (by kernel_rfl)
    refine cv (fun hy => ?_ : hYes (dk S P l t) (f0, f1, f2, f3) (s0, s1, s2, s3) → [DV.n 0] = [DV.n 1]) (by kernel_rfl)
    have hh := hold_bytes hb3 (f := f3) (s := s3) (h3.trans (hy 3 (by decide) (by decide)))
    omega
  exact cv (fun _ => rfl : hYes (dk S P l t) (f0, f1, f2, f3) (s0, s1, s2, s3) → [DV.n 1] = [DV.n 1]) (by kernel_rfl)
theorem u8_arg {a : Int} (h : (Go.Lit.int .u8 a).wf = true) : 0 ≤ a ∧ a ≤ 255 := by
  simp [Go.Lit.wf, IntKind.min, IntKind.max, IntKind.signed, IntKind.bits] at h
  exact ⟨by omega, by omega⟩
theorem cell_byte {w : World} {a : Int} (h : 0 ≤ a ∧ a ≤ 255) : cellA w u8s (.n a) (.int .u8 a) :=
  ⟨by simp only [HasSh]; exact ⟨a, rfl, h, by simpa [kmin, IntKind.signed, IntKind.bits] using h.1, by simpa [kmax, IntKind.signed, IntKind.bits] using h.2⟩, rfl⟩
set_option maxRecDepth 100000 in
theorem DiskHistory_any (v0 : Value) (a : Int) (w : World) (hG : Glb tb w) (g0 : ∃ l, cellA w mvS (.sl none 0 l) v0) (ha : 0 ≤ a ∧ a ≤ 255) :
    Calls Try.prog 6 #[v0, .int .u8 a] w fun e w' => e = .returned (.bool true) ∧ Below w.heap.size w w' := by
  obtain ⟨M, h0⟩ := g0
  have ca := cell_byte (w := w) ha
  have hM : HasSh mvS (.sl none 0 M) := h0.1
  refine law_of_walk (tb := tb) (P := Try.prog) fine (C := [lawCon 10 [], cNew 12, cStop 25, cWrite 19, cSync 23, cRes 17, cHold, cDbl, lHis, lHis2]) (conCons cSane_ok (conCons cNew_ok (conCons cStop_ok (conCons cWrite_ok (conCons cSync_ok (conCons cRes_ok (conCons cHold_ok (conCons cDbl_ok (lopCons rfl (lopCons rfl noCon)))))))))) 200 6 [.c mvS, .c u8s] rfl (w := w) hG
    (xs := [.sl none 0 M, .n a]) ?_ ?_
  · exact ⟨h0, ca, by simp [ArgsV]⟩
  clear h0 ca
  have lM := len_of hM (Nat.le_refl _)
  have lM0 := len_nn (.sl none 0 M)
  rw [tree_lhis]
  refine res_con rfl trivial (fun z _ _ hz => ?_)
  obtain rfl := n_inj (show [DV.n z] = [DV.n 1] from hz)
  refine res_ite (fun h => absurd (show (1 : Int) = 0 from h) (by decide)) fun _ => ?_
  refine res_ite (fun _ => rfl) fun hm => ?_
  have hm : ¬ 40 < (DV.sl none 0 M).len := cv hm (by kernel_rfl)
  refine res_con rfl trivial (fun Sa _ Pa _ la _ _ ta _ _ ea _ _ hna => ?_)
  obtain ⟨da, hna⟩ := d5_in ((cv hna (by kernel_rfl : _ = (((dk Sa Pa la ta, ea) : D4 × Int) = newQ 4))).trans (new_yes (by decide)).symm)
  have da : dk Sa Pa la ta = (secs4 (0, 0, 0, 0) (0, 0, 0, 0), pw [], -1, 0) := da
  have ra : runD (secs4 (0, 0, 0, 0) (0, 0, 0, 0), pw [], -1, 0) := run_secs _ _ (by decide)
  refine res_con rfl trivial (fun Sb _ Pb _ lb _ _ tb' _ _ eb _ _ hnb => ?_)
  have hnb := cv hnb (by kernel_rfl : _ = (((dk Sb Pb lb tb', eb) : D4 × Int) = stopQ (dk Sa Pa la ta) a))
  rw [da] at hnb
  obtain ⟨db, hnb⟩ := d5_in (hnb.trans (stop_yes ra (by omega)).symm)
  have db : dk Sb Pb lb tb' = (secs4 (0, 0, 0, 0) (0, 0, 0, 0), pw [], a, 0) := db
  refine res_ite (fun q => ?_) fun _ => ?_
  · have q : ¬ ea = 0 ∨ ¬ eb = 0 := cv q (by kernel_rfl)
    omega
  refine res_dat (.sl none 0 []) (by kernel_rfl) ?_
  refine res_lop_of rfl (P := (0 : Int) ≤ (DV.sl none 0 M).len ∧ (DV.sl none 0 []).len ≤ 0 ∧ hisP (dk Sb Pb lb tb') (0, 0, 0, 0) (0, 0, 0, 0) (0, 0, 0, 0) (acts (.sl none 0 [])) a) (by kernel_rfl) rfl ⟨lM0, Int.le_refl 0, rfl, rfl, db, ha.1, ha.2⟩
    (fun S hS P hP l _ _ t _ _ l0 _ _ l1 _ _ l2 _ _ l3 _ _ f0 _ _ f1 _ _ f2 _ _ f3 _ _ s0 _ _ s1 _ _ s2 _ _ s3 _ _ w hw room _ _ i i0 i1 hI => ?_)
  obtain ⟨hi, hn, his⟩ := cv hI (by kernel_rfl : _ = (i ≤ (DV.sl none 0 M).len ∧ (DV.sl none 0 w).len ≤ i ∧ hisP (dk S P l t) (l0, l1, l2, l3) (f0, f1, f2, f3) (s0, s1, s2, s3) (acts (.sl none 0 w)) room))
  have i0 : 0 ≤ i := i0
  clear hI
  have lw := len_of hw (Nat.le_refl _)
  have pwl := acts_len w
  have wok := acts_ok hw
  refine res_ite (fun hlt => ?_) fun _ => ?_
  rotate_left
  · refine res_con rfl trivial (fun Sd _ Pd _ ld _ _ td _ _ hd => ?_)
    have hd := cv hd (by kernel_rfl : _ = (dk Sd Pd ld td = resQ (dk S P l t)))
    obtain ⟨k1, k2, k3, k4, k5⟩ := his
    rw [k3] at hd
    have hd : dk Sd Pd ld td = (secs4 (f0, f1, f2, f3) (f0, f1, f2, f3), [], -1, 0) := hd
    refine res_con rfl trivial (fun o _ _ ho => ?_)
    have ho := n_inj ((cv ho (by kernel_rfl : _ = (hYes (dk Sd Pd ld td) (f0, f1, f2, f3) (s0, s1, s2, s3) → [DV.n o] = [DV.n 1]))) (by rw [hd, k1]; exact hold_secs _ _ (by decide)))
    exact cv (one_n ho) (by kernel_rfl)
  have hlt : i < (DV.sl none 0 M).len := cv hlt (by kernel_rfl)
  obtain ⟨_, at4⟩ := acts_at hM i0 (by omega)
  refine res_ite (fun _ => ?_) fun _ => ?_
  · refine res_con rfl trivial (fun z hz hzz => ?_)
    have hzz : numsOf z = dblL ((DV.sl none 0 M).at i 2) := cv hzz (by kernel_rfl)
    refine res_con rfl trivial (fun S1 _ P1 _ l1' _ _ t1 _ _ e1 _ _ h1 => ?_)
    have h1 := cv h1 (by kernel_rfl : _ = (((dk S1 P1 l1' t1, e1) : D4 × Int) = writeQ (dk S P l t) (Int.tmod ((DV.sl none 0 M).at i 1) 4) (numsOf z)))
    obtain ⟨k1, hh, hy⟩ := his_write (a := (Int.tmod ((DV.sl none 0 M).at i 1) 4, (DV.sl none 0 M).at i 2)) his wok (by omega) at4 hzz h1
    refine res_ite (fun q => absurd k1 (cv q (by kernel_rfl))) fun _ => ?_
    have hwl : (DV.sl none 0 (w ++ [[.n ((DV.sl none 0 M).at i 0), .n ((DV.sl none 0 M).at i 1), .n ((DV.sl none 0 M).at i 2)]])).len ≤ i + 1 := by
      generalize ([.n ((DV.sl none 0 M).at i 0), .n ((DV.sl none 0 M).at i 1), .n ((DV.sl none 0 M).at i 2)] : List DV) = row
      have l3 : (w ++ [row]).length = w.length + 1 := List.length_append
      have : (DV.sl none 0 (w ++ [row])).len = ((w ++ [row]).length : Int) := clampL_eq (show (w ++ [row]).length ≤ 9223372036854775807 by omega)
      omega
    simp only at hy hh
    refine res_ite (fun hc => ?_) fun hc => ?_
    · have hc : Int.tmod ((DV.sl none 0 M).at i 1) 4 = 0 := cv hc (by kernel_rfl)
      refine res_ok (cv (by omega : (DV.sl none 0 w).len + 1 ≤ 35184372088832) (by kernel_rfl)) ?_
      refine res_dat (.sl none 0 [[.n ((DV.sl none 0 M).at i 0), .n ((DV.sl none 0 M).at i 1), .n ((DV.sl none 0 M).at i 2)]]) (by kernel_rfl) (res_dat (.sl none 0 (w ++ [[.n ((DV.sl none 0 M).at i 0), .n ((DV.sl none 0 M).at i 1), .n ((DV.sl none 0 M).at i 2)]])) (by kernel_rfl) ?_)
      rw [hc] at hy hh
      have hy : hYes (dk S1 P1 l1' t1) (((DV.sl none 0 M).at i 2), l1, l2, l3) (((DV.sl none 0 M).at i 2), l1, l2, l3) := hy
      have hh : hisP (dk S1 P1 l1' t1) (((DV.sl none 0 M).at i 2), l1, l2, l3) (f0, f1, f2, f3) (s0, s1, s2, s3) (acts (.sl none 0 w) ++ [(0, ((DV.sl none 0 M).at i 2))]) room := hh
      refine res_con rfl trivial (fun o _ _ ho => ?_)
      have ho := n_inj ((cv ho (by kernel_rfl : _ = (hYes (dk S1 P1 l1' t1) (((DV.sl none 0 M).at i 2), l1, l2, l3) (((DV.sl none 0 M).at i 2), l1, l2, l3) → [DV.n o] = [DV.n 1]))) hy)
      refine res_ite (fun q => ?_) fun _ => ?_
      · have q : o = 0 := cv q (by kernel_rfl)
        omega
      refine res_chk_of rfl (P := i + 1 ≤ (DV.sl none 0 M).len ∧ (DV.sl none 0 (w ++ [[.n ((DV.sl none 0 M).at i 0), .n ((DV.sl none 0 M).at i 1), .n ((DV.sl none 0 M).at i 2)]])).len ≤ i + 1 ∧ hisP (dk S1 P1 l1' t1) (((DV.sl none 0 M).at i 2), l1, l2, l3) (f0, f1, f2, f3) (s0, s1, s2, s3) (acts (.sl none 0 (w ++ [[.n ((DV.sl none 0 M).at i 0), .n ((DV.sl none 0 M).at i 1), .n ((DV.sl none 0 M).at i 2)]]))) room) (a := ((DV.sl none 0 M).len - (i + 1)).toNat) (b := ((DV.sl none 0 M).len - i).toNat) (by kernel_rfl) (by kernel_rfl) (by kernel_rfl) ⟨by omega, hwl, ?_⟩ (by omega)
      rw [acts_app, hc]
      exact hh
    have hc0 : ¬ Int.tmod ((DV.sl none 0 M).at i 1) 4 = 0 := cv hc (by kernel_rfl)
    refine res_ite (fun hc => ?_) fun hc => ?_
    · have hc : Int.tmod ((DV.sl none 0 M).at i 1) 4 = 1 := cv hc (by kernel_rfl)
      refine res_ok (cv (by omega : (DV.sl none 0 w).len + 1 ≤ 35184372088832) (by kernel_rfl)) ?_
      refine res_dat (.sl none 0 [[.n ((DV.sl none 0 M).at i 0), .n ((DV.sl none 0 M).at i 1), .n ((DV.sl none 0 M).at i 2)]]) (by kernel_rfl) (res_dat (.sl none 0 (w ++ [[.n ((DV.sl none 0 M).at i 0), .n ((DV.sl none 0 M).at i 1), .n ((DV.sl none 0 M).at i 2)]])) (by kernel_rfl) ?_)
      rw [hc] at hy hh
      have hy : hYes (dk S1 P1 l1' t1) (l0, ((DV.sl none 0 M).at i 2), l2, l3) (l0, ((DV.sl none 0 M).at i 2), l2, l3) := hy
      have hh : hisP (dk S1 P1 l1' t1) (l0, ((DV.sl none 0 M).at i 2), l2, l3) (f0, f1, f2, f3) (s0, s1, s2, s3) (acts (.sl none 0 w) ++ [(1, ((DV.sl none 0 M).at i 2))]) room := hh
      refine res_con rfl trivial (fun o _ _ ho => ?_)
      have ho := n_inj ((cv ho (by kernel_rfl : _ = (hYes (dk S1 P1 l1' t1) (l0, ((DV.sl none 0 M).at i 2), l2, l3) (l0, ((DV.sl none 0 M).at i 2), l2, l3) → [DV.n o] = [DV.n 1]))) hy)
      refine res_ite (fun q => ?_) fun _ => ?_
      · have q : o = 0 := cv q (by kernel_rfl)
        omega
      refine res_chk_of rfl (P := i + 1 ≤ (DV.sl none 0 M).len ∧ (DV.sl none 0 (w ++ [[.n ((DV.sl none 0 M).at i 0), .n ((DV.sl none 0 M).at i 1), .n ((DV.sl none 0 M).at i 2)]])).len ≤ i + 1 ∧ hisP (dk S1 P1 l1' t1) (l0, ((DV.sl none 0 M).at i 2), l2, l3) (f0, f1, f2, f3) (s0, s1, s2, s3) (acts (.sl none 0 (w ++ [[.n ((DV.sl none 0 M).at i 0), .n ((DV.sl none 0 M).at i 1), .n ((DV.sl none 0 M).at i 2)]]))) room) (a := ((DV.sl none 0 M).len - (i + 1)).toNat) (b := ((DV.sl none 0 M).len - i).toNat) (by kernel_rfl) (by kernel_rfl) (by kernel_rfl) ⟨by omega, hwl, ?_⟩ (by omega)
      rw [acts_app, hc]
      exact hh
    have hc1 : ¬ Int.tmod ((DV.sl none 0 M).at i 1) 4 = 1 := cv hc (by kernel_rfl)
    refine res_ite (fun hc => ?_) fun hc => ?_
    · have hc : Int.tmod ((DV.sl none 0 M).at i 1) 4 = 2 := cv hc (by kernel_rfl)
      refine res_ok (cv (by omega : (DV.sl none 0 w).len + 1 ≤ 35184372088832) (by kernel_rfl)) ?_
      refine res_dat (.sl none 0 [[.n ((DV.sl none 0 M).at i 0), .n ((DV.sl none 0 M).at i 1), .n ((DV.sl none 0 M).at i 2)]]) (by kernel_rfl) (res_dat (.sl none 0 (w ++ [[.n ((DV.sl none 0 M).at i 0), .n ((DV.sl none 0 M).at i 1), .n ((DV.sl none 0 M).at i 2)]])) (by kernel_rfl) ?_)
      rw [hc] at hy hh
      have hy : hYes (dk S1 P1 l1' t1) (l0, l1, ((DV.sl none 0 M).at i 2), l3) (l0, l1, ((DV.sl none 0 M).at i 2), l3) := hy
      have hh : hisP (dk S1 P1 l1' t1) (l0, l1, ((DV.sl none 0 M).at i 2), l3) (f0, f1, f2, f3) (s0, s1, s2, s3) (acts (.sl none 0 w) ++ [(2, ((DV.sl none 0 M).at i 2))]) room := hh
      refine res_con rfl trivial (fun o _ _ ho => ?_)
      have ho := n_inj ((cv ho (by kernel_rfl : _ = (hYes (dk S1 P1 l1' t1) (l0, l1, ((DV.sl none 0 M).at i 2), l3) (l0, l1, ((DV.sl none 0 M).at i 2), l3) → [DV.n o] = [DV.n 1]))) hy)
      refine res_ite (fun q => ?_) fun _ => ?_
      · have q : o = 0 := cv q (by kernel_rfl)
        omega
      refine res_chk_of rfl (P := i + 1 ≤ (DV.sl none 0 M).len ∧ (DV.sl none 0 (w ++ [[.n ((DV.sl none 0 M).at i 0), .n ((DV.sl none 0 M).at i 1), .n ((DV.sl none 0 M).at i 2)]])).len ≤ i + 1 ∧ hisP (dk S1 P1 l1' t1) (l0, l1, ((DV.sl none 0 M).at i 2), l3) (f0, f1, f2, f3) (s0, s1, s2, s3) (acts (.sl none 0 (w ++ [[.n ((DV.sl none 0 M).at i 0), .n ((DV.sl none 0 M).at i 1), .n ((DV.sl none 0 M).at i 2)]]))) room) (a := ((DV.sl none 0 M).len - (i + 1)).toNat) (b := ((DV.sl none 0 M).len - i).toNat) (by kernel_rfl) (by kernel_rfl) (by kernel_rfl) ⟨by omega, hwl, ?_⟩ (by omega)
      rw [acts_app, hc]
      exact hh
    have hc2 : ¬ Int.tmod ((DV.sl none 0 M).at i 1) 4 = 2 := cv hc (by kernel_rfl)
    have hc : Int.tmod ((DV.sl none 0 M).at i 1) 4 = 3 := by omega
    refine res_ok (cv (by omega : (DV.sl none 0 w).len + 1 ≤ 35184372088832) (by kernel_rfl)) ?_
    refine res_dat (.sl none 0 [[.n ((DV.sl none 0 M).at i 0), .n ((DV.sl none 0 M).at i 1), .n ((DV.sl none 0 M).at i 2)]]) (by kernel_rfl) (res_dat (.sl none 0 (w ++ [[.n ((DV.sl none 0 M).at i 0), .n ((DV.sl none 0 M).at i 1), .n ((DV.sl none 0 M).at i 2)]])) (by kernel_rfl) ?_)
    rw [hc] at hy hh
    have hy : hYes (dk S1 P1 l1' t1) (l0, l1, l2, ((DV.sl none 0 M).at i 2)) (l0, l1, l2, ((DV.sl none 0 M).at i 2)) := hy
    have hh : hisP (dk S1 P1 l1' t1) (l0, l1, l2, ((DV.sl none 0 M).at i 2)) (f0, f1, f2, f3) (s0, s1, s2, s3) (acts (.sl none 0 w) ++ [(3, ((DV.sl none 0 M).at i 2))]) room := hh
    refine res_con rfl trivial (fun o _ _ ho => ?_)
    have ho := n_inj ((cv ho (by kernel_rfl : _ = (hYes (dk S1 P1 l1' t1) (l0, l1, l2, ((DV.sl none 0 M).at i 2)) (l0, l1, l2, ((DV.sl none 0 M).at i 2)) → [DV.n o] = [DV.n 1]))) hy)
    refine res_ite (fun q => ?_) fun _ => ?_
    · have q : o = 0 := cv q (by kernel_rfl)
      omega
    refine res_chk_of rfl (P := i + 1 ≤ (DV.sl none 0 M).len ∧ (DV.sl none 0 (w ++ [[.n ((DV.sl none 0 M).at i 0), .n ((DV.sl none 0 M).at i 1), .n ((DV.sl none 0 M).at i 2)]])).len ≤ i + 1 ∧ hisP (dk S1 P1 l1' t1) (l0, l1, l2, ((DV.sl none 0 M).at i 2)) (f0, f1, f2, f3) (s0, s1, s2, s3) (acts (.sl none 0 (w ++ [[.n ((DV.sl none 0 M).at i 0), .n ((DV.sl none 0 M).at i 1), .n ((DV.sl none 0 M).at i 2)]]))) room) (a := ((DV.sl none 0 M).len - (i + 1)).toNat) (b := ((DV.sl none 0 M).len - i).toNat) (by kernel_rfl) (by kernel_rfl) (by kernel_rfl) ⟨by omega, hwl, ?_⟩ (by omega)
    rw [acts_app, hc]
    exact hh
  refine res_con rfl trivial (fun S1 _ P1 _ l1' _ _ t1 _ _ e1 _ _ h1 => ?_)
  have h1 := cv h1 (by kernel_rfl : _ = (((dk S1 P1 l1' t1, e1) : D4 × Int) = syncQ (dk S P l t)))
  obtain ⟨hst, hgo⟩ := his_sync his wok (by omega) h1
  have hroom : 0 ≤ room := his.2.2.2.1
  have hsf : (s0, s1, s2, s3) = (f0, f1, f2, f3) := his.1
  refine res_lop_of rfl (P := ((0 : Int) ≤ (DV.sl none 0 w).len ∧ (0 : Int) ≤ room + 1) ∧ (f0, f1, f2, f3) = appA (f0, f1, f2, f3) ((acts (.sl none 0 w)).take (0 : Int).toNat) ∧ (s0, s1, s2, s3) = appA (s0, s1, s2, s3) ((acts (.sl none 0 w)).take (min 0 room).toNat)) (by kernel_rfl) rfl ⟨⟨len_nn _, by omega⟩, rfl, by rw [show (min 0 room).toNat = 0 by omega]; rfl⟩
    (fun g0 _ _ g1 _ _ g2 _ _ g3 _ _ h0 _ _ h1 _ _ h2 _ _ h3 _ _ k k0 _ hJ => ?_)
  obtain ⟨⟨hk1, hk2⟩, hg, hh⟩ := cv hJ (by kernel_rfl : _ = ((k ≤ (DV.sl none 0 w).len ∧ k ≤ room + 1) ∧ (g0, g1, g2, g3) = appA (f0, f1, f2, f3) ((acts (.sl none 0 w)).take k.toNat) ∧ (h0, h1, h2, h3) = appA (s0, s1, s2, s3) ((acts (.sl none 0 w)).take (min k room).toNat)))
  have k0 : 0 ≤ k := k0
  clear hJ
  refine res_ite (fun hlk => ?_) fun hge => ?_
  · have hlk : k < (DV.sl none 0 w).len ∧ k ≤ room := cv hlk (by kernel_rfl)
    obtain ⟨ka, kb⟩ := acts_at hw k0 (by omega)
    have nx1 : appA (f0, f1, f2, f3) ((acts (.sl none 0 w)).take (k + 1).toNat) = setA (g0, g1, g2, g3) (Int.tmod ((DV.sl none 0 w).at k 1) 4) ((DV.sl none 0 w).at k 2) := by
      rw [app_take k0 (by omega), ka, hg]
    have nx2 : k < room → appA (s0, s1, s2, s3) ((acts (.sl none 0 w)).take (min (k + 1) room).toNat) = setA (h0, h1, h2, h3) (Int.tmod ((DV.sl none 0 w).at k 1) 4) ((DV.sl none 0 w).at k 2) := fun hr => by
      rw [show min (k + 1) room = k + 1 by omega, app_take k0 (by omega), ka, hh, show min k room = k by omega]
    have nx3 : ¬ k < room → appA (s0, s1, s2, s3) ((acts (.sl none 0 w)).take (min (k + 1) room).toNat) = (h0, h1, h2, h3) := fun hr => by
      rw [show min (k + 1) room = min k room by omega, hh]
    refine res_ite (fun hc => ?_) fun hc => ?_
    · have hc : Int.tmod ((DV.sl none 0 w).at k 1) 4 = 0 := cv hc (by kernel_rfl)
      rw [hc] at nx1 nx2
      refine res_ite (fun hr => ?_) fun hr => ?_
      · have hr : k < room := cv hr (by kernel_rfl)
        exact res_chk_of rfl (P := (k + 1 ≤ (DV.sl none 0 w).len ∧ k + 1 ≤ room + 1) ∧ (((DV.sl none 0 w).at k 2), g1, g2, g3) = appA (f0, f1, f2, f3) ((acts (.sl none 0 w)).take (k + 1).toNat) ∧ (((DV.sl none 0 w).at k 2), h1, h2, h3) = appA (s0, s1, s2, s3) ((acts (.sl none 0 w)).take (min (k + 1) room).toNat)) (a := ((DV.sl none 0 w).len - (k + 1)).toNat) (b := ((DV.sl none 0 w).len - k).toNat) (by kernel_rfl) (by kernel_rfl) (by kernel_rfl) ⟨⟨by omega, by omega⟩, by rw [nx1]; rfl, by rw [nx2 hr]; rfl⟩ (by omega)
      · have hr : ¬ k < room := cv hr (by kernel_rfl)
        exact res_chk_of rfl (P := (k + 1 ≤ (DV.sl none 0 w).len ∧ k + 1 ≤ room + 1) ∧ (((DV.sl none 0 w).at k 2), g1, g2, g3) = appA (f0, f1, f2, f3) ((acts (.sl none 0 w)).take (k + 1).toNat) ∧ (h0, h1, h2, h3) = appA (s0, s1, s2, s3) ((acts (.sl none 0 w)).take (min (k + 1) room).toNat)) (a := ((DV.sl none 0 w).len - (k + 1)).toNat) (b := ((DV.sl none 0 w).len - k).toNat) (by kernel_rfl) (by kernel_rfl) (by kernel_rfl) ⟨⟨by omega, by omega⟩, by rw [nx1]; rfl, by rw [nx3 hr]⟩ (by omega)
    have hc0 : ¬ Int.tmod ((DV.sl none 0 w).at k 1) 4 = 0 := cv hc (by kernel_rfl)
    refine res_ite (fun hc => ?_) fun hc => ?_
    · have hc : Int.tmod ((DV.sl none 0 w).at k 1) 4 = 1 := cv hc (by kernel_rfl)
      rw [hc] at nx1 nx2
      refine res_ite (fun hr => ?_) fun hr => ?_
      · have hr : k < room := cv hr (by kernel_rfl)
        exact res_chk_of rfl (P := (k + 1 ≤ (DV.sl none 0 w).len ∧ k + 1 ≤ room + 1) ∧ (g0, ((DV.sl none 0 w).at k 2), g2, g3) = appA (f0, f1, f2, f3) ((acts (.sl none 0 w)).take (k + 1).toNat) ∧ (h0, ((DV.sl none 0 w).at k 2), h2, h3) = appA (s0, s1, s2, s3) ((acts (.sl none 0 w)).take (min (k + 1) room).toNat)) (a := ((DV.sl none 0 w).len - (k + 1)).toNat) (b := ((DV.sl none 0 w).len - k).toNat) (by kernel_rfl) (by kernel_rfl) (by kernel_rfl) ⟨⟨by omega, by omega⟩, by rw [nx1]; rfl, by rw [nx2 hr]; rfl⟩ (by omega)
      · have hr : ¬ k < room := cv hr (by kernel_rfl)
        exact res_chk_of rfl (P := (k + 1 ≤ (DV.sl none 0 w).len ∧ k + 1 ≤ room + 1) ∧ (g0, ((DV.sl none 0 w).at k 2), g2, g3) = appA (f0, f1, f2, f3) ((acts (.sl none 0 w)).take (k + 1).toNat) ∧ (h0, h1, h2, h3) = appA (s0, s1, s2, s3) ((acts (.sl none 0 w)).take (min (k + 1) room).toNat)) (a := ((DV.sl none 0 w).len - (k + 1)).toNat) (b := ((DV.sl none 0 w).len - k).toNat) (by kernel_rfl) (by kernel_rfl) (by kernel_rfl) ⟨⟨by omega, by omega⟩, by rw [nx1]; rfl, by rw [nx3 hr]⟩ (by omega)
    have hc1 : ¬ Int.tmod ((DV.sl none 0 w).at k 1) 4 = 1 := cv hc (by kernel_rfl)
    refine res_ite (fun hc => ?_) fun hc => ?_
    · have hc : Int.tmod ((DV.sl none 0 w).at k 1) 4 = 2 := cv hc (by kernel_rfl)
      rw [hc] at nx1 nx2
      refine res_ite (fun hr => ?_) fun hr => ?_
      · have hr : k < room := cv hr (by kernel_rfl)
        exact res_chk_of rfl (P := (k + 1 ≤ (DV.sl none 0 w).len ∧ k + 1 ≤ room + 1) ∧ (g0, g1, ((DV.sl none 0 w).at k 2), g3) = appA (f0, f1, f2, f3) ((acts (.sl none 0 w)).take (k + 1).toNat) ∧ (h0, h1, ((DV.sl none 0 w).at k 2), h3) = appA (s0, s1, s2, s3) ((acts (.sl none 0 w)).take (min (k + 1) room).toNat)) (a := ((DV.sl none 0 w).len - (k + 1)).toNat) (b := ((DV.sl none 0 w).len - k).toNat) (by kernel_rfl) (by kernel_rfl) (by kernel_rfl) ⟨⟨by omega, by omega⟩, by rw [nx1]; rfl, by rw [nx2 hr]; rfl⟩ (by omega)
      · have hr : ¬ k < room := cv hr (by kernel_rfl)
        exact res_chk_of rfl (P := (k + 1 ≤ (DV.sl none 0 w).len ∧ k + 1 ≤ room + 1) ∧ (g0, g1, ((DV.sl none 0 w).at k 2), g3) = appA (f0, f1, f2, f3) ((acts (.sl none 0 w)).take (k + 1).toNat) ∧ (h0, h1, h2, h3) = appA (s0, s1, s2, s3) ((acts (.sl none 0 w)).take (min (k + 1) room).toNat)) (a := ((DV.sl none 0 w).len - (k + 1)).toNat) (b := ((DV.sl none 0 w).len - k).toNat) (by kernel_rfl) (by kernel_rfl) (by kernel_rfl) ⟨⟨by omega, by omega⟩, by rw [nx1]; rfl, by rw [nx3 hr]⟩ (by omega)
    have hc2 : ¬ Int.tmod ((DV.sl none 0 w).at k 1) 4 = 2 := cv hc (by kernel_rfl)
    have hc : Int.tmod ((DV.sl none 0 w).at k 1) 4 = 3 := by omega
    rw [hc] at nx1 nx2
    refine res_ite (fun hr => ?_) fun hr => ?_
    · have hr : k < room := cv hr (by kernel_rfl)
      exact res_chk_of rfl (P := (k + 1 ≤ (DV.sl none 0 w).len ∧ k + 1 ≤ room + 1) ∧ (g0, g1, g2, ((DV.sl none 0 w).at k 2)) = appA (f0, f1, f2, f3) ((acts (.sl none 0 w)).take (k + 1).toNat) ∧ (h0, h1, h2, ((DV.sl none 0 w).at k 2)) = appA (s0, s1, s2, s3) ((acts (.sl none 0 w)).take (min (k + 1) room).toNat)) (a := ((DV.sl none 0 w).len - (k + 1)).toNat) (b := ((DV.sl none 0 w).len - k).toNat) (by kernel_rfl) (by kernel_rfl) (by kernel_rfl) ⟨⟨by omega, by omega⟩, by rw [nx1]; rfl, by rw [nx2 hr]; rfl⟩ (by omega)
    · have hr : ¬ k < room := cv hr (by kernel_rfl)
      exact res_chk_of rfl (P := (k + 1 ≤ (DV.sl none 0 w).len ∧ k + 1 ≤ room + 1) ∧ (g0, g1, g2, ((DV.sl none 0 w).at k 2)) = appA (f0, f1, f2, f3) ((acts (.sl none 0 w)).take (k + 1).toNat) ∧ (h0, h1, h2, h3) = appA (s0, s1, s2, s3) ((acts (.sl none 0 w)).take (min (k + 1) room).toNat)) (a := ((DV.sl none 0 w).len - (k + 1)).toNat) (b := ((DV.sl none 0 w).len - k).toNat) (by kernel_rfl) (by kernel_rfl) (by kernel_rfl) ⟨⟨by omega, by omega⟩, by rw [nx1]; rfl, by rw [nx3 hr]⟩ (by omega)
  have hge : ¬ (k < (DV.sl none 0 w).len ∧ k ≤ room) := cv hge (by kernel_rfl)
  refine res_ite (fun hs => ?_) fun hs => ?_
  · have hs : room < (DV.sl none 0 w).len := cv hs (by kernel_rfl)
    obtain ⟨x1, x2, x3⟩ := hst (by omega)
    have x2 : t1 = 1 := x2
    refine res_ite (fun _ => ?_) fun q => absurd (cv (⟨x1, by omega⟩ : e1 = 40 ∧ ¬ t1 = 0) (by kernel_rfl)) q
    refine res_con rfl trivial (fun Sd _ Pd _ ld _ _ td _ _ hd => ?_)
    have hd := cv hd (by kernel_rfl : _ = (dk Sd Pd ld td = resQ (dk S1 P1 l1' t1)))
    have hy := x3 _ hd
    rw [show room + 1 = k by omega, ← hg] at hy
    rw [show min k room = room by omega, hsf] at hh
    rw [← hh] at hy
    refine res_con rfl trivial (fun o _ _ ho => ?_)
    have ho := n_inj ((cv ho (by kernel_rfl : _ = (hYes (dk Sd Pd ld td) (g0, g1, g2, g3) (h0, h1, h2, h3) → [DV.n o] = [DV.n 1]))) hy)
    exact cv (one_n ho) (by kernel_rfl)
  · have hs : ¬ room < (DV.sl none 0 w).len := cv hs (by kernel_rfl)
    obtain ⟨x1, x2, x3⟩ := hgo (by omega)
    refine res_ite (fun q => absurd x1 (cv q (by kernel_rfl))) fun _ => ?_
    refine res_con rfl trivial (fun o _ _ ho => ?_)
    have ho := n_inj ((cv ho (by kernel_rfl : _ = (hYes (dk S1 P1 l1' t1) (l0, l1, l2, l3) (l0, l1, l2, l3) → [DV.n o] = [DV.n 1]))) x2)
    refine res_ite (fun q => ?_) fun _ => ?_
    · have q : o = 0 := cv q (by kernel_rfl)
      omega
    refine res_dat (.sl none 0 []) (by kernel_rfl) ?_
    have hkl : k = (DV.sl none 0 w).len := by omega
    rw [List.take_of_length_le (by omega)] at hg
    rw [show min k room = k by omega, List.take_of_length_le (by omega), hsf] at hh
    rw [← hg] at x3
    have x3 : hisP (dk S1 P1 l1' t1) (l0, l1, l2, l3) (g0, g1, g2, g3) (g0, g1, g2, g3) [] (room - (DV.sl none 0 w).len) := by rw [lw, ← pwl]; exact x3
    have hgh : (h0, h1, h2, h3) = (g0, g1, g2, g3) := by rw [hh, hg]
    exact res_chk_of rfl (P := i + 1 ≤ (DV.sl none 0 M).len ∧ (DV.sl none 0 []).len ≤ i + 1 ∧ hisP (dk S1 P1 l1' t1) (l0, l1, l2, l3) (g0, g1, g2, g3) (h0, h1, h2, h3) (acts (.sl none 0 [])) (room - (DV.sl none 0 w).len)) (a := ((DV.sl none 0 M).len - (i + 1)).toNat) (b := ((DV.sl none 0 M).len - i).toNat) (by kernel_rfl) (by kernel_rfl) (by kernel_rfl) ⟨by omega, by show (0 : Int) ≤ i + 1; omega, by rw [hgh]; exact x3⟩ (by omega)
end Go.Proofs.Ytdhdpgdifphfkaa
