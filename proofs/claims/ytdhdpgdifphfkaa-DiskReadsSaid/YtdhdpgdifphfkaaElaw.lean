/- DERIVED. The law that each sector is read as it was written last, walked. -/
import Derived.Test.YtdhdpgdifphfkaaEarg
namespace Go.Proofs.Ytdhdpgdifphfkaa
open Go.Dx Go.RowKit
set_option linter.unusedVariables false
set_option linter.unusedSimpArgs false
theorem read_in {d : D4} {k e : Int} {b : List Int} (h : ((b, e) : List Int × Int) = readQ d k) (h0 : e = 0) : runD d ∧ inD d k ∧ b = lastP k d.2.1 (d.1.getD k.toNat []) := by
  by_cases m : runD d ∧ inD d k
  · exact ⟨m.1, m.2, (b5_in (h.trans (read_yes m).symm)).1⟩
  · have := (b5_in (h.trans (read_no m).symm)).2; omega
theorem write_in {s : Sec} {p : Pen} {l t k e : Int} {d' : D4} {b : List Int} (h : ((d', e) : D4 × Int) = writeQ (s, p, l, t) k b) (h0 : e = 0) : runD (s, p, l, t) ∧ inD (s, p, l, t) k ∧ b.length ≤ 128 ∧ ¬ p.length = 4096 ∧ d' = (s, p ++ [(k, padL b)], l, t) := by
  by_cases m : runD (s, p, l, t) ∧ inD (s, p, l, t) k
  · by_cases n : b.length ≤ 128
    · by_cases f : p.length = 4096
      · have := (d5_in (h.trans (write_lim m n f).symm)).2; omega
      · exact ⟨m.1, m.2, n, f, (d5_in (h.trans (write_yes m n f).symm)).1⟩
    · have := (d5_in (h.trans (write_arg m n).symm)).2; omega
  · have := (d5_in (h.trans (write_no m).symm)).2; omega
/-- A sector behind writes. -/
theorem do_get {k : Int} (h0 : 0 ≤ k) : ∀ {p : Pen} {s : Sec}, (∀ x ∈ p, 0 ≤ x.1 ∧ x.1 < (s.length : Int)) → k < s.length → (doP s p).getD k.toNat [] = lastP k p (s.getD k.toNat [])
  | [], s, _, _ => rfl
  | x :: p, s, h, hk => by
    have hx := h x (List.mem_cons_self ..)
    have ih := do_get h0 (p := p) (s := s.set x.1.toNat x.2) (fun y hy => by rw [List.length_set]; exact h y (List.mem_cons_of_mem _ hy)) (by rw [List.length_set]; exact hk)
    have e : doP s (x :: p) = doP (s.set x.1.toNat x.2) p := rfl
    rw [e, ih, lastP]
    congr 1
    rw [List.getD_eq_getElem?_getD, List.getElem?_set]
    by_cases q : x.1 = k
    · rw [if_pos (by rw [q]), if_pos (by omega), if_pos q]; rfl
    · rw [if_neg (by omega), if_neg q, List.getD_eq_getElem?_getD]
theorem run_sync {s : Sec} {p : Pen} {l l' : Int} (h : runD (s, p, l, 0)) (hl : -1 ≤ l' ∧ l' ≤ 65536) : runD (doP s p, [], l', 0) := by
  obtain ⟨⟨⟨h1, h2, h3⟩, h4, h5⟩, h6⟩ := h
  refine ⟨⟨⟨?_, by simp, hl⟩, do_all h4 fun x hx => (h5 x hx).2, fun x hx => (by cases hx)⟩, rfl⟩
  simp only [do_len]; exact h1
set_option maxRecDepth 100000 in
theorem DiskReads_any (v0 v3 v4 : Value) (k o : Int) (w : World) (hG : Glb tb w) (g0 : DiskA w v0) (hk : -9223372036854775808 ≤ k ∧ k ≤ 9223372036854775807) (ho : -9223372036854775808 ≤ o ∧ o ≤ 9223372036854775807) (g3 : ∃ l, cellA w bytes (.sl none 0 l) v3) (g4 : ∃ l, cellA w bytes (.sl none 0 l) v4) :
    Calls Try.prog 7 #[v0, .int .i64 k, .int .i64 o, v3, v4] w fun e w' => e = .returned (.bool true) ∧ Below w.heap.size w w' := by
  obtain ⟨S, P, l, t, c0, rfl, h0⟩ := g0
  obtain ⟨B, h3⟩ := g3
  obtain ⟨D, h4⟩ := g4
  have ck := cell_int (w := w) hk
  have co := cell_int (w := w) ho
  have hS : HasSh secS (.sl none 0 S) := (cells_fst h0).1
  have hB : HasSh bytes (.sl none 0 B) := h3.1
  have hD : HasSh bytes (.sl none 0 D) := h4.1
  refine law_of_walk (tb := tb) (P := Try.prog) fine (C := [lawCon 10 [], cFew 11, cRead 21, cWrite 19, cSync 23, cChk 15, lRds]) (conCons cSane_ok (conCons cFew_ok (conCons cRead_ok (conCons cWrite_ok (conCons cSync_ok (conCons cChk_ok (lopCons rfl noCon))))))) 200 7 [.agg disk, aI, aI, .c bytes, .c bytes] rfl (w := w) hG
    (xs := [.sl none 0 S, .sl none 0 P, .n l, .n t, .n k, .n o, .sl none 0 B, .sl none 0 D]) ?_ ?_
  · exact ⟨_, [.n k, .n o, .sl none 0 B, .sl none 0 D], c0, rfl, rfl, h0, ck, co, h3, h4, by simp [ArgsV]⟩
  clear h0 h3 h4 ck co
  have lS := len_of hS (Nat.le_refl _)
  have pS := secs_len S
  have lB := len_of hB (Nat.le_refl _)
  have lD := len_of hD (Nat.le_refl _)
  have pB : (numsOf B).length = B.length := by rw [numsOf, List.length_map]
  have pD : (numsOf D).length = D.length := by rw [numsOf, List.length_map]
  rw [tree_lreads]
  refine res_con rfl trivial (fun z _ _ hz => ?_)
  obtain rfl := n_inj (show [DV.n z] = [DV.n 1] from hz)
  refine res_ite (fun h => absurd (show (1 : Int) = 0 from h) (by decide)) fun _ => ?_
  refine res_con rfl trivial (fun f _ _ _ => res_ite (fun _ => rfl) fun h => ?_)
  have h : ¬ ((f = 0 ∨ 128 < (DV.sl none 0 B).len) ∨ 128 < (DV.sl none 0 D).len) := cv h (by kernel_rfl)
  refine res_con rfl trivial (fun b1 hb1 e1 _ _ h1 => ?_)
  have h1 := cv h1 (by kernel_rfl : _ = (((numsOf b1, e1) : List Int × Int) = readQ (dk S P l t) o))
  refine res_con rfl trivial (fun S2 hS2 P2 _ l2 _ _ t2 _ _ e2 _ _ h2 => ?_)
  have h2 := cv h2 (by kernel_rfl : _ = (((dk S2 P2 l2 t2, e2) : D4 × Int) = writeQ (dk S P l t) k (numsOf B)))
  refine res_ite (fun _ => rfl) fun q => ?_
  have q : ¬ (¬ e1 = 0 ∨ ¬ e2 = 0) := cv q (by kernel_rfl)
  obtain ⟨run, ino, hold1⟩ := read_in h1 (by omega)
  obtain ⟨_, ink, _, nf, d2⟩ := write_in h2 (by omega)
  have ht : t = 0 := run.2
  subst ht
  have run2 : runD (dk S2 P2 l2 t2) := by rw [d2]; exact run_write run ink (by omega) nf
  have hlen := run.1.2.2
  simp only at hlen
  have r3 := run.1.1.2.2
  simp only at r3
  have hal := run.1.2.1
  simp only at hal
  have old_len : (lastP o (pens (.sl none 0 P)) ((secs (.sl none 0 S)).getD o.toNat [])).length = 128 := last_len (fun x hx => (hlen x hx).2) (hal _ (getD_in [] (by have := ino.1; have := ino.2; simp only at *; omega)))
  refine res_con rfl trivial (fun b3 hb3 e3 _ _ h3 => ?_)
  have h3 := cv h3 (by kernel_rfl : _ = (((numsOf b3, e3) : List Int × Int) = readQ (dk S2 P2 l2 t2) o))
  rw [d2] at h3 run2
  obtain ⟨b3e, h3⟩ := b5_in (h3.trans (read_yes ⟨run2, ino⟩).symm)
  refine res_con rfl trivial (fun b4 hb4 e4 _ _ h4 => ?_)
  have h4 := cv h4 (by kernel_rfl : _ = (((numsOf b4, e4) : List Int × Int) = readQ (dk S2 P2 l2 t2) k))
  rw [d2] at h4
  obtain ⟨b4e, h4⟩ := b5_in (h4.trans (read_yes ⟨run2, ink⟩).symm)
  simp only [last_app, lastP, if_true] at b3e b4e
  have l4 : b4.length = 128 := by
    have := congrArg List.length b4e
    rw [numsOf, List.length_map, pad_len (by omega)] at this; exact this
  have n4 := len_of hb4 (Nat.le_refl _)
  refine res_ite (fun _ => ?_) fun q => absurd (cv (by omega : ¬ ((¬ e3 = 0 ∨ ¬ e4 = 0) ∨ ¬ (DV.sl none 0 b4).len = 128)) (by kernel_rfl)) q
  refine res_dat (.sl none 0 ((b4.take (DV.sl none 0 B).len.toNat).drop 0)) (by kernel_rfl) ?_
  have m1 : numsOf ((b4.take (DV.sl none 0 B).len.toNat).drop 0) = numsOf B := by
    have e : numsOf ((b4.take (DV.sl none 0 B).len.toNat).drop 0) = (numsOf b4).take (DV.sl none 0 B).len.toNat := by rw [List.drop_zero, numsOf, List.map_take]; rfl
    rw [e, b4e]
    unfold padL
    rw [List.take_of_length_le (l := numsOf B) (by omega), lB, ← pB, Int.toNat_natCast, List.take_left]
  refine res_ite (fun q => ?_) fun _ => ?_
  · have q : ¬ strOfNums (numsOf ((b4.take (DV.sl none 0 B).len.toNat).drop 0)) = strOfNums (numsOf B) ∨ (¬ k = o ∧ ¬ strOfNums (numsOf b1) = strOfNums (numsOf b3)) := cv q (by kernel_rfl)
    exfalso
    rcases q with q | ⟨q1, q2⟩
    · exact q (by rw [m1])
    · refine q2 ?_
      rw [hold1, b3e, if_neg q1]
  refine res_con rfl trivial (fun S5 hS5 P5 hP5 l5 _ _ t5 _ _ e5 _ _ h5 => ?_)
  have h5 := cv h5 (by kernel_rfl : _ = (((dk S5 P5 l5 t5, e5) : D4 × Int) = writeQ (dk S2 P2 l2 t2) o (numsOf D)))
  rw [d2] at h5
  refine res_ite (fun q => ?_) fun q => ?_
  · have q : ¬ e5 = 0 := cv q (by kernel_rfl)
    refine res_ite (fun _ => rfl) fun q2 => ?_
    have q2 : ¬ e5 = 2 := cv q2 (by kernel_rfl)
    exfalso
    by_cases fl : (pens (.sl none 0 P) ++ [(k, padL (numsOf B))]).length = 4096
    · exact q2 (d5_in (h5.trans (write_lim ⟨run2, ino⟩ (by omega) fl).symm)).2
    · exact q (d5_in (h5.trans (write_yes ⟨run2, ino⟩ (by omega) fl).symm)).2
  have q : ¬ ¬ e5 = 0 := cv q (by kernel_rfl)
  obtain ⟨_, _, _, nf5, d5⟩ := write_in h5 (by omega)
  have run5 := run_write (b := numsOf D) run2 ino (by omega) nf5
  generalize hQ : pens (.sl none 0 P) ++ [(k, padL (numsOf B))] ++ [(o, padL (numsOf D))] = Q at *
  refine res_con rfl trivial (fun S6 hS6 P6 hP6 l6 _ _ t6 _ _ e6 _ _ h6 => ?_)
  have h6 := cv h6 (by kernel_rfl : _ = (((dk S6 P6 l6 t6, e6) : D4 × Int) = syncQ (dk S5 P5 l5 t5)))
  rw [d5] at h6
  refine res_ite (fun q => ?_) fun q => ?_
  · have q : ¬ e6 = 0 := cv q (by kernel_rfl)
    by_cases st : 0 ≤ l ∧ l < (Q.length : Int)
    · obtain ⟨x1, x2⟩ := d5_in (h6.trans (sync_stop run5 st).symm)
      have x3 : t6 = 1 := congrArg (fun d : D4 => d.2.2.2) x1
      exact res_ite (fun _ => rfl) fun q => absurd (cv (⟨x2, by omega⟩ : e6 = 40 ∧ ¬ t6 = 0) (by kernel_rfl)) q
    · exact absurd (d5_in (h6.trans (sync_yes run5 st).symm)).2 q
  have q : ¬ ¬ e6 = 0 := cv q (by kernel_rfl)
  have st : ¬ (0 ≤ l ∧ l < (Q.length : Int)) := fun st => by
    have := (d5_in (h6.trans (sync_stop run5 st).symm)).2; omega
  obtain ⟨d6, _⟩ := d5_in (h6.trans (sync_yes run5 st).symm)
  have run6 : runD (doP (secs (.sl none 0 S)) Q, [], (if 0 ≤ l then l - Q.length else l), 0) := run_sync run5 (by
    by_cases m : 0 ≤ l
    · rw [if_pos m]; omega
    · rw [if_neg m]; omega)
  have hQin := run5.1.2.2
  unfold inD at hQin
  simp only at hQin
  refine res_lop_of rfl (P := (0 : Int) ≤ (DV.sl none 0 S).len) (by kernel_rfl) rfl (len_nn _) (fun i i0 i1 hI => ?_)
  have hI : i ≤ (DV.sl none 0 S).len := cv hI (by kernel_rfl)
  have i0 : 0 ≤ i := i0
  refine res_ite (fun hlt => ?_) fun _ => ?_
  · have hlt : i < (DV.sl none 0 S).len := cv hlt (by kernel_rfl)
    refine res_con rfl trivial (fun b7 hb7 e7 _ _ h7 => ?_)
    have h7 := cv h7 (by kernel_rfl : _ = (((numsOf b7, e7) : List Int × Int) = readQ (dk S5 P5 l5 t5) i))
    rw [d5] at h7
    obtain ⟨b7e, h7⟩ := b5_in (h7.trans (read_yes ⟨run5, ⟨i0, by simp only; omega⟩⟩).symm)
    refine res_con rfl trivial (fun b8 hb8 e8 _ _ h8 => ?_)
    have h8 := cv h8 (by kernel_rfl : _ = (((numsOf b8, e8) : List Int × Int) = readQ (dk S6 P6 l6 t6) i))
    rw [d6] at h8
    obtain ⟨b8e, h8⟩ := b5_in (h8.trans (read_yes ⟨run6, ⟨i0, by simp only [do_len]; omega⟩⟩).symm)
    have eq : numsOf b7 = numsOf b8 := by
      rw [b7e, b8e]
      exact (do_get i0 (fun x hx => (hQin x hx).1) (by omega)).symm
    refine res_ite (fun q => ?_) fun _ => ?_
    · have q : (¬ e7 = 0 ∨ ¬ e8 = 0) ∨ ¬ strOfNums (numsOf b7) = strOfNums (numsOf b8) := cv q (by kernel_rfl)
      exfalso
      rcases q with q | q
      · omega
      · exact q (by rw [eq])
    exact res_chk_of rfl (P := i + 1 ≤ (DV.sl none 0 S).len) (a := ((DV.sl none 0 S).len - (i + 1)).toNat) (b := ((DV.sl none 0 S).len - i).toNat) (by kernel_rfl) (by kernel_rfl) (by kernel_rfl) (by omega) (by omega)
  have p6 : pens (.sl none 0 P6) = [] := congrArg (fun d : D4 => d.2.1) d6
  have lP6 := len_of hP6 (Nat.le_refl _)
  have pP6 := pens_len P6
  rw [p6] at pP6
  simp only [List.length_nil] at pP6
  refine res_ite (fun _ => ?_) fun q => absurd (cv (by omega : (DV.sl none 0 P6).len = 0) (by kernel_rfl)) q
  refine res_con rfl trivial (fun c _ _ hc => ?_)
  have hc := chk_in (cv hc (by kernel_rfl : _ = ([DV.n c] = [.n (chkF (dk S6 P6 l6 t6))])))
  rw [d6] at hc
  exact res_ite (fun _ => rfl) fun q => absurd (cv (hc.resolve_right fun m => m.2 run6.1).1 (by kernel_rfl)) q
end Go.Proofs.Ytdhdpgdifphfkaa
