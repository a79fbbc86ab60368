/- DERIVED. The law of syncing together, walked. -/
import Derived.Test.YtdhdpgdifphfkaaDlaw
import Derived.Test.YtdhdpgdifphfkaaDtreeg
namespace Go.Proofs.Ytdhdpgdifphfkaa
open Go.Dx Go.RowKit
set_option linter.unusedVariables false
set_option linter.unusedSimpArgs false
theorem mv_at {M : List (List DV)} (h : HasSh mvS (.sl none 0 M)) (i : Int) : 0 ≤ (DV.sl none 0 M).at i 1 := by
  show 0 ≤ ((M.getD i.toNat []).getD 1 (.n 0)).cint
  by_cases k : i.toNat < M.length
  · have he : HasShs mv (M.getD i.toNat []) := h.2 _ (getD_in [] k)
    match M.getD i.toNat [], he with
    | [a, b, c], he =>
      simp only [HasShs, HasSh] at he
      obtain ⟨_, ⟨x, rfl, hx, _⟩, _⟩ := he
      show 0 ≤ clampB x
      rw [clampB_i64 (by omega) (by omega)]
      exact hx.1
    | [], he => simp [HasShs] at he
    | [_], he => simp [HasShs] at he
    | [_, _], he => simp [HasShs] at he
    | _ :: _ :: _ :: _ :: _, he => simp [HasShs] at he
  · have e : M.getD i.toNat [] = [] := by rw [List.getD_eq_getElem?_getD, List.getElem?_eq_none (by omega)]; rfl
    rw [e]
    exact Int.le_refl 0
theorem ws_len (S M : DV) (n : Nat) : (wsL S M n).length = n := by simp [wsL]
theorem ws_next (S M : DV) {i : Int} (h : 0 ≤ i) : wsL S M (i + 1).toNat = wsL S M i.toNat ++ [wAt S M i] := by
  unfold wsL
  rw [show (i + 1).toNat = i.toNat + 1 by omega, List.range_succ, List.map_append]
  simp only [List.map_cons, List.map_nil]
  rw [show ((i.toNat : Nat) : Int) = i by omega]
theorem ws_take (S M : DV) {k n : Nat} (h : k ≤ n) : (wsL S M n).take k = wsL S M k := by
  unfold wsL
  rw [← List.map_take, List.take_range, Nat.min_eq_left h]
theorem ws_get (S M : DV) {l : Int} {n : Nat} (h0 : 0 ≤ l) (h : l < n) : (wsL S M n).getD l.toNat (0, []) = wAt S M l := by
  unfold wsL
  rw [List.getD_eq_getElem?_getD, List.getElem?_map, List.getElem?_range (by omega)]
  simp only [Option.map_some, Option.getD_some]
  rw [show ((l.toNat : Nat) : Int) = l by omega]
theorem wat_ok {S : DV} {M : List (List DV)} (hM : HasSh mvS (.sl none 0 M)) (hS : 0 < S.len) (k : Int) : (0 ≤ (wAt S (.sl none 0 M) k).1 ∧ (wAt S (.sl none 0 M) k).1 < S.len) ∧ (wAt S (.sl none 0 M) k).2.length = 128 :=
  ⟨⟨Int.tmod_nonneg _ (mv_at hM k), Int.tmod_lt_of_pos _ hS⟩, pad_len (by simp)⟩
theorem ws_ok {S : DV} {M : List (List DV)} (hM : HasSh mvS (.sl none 0 M)) (hS : 0 < S.len) (n : Nat) : ∀ p ∈ wsL S (.sl none 0 M) n, (0 ≤ p.1 ∧ p.1 < S.len) ∧ p.2.length = 128 := fun p hp => by
  obtain ⟨k, _, rfl⟩ := List.mem_map.1 hp
  exact wat_ok hM hS k
/-- A disk after some writes. -/
theorem run_do {s : Sec} {l l' : Int} {p q : Pen} (h : runD (s, [], l, 0)) (hl : -1 ≤ l' ∧ l' ≤ 65536) (hp : ∀ x ∈ p, x.2.length = 128) (hq : ∀ x ∈ q, (0 ≤ x.1 ∧ x.1 < (s.length : Int)) ∧ x.2.length = 128) (hn : q.length ≤ 4096) : runD (doP s p, q, l', 0) := by
  obtain ⟨⟨⟨h1, h2, h3⟩, h4, h5⟩, h6⟩ := h
  refine ⟨⟨⟨?_, hn, hl⟩, do_all h4 hp, fun x hx => ?_⟩, rfl⟩
  · simp only [do_len]; exact h1
  · unfold inD
    simp only [do_len]
    exact hq x hx
theorem tog_step {S M : List (List DV)} {l i : Int} {d d' : D4} {e : Int} (hM : HasSh mvS (.sl none 0 M)) (hS : HasSh secS (.sl none 0 S)) (run : runD (secs (.sl none 0 S), [], l, 0)) (i0 : 0 ≤ i)
    (h : togP (.sl none 0 S) (.sl none 0 M) l d 0 i) (hw : ((d', e) : D4 × Int) = writeQ d (wAt (.sl none 0 S) (.sl none 0 M) i).1 [(DV.sl none 0 M).at i 2]) :
    e = 0 ∧ ∀ d2 e2, ((d2, e2) : D4 × Int) = syncQ d' → togP (.sl none 0 S) (.sl none 0 M) l d2 e2 (i + 1) := by
  have lS := len_of hS (Nat.le_refl _)
  have pS := secs_len S
  have r1 := run.1.1.1
  have r3 := run.1.1.2.2
  simp only at r1 r3
  have hpos : 0 < (DV.sl none 0 S).len := by omega
  rcases h with ⟨_, hl, hd⟩ | ⟨h0, _⟩
  · have hwi := wat_ok (S := .sl none 0 S) hM hpos i
    have hall := ws_ok (S := .sl none 0 S) hM hpos i.toNat
    have rd : runD (doP (secs (.sl none 0 S)) (wsL (.sl none 0 S) (.sl none 0 M) i.toNat), [], (if 0 ≤ l then l - i else l), 0) := run_do run (by
      by_cases k : 0 ≤ l
      · rw [if_pos k]; have := hl k; omega
      · rw [if_neg k]; omega) (fun x hx => (hall x hx).2) (fun x hx => by cases hx) (by simp)
    have hin : inD (doP (secs (.sl none 0 S)) (wsL (.sl none 0 S) (.sl none 0 M) i.toNat), [], (if 0 ≤ l then l - i else l), 0) (wAt (.sl none 0 S) (.sl none 0 M) i).1 := by
      unfold inD; simp only [do_len]; omega
    rw [hd] at hw
    obtain ⟨w1, w2⟩ := d5_in (hw.trans (write_yes ⟨rd, hin⟩ (by simp) (by simp)).symm)
    have w1 : d' = (doP (secs (.sl none 0 S)) (wsL (.sl none 0 S) (.sl none 0 M) i.toNat), [wAt (.sl none 0 S) (.sl none 0 M) i], (if 0 ≤ l then l - i else l), 0) := w1
    have rw' : runD d' := by
      rw [w1]; exact run_write (p := []) (b := [(DV.sl none 0 M).at i 2]) rd hin (by simp) (by simp)
    refine ⟨w2, fun d2 e2 hs => ?_⟩
    rw [w1] at hs rw'
    by_cases k : 0 ≤ l ∧ l = i
    · have e1 : (if 0 ≤ l then l - i else l) = 0 := by rw [if_pos k.1]; omega
      rw [e1] at hs rw'
      obtain ⟨s1, s2⟩ := d5_in (hs.trans (sync_stop rw' (by simp)).symm)
      refine .inr ⟨s2, k.1, by omega, ?_⟩
      rw [s1, k.2]
      rfl
    · have k2 : ¬ (0 ≤ (if 0 ≤ l then l - i else l) ∧ (if 0 ≤ l then l - i else l) < (([wAt (.sl none 0 S) (.sl none 0 M) i] : Pen).length : Int)) := by
        by_cases m : 0 ≤ l
        · have := hl m
          rw [if_pos m]; simp only [List.length_cons, List.length_nil]; omega
        · rw [if_neg m]; omega
      obtain ⟨s1, s2⟩ := d5_in (hs.trans (sync_yes rw' k2).symm)
      refine .inl ⟨s2, fun m => by have := hl m; omega, ?_⟩
      rw [s1, ws_next _ _ i0]
      have e2 : doP (secs (.sl none 0 S)) (wsL (.sl none 0 S) (.sl none 0 M) i.toNat ++ [wAt (.sl none 0 S) (.sl none 0 M) i]) = doP (doP (secs (.sl none 0 S)) (wsL (.sl none 0 S) (.sl none 0 M) i.toNat)) [wAt (.sl none 0 S) (.sl none 0 M) i] := by unfold doP; rw [List.foldl_append]
      rw [e2]
      by_cases m : 0 ≤ l
      · have := hl m
        simp only [if_pos m, List.length_cons, List.length_nil]
        rw [if_pos (by omega), show l - i - ((0 + 1 : Nat) : Int) = l - (i + 1) by omega]
      · simp only [if_neg m]
  · omega
theorem tog_end {S M : List (List DV)} {l i n : Int} {d d' : D4} {e e' : Int} (hM : HasSh mvS (.sl none 0 M)) (hS : HasSh secS (.sl none 0 S)) (run : runD (secs (.sl none 0 S), [], l, 0)) (hi : i ≤ n) (hn : 0 ≤ n ∧ n ≤ 20) (hend : ¬ (i < n ∧ e = 0))
    (h : togP (.sl none 0 S) (.sl none 0 M) l d e i) (hw : ((d', e') : D4 × Int) = syncQ (secs (.sl none 0 S), wsL (.sl none 0 S) (.sl none 0 M) n.toNat, l, 0)) : e = e' ∧ d = d' := by
  have lS := len_of hS (Nat.le_refl _)
  have pS := secs_len S
  have r1 := run.1.1.1
  have r3 := run.1.1.2.2
  simp only at r1 r3
  have hpos : 0 < (DV.sl none 0 S).len := by omega
  have hall := ws_ok (S := .sl none 0 S) hM hpos n.toNat
  have rd : runD (secs (.sl none 0 S), wsL (.sl none 0 S) (.sl none 0 M) n.toNat, l, 0) := run_do (p := []) run r3 (fun x hx => by cases hx) (fun x hx => by have := hall x hx; rw [lS, ← pS] at this; exact this) (by rw [ws_len]; omega)
  have hlen := ws_len (.sl none 0 S) (.sl none 0 M) n.toNat
  rcases h with ⟨h0, hl, hd⟩ | ⟨h0, h1, h2, hd⟩
  · have hin : i = n := by omega
    obtain ⟨s1, s2⟩ := d5_in (hw.trans (sync_yes rd (fun k => by have := hl k.1; omega)).symm)
    refine ⟨by omega, ?_⟩
    rw [hd, s1, hin]
    by_cases m : 0 ≤ l
    · simp only [if_pos m, hlen]; rw [show ((n.toNat : Nat) : Int) = n by omega]
    · simp only [if_neg m]
  · obtain ⟨s1, s2⟩ := d5_in (hw.trans (sync_stop rd ⟨h1, by omega⟩).symm)
    refine ⟨by omega, ?_⟩
    rw [hd, s1, ws_take _ _ (by omega), ws_get _ _ h1 (by omega)]
set_option maxRecDepth 100000 in
theorem DiskTogether_any (v0 v1 : Value) (w : World) (hG : Glb tb w) (g0 : DiskA w v0) (g1 : ∃ l, cellA w mvS (.sl none 0 l) v1) :
    Calls Try.prog 8 #[v0, v1] w fun e w' => e = .returned (.bool true) ∧ Below w.heap.size w w' := by
  obtain ⟨S, P, l, t, c0, rfl, h0⟩ := g0
  obtain ⟨M, h1⟩ := g1
  have hM : HasSh mvS (.sl none 0 M) := h1.1
  have hS : HasSh secS (.sl none 0 S) := (cells_fst h0).1
  have hP : HasSh penS (.sl none 0 P) := by
    obtain ⟨_, cs, k⟩ := cells_fst h0
    exact (cells_fst k).1
  refine law_of_walk (tb := tb) (P := Try.prog) fine (C := [lawCon 10 [], cFew 11, cChk 15, cWrite 19, cSync 23, cSame 14, lTog, lTog2]) (conCons cSane_ok (conCons cFew_ok (conCons cChk_ok (conCons cWrite_ok (conCons cSync_ok (conCons cSame_ok (lopCons rfl (lopCons rfl noCon)))))))) 200 8 [.agg disk, .c mvS] rfl (w := w) hG
    (xs := [.sl none 0 S, .sl none 0 P, .n l, .n t, .sl none 0 M]) ?_ ?_
  · exact ⟨_, [.sl none 0 M], c0, rfl, rfl, h0, h1, by simp [ArgsV]⟩
  clear h0 h1
  have lP := len_of hP (Nat.le_refl _)
  have pP := pens_len P
  have lM0 := len_nn (.sl none 0 M)
  have lP0 := len_nn (.sl none 0 P)
  rw [tree_ltog]
  refine res_con rfl trivial (fun z _ _ hz => ?_)
  obtain rfl := n_inj (show [DV.n z] = [DV.n 1] from hz)
  refine res_ite (fun h => absurd (show (1 : Int) = 0 from h) (by decide)) fun _ => ?_
  refine res_con rfl trivial (fun f _ _ _ => res_ite (fun h => ?_) fun _ => rfl)
  have h : ¬ (((f = 0 ∨ 20 < (DV.sl none 0 M).len) ∨ 0 < (DV.sl none 0 P).len) ∨ (DV.sl none 0 S).len = 0) := cv h (by kernel_rfl)
  refine res_con rfl trivial (fun c _ _ hc => ?_)
  have hc := chk_in (cv hc (by kernel_rfl : _ = ([DV.n c] = [.n (chkF (dk S P l t))])))
  refine res_ite (fun _ => rfl) fun k => ?_
  have k : ¬ (¬ c = 0 ∨ ¬ t = 0) := cv k (by kernel_rfl)
  have ht : t = 0 := by omega
  subst ht
  have hPn : pens (.sl none 0 P) = [] := List.eq_nil_of_length_eq_zero (by omega)
  have run : runD (secs (.sl none 0 S), [], l, 0) := by
    rw [← hPn]; exact ⟨(hc.resolve_right fun m => by omega).2, rfl⟩
  have e0 : dk S P l 0 = (secs (.sl none 0 S), [], l, 0) := by show (_, pens (.sl none 0 P), _, _) = _; rw [hPn]
  refine res_lop_of rfl (P := (0 : Int) ≤ (DV.sl none 0 M).len ∧ togP (.sl none 0 S) (.sl none 0 M) l (dk S P l 0) 0 0) (by kernel_rfl) rfl ⟨lM0, .inl ⟨rfl, fun x => x, ?_⟩⟩ (fun S1 hS1 P1 hP1 l1 _ _ t1 _ _ e i0' i1' i i0 i1 hI => ?_)
  · rw [e0]
    by_cases m : 0 ≤ l
    · rw [if_pos m, Int.sub_zero]; rfl
    · rw [if_neg m]; rfl
  obtain ⟨hi, hT⟩ := cv hI (by kernel_rfl : _ = (i ≤ (DV.sl none 0 M).len ∧ togP (.sl none 0 S) (.sl none 0 M) l (dk S1 P1 l1 t1) e i))
  have i0 : 0 ≤ i := i0
  refine res_ite (fun hlt => ?_) fun hge => ?_
  · have hlt : i < (DV.sl none 0 M).len ∧ e = 0 := cv hlt (by kernel_rfl)
    obtain ⟨hlt, rfl⟩ := hlt
    refine res_dat (.sl none 0 [[.n ((DV.sl none 0 M).at i 2)]]) (by kernel_rfl) (res_con rfl trivial (fun S2 _ P2 _ l2 _ _ t2 _ _ e2 _ _ hw => ?_))
    have hw := cv hw (by kernel_rfl : _ = (((dk S2 P2 l2 t2, e2) : D4 × Int) = writeQ (dk S1 P1 l1 t1) (wAt (.sl none 0 S) (.sl none 0 M) i).1 [(DV.sl none 0 M).at i 2]))
    obtain ⟨k1, k2⟩ := tog_step hM hS run i0 hT hw
    refine res_ite (fun q => absurd k1 (cv q (by kernel_rfl))) fun _ => ?_
    refine res_con rfl trivial (fun S3 _ P3 _ l3 _ _ t3 _ _ e3 _ _ hs => ?_)
    have hs := cv hs (by kernel_rfl : _ = (((dk S3 P3 l3 t3, e3) : D4 × Int) = syncQ (dk S2 P2 l2 t2)))
    exact res_chk_of rfl (P := i + 1 ≤ (DV.sl none 0 M).len ∧ togP (.sl none 0 S) (.sl none 0 M) l (dk S3 P3 l3 t3) e3 (i + 1)) (a := ((DV.sl none 0 M).len - (i + 1)).toNat) (b := ((DV.sl none 0 M).len - i).toNat) (by kernel_rfl) (by kernel_rfl) (by kernel_rfl) ⟨by omega, k2 _ _ hs⟩ (by omega)
  have hge : ¬ (i < (DV.sl none 0 M).len ∧ e = 0) := cv hge (by kernel_rfl)
  refine res_lop_of rfl (P := (0 : Int) ≤ (DV.sl none 0 M).len ∧ dk S P l 0 = (secs (.sl none 0 S), wsL (.sl none 0 S) (.sl none 0 M) (0 : Int).toNat, l, 0)) (by kernel_rfl) rfl ⟨lM0, e0⟩ (fun S4 _ P4 _ l4 _ _ t4 _ _ j j0 j1 hJ => ?_)
  obtain ⟨hj, hJ⟩ := cv hJ (by kernel_rfl : _ = (j ≤ (DV.sl none 0 M).len ∧ dk S4 P4 l4 t4 = (secs (.sl none 0 S), wsL (.sl none 0 S) (.sl none 0 M) j.toNat, l, 0)))
  have j0 : 0 ≤ j := j0
  have lS := len_of hS (Nat.le_refl _)
  have pS := secs_len S
  have r1 := run.1.1.1
  have r3 := run.1.1.2.2
  simp only at r1 r3
  have hpos : 0 < (DV.sl none 0 S).len := by omega
  refine res_ite (fun hlt => ?_) fun _ => ?_
  · have hlt : j < (DV.sl none 0 M).len := cv hlt (by kernel_rfl)
    refine res_dat (.sl none 0 [[.n ((DV.sl none 0 M).at j 2)]]) (by kernel_rfl) (res_con rfl trivial (fun S2 _ P2 _ l2 _ _ t2 _ _ e2 _ _ hw => ?_))
    have hw := cv hw (by kernel_rfl : _ = (((dk S2 P2 l2 t2, e2) : D4 × Int) = writeQ (dk S4 P4 l4 t4) (wAt (.sl none 0 S) (.sl none 0 M) j).1 [(DV.sl none 0 M).at j 2]))
    have hall := ws_ok (S := .sl none 0 S) hM hpos j.toNat
    have hwj := wat_ok (S := .sl none 0 S) hM hpos j
    have hlen := ws_len (.sl none 0 S) (.sl none 0 M) j.toNat
    have rd : runD (secs (.sl none 0 S), wsL (.sl none 0 S) (.sl none 0 M) j.toNat, l, 0) := run_do (p := []) run r3 (fun x hx => by cases hx) (fun x hx => by have := hall x hx; rw [lS, ← pS] at this; exact this) (by rw [hlen]; omega)
    rw [hJ] at hw
    obtain ⟨w1, w2⟩ := d5_in (hw.trans (write_yes ⟨rd, by unfold inD; simp only; omega⟩ (by simp) (by rw [hlen]; omega)).symm)
    refine res_ite (fun q => absurd w2 (cv q (by kernel_rfl))) fun _ => ?_
    refine res_chk_of rfl (P := j + 1 ≤ (DV.sl none 0 M).len ∧ dk S2 P2 l2 t2 = (secs (.sl none 0 S), wsL (.sl none 0 S) (.sl none 0 M) (j + 1).toNat, l, 0)) (a := ((DV.sl none 0 M).len - (j + 1)).toNat) (b := ((DV.sl none 0 M).len - j).toNat) (by kernel_rfl) (by kernel_rfl) (by kernel_rfl) ⟨by omega, ?_⟩ (by omega)
    rw [w1, ws_next _ _ j0]
    rfl
  rename_i hgej
  have hgej : ¬ j < (DV.sl none 0 M).len := cv hgej (by kernel_rfl)
  refine res_con rfl trivial (fun S5 _ P5 _ l5 _ _ t5 _ _ e5 _ _ hs => ?_)
  have hs := cv hs (by kernel_rfl : _ = (((dk S5 P5 l5 t5, e5) : D4 × Int) = syncQ (dk S4 P4 l4 t4)))
  rw [hJ, show j = (DV.sl none 0 M).len by omega] at hs
  obtain ⟨x1, x2⟩ := tog_end (n := (DV.sl none 0 M).len) hM hS run hi ⟨lM0, by omega⟩ hge hT hs
  refine res_ite (fun _ => ?_) fun q => absurd (cv x1 (by kernel_rfl)) q
  refine res_con rfl trivial (fun o _ _ ho => ?_)
  have ho := hold (cv ho (by kernel_rfl : _ = ([DV.n o] = yn (dk S1 P1 l1 t1 = dk S5 P5 l5 t5)))) x2
  exact cv (one_n ho) (by kernel_rfl)
end Go.Proofs.Ytdhdpgdifphfkaa
