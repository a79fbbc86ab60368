/- DERIVED. Cutting and mending: the contracts, proved. -/
import Derived.Test.YtmphcgafegmheaaDctd
import Derived.Test.YtmphcgafegmheaaDconb
import Derived.Test.YtmphcgafegmheaaDtreec
namespace Go.Proofs.Ytmphcgafegmheaa
open Go.Dx
set_option linter.unusedVariables false
set_option linter.unusedSimpArgs false
theorem inc_len : ∀ (l : List Int) (lo hi : Int), l.Pairwise (· < ·) → (∀ x ∈ l, lo ≤ x ∧ x < hi) → l.length ≤ (hi - lo).toNat
  | [], lo, hi, _, _ => Nat.zero_le _
  | x :: t, lo, hi, hp, hb => by
    have h1 := hb x (List.mem_cons_self ..)
    have hp2 := List.pairwise_cons.1 hp
    have ih := inc_len t (x + 1) hi hp2.2 fun y hy => ⟨by have := hp2.1 y hy; omega, (hb y (List.mem_cons_of_mem _ hy)).2⟩
    rw [List.length_cons]
    omega
theorem prs_few {a : List (Int × Int)} (h : a.Pairwise ltP) (k : ∀ p ∈ a, prP p) : a.length ≤ 576 := by
  have := inc_len (a.map fun p => p.1 * 24 + p.2) 0 576 (List.pairwise_map.2 (h.imp_of_mem fun {p q} hp hq hpq => by
    have h1 := k p hp; have h2 := k q hq
    unfold prP siteP at h1 h2
    unfold ltP at hpq
    omega)) fun x hx => by
    obtain ⟨p, hp, rfl⟩ := List.mem_map.1 hx
    have h1 := k p hp
    unfold prP siteP at h1
    omega
  simpa using this
theorem prs_app (S : List (List DV)) (a b : Int) : prs (.sl none 0 (S ++ [[.n a, .n b]])) = prs (.sl none 0 S) ++ [(a, b)] := by simp only [prs, DV.els, List.map_append]; rfl
theorem link_pr {x y : Int} (h : (siteP x ∧ siteP y) ∧ x ≠ y) : prP (link x y) := by
  unfold prP link siteP at *
  simp only
  omega
section
variable {a : List (Int × Int)} {l : Int × Int} {on0 : Prop} {s : List (Int × Int)}
/-- Sorted pairs around one. -/
theorem around (h : a.Pairwise ltP) {i : Int} (h0 : 0 ≤ i) (h1 : i < a.length) : (∀ x ∈ a.take i.toNat, ltP x (a.getD i.toNat (0, 0))) ∧ ∀ x ∈ a.drop (i + 1).toNat, ltP (a.getD i.toNat (0, 0)) x := by
  have e : a = a.take i.toNat ++ a.getD i.toNat (0, 0) :: a.drop (i + 1).toNat := by
    rw [← drop_next (0, 0) h0 h1, List.take_append_drop]
  rw [e, List.pairwise_append] at h
  obtain ⟨_, h2, h3⟩ := h
  refine ⟨fun x hx => h3 x hx _ (List.mem_cons_self ..), fun x hx => (List.pairwise_cons.1 h2).1 x hx⟩
theorem cutI_0 : cutI a l on0 on0 [] 0 := by
  refine ⟨List.Pairwise.nil, fun p => ?_, fun h => ⟨h, fun p hp => by cases hp⟩, fun h => absurd h.1 h.2⟩
  simp only [List.not_mem_nil, List.take_zero, and_false, or_false, false_iff]
  exact fun h => h.2.2 h.2.1
theorem cutI_val {on : Prop} {i : Nat} (h : cutI a l on0 on s i) (ha : ∀ p ∈ a, prP p) (hl : prP l) : s.length ≤ 576 := by
  refine prs_few h.1 fun p hp => ?_
  rcases (h.2.1 p).1 hp with ⟨e, _⟩ | ⟨_, k⟩
  · rw [e]; exact hl
  · exact ha p (List.mem_of_mem_take k)
theorem drop_sub {i : Int} (h0 : 0 ≤ i) (h1 : i < a.length) {p : Int × Int} (hp : p ∈ a.drop (i + 1).toNat) : p ∈ a.drop i.toNat := by
  rw [drop_next (0, 0) h0 h1]; exact List.mem_cons_of_mem _ hp
theorem cutI_skip {on : Prop} {i : Int} (h : cutI a l on0 on s i.toNat) (h0 : 0 ≤ i) (h1 : i < a.length) (e : a.getD i.toNat (0, 0) = l) : cutI a l on0 on s (i + 1).toNat := by
  obtain ⟨k1, k2, k3, k4⟩ := h
  refine ⟨k1, fun p => ?_, k3, fun m p hp => k4 m p (drop_sub h0 h1 hp)⟩
  rw [k2 p, take_next (0, 0) h0 h1, e]
  simp only [List.mem_append, List.mem_singleton]
  constructor
  · rintro (h | ⟨h, k⟩)
    · exact .inl h
    · exact .inr ⟨h, .inl k⟩
  · rintro (h | ⟨h, k | k⟩)
    · exact .inl h
    · exact .inr ⟨h, k⟩
    · exact absurd k h
theorem cutI_ins {i : Int} (h : cutI a l on0 True s i.toNat) (hs : a.Pairwise ltP) (h0 : 0 ≤ i) (h1 : i < a.length) (e : ltP l (a.getD i.toNat (0, 0))) : cutI a l on0 False (s ++ [l] ++ [a.getD i.toNat (0, 0)]) (i + 1).toNat := by
  obtain ⟨k1, k2, k3, k4⟩ := h
  obtain ⟨m1, m2⟩ := k3 trivial
  obtain ⟨r1, r2⟩ := around hs h0 h1
  have hne : a.getD i.toNat (0, 0) ≠ l := fun h => by rw [h] at e; exact ltP_irr e
  refine ⟨?_, fun p => ?_, fun h => h.elim, fun _ p hp => ltP_trans e (r2 p hp)⟩
  · rw [List.append_assoc, List.pairwise_append]
    refine ⟨k1, ?_, fun x hx y hy => ?_⟩
    · simp only [List.singleton_append, List.pairwise_cons, List.mem_singleton, forall_eq, List.not_mem_nil, false_implies, implies_true, List.Pairwise.nil, and_true]
      exact e
    · rcases List.mem_append.1 hy with hy | hy
      · rw [List.mem_singleton.1 hy]; exact m2 x hx
      · rw [List.mem_singleton.1 hy]; exact ltP_trans (m2 x hx) e
  · simp only [List.mem_append, List.mem_singleton, k2 p, take_next (0, 0) h0 h1, not_true, and_false, false_or, not_false_iff, and_true]
    constructor
    · rintro ((⟨h, k⟩ | h) | h)
      · exact .inr ⟨h, .inl k⟩
      · exact .inl ⟨h, m1⟩
      · exact .inr ⟨by rw [h]; exact hne, .inr h⟩
    · rintro (⟨h, _⟩ | ⟨h, k | k⟩)
      · exact .inl (.inr h)
      · exact .inl (.inl ⟨h, k⟩)
      · exact .inr k
theorem cutI_put {on : Prop} {i : Int} (h : cutI a l on0 on s i.toNat) (hs : a.Pairwise ltP) (h0 : 0 ≤ i) (h1 : i < a.length) (e : a.getD i.toNat (0, 0) ≠ l) (hon : on → ¬ ltP l (a.getD i.toNat (0, 0))) : cutI a l on0 on (s ++ [a.getD i.toNat (0, 0)]) (i + 1).toNat := by
  obtain ⟨k1, k2, k3, k4⟩ := h
  obtain ⟨r1, r2⟩ := around hs h0 h1
  refine ⟨?_, fun p => ?_, fun m => ⟨(k3 m).1, fun p hp => ?_⟩, fun m p hp => k4 m p (drop_sub h0 h1 hp)⟩
  · rw [List.pairwise_append]
    refine ⟨k1, by simp, fun x hx y hy => ?_⟩
    rw [List.mem_singleton.1 hy]
    rcases (k2 x).1 hx with ⟨q1, q2⟩ | ⟨_, q⟩
    · rw [q1]
      exact k4 q2 _ (by rw [drop_next (0, 0) h0 h1]; exact List.mem_cons_self ..)
    · exact r1 x q
  · simp only [List.mem_append, List.mem_singleton, k2 p, take_next (0, 0) h0 h1]
    constructor
    · rintro ((h | ⟨h, k⟩) | h)
      · exact .inl h
      · exact .inr ⟨h, .inl k⟩
      · exact .inr ⟨by rw [h]; exact e, .inr h⟩
    · rintro (h | ⟨h, k | k⟩)
      · exact .inl (.inl h)
      · exact .inl (.inr ⟨h, k⟩)
      · exact .inr k
  · rcases List.mem_append.1 hp with hp | hp
    · exact (k3 m).2 p hp
    · rw [List.mem_singleton.1 hp]; exact ltP_tri (hon m) (Ne.symm e)
theorem cutI_end0 {on : Prop} {i : Int} (h : cutI a l on0 on s i.toNat) (hi : i = a.length) (hn : ¬ on) : cutR a l on0 s := by
  obtain ⟨k1, k2, _, _⟩ := h
  refine ⟨k1, fun p => ?_⟩
  rw [k2 p, hi, Int.toNat_natCast, List.take_length]
  simp only [hn, not_false_iff, and_true]
theorem cutI_end1 {on : Prop} {i : Int} (h : cutI a l on0 on s i.toNat) (hi : i = a.length) (hn : on) : cutR a l on0 (s ++ [l]) := by
  obtain ⟨k1, k2, k3, _⟩ := h
  obtain ⟨m1, m2⟩ := k3 hn
  refine ⟨?_, fun p => ?_⟩
  · rw [List.pairwise_append]
    exact ⟨k1, by simp, fun x hx y hy => by rw [List.mem_singleton.1 hy]; exact m2 x hx⟩
  · rw [List.mem_append, List.mem_singleton, k2 p, hi, Int.toNat_natCast, List.take_length]
    simp only [hn, not_true, and_false, false_or, m1, and_true]
    exact Or.comm
end
theorem cut_no {q : List P3} {a : List (Int × Int)} {x y : Int} {on : Prop} (h : ¬ okP q a) : cutQ q a x y on ([], [], 60) := .inl ⟨h, rfl⟩
theorem cut_out {q : List P3} {a : List (Int × Int)} {x y : Int} {on : Prop} (h : okP q a) (k : ¬ ((siteP x ∧ siteP y) ∧ x ≠ y)) : cutQ q a x y on ([], [], 1) := .inr (.inl ⟨h, k, rfl⟩)
theorem cut_yes {q : List P3} {a : List (Int × Int)} {x y : Int} {on : Prop} {s : List (Int × Int)} (h : okP q a) (k : (siteP x ∧ siteP y) ∧ x ≠ y) (m : cutR a (link x y) on s) : cutQ q a x y on (q, s, 0) := .inr (.inr ⟨h, k, rfl, m, rfl⟩)
theorem one_true {o : Int} (h : o = 1) : (o = 1) = True := propext ⟨fun _ => trivial, fun _ => h⟩
set_option maxRecDepth 100000 in
theorem cCut_ok (N : Nat) (w0 : World) : ConOk Try.prog tb N w0 (cCut 18) := by
  refine con_of_walk (tb := tb) fine (C := [cChk 13, lCut]) (conCons cChk_ok (lopCons rfl noCon)) 120 rfl ?_ N w0
  refine fun Q hQ A hA x _ _ y _ _ o o0 o1 _ => ?_
  have lA := len_of hA (Nat.le_refl _)
  have pA := prs_len A
  rw [tree_cut]
  show T.res _ (fun z => cutQ (pks (.sl none 0 Q)) (prs (.sl none 0 A)) x y (o = 1) (net3 z 0)) _ _
  refine res_con rfl trivial (fun e _ _ he => ?_)
  have he := chk_in (show [DV.n e] = [.n (chkF (pks (.sl none 0 Q)) (prs (.sl none 0 A)))] from he)
  refine res_ite (fun h => ?_) fun h => ?_
  · have h : ¬ e = 0 := h
    refine res_dat (.sl none 0 []) rfl (res_dat (.sl none 0 []) rfl ?_)
    exact cv (cut_no (x := x) (y := y) (on := o = 1) fun m => by rcases he with he | he; exact h he.1; exact he.2 m) (by kernel_rfl)
  have h : ¬ ¬ e = 0 := h
  have ok : okP (pks (.sl none 0 Q)) (prs (.sl none 0 A)) := by
    rcases he with he | he
    · exact he.2
    · omega
  have hs := ok.2.2.2
  refine res_ite (fun h => ?_) fun h => ?_
  · have h : ¬ (((0 ≤ min x y ∧ min x y < 24) ∧ 0 ≤ max x y ∧ max x y < 24) ∧ min x y < max x y) := h
    refine res_dat (.sl none 0 []) rfl (res_dat (.sl none 0 []) rfl ?_)
    exact cv (cut_out (x := x) (y := y) (on := o = 1) ok fun m => by unfold siteP at m; omega) (by kernel_rfl)
  have h : ¬ ¬ (((0 ≤ min x y ∧ min x y < 24) ∧ 0 ≤ max x y ∧ max x y < 24) ∧ min x y < max x y) := h
  have hv : (siteP x ∧ siteP y) ∧ x ≠ y := by unfold siteP; omega
  have hl := link_pr hv
  refine res_dat (.sl none 0 []) rfl ?_
  refine res_lop_of rfl (P := (0 : Int) ≤ (DV.sl none 0 A).len ∧ cutI (prs (.sl none 0 A)) (link x y) (o = 1) (o = 1) [] (0 : Int).toNat) (by kernel_rfl) rfl ⟨len_nn _, cutI_0⟩ (fun i i0 i1 S hS p p0 p1 hI => ?_)
  obtain ⟨hi, hI⟩ := cv hI (by kernel_rfl : _ = (i ≤ (DV.sl none 0 A).len ∧ cutI (prs (.sl none 0 A)) (link x y) (o = 1) (p = 1) (prs (.sl none 0 S)) i.toNat))
  have lS := len_of hS (Nat.le_refl _)
  have pS := prs_len S
  have hfew := cutI_val hI ok.2.2.1 hl
  refine res_ite (fun hlt => ?_) fun hge => ?_
  · have hlt : i < (DV.sl none 0 A).len := cv hlt (by kernel_rfl)
    have e1 := pr_at hA i0 (by omega)
    have ha1 : i < ((prs (.sl none 0 A)).length : Int) := by omega
    refine res_ite (fun q => ?_) fun q => ?_
    · have q : ¬ ((DV.sl none 0 A).at i 0 = min x y ∧ (DV.sl none 0 A).at i 1 = max x y) := cv q (by kernel_rfl)
      have hne : (prs (.sl none 0 A)).getD i.toNat (0, 0) ≠ link x y := fun k => by
        rw [e1] at k
        exact q ⟨(Prod.mk.inj k).1, (Prod.mk.inj k).2⟩
      have putok : (p = 1 → ¬ ltP (link x y) ((prs (.sl none 0 A)).getD i.toNat (0, 0))) → T.res [cChk 13, lCut] (fun z => cutQ (pks (.sl none 0 Q)) (prs (.sl none 0 A)) x y (o = 1) (net3 z 0)) (.ite (.le (.add (.len (.var 8)) (.lit 1)) (.lit 8278675785607))
          (.dat (.rows 2) [(.num (.el (.var 1) (.var 7) 0)), (.num (.el (.var 1) (.var 7) 1))] (.dat .cat [(.var 8), (.var 32)] (.chk 1 7 [(.num (.add (.var 7) (.lit 1))), (.var 33), (.num (.var 9))])))
          .fail) ([DV.sl none 0 Q, DV.sl none 0 A, DV.n x, DV.n y, DV.n o] ++ [DV.n e] ++ [DV.sl none 0 []] ++ ([DV.n i, DV.sl none 0 S, DV.n p] ++ List.replicate 22 (DV.n 0))) := fun k => by
        refine res_ok (cv (by omega : (DV.sl none 0 S).len + 1 ≤ 8278675785607) (by kernel_rfl)) ?_
        refine res_dat (.sl none 0 [[.n ((DV.sl none 0 A).at i 0), .n ((DV.sl none 0 A).at i 1)]]) (by kernel_rfl) (res_dat (.sl none 0 (S ++ [[.n ((DV.sl none 0 A).at i 0), .n ((DV.sl none 0 A).at i 1)]])) (by kernel_rfl) ?_)
        refine res_chk_of rfl (P := i + 1 ≤ (DV.sl none 0 A).len ∧ cutI (prs (.sl none 0 A)) (link x y) (o = 1) (p = 1) (prs (.sl none 0 (S ++ [[.n ((DV.sl none 0 A).at i 0), .n ((DV.sl none 0 A).at i 1)]]))) (i + 1).toNat) (a := ((DV.sl none 0 A).len - (i + 1)).toNat) (b := ((DV.sl none 0 A).len - i).toNat) (by kernel_rfl) (by kernel_rfl) (by kernel_rfl) ⟨by omega, ?_⟩ (by omega)
        rw [prs_app, ← e1]
        exact cutI_put hI hs i0 ha1 hne k
      refine res_ite (fun k => ?_) fun k => ?_
      · have k : ¬ p = 0 := cv k (by kernel_rfl)
        have hp1 : p = 1 := by omega
        refine res_ite (fun m => ?_) fun m => ?_
        · have m : min x y < (DV.sl none 0 A).at i 0 ∨ (min x y = (DV.sl none 0 A).at i 0 ∧ max x y < (DV.sl none 0 A).at i 1) := cv m (by kernel_rfl)
          have hlt : ltP (link x y) ((prs (.sl none 0 A)).getD i.toNat (0, 0)) := by rw [e1]; exact m
          refine res_ok (cv (by omega : (DV.sl none 0 S).len + 1 ≤ 8278675785607) (by kernel_rfl)) ?_
          refine res_dat (.sl none 0 [[.n (min x y), .n (max x y)]]) (by kernel_rfl) (res_dat (.sl none 0 (S ++ [[.n (min x y), .n (max x y)]])) (by kernel_rfl) ?_)
          refine res_ok (cv (by omega : (DV.sl none 0 S).len + 2 ≤ 8278675785607) (by kernel_rfl)) ?_
          refine res_dat (.sl none 0 [[.n ((DV.sl none 0 A).at i 0), .n ((DV.sl none 0 A).at i 1)]]) (by kernel_rfl) (res_dat (.sl none 0 (S ++ [[.n (min x y), .n (max x y)]] ++ [[.n ((DV.sl none 0 A).at i 0), .n ((DV.sl none 0 A).at i 1)]])) (by kernel_rfl) ?_)
          refine res_chk_of rfl (P := i + 1 ≤ (DV.sl none 0 A).len ∧ cutI (prs (.sl none 0 A)) (link x y) (o = 1) ((0 : Int) = 1) (prs (.sl none 0 (S ++ [[.n (min x y), .n (max x y)]] ++ [[.n ((DV.sl none 0 A).at i 0), .n ((DV.sl none 0 A).at i 1)]]))) (i + 1).toNat) (a := ((DV.sl none 0 A).len - (i + 1)).toNat) (b := ((DV.sl none 0 A).len - i).toNat) (by kernel_rfl) (by kernel_rfl) (by kernel_rfl) ⟨by omega, ?_⟩ (by omega)
          rw [prs_app, prs_app, ← e1, show ((0 : Int) = 1) = False from propext ⟨fun h => by omega, fun h => h.elim⟩]
          rw [one_true hp1] at hI
          exact cutI_ins hI hs i0 ha1 hlt
        · have m : ¬ (min x y < (DV.sl none 0 A).at i 0 ∨ (min x y = (DV.sl none 0 A).at i 0 ∧ max x y < (DV.sl none 0 A).at i 1)) := cv m (by kernel_rfl)
          exact putok fun _ hh => m (by rw [e1] at hh; exact hh)
      · have k : ¬ ¬ p = 0 := cv k (by kernel_rfl)
        exact putok fun hh => absurd (by omega) k
    · have q : ¬ ¬ ((DV.sl none 0 A).at i 0 = min x y ∧ (DV.sl none 0 A).at i 1 = max x y) := cv q (by kernel_rfl)
      have q := Classical.not_not.1 q
      refine res_chk_of rfl (P := i + 1 ≤ (DV.sl none 0 A).len ∧ cutI (prs (.sl none 0 A)) (link x y) (o = 1) (p = 1) (prs (.sl none 0 S)) (i + 1).toNat) (a := ((DV.sl none 0 A).len - (i + 1)).toNat) (b := ((DV.sl none 0 A).len - i).toNat) (by kernel_rfl) (by kernel_rfl) (by kernel_rfl) ⟨by omega, cutI_skip hI i0 ha1 (by rw [e1, q.1, q.2]; rfl)⟩ (by omega)
  · have hge : ¬ i < (DV.sl none 0 A).len := cv hge (by kernel_rfl)
    refine res_ite (fun k => ?_) fun k => ?_
    · have k : ¬ p = 0 := cv k (by kernel_rfl)
      refine res_ok (cv (by omega : (DV.sl none 0 S).len + 1 ≤ 8278675785607) (by kernel_rfl)) ?_
      refine res_dat (.sl none 0 [[.n (min x y), .n (max x y)]]) (by kernel_rfl) (res_dat (.sl none 0 (S ++ [[.n (min x y), .n (max x y)]])) (by kernel_rfl) ?_)
      refine cv (?_ : cutQ (pks (.sl none 0 Q)) (prs (.sl none 0 A)) x y (o = 1) (pks (.sl none 0 Q), prs (.sl none 0 (S ++ [[.n (min x y), .n (max x y)]])), 0)) (by kernel_rfl)
      rw [prs_app]
      exact cut_yes ok hv (cutI_end1 hI (by omega) (by omega))
    · have k : ¬ ¬ p = 0 := cv k (by kernel_rfl)
      exact cv (cut_yes ok hv (cutI_end0 hI (by omega) (by omega))) (by kernel_rfl)
/-! The reference. -/
section
variable {a : List (Int × Int)} {l : Int × Int} {on : Prop} {s : List (Int × Int)}
theorem cutJ_val {x y : Int} (h : cutJ a l on s x y) (ha : ∀ p ∈ a, prP p) (hl : prP l) : s.length ≤ 576 := by
  refine prs_few h.1 fun p hp => ?_
  rcases ((h.2 p).1 hp).2 with ⟨e, _⟩ | ⟨_, k⟩
  · rw [e]; exact hl
  · exact ha p k
theorem memV (ha : ∀ p ∈ a, prP p) (hl : prP l) {p : Int × Int} (h : (p = l ∧ on) ∨ (p ≠ l ∧ p ∈ a)) : prP p := by
  rcases h with ⟨e, _⟩ | ⟨_, k⟩
  · rw [e]; exact hl
  · exact ha p k
theorem cutJ_0 (ha : ∀ p ∈ a, prP p) (hl : prP l) : cutJ a l on [] 0 (0 + 1) := by
  refine ⟨List.Pairwise.nil, fun p => ?_⟩
  simp only [List.not_mem_nil, false_iff]
  rintro ⟨h, k⟩
  have := memV ha hl k
  unfold prP siteP at this
  unfold ltP at h
  omega
theorem cutJ_no {x y : Int} (h : cutJ a l on s x y) (k : ¬ (((x, y) = l ∧ on) ∨ ((x, y) ≠ l ∧ (x, y) ∈ a))) : cutJ a l on s x (y + 1) := by
  refine ⟨h.1, fun p => ?_⟩
  rw [h.2 p]
  constructor
  · rintro ⟨h1, h2⟩
    exact ⟨by unfold ltP at *; omega, h2⟩
  · rintro ⟨h1, h2⟩
    refine ⟨?_, h2⟩
    by_cases e : p = (x, y)
    · rw [e] at h2; exact absurd h2 k
    · have : ¬ (p.1 = x ∧ p.2 = y) := fun m => e (by rw [← m.1, ← m.2])
      unfold ltP at *
      omega
theorem cutJ_put {x y : Int} (h : cutJ a l on s x y) (k : ((x, y) = l ∧ on) ∨ ((x, y) ≠ l ∧ (x, y) ∈ a)) : cutJ a l on (s ++ [(x, y)]) x (y + 1) := by
  refine ⟨?_, fun p => ?_⟩
  · rw [List.pairwise_append]
    exact ⟨h.1, by simp, fun z hz w hw => by rw [List.mem_singleton.1 hw]; exact ((h.2 z).1 hz).1⟩
  · rw [List.mem_append, List.mem_singleton, h.2 p]
    constructor
    · rintro (⟨h1, h2⟩ | e)
      · exact ⟨by unfold ltP at *; omega, h2⟩
      · rw [e]; exact ⟨.inr ⟨rfl, show y < y + 1 by omega⟩, k⟩
    · rintro ⟨h1, h2⟩
      by_cases e : p = (x, y)
      · exact .inr e
      · have : ¬ (p.1 = x ∧ p.2 = y) := fun m => e (by rw [← m.1, ← m.2])
        refine .inl ⟨?_, h2⟩
        unfold ltP at *
        omega
theorem cutJ_row {x : Int} (h : cutJ a l on s x 24) (ha : ∀ p ∈ a, prP p) (hl : prP l) : cutJ a l on s (x + 1) (x + 1 + 1) := by
  refine ⟨h.1, fun p => ?_⟩
  rw [h.2 p]
  constructor
  · rintro ⟨h1, h2⟩
    exact ⟨by unfold ltP at *; omega, h2⟩
  · rintro ⟨h1, h2⟩
    refine ⟨?_, h2⟩
    have := memV ha hl h2
    unfold prP siteP at this
    unfold ltP at *
    simp only at *
    omega
theorem cutJ_end (h : cutJ a l on s 24 (24 + 1)) (ha : ∀ p ∈ a, prP p) (hl : prP l) : cutR a l on s := by
  refine ⟨h.1, fun p => ?_⟩
  rw [h.2 p]
  refine ⟨And.right, fun k => ⟨?_, k⟩⟩
  have := memV ha hl k
  unfold prP siteP at this
  unfold ltP
  omega
end
set_option maxRecDepth 100000 in
theorem cCutR_ok (N : Nat) (w0 : World) : ConOk Try.prog tb N w0 (cCut 19) := by
  refine con_of_walk (tb := tb) fine (C := [cChk 14, cIsR 36, lCutR, lCutR2]) (conCons cChkR_ok (conCons cIsR_ok (lopCons rfl (lopCons rfl noCon)))) 120 rfl ?_ N w0
  refine fun Q hQ A hA x _ _ y _ _ o o0 o1 _ => ?_
  have lA := len_of hA (Nat.le_refl _)
  have pA := prs_len A
  rw [tree_cutR]
  show T.res _ (fun z => cutQ (pks (.sl none 0 Q)) (prs (.sl none 0 A)) x y (o = 1) (net3 z 0)) _ _
  refine res_con rfl trivial (fun e _ _ he => ?_)
  have he := chk_in (show [DV.n e] = [.n (chkF (pks (.sl none 0 Q)) (prs (.sl none 0 A)))] from he)
  refine res_ite (fun h => ?_) fun h => ?_
  · have h : ¬ e = 0 := h
    refine res_dat (.sl none 0 []) rfl (res_dat (.sl none 0 []) rfl ?_)
    exact cv (cut_no (x := x) (y := y) (on := o = 1) fun m => by rcases he with he | he; exact h he.1; exact he.2 m) (by kernel_rfl)
  have h : ¬ ¬ e = 0 := h
  have ok : okP (pks (.sl none 0 Q)) (prs (.sl none 0 A)) := by
    rcases he with he | he
    · exact he.2
    · omega
  have ha := ok.2.2.1
  refine res_ite (fun h => ?_) fun h => ?_
  · have h : (¬ (0 ≤ x ∧ x < 24) ∨ ¬ (0 ≤ y ∧ y < 24)) ∨ x = y := h
    refine res_dat (.sl none 0 []) rfl (res_dat (.sl none 0 []) rfl ?_)
    exact cv (cut_out (x := x) (y := y) (on := o = 1) ok fun m => by unfold siteP at m; omega) (by kernel_rfl)
  have h : ¬ ((¬ (0 ≤ x ∧ x < 24) ∨ ¬ (0 ≤ y ∧ y < 24)) ∨ x = y) := h
  have hv : (siteP x ∧ siteP y) ∧ x ≠ y := by unfold siteP; omega
  have hl := link_pr hv
  refine res_dat (.sl none 0 []) rfl ?_
  refine res_lop_of rfl (P := cutJ (prs (.sl none 0 A)) (link x y) (o = 1) [] 0 (0 + 1)) (by kernel_rfl) rfl (cutJ_0 ha hl) (fun S hS u u0 u1 hI => ?_)
  have hI := cv hI (by kernel_rfl : _ = cutJ (prs (.sl none 0 A)) (link x y) (o = 1) (prs (.sl none 0 S)) u (u + 1))
  refine res_ite (fun hlt => ?_) fun hge => ?_
  · have hlt : u < 24 := cv hlt (by kernel_rfl)
    refine res_lop_of rfl (P := u < u + 1 ∧ cutJ (prs (.sl none 0 A)) (link x y) (o = 1) (prs (.sl none 0 S)) u (u + 1)) (by kernel_rfl) rfl ⟨by omega, hI⟩ (fun R hR v v0 v1 hJ => ?_)
    obtain ⟨huv, hJ⟩ := cv hJ (by kernel_rfl : _ = (u < v ∧ cutJ (prs (.sl none 0 A)) (link x y) (o = 1) (prs (.sl none 0 R)) u v))
    have lR := len_of hR (Nat.le_refl _)
    have pR := prs_len R
    have hfew := cutJ_val hJ ha hl
    refine res_ite (fun hlt2 => ?_) fun hge2 => ?_
    · have hlt2 : v < 24 := cv hlt2 (by kernel_rfl)
      refine res_con rfl trivial (fun c _ _ hc => ?_)
      have hc := yn_01 (cv hc (by kernel_rfl : _ = ([DV.n c] = yn (link u v ∈ prs (.sl none 0 A)))))
      have hchk : cutJ (prs (.sl none 0 A)) (link x y) (o = 1) (prs (.sl none 0 R)) u (v + 1) → T.res [cChk 14, cIsR 36, lCutR, lCutR2] (fun z => cutQ (pks (.sl none 0 Q)) (prs (.sl none 0 A)) x y (o = 1) (net3 z 0)) (.chk 3 78 [(.var 78), (.num (.add (.var 79) (.lit 1)))]) ([DV.sl none 0 Q, DV.sl none 0 A, DV.n x, DV.n y, DV.n o] ++ [DV.n e] ++ [DV.sl none 0 []] ++ ([DV.sl none 0 S, DV.n u] ++ List.replicate 69 (DV.n 0)) ++ ([DV.sl none 0 R, DV.n v] ++ List.replicate 69 (DV.n 0)) ++ [DV.n c]) := fun k =>
        res_chk_of rfl (a := (24 - (v + 1)).toNat) (b := (24 - v).toNat) (by kernel_rfl) (by kernel_rfl) (by kernel_rfl) (⟨by omega, k⟩ : u < v + 1 ∧ _) (by omega)
      have hput : (((u, v) = link x y ∧ o = 1) ∨ ((u, v) ≠ link x y ∧ (u, v) ∈ prs (.sl none 0 A))) → T.res [cChk 14, cIsR 36, lCutR, lCutR2] (fun z => cutQ (pks (.sl none 0 Q)) (prs (.sl none 0 A)) x y (o = 1) (net3 z 0)) (.ite (.le (.add (.len (.var 78)) (.lit 1)) (.lit 8278675785607))
          (.dat (.rows 2) [(.num (.var 8)), (.num (.var 79))] (.dat .cat [(.var 78), (.var 150)] (.chk 3 78 [(.var 151), (.num (.add (.var 79) (.lit 1)))])))
          .fail) ([DV.sl none 0 Q, DV.sl none 0 A, DV.n x, DV.n y, DV.n o] ++ [DV.n e] ++ [DV.sl none 0 []] ++ ([DV.sl none 0 S, DV.n u] ++ List.replicate 69 (DV.n 0)) ++ ([DV.sl none 0 R, DV.n v] ++ List.replicate 69 (DV.n 0)) ++ [DV.n c]) := fun k => by
        refine res_ok (cv (by omega : (DV.sl none 0 R).len + 1 ≤ 8278675785607) (by kernel_rfl)) ?_
        refine res_dat (.sl none 0 [[.n u, .n v]]) (by kernel_rfl) (res_dat (.sl none 0 (R ++ [[.n u, .n v]])) (by kernel_rfl) ?_)
        refine res_chk_of rfl (P := u < v + 1 ∧ cutJ (prs (.sl none 0 A)) (link x y) (o = 1) (prs (.sl none 0 (R ++ [[.n u, .n v]]))) u (v + 1)) (a := (24 - (v + 1)).toNat) (b := (24 - v).toNat) (by kernel_rfl) (by kernel_rfl) (by kernel_rfl) ⟨by omega, ?_⟩ (by omega)
        rw [prs_app]
        exact cutJ_put hJ k
      refine res_ite (fun m => ?_) fun m => ?_
      · have m : u = min x y ∧ v = max x y := cv m (by kernel_rfl)
        have e : (u, v) = link x y := by rw [m.1, m.2]; rfl
        refine res_ite (fun k => ?_) fun k => ?_
        · have k : ¬ o = 0 := cv k (by kernel_rfl)
          exact hput (.inl ⟨e, by have o0 : 0 ≤ o := o0; have o1 : o ≤ 1 := o1; omega⟩)
        · have k : ¬ ¬ o = 0 := cv k (by kernel_rfl)
          exact hchk (cutJ_no hJ fun q => by
            rcases q with ⟨_, q⟩ | ⟨q, _⟩
            · omega
            · exact q e)
      · have m : ¬ (u = min x y ∧ v = max x y) := cv m (by kernel_rfl)
        have e : (u, v) ≠ link x y := fun k => m ⟨(Prod.mk.inj k).1, (Prod.mk.inj k).2⟩
        refine res_ite (fun k => ?_) fun k => ?_
        · have k : ¬ c = 0 := cv k (by kernel_rfl)
          have hc := (hc.resolve_right fun z => k z.1).2
          exact hput (.inr ⟨e, by rw [show link u v = (u, v) by unfold link; rw [Int.min_eq_left (by omega), Int.max_eq_right (by omega)]] at hc; exact hc⟩)
        · have k : ¬ ¬ c = 0 := cv k (by kernel_rfl)
          exact hchk (cutJ_no hJ fun q => by
            rcases q with ⟨q, _⟩ | ⟨_, q⟩
            · exact e q
            · have h1 := ha _ q
              unfold prP at h1
              simp only at h1
              refine (hc.resolve_left fun z => by omega).2 ?_
              rw [show link u v = (u, v) by unfold link; rw [Int.min_eq_left (by omega), Int.max_eq_right (by omega)]]
              exact q)
    · have hge2 : ¬ v < 24 := cv hge2 (by kernel_rfl)
      have ev : v = 24 := by omega
      rw [ev] at hJ
      refine res_chk_of rfl (P := cutJ (prs (.sl none 0 A)) (link x y) (o = 1) (prs (.sl none 0 R)) (u + 1) (u + 1 + 1)) (a := (24 - (u + 1)).toNat) (b := (24 - u).toNat) (by kernel_rfl) (by kernel_rfl) (by kernel_rfl) (cutJ_row hJ ha hl) (by omega)
  · have hge : ¬ u < 24 := cv hge (by kernel_rfl)
    have eu : u = 24 := by omega
    rw [eu] at hI
    exact cv (cut_yes ok hv (cutJ_end hI ha hl)) (by kernel_rfl)
end Go.Proofs.Ytmphcgafegmheaa
