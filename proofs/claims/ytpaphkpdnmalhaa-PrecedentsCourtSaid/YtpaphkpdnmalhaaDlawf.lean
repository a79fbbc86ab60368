/- DERIVED. The law of the court, walked. -/
import Derived.Test.YtpaphkpdnmalhaaDlawe
import Derived.Test.YtpaphkpdnmalhaaDmathc
import Derived.Test.YtpaphkpdnmalhaaDtreeg
import Derived.KernelRfl
namespace Go.Proofs.Ytpaphkpdnmalhaa
open Go.Dx Go.RowKit
set_option linter.unusedVariables false
set_option linter.unusedSimpArgs false
theorem res_adr {C : List Con} {post : List DV → Prop} {x : E} {k : T (List E)} {r : List DV} (h : ∀ a cap, T.res C post k (r ++ [.sl none 0 [[.sl a cap (x.dat r).els]]])) : T.res C post (.adr x k) r := h
set_option maxHeartbeats 8000000 in
set_option maxRecDepth 100000 in
theorem PrecedentsCourt_any (v0 v1 : Value) (a b : Int) (w : World) (hG : Glb tb w) (g0 : BookA w v0) (g1 : ∃ d, cellA w ints (.sl none 0 d) v1) (ha : 0 ≤ a ∧ a ≤ 4294967295) (hb : 0 ≤ b ∧ b ≤ 255) :
    Calls Try.prog 6 #[v0, v1, .int .u32 a, .int .u8 b] w fun e w' => e = .returned (.bool true) ∧ Below w.heap.size w w' := by
  obtain ⟨S, C, c0, rfl, h0⟩ := g0
  obtain ⟨f, h1⟩ := g1
  have ca := cell_u32 (w := w) ha
  have cb := cell_byte (w := w) hb
  have hC : HasSh casesS (.sl none 0 C) := by
    cases c0 with
    | nil => simp [cellsA] at h0
    | cons _ t => cases t with
      | nil => simp [cellsA] at h0
      | cons _ _ => exact h0.2.1.1
  refine law_of_walk (tb := tb) (P := Try.prog) fine (C := [lawCon 9 [], cRight 22, cClash 11, cBinds 15, cFavR 23, cMay 17, lSomeC]) (conCons cSane_ok (conCons cRight_ok (conCons cClash_ok (conCons cBinds_ok (conCons cFavR_ok (conCons cMay_ok (lopCons rfl noCon))))))) 400 6 [.agg book, .c ints, aU, aB] rfl (w := w) hG
    (xs := [.sl none 0 S, .sl none 0 C, .sl none 0 f, .n a, .n b]) ?_ ?_
  · exact ⟨_, [.sl none 0 f, .n a, .n b], c0, rfl, rfl, h0, h1, ca, cb, by simp [ArgsV]⟩
  clear h0 h1 ca cb
  rw [tree_lcourt]
  refine res_con rfl trivial (fun z z0 z1 hz => ?_)
  obtain rfl := n_inj (show [DV.n z] = [DV.n 1] from hz)
  refine res_ite (fun h => absurd (show (1 : Int) = 0 from h) (by decide)) fun _ => ?_
  refine res_con rfl trivial (fun r _ _ hr => ?_)
  refine res_ite (fun _ => rfl) fun q => ?_
  have q : ¬ (r = 0 ∨ 60 < (DV.sl none 0 C).len) := q
  obtain ⟨hc, hf⟩ := right_in (S := .sl none 0 S) (C := .sl none 0 C) (f := .sl none 0 f) hr (fun z => q (Or.inl z))
  clear hr
  have h60 : (DV.sl none 0 C).len ≤ 60 := by omega
  have lC' : (DV.sl none 0 C).len = C.length := clampL_eq (show C.length ≤ 9223372036854775807 from hC.1)
  obtain ⟨⟨hS, _⟩, hsd, hcs⟩ := chk_zero hc
  refine res_con rfl trivial (fun c1 _ _ c2 _ _ c3 _ _ c4 _ _ h0 => ?_)
  obtain ⟨e0, h0⟩ := clash_val hc (show [DV.n c1, .n c2, .n c3, .n c4] = ClashF (.sl none 0 S) (.sl none 0 C) from h0)
  refine res_ite (fun _ => res_ite (fun _ => rfl) fun z => absurd e0 z) fun z => ?_
  have z : ¬ (¬ c4 = 0 ∨ ¬ c3 = 0) := z
  have hn : noClash (.sl none 0 C) := h0.elim (fun v => absurd v.1 (by omega)) fun v => v.2
  clear h0 z
  refine res_con rfl trivial (fun a1 _ _ a2 _ _ a3 _ _ h1 => ?_)
  have h1 : [DV.n a1, .n a2, .n a3] = BindsF (.sl none 0 S) (.sl none 0 C) (.sl none 0 f) 0 := h1
  refine res_con rfl trivial (fun b1 _ _ b2 _ _ b3 _ _ h2 => ?_)
  have h2 : [DV.n b1, .n b2, .n b3] = BindsF (.sl none 0 S) (.sl none 0 C) (.sl none 0 f) 1 := h2
  obtain ⟨p1, p2⟩ := binds_val (ask_ok hc hf (by decide)) h1
  obtain ⟨q1, q2⟩ := binds_val (ask_ok hc hf (by decide)) h2
  have not2 : ¬ (¬ a2 = 0 ∧ ¬ b2 = 0) := fun v => by
    rcases p2 with ⟨_, i, hi, _, x, _⟩ | ⟨x, _⟩
    · rcases q2 with ⟨_, j, hj, _, y, _⟩ | ⟨y, _⟩
      · exact bind_both hc hn hi hj x y
      · exact v.2 y
    · exact v.1 x
  refine res_ite (fun z => ?_) fun _ => ?_
  · have z : (¬ a3 = 0 ∨ ¬ b3 = 0) ∨ (¬ a2 = 0 ∧ ¬ b2 = 0) := z
    exfalso
    rcases z with (z | z) | z
    · exact z p1
    · exact z q1
    · exact not2 z
  clear p1 p2 q1 q2
  refine res_con rfl (show setP (DV.sl none 0 S).len (.sl none 0 f) (DV.sl none 0 f).len.toNat ∧ (DV.sl none 0 S).len ≤ 32 from ⟨hf, hS⟩) (fun L0 _ k1 => ?_)
  have k1 : [DV.sl none 0 L0] = [favs (.sl none 0 S) (.sl none 0 f) 0] := k1
  simp only [List.cons.injEq, DV.sl.injEq, and_true, true_and] at k1
  refine res_con rfl trivial (fun m1 _ _ m2 _ _ m3 _ _ h3 => ?_)
  have h3 : [DV.n m1, .n m2, .n m3] = MayF (.sl none 0 S) (.sl none 0 C) (.sl none 0 f) (.sl none 0 L0) 0 := h3
  refine res_con rfl (show setP (DV.sl none 0 S).len (.sl none 0 f) (DV.sl none 0 f).len.toNat ∧ (DV.sl none 0 S).len ≤ 32 from ⟨hf, hS⟩) (fun L1 _ k2 => ?_)
  have k2 : [DV.sl none 0 L1] = [favs (.sl none 0 S) (.sl none 0 f) 1] := k2
  simp only [List.cons.injEq, DV.sl.injEq, and_true, true_and] at k2
  refine res_con rfl trivial (fun n1 _ _ n2 _ _ n3 _ _ h4 => ?_)
  have h4 : [DV.n n1, .n n2, .n n3] = MayF (.sl none 0 S) (.sl none 0 C) (.sl none 0 f) (.sl none 0 L1) 1 := h4
  rw [k1] at h3
  rw [k2] at h4
  obtain ⟨_, y1, y2⟩ := bound_may (side := 1) hc hf (by decide) h2 (show _ = MayF (.sl none 0 S) (.sl none 0 C) (.sl none 0 f) (favs (.sl none 0 S) (.sl none 0 f) 0) 0 from h3)
  obtain ⟨_, x1, x2⟩ := bound_may (side := 0) hc hf (by decide) h1 (show _ = MayF (.sl none 0 S) (.sl none 0 C) (.sl none 0 f) (favs (.sl none 0 S) (.sl none 0 f) 1) 1 from h4)
  have x2 : (a2 = 1 ∧ n2 = 0) ∨ (a2 = 0 ∧ n2 = 1) := x2.elim (fun v => Or.inl ⟨v.1, v.2.1⟩) Or.inr
  have y2 : (b2 = 1 ∧ m2 = 0) ∨ (b2 = 0 ∧ m2 = 1) := y2.elim (fun v => Or.inl ⟨v.1, v.2.1⟩) Or.inr
  refine res_ite (fun z => ?_) fun _ => ?_
  · have z : (¬ m3 = 0 ∨ ¬ n3 = 0) ∨ (m2 = 0 ∧ n2 = 0) := z
    exfalso
    omega
  clear h1 h2 h3 h4 x1 x2 y1 y2 not2 k1 k2
  have hg : 0 ≤ (Int.tmod b 2) ∧ (Int.tmod b 2) ≤ 1 := by
    have u := Int.tmod_nonneg 2 hb.1
    have v := Int.tmod_lt_of_pos b (show (0 : Int) < 2 by decide)
    omega
  refine res_con rfl (show setP (DV.sl none 0 S).len (.sl none 0 f) (DV.sl none 0 f).len.toNat ∧ (DV.sl none 0 S).len ≤ 32 from ⟨hf, hS⟩) (fun L _ h2 => ?_)
  have h2 : [DV.sl none 0 L] = [favs (.sl none 0 S) (.sl none 0 f) (Int.tmod b 2)] := h2
  simp only [List.cons.injEq, DV.sl.injEq, and_true, true_and] at h2
  have eL : DV.sl none 0 L = favs (.sl none 0 S) (.sl none 0 f) (Int.tmod b 2) := by rw [h2]
  have sL := (favs_rea (S := .sl none 0 S) (side := (Int.tmod b 2)) hf).1
  have l0 := len_nn (.sl none 0 L)
  have lL : (DV.sl none 0 L).len ≤ (DV.sl none 0 S).len := by rw [eL]; exact set_card (len_nn _) sL
  refine res_dat (.sl none 0 []) rfl ?_
  refine res_lop_of rfl ((0 : Int) ≤ (DV.sl none 0 L).len ∧ partP (.sl none 0 L) (.sl none 0 []) 0) (by kernel_rfl) ⟨l0, part_nil _⟩ (fun o ho i i0 i1 hI => ?_)
  obtain ⟨hi, hp⟩ := conv (b := i ≤ (DV.sl none 0 L).len ∧ partP (.sl none 0 L) (.sl none 0 o) i.toNat) (by kernel_rfl) hI
  have ei : ((i.toNat : Nat) : Int) = i := by omega
  have lo : (DV.sl none 0 o).len ≤ i := by have := hp.1; omega
  have lo' : (DV.sl none 0 o).len = o.length := clampL_eq (show o.length ≤ 9223372036854775807 from ho.1)
  clear ho
  refine res_ite (fun hlt => ?_) fun hge => ?_
  · have hlt := conv (b := i < (DV.sl none 0 L).len) (by kernel_rfl) hlt
    have mea : ((DV.sl none 0 L).len - (i + 1)).toNat < ((DV.sl none 0 L).len - i).toNat := by omega
    have en : (i + 1).toNat = i.toNat + 1 := by omega
    refine res_ite (fun _ => ?_) fun _ => ?_
    · refine res_ok (conv (a := (DV.sl none 0 o).len + 1 ≤ 15637498706147) (by kernel_rfl) (by omega)) ?_
      refine res_dat (.sl none 0 [[.n ((DV.sl none 0 L).at i 0)]]) (by kernel_rfl) ?_
      refine res_dat (.sl none 0 (o ++ [[.n ((DV.sl none 0 L).at i 0)]])) (by kernel_rfl) ?_
      refine res_chk_of rfl (i + 1 ≤ (DV.sl none 0 L).len ∧ partP (.sl none 0 L) (.sl none 0 (o ++ [[.n ((DV.sl none 0 L).at i 0)]])) (i + 1).toNat) ((DV.sl none 0 L).len - (i + 1)).toNat ((DV.sl none 0 L).len - i).toNat (by kernel_rfl) ⟨by omega, ?_⟩ (by kernel_rfl) (by kernel_rfl) mea
      have e : (DV.sl none 0 L).at i 0 = el (.sl none 0 L) i.toNat := by unfold el; rw [ei]
      rw [en, e]
      exact part_add (F := (DV.sl none 0 S).len) (by rw [eL]; exact sL) (by omega) (by omega) hp
    · exact res_chk_of rfl (i + 1 ≤ (DV.sl none 0 L).len ∧ partP (.sl none 0 L) (.sl none 0 o) (i + 1).toNat) ((DV.sl none 0 L).len - (i + 1)).toNat ((DV.sl none 0 L).len - i).toNat (by kernel_rfl) ⟨by omega, by rw [en]; exact part_skip hp⟩ (by kernel_rfl) (by kernel_rfl) mea
  rw [eL] at hp hi
  refine res_con rfl trivial (fun d1 _ _ d2 _ _ d3 _ _ h4 => ?_)
  have h4 := conv (b := [DV.n d1, .n d2, .n d3] = MayF (.sl none 0 S) (.sl none 0 C) (.sl none 0 f) (.sl none 0 o) (Int.tmod b 2)) (by kernel_rfl) h4
  have hrea := some_rea hf (n := i.toNat) (by omega) hp
  obtain ⟨m1, m2⟩ := may_val (ask_ok hc hf hg) hrea h4
  refine res_ite (fun z => ?_) fun _ => ?_
  · have z := conv (b := ¬ d3 = 0) (by kernel_rfl) z
    exact absurd m1 z
  refine res_ite (fun hpos => ?_) fun hzero => ?_
  · have hpos := conv (b := 0 < (DV.sl none 0 C).len) (by kernel_rfl) hpos
    have w := hcs ((DV.sl none 0 C).len.toNat - 1) (by omega)
    unfold caseP at w
    rw [show (((DV.sl none 0 C).len.toNat - 1 : Nat) : Int) = (DV.sl none 0 C).len - 1 by omega] at w
    have ew := wI (x := (DV.sl none 0 C).at ((DV.sl none 0 C).len - 1) 0 + 1) (by omega) (by omega)
    refine res_ok (conv (a := 0 ≤ (DV.sl none 0 C).len - 1 ∧ (DV.sl none 0 C).len - 1 < (DV.sl none 0 C).len) (by kernel_rfl) (by omega)) ?_
    refine res_adr fun u cu => res_adr fun v cv => ?_
    refine res_dat (.sl none 0 [[.n (IntKind.i64.wrap ((DV.sl none 0 C).at ((DV.sl none 0 C).len - 1) 0 + 1)), .n ((DV.sl none 0 C).at ((DV.sl none 0 C).len - 1) 1), .n (Int.tmod b 2), .sl u cu f, .sl v cv o]]) (by kernel_rfl) ?_
    refine res_dat (moreC C (IntKind.i64.wrap ((DV.sl none 0 C).at ((DV.sl none 0 C).len - 1) 0 + 1)) ((DV.sl none 0 C).at ((DV.sl none 0 C).len - 1) 1) (Int.tmod b 2) (.sl u cu f) (.sl v cv o)) (by kernel_rfl) ?_
    refine res_ite (fun _ => rfl) fun z => ?_
    have z := conv (b := ¬ 1048576 < (IntKind.i64.wrap ((DV.sl none 0 C).at ((DV.sl none 0 C).len - 1) 0 + 1))) (by kernel_rfl) z
    refine res_con rfl trivial (fun x1 _ _ x2 _ _ x3 _ _ x4 _ _ h5 => ?_)
    have h5 := conv (b := [DV.n x1, .n x2, .n x3, .n x4] = ClashF (.sl none 0 S) (moreC C (IntKind.i64.wrap ((DV.sl none 0 C).at ((DV.sl none 0 C).len - 1) 0 + 1)) ((DV.sl none 0 C).at ((DV.sl none 0 C).len - 1) 1) (Int.tmod b 2) (.sl u cu f) (.sl v cv o))) (by kernel_rfl) h5
    obtain ⟨y1, y2⟩ := more_clash (f := f) (o := o) (x := .sl u cu f) (y := .sl v cv o) hc lC' (by omega) hn (by omega) w.1.1.2 hg rfl rfl ⟨hf, hrea⟩ (fun _ => by rw [← lC']; exact ⟨by omega, Int.le_refl _⟩) h5 m2
    refine res_ite (fun _ => rfl) fun z => absurd (conv (a := x4 = 0 ∧ ¬ ((¬ x3 = 0 ∧ ¬ d2 = 0) ∨ (x3 = 0 ∧ d2 = 0))) (by kernel_rfl) (by omega)) z
  · have hzero := conv (b := ¬ 0 < (DV.sl none 0 C).len) (by kernel_rfl) hzero
    refine res_adr fun u cu => res_adr fun v cv => ?_
    refine res_dat (.sl none 0 [[.n 0, .n 0, .n (Int.tmod b 2), .sl u cu f, .sl v cv o]]) (by kernel_rfl) ?_
    refine res_dat (moreC C 0 0 (Int.tmod b 2) (.sl u cu f) (.sl v cv o)) (by kernel_rfl) ?_
    refine res_con rfl trivial (fun x1 _ _ x2 _ _ x3 _ _ x4 _ _ h5 => ?_)
    have h5 := conv (b := [DV.n x1, .n x2, .n x3, .n x4] = ClashF (.sl none 0 S) (moreC C 0 0 (Int.tmod b 2) (.sl u cu f) (.sl v cv o))) (by kernel_rfl) h5
    obtain ⟨y1, y2⟩ := more_clash (f := f) (o := o) (x := .sl u cu f) (y := .sl v cv o) hc lC' (by omega) hn (by decide) (by decide) hg rfl rfl ⟨hf, hrea⟩ (fun v => absurd v (by omega)) h5 m2
    refine res_ite (fun _ => rfl) fun z => absurd (conv (a := x4 = 0 ∧ ¬ ((¬ x3 = 0 ∧ ¬ d2 = 0) ∨ (x3 = 0 ∧ d2 = 0))) (by kernel_rfl) (by omega)) z
end Go.Proofs.Ytpaphkpdnmalhaa
