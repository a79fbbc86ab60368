/- DERIVED. The laws of what follows a fortiori, and of what governs, walked. -/
import Derived.Test.YtpaphkpdnmalhaaDlaw
import Derived.Test.YtpaphkpdnmalhaaDmathb
import Derived.Test.YtpaphkpdnmalhaaDtreef
namespace Go.Proofs.Ytpaphkpdnmalhaa
open Go.Dx Go.RowKit
set_option linter.unusedVariables false
set_option linter.unusedSimpArgs false
theorem u32_arg {a : Int} (h : (Go.Lit.int .u32 a).wf = true) : 0 ≤ a ∧ a ≤ 4294967295 := by
  simp [Go.Lit.wf, IntKind.min, IntKind.max, IntKind.signed, IntKind.bits] at h
  exact ⟨by omega, by omega⟩
theorem cell_u32 {w : World} {a : Int} (h : 0 ≤ a ∧ a ≤ 4294967295) : cellA w (.int .u32 0 4294967295) (.n a) (.int .u32 a) :=
  ⟨by simp only [HasSh]; exact ⟨a, rfl, h, by simpa [kmin, IntKind.signed, IntKind.bits] using h.1, by simpa [kmax, IntKind.signed, IntKind.bits] using h.2⟩, rfl⟩
theorem right_in {S C f : DV} {r : Int} (h : gi [DV.n r] 0 ≠ 0 → chkF S C = 0 ∧ f.len ≤ 60 ∧ setP S.len f f.len.toNat) (k : ¬ r = 0) : chkF S C = 0 ∧ setP S.len f f.len.toNat := by
  have k : gi [DV.n r] 0 ≠ 0 := k
  exact ⟨(h k).1, (h k).2.2⟩
/-- What a lesser reason gives. -/
theorem less_may {S C f o : DV} {side a b e b' : Int} {n : Nat} (hc : chkF S C = 0) (hf : setP S.len f f.len.toNat) (hs : 0 ≤ side ∧ side ≤ 1) (hn : n ≤ (favs S f side).len.toNat) (hp : partP (favs S f side) o n) (k : [DV.n a, .n b, .n e] = MayF S C f o side) (q : (b' = 0 ∧ ∃ i, i < C.len.toNat ∧ mayP C f (favs S f side) side i) ∨ b' = 1) : e = 0 ∧ (b' = 0 → b = 0) := by
  obtain ⟨h3, h4⟩ := may_val (ask_ok hc hf hs) (some_rea hf hn hp) k
  refine ⟨h3, fun z => ?_⟩
  rcases q with ⟨_, i, hi, m⟩ | y
  · rcases h4 with ⟨y, _⟩ | ⟨y, m'⟩
    · exact y
    · exact absurd (may_less (part_all hn hp) m) (m' i hi)
  · omega
set_option maxHeartbeats 8000000 in
set_option maxRecDepth 100000 in
theorem PrecedentsGovern_any (v0 v1 : Value) (b : Int) (w : World) (hG : Glb tb w) (g0 : BookA w v0) (g1 : ∃ d, cellA w ints (.sl none 0 d) v1) (hb : 0 ≤ b ∧ b ≤ 255) :
    Calls Try.prog 7 #[v0, v1, .int .u8 b] w fun e w' => e = .returned (.bool true) ∧ Below w.heap.size w w' := by
  obtain ⟨S, C, c0, rfl, h0⟩ := g0
  obtain ⟨f, h1⟩ := g1
  have cb := cell_byte (w := w) hb
  have hC : HasSh casesS (.sl none 0 C) := by
    cases c0 with
    | nil => simp [cellsA] at h0
    | cons _ t => cases t with
      | nil => simp [cellsA] at h0
      | cons _ _ => exact h0.2.1.1
  refine law_of_walk (tb := tb) (P := Try.prog) fine (C := [lawCon 9 [], cRight 22, cBinds 15, cDis 19, cAll 24]) (conCons cSane_ok (conCons cRight_ok (conCons cBinds_ok (conCons cDis_ok (conCons cAll_ok noCon))))) 300 7 [.agg book, .c ints, aB] rfl (w := w) hG
    (xs := [.sl none 0 S, .sl none 0 C, .sl none 0 f, .n b]) ?_ ?_
  · exact ⟨_, [.sl none 0 f, .n b], c0, rfl, rfl, h0, h1, cb, by simp [ArgsV]⟩
  clear h0 h1 cb
  rw [tree_lgov]
  refine res_con rfl trivial (fun z z0 z1 hz => ?_)
  obtain rfl := n_inj (show [DV.n z] = [DV.n 1] from hz)
  refine res_ite (fun h => absurd (show (1 : Int) = 0 from h) (by decide)) fun _ => ?_
  refine res_con rfl trivial (fun r _ _ hr => ?_)
  refine res_ite (fun _ => rfl) fun q => ?_
  have q : ¬ (r = 0 ∨ (DV.sl none 0 C).len = 0) := q
  obtain ⟨hc, hf⟩ := right_in (S := .sl none 0 S) (C := .sl none 0 C) (f := .sl none 0 f) hr (fun z => q (Or.inl z))
  clear hr
  have hC0 : ¬ (DV.sl none 0 C).len = 0 := fun z => q (Or.inr z)
  have lC := (DV.sl none 0 C).len_rng
  have lC' : (DV.sl none 0 C).len = C.length := clampL_eq (show C.length ≤ 9223372036854775807 from hC.1)
  obtain ⟨i, hi⟩ : ∃ i, i = Int.tmod b (DV.sl none 0 C).len := ⟨_, rfl⟩
  have i0 : 0 ≤ i := by rw [hi]; exact Int.tmod_nonneg _ hb.1
  have i1 : i < (DV.sl none 0 C).len := by rw [hi]; exact Int.tmod_lt_of_pos _ (by omega)
  refine res_ok (show Int.tmod b (DV.sl none 0 C).len ≤ Int.tmod b (DV.sl none 0 C).len + 1 ∧ Int.tmod b (DV.sl none 0 C).len + 1 ≤ (DV.sl none 0 C).len by rw [← hi]; omega) ?_
  obtain ⟨D, hD⟩ : ∃ D, D = (C.take (i + 1).toNat).drop i.toNat := ⟨_, rfl⟩
  refine res_dat (.sl none 0 D) (by rw [hD, hi]; rfl) ?_
  have lD : D.length = 1 := by rw [hD, List.length_drop, List.length_take]; omega
  have lD' : (DV.sl none 0 D).len = 1 := by have : (DV.sl none 0 D).len = D.length := clampL_eq (show D.length ≤ 9223372036854775807 by omega); omega
  have eD : ∀ j : Nat, (DV.sl none 0 D).cell 0 j = (DV.sl none 0 C).cell i j := fun j => by
    have e : D.getD (0 : Int).toNat [] = C.getD i.toNat [] := by
      simp only [List.getD_eq_getElem?_getD]
      rw [hD, List.getElem?_drop, List.getElem?_take, if_pos (by omega)]
      rw [show i.toNat + (0 : Int).toNat = i.toNat by omega]
    show (D.getD (0 : Int).toNat []).getD j _ = (C.getD i.toNat []).getD j _
    rw [e]
  have aD : ∀ j : Nat, (DV.sl none 0 D).at 0 j = (DV.sl none 0 C).at i j := fun j => by unfold DV.at; rw [eD]
  refine res_ok (show (0 : Int) ≤ 0 ∧ 0 < (Int.tmod b (DV.sl none 0 C).len + 1) - Int.tmod b (DV.sl none 0 C).len by omega) ?_
  have fD : fc (.sl none 0 D) 0 = fc (.sl none 0 C) i := by unfold fc; rw [eD]
  have rD : rc (.sl none 0 D) 0 = rc (.sl none 0 C) i := by unfold rc; rw [eD]
  have hd := case_dec hc i0 i1
  obtain ⟨⟨hS, _⟩, hsd, hcs⟩ := chk_zero hc
  have hD0 : chkF (.sl none 0 S) (.sl none 0 D) = 0 := by
    have k := chk_fine (S := .sl none 0 S) (C := .sl none 0 D) (by omega) ⟨hsd, fun k hk => ?_⟩
    · exact (n_inj k).symm
    · obtain rfl : k = 0 := by omega
      have k := hcs i.toNat (by omega)
      unfold caseP at k ⊢
      rw [show ((i.toNat : Nat) : Int) = i by omega] at k
      refine ⟨?_, fun v => absurd v (Nat.lt_irrefl 0), ?_⟩
      · show (((0 ≤ (DV.sl none 0 D).at 0 0 ∧ (DV.sl none 0 D).at 0 0 ≤ 1048576) ∧ 0 ≤ (DV.sl none 0 D).at 0 1 ∧ (DV.sl none 0 D).at 0 1 ≤ 4096) ∧ 0 ≤ (DV.sl none 0 D).at 0 2 ∧ (DV.sl none 0 D).at 0 2 ≤ 1)
        rw [aD, aD, aD]; exact k.1
      · show decP _ (fc (.sl none 0 D) 0) (rc (.sl none 0 D) 0) ((DV.sl none 0 D).at 0 2)
        rw [fD, rD, aD]; exact k.2.2
  refine res_con rfl trivial (fun a1 _ _ a2 _ _ a3 _ _ h1 => ?_)
  have h1 : [DV.n a1, .n a2, .n a3] = BindsF (.sl none 0 S) (.sl none 0 D) (.sl none 0 f) ((DV.sl none 0 D).at 0 2) := h1
  obtain ⟨k1, k2⟩ := binds_val (ask_ok hD0 hf (by rw [aD]; exact hd.2)) h1
  have bD : bindP (.sl none 0 S) (.sl none 0 D) (.sl none 0 f) ((DV.sl none 0 D).at 0 2) 0 ↔ allP (rc (.sl none 0 C) i) (.sl none 0 f) ∧ ∀ k, k < (DV.sl none 0 f).len.toNat → ¬ lackP (.sl none 0 S) ((DV.sl none 0 C).at i 2) (fc (.sl none 0 C) i) (el (.sl none 0 f) k) := by
    show (_ ∧ allP (rc (.sl none 0 D) 0) _ ∧ ∀ k, k < _ → ¬ lackP _ ((DV.sl none 0 D).at 0 2) (fc (.sl none 0 D) 0) _) ↔ _
    rw [rD, fD, aD]
    exact ⟨fun v => v.2, fun v => ⟨aD 2, v⟩⟩
  have k2 : (a2 = 1 ∧ bindP (.sl none 0 S) (.sl none 0 D) (.sl none 0 f) ((DV.sl none 0 D).at 0 2) 0) ∨ (a2 = 0 ∧ ¬ bindP (.sl none 0 S) (.sl none 0 D) (.sl none 0 f) ((DV.sl none 0 D).at 0 2) 0) := by
    rcases k2 with ⟨x, m, hm, _, y, _⟩ | ⟨x, y⟩
    · obtain rfl : m = 0 := by omega
      exact Or.inl ⟨x, y⟩
    · exact Or.inr ⟨x, y 0 (by omega)⟩
  rw [bD] at k2
  refine res_con rfl trivial (fun L hL e _ _ e' _ _ h2 => ?_)
  clear hL
  have h2 : [DV.sl none 0 L, .n e, .n e'] = DisF (.sl none 0 S) (.sl none 0 C) i (.sl none 0 f) := by rw [hi]; exact h2
  have h2 := h2.trans (dis_ret (ask_ok hc hf (by decide)) ⟨i0, i1⟩ rfl).symm
  simp only [List.cons.injEq, DV.n.injEq, DV.sl.injEq, true_and, and_true] at h2
  obtain ⟨eL, hE, he'⟩ := h2
  have lL := misK_len (.sl none 0 S) ((DV.sl none 0 C).at i 2) (fc (.sl none 0 C) i) (.sl none 0 f) (DV.sl none 0 f).len.toNat
  have lf := (DV.sl none 0 f).len_rng
  have lL' : (DV.sl none 0 L).len = L.length := clampL_eq (show L.length ≤ 9223372036854775807 by rw [eL]; unfold disL; omega)
  have hn := misK_nil (S := .sl none 0 S) (w := (DV.sl none 0 C).at i 2) (g := fc (.sl none 0 C) i) (f := .sl none 0 f) (n := (DV.sl none 0 f).len.toNat)
  have eL : L = misK (.sl none 0 S) ((DV.sl none 0 C).at i 2) (fc (.sl none 0 C) i) (.sl none 0 f) (DV.sl none 0 f).len.toNat := eL
  rw [← hn, ← eL] at k2
  have hE : e = if 0 < L.length ∧ allP (rc (.sl none 0 C) i) (.sl none 0 f) then 1 else 0 := by rw [hE, eL]; rfl
  have hE : (e = 1 ∧ 0 < L.length ∧ allP (rc (.sl none 0 C) i) (.sl none 0 f)) ∨ (e = 0 ∧ ¬ (0 < L.length ∧ allP (rc (.sl none 0 C) i) (.sl none 0 f))) := by
    by_cases v : 0 < L.length ∧ allP (rc (.sl none 0 C) i) (.sl none 0 f)
    · rw [if_pos v] at hE; exact Or.inl ⟨hE, v⟩
    · rw [if_neg v] at hE; exact Or.inr ⟨hE, v⟩
  refine res_ite (fun z => ?_) fun _ => ?_
  · have z : (¬ a3 = 0 ∨ ¬ e' = 0) ∨ (¬ e = 0 ∧ (DV.sl none 0 L).len = 0) := z
    exfalso
    rcases z with (z | z) | ⟨z, y⟩
    · exact z k1
    · exact z he'
    · rcases hE with ⟨_, v, _⟩ | ⟨v, _⟩
      · omega
      · exact z v
  have x4 := (cell_len hC i0 i1).2
  refine res_dat (rc (.sl none 0 C) i) ?_ ?_
  · show DV.sl none 0 ((((DV.sl none 0 D).cell 0 4).els.take ((DV.sl none 0 D).cell 0 4).len.toNat).drop (0 : Int).toNat) = _
    rw [eD, take_all x4]; rfl
  refine res_con rfl trivial (fun s _ _ hs => ?_)
  have hs := yn_in (c := allP (rc (.sl none 0 C) i) (.sl none 0 f)) (show [DV.n s] = _ from hs)
  have l0 : L = [] ↔ L.length = 0 := by rw [List.length_eq_zero_iff]
  rw [l0] at k2
  refine res_ite (fun _ => rfl) fun y => absurd (?_ : ((¬ s = 0 ∧ (¬ a2 = 0 ∨ ¬ e = 0)) ∨ (s = 0 ∧ ¬ (¬ a2 = 0 ∨ ¬ e = 0))) ∧ ¬ (¬ a2 = 0 ∧ ¬ e = 0)) y
  rcases hs with ⟨s0, hs⟩ | ⟨s0, hs⟩
  · rcases k2 with ⟨x, y⟩ | ⟨x, y⟩
    · have e0 : e = 0 := hE.elim (fun v => absurd v.2.1 (by omega)) fun v => v.1
      exact ⟨Or.inl ⟨s0, Or.inl (by omega)⟩, by omega⟩
    · have hl : 0 < L.length := by
        by_cases v : L.length = 0
        · exact absurd ⟨hs, v⟩ y
        · omega
      have e1 : e = 1 := hE.elim (fun v => v.1) fun v => absurd ⟨hl, hs⟩ v.2
      exact ⟨Or.inl ⟨s0, Or.inr (by omega)⟩, by omega⟩
  · have x0 : a2 = 0 := k2.elim (fun v => absurd v.2.1 hs) fun v => v.1
    have e0 : e = 0 := hE.elim (fun v => absurd v.2.2 hs) fun v => v.1
    exact ⟨Or.inr ⟨s0, by omega⟩, by omega⟩
end Go.Proofs.Ytpaphkpdnmalhaa
