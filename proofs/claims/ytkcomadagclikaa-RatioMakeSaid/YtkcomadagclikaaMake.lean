/- DERIVED. The law of ratios made of numbers. -/
import Derived.Test.YtkcomadagclikaaTreeE
import Derived.Test.YtkcomadagclikaaOrder
namespace Go.Proofs.Ytkcomadagclikaa
open Go.Sx Go.RowKit
set_option linter.unusedVariables false
set_option linter.unusedSimpArgs false
theorem floor_two {P D : Int} (hD : 0 < D) : ∃ q r, P = q * D + r ∧ 0 ≤ r ∧ r < D ∧ P / D = q ∧ (-P / D = if r = 0 then -q else -q - 1) ∧ (P.tmod D = 0 ↔ r = 0) := by
  refine ⟨P / D, P % D, ?_, Int.emod_nonneg _ (by omega), Int.emod_lt_of_pos _ hD, rfl, ?_, ?_⟩
  · have := Int.emod_add_mul_ediv P D
    rw [Int.mul_comm]; omega
  · have h1 := Int.emod_add_mul_ediv P D
    have h2 := Int.emod_nonneg P (b := D) (by omega)
    have h3 := Int.emod_lt_of_pos P hD
    generalize P / D = q at *
    generalize P % D = r at *
    refine (Int.ediv_eq_iff_of_pos hD).2 ?_
    split
    · rename_i h; subst h h1; constructor <;> grind
    · rename_i h
      have e : (-q - 1) * D = -(D * q) - D := by grind
      rw [e]; omega
  · rw [← Int.dvd_iff_tmod_eq_zero, ← Int.dvd_iff_emod_eq_zero]
theorem tim_fin {P D lo hi low high : Int} (h1 : -1152921504606846976 ≤ P) (h2 : P ≤ 1152921504606846976) (h3 : 1 ≤ D) (h4 : D ≤ 1073741824) (e1 : lo = P / D) (e2 : hi = -(-P / D)) (e3 : low = -P / D) (e4 : high = -(P / D)) :
    (low = 0 - hi ∧ high = 0 - lo ∧ 0 ≤ hi - lo ∧ hi - lo ≤ 1 ∧ (hi = lo ↔ P.tmod D = 0)) ∧
    (IntKind.i64.wrap (lo * D) ≤ P ∧ P ≤ IntKind.i64.wrap (hi * D)) ∧ P < IntKind.i64.wrap ((lo + 1) * D) ∧ IntKind.i64.wrap ((hi - 1) * D) < P := by
  obtain ⟨q, r, a1, a2, a3, a4, a5, a6⟩ := floor_two (P := P) (D := D) (by omega)
  rw [a6]
  by_cases hr : r = 0
  · rw [if_pos hr] at a5
    have el : lo = q := by omega
    have eh : hi = q := by omega
    refine ⟨⟨by omega, by omega, by omega, by omega, by omega⟩, ?_⟩
    rw [el, eh]
    have x1 : (q + 1) * D = q * D + D := by grind
    have x2 : (q - 1) * D = q * D - D := by grind
    rw [x1, x2]
    generalize q * D = K at *
    rw [w_id (z := K) (by omega) (by omega), w_id (z := K + D) (by omega) (by omega), w_id (z := K - D) (by omega) (by omega)]
    omega
  · rw [if_neg hr] at a5
    have el : lo = q := by omega
    have eh : hi = q + 1 := by omega
    refine ⟨⟨by omega, by omega, by omega, by omega, by omega⟩, ?_⟩
    rw [el, eh]
    have x1 : (q + 1) * D = q * D + D := by grind
    have x2 : (q + 1 - 1) * D = q * D := by grind
    rw [x1, x2]
    generalize q * D = K at *
    rw [w_id (z := K) (by omega) (by omega), w_id (z := K + D) (by omega) (by omega)]
    omega
theorem by_rng {m : Int} (h1 : -2147483648 ≤ m) (h2 : m ≤ 2147483647) : -1073741823 ≤ m.tmod 1073741824 ∧ m.tmod 1073741824 ≤ 1073741823 := by
  have := Int.natAbs_tmod m 1073741824
  rw [show (1073741824 : Int).natAbs = 1073741824 from rfl] at this
  omega
theorem i32m {x y : Int} (h1 : -2147483648 ≤ x) (h2 : x ≤ 2147483647) (h3 : -32768 ≤ y) (h4 : y ≤ 32767) : I64 (x * y) := by
  have := nb (x := x) (y := y) (A := 2147483648) (B := 32768) (by omega) (by omega)
  generalize x * y = z at *
  exact ⟨by omega, by omega⟩
set_option maxRecDepth 100000 in
set_option maxHeartbeats 4000000 in
theorem RatioMake_walk (n d k m : Int) (w : World) (hn : -2147483648 ≤ n ∧ n ≤ 2147483647) (hd : -2147483648 ≤ d ∧ d ≤ 2147483647) (hk : -32768 ≤ k ∧ k ≤ 32767) (hm : -2147483648 ≤ m ∧ m ≤ 2147483647) :
    Calls Try.prog 9 #[.int .i32 n, .int .i32 d, .int .i16 k, .int .i32 m] w fun e w' => e = .returned (.bool true) ∧ Below w.heap.size w w' := by
  refine sx_law (tb := tb) (w := w) (σ := []) (τ := []) fine (C := [trueCon 10, cMake, cChk, cTim 25])
    (conCons okSane (conCons okMake (conCons okChk (conCons okTim noCon))) _ _) 1000 9 (argsOf [.int .i32, .int .i32, .int .i16, .int .i32] 0) ⟨[(-2147483648, 2147483647), (-2147483648, 2147483647), (-32768, 32767), (-2147483648, 2147483647)], [], []⟩ [n, d, k, m]
    (in_bnd ⟨hn.1, hn.2, hd.1, hd.2, hk.1, hk.2, hm.1, hm.2, trivial⟩) ?_
  rw [tree_l9]
  simp only [T.law, Bool.false_eq_true, E.den, B.prop, allB, inB, List.map_cons, List.map_nil, List.getD_cons_zero, List.getD_cons_succ, List.cons_append, List.nil_append, List.append_nil, List.getElem?_cons_zero, List.getElem?_cons_succ, true_and, and_true, trueCon, cMake, cChk, cTim]
  have i1 : I64 n := ⟨by omega, by omega⟩
  have i2 : I64 d := ⟨by omega, by omega⟩
  have i3 := i32m hn.1 hn.2 hk.1 hk.2
  have i4 := i32m hd.1 hd.2 hk.1 hk.2
  have hb := by_rng hm.1 hm.2
  intro s _ _ _
  refine ⟨fun h0 => ⟨⟨i1, ⟨by omega, by omega⟩⟩, fun N _ _ D _ _ e _ _ hq => ?_⟩, fun h0 => ⟨⟨i1, i2⟩, fun N N0 N1 D D0 D1 e _ _ hq => ⟨⟨i3, i4⟩, fun N' _ _ D' _ _ e' _ _ hq' => ?_⟩⟩⟩
  · have := (mk_zero n).2.2
    omega
  obtain ⟨q1, q2, q3⟩ := hq
  obtain ⟨q1', q2', q3'⟩ := hq'
  have hd0 : d ≠ 0 := fun h => h0 (Or.inl h)
  have hk0 : k ≠ 0 := fun h => h0 (Or.inr h)
  have hdk : d * k ≠ 0 := Int.mul_ne_zero hd0 hk0
  have hc := mk_cross (n := n) (d := d) (n' := n * k) (d' := d * k) hd0 hdk (by grind)
  have he : mkE n d = 0 ∨ (mkE n d ≠ 0 ∧ mkN n d = 0 ∧ mkD n d = 0 ∧ mkE n d = 2) := by
    by_cases h : mkE n d = 0
    · exact Or.inl h
    · exact Or.inr ⟨h, mk_two hd0 h⟩
  clear i1 i2 i3 i4
  refine ⟨fun h => ?_, fun _ => ⟨fun h => ?_, fun h => ?_⟩⟩
  · omega
  · omega
  have he0 : mkE n d = 0 := by omega
  obtain ⟨hv, _, hx⟩ := mk_can hd0 he0
  rw [← q1, ← q2] at hv hx
  have hb2 := hv.b
  refine ⟨fun _ => ⟨⟨⟨by omega, by omega⟩, by omega, by omega⟩, fun c _ _ hc => ?_⟩, fun h => absurd hb2.1 h⟩
  rw [if_pos hv] at hc
  refine ⟨fun h => ?_, fun _ => ?_⟩
  · rcases h with h | h
    · exact h hc
    · exact h hx
  generalize m.tmod 1073741824 = t at *
  have hP := mb hb2.2.2.1 hb2.2.2.2 (y := t) (by omega) (by omega)
  refine ⟨⟨⟨by omega, by omega⟩, ⟨by omega, by omega⟩, ⟨by omega, by omega⟩⟩, fun lo _ _ hi _ _ g _ _ hT => ⟨⟨⟨by omega, by omega⟩, ⟨by omega, by omega⟩, ⟨by omega, by omega⟩⟩, fun low _ _ high _ _ f _ _ hT' => ?_⟩⟩
  obtain ⟨_, _, hT⟩ := hT
  obtain ⟨_, _, hT'⟩ := hT'
  have hT := hT hv (by omega)
  have hT' := hT' hv (by omega)
  have en : N * (0 - t) = -(N * t) := by grind
  rw [en, Int.neg_neg] at hT'
  generalize N * t = P at *
  rw [fl_b (by omega) (by omega) (by omega), fl_b (by omega) (by omega) (by omega)] at hT hT'
  obtain ⟨t1, t2, t3⟩ := hT
  obtain ⟨t1', t2', t3'⟩ := hT'
  have fin := tim_fin hP.1 hP.2 hb2.1 hb2.2.1 t1 t2 t1' t2'
  obtain ⟨⟨f1, f2, f3, f4, f5⟩, f6⟩ := fin
  refine ⟨fun h => h t3, fun _ => ⟨fun h => h t3', fun _ => ⟨fun h => ?_, fun _ => ?_⟩⟩⟩
  · rcases h with (((h | h) | h) | h) | h
    · exact h f1
    · exact h f2
    · omega
    · omega
    · refine h ?_
      by_cases x : hi = lo
      · exact Or.inl ⟨x, f5.1 x⟩
      · exact Or.inr ⟨x, fun y => x (f5.2 y)⟩
  · exact ⟨⟨⟨f6.1.1, f6.1.2⟩, f6.2.1⟩, f6.2.2⟩
theorem wf_i16 {k : Int} (h : (Lit.int .i16 k).wf = true) : -32768 ≤ k ∧ k ≤ 32767 := by
  simp [Lit.wf, IntKind.min, IntKind.max, IntKind.signed, IntKind.bits] at h
  omega
theorem wf_u16 {k : Int} (h : (Lit.int .u16 k).wf = true) : 0 ≤ k ∧ k ≤ 65535 := by
  simp [Lit.wf, IntKind.min, IntKind.max, IntKind.signed, IntKind.bits] at h
  omega
theorem wf_i32 {k : Int} (h : (Lit.int .i32 k).wf = true) : -2147483648 ≤ k ∧ k ≤ 2147483647 := by
  simp [Lit.wf, IntKind.min, IntKind.max, IntKind.signed, IntKind.bits] at h
  omega
theorem RatioField_any (n m k d f g : Int) (w : World) (wn : (Lit.int .i16 n).wf = true) (wm : (Lit.int .i16 m).wf = true) (wk : (Lit.int .i16 k).wf = true) (wd : (Lit.int .u16 d).wf = true) (wf : (Lit.int .u16 f).wf = true) (wg : (Lit.int .u16 g).wf = true) :
    Calls Try.prog 6 #[.int .i16 n, .int .i16 m, .int .i16 k, .int .u16 d, .int .u16 f, .int .u16 g] w fun e w' => e = .returned (.bool true) ∧ Below w.heap.size w w' :=
  RatioField_walk n m k d f g w (wf_i16 wn) (wf_i16 wm) (wf_i16 wk) (wf_u16 wd) (wf_u16 wf) (wf_u16 wg)
theorem RatioOrder_any (n m k d f g : Int) (w : World) (wn : (Lit.int .i16 n).wf = true) (wm : (Lit.int .i16 m).wf = true) (wk : (Lit.int .i16 k).wf = true) (wd : (Lit.int .u16 d).wf = true) (wf : (Lit.int .u16 f).wf = true) (wg : (Lit.int .u16 g).wf = true) :
    Calls Try.prog 7 #[.int .i16 n, .int .i16 m, .int .i16 k, .int .u16 d, .int .u16 f, .int .u16 g] w fun e w' => e = .returned (.bool true) ∧ Below w.heap.size w w' :=
  RatioOrder_walk n m k d f g w (wf_i16 wn) (wf_i16 wm) (wf_i16 wk) (wf_u16 wd) (wf_u16 wf) (wf_u16 wg)
theorem RatioMake_any (n d k m : Int) (w : World) (wn : (Lit.int .i32 n).wf = true) (wd : (Lit.int .i32 d).wf = true) (wk : (Lit.int .i16 k).wf = true) (wm : (Lit.int .i32 m).wf = true) :
    Calls Try.prog 9 #[.int .i32 n, .int .i32 d, .int .i16 k, .int .i32 m] w fun e w' => e = .returned (.bool true) ∧ Below w.heap.size w w' :=
  RatioMake_walk n d k m w (wf_i32 wn) (wf_i32 wd) (wf_i16 wk) (wf_i32 wm)
end Go.Proofs.Ytkcomadagclikaa
