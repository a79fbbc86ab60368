/- DERIVED. The functions keep their contracts. -/
import Derived.Test.YtkcomadagclikaaTree
namespace Go.Proofs.Ytkcomadagclikaa
open Go.Sx
set_option linter.unusedVariables false
set_option linter.unusedSimpArgs false
theorem gcd_step (x y : Int) : gcdI y (x.tmod y) = gcdI x y := by
  unfold gcdI
  rw [Int.natAbs_tmod, Nat.gcd_comm y.natAbs, ← Nat.gcd_rec, Nat.gcd_comm]
theorem gcd_zero (x : Int) : gcdI x 0 = x.natAbs := by simp [gcdI]
theorem gcd_pos {a b : Int} (h : b ≠ 0) : 1 ≤ gcdI a b := by
  unfold gcdI
  have := Nat.gcd_pos_of_pos_right a.natAbs (n := b.natAbs) (by omega)
  omega
theorem gcd_le {a b : Int} (h : b ≠ 0) : gcdI a b ≤ b.natAbs := by
  unfold gcdI
  have := Nat.gcd_le_right a.natAbs (n := b.natAbs) (by omega)
  omega
theorem tmod_lt (x y : Int) (hx : 0 ≤ x) (hy : 0 < y) : 0 ≤ x.tmod y ∧ x.tmod y < y := by
  rw [Int.tmod_eq_emod_of_nonneg hx]
  exact ⟨Int.emod_nonneg _ (by omega), Int.emod_lt_of_pos _ hy⟩
theorem okDiv {σ τ} : ∀ N w0, ConOk Try.prog N w0 σ τ cDiv := by
  refine con_of_walk (tb := tb) (C := [lDiv]) fine (lopCons rfl noCon) 1000 ⟨[u64b, u64p], [], []⟩ rfl fun xs hp hl => ?_
  match xs, hp with
  | [a, b], hp =>
  obtain ⟨h1, h2, h3, h4⟩ := hp
  refine ⟨in_bnd ⟨h1, h2, h3, h4, trivial⟩, ?_⟩
  rw [show runP tb [lDiv] 1000 cDiv.f (argsOf cDiv.args 0) ⟨[u64b, u64p], [], []⟩ = _ from tree_div]
  simp only [T.res, resOk, svV, pvV, pvsV, cellV, cellsV, E.den, B.prop, allB, inB, kb, if_true, List.map_cons, List.map_nil, List.getD_cons_zero, List.getD_cons_succ, List.cons_append, List.nil_append, List.append_nil, List.getElem?_cons_zero, cDiv, lDiv, List.take_succ_cons, List.take_zero, List.length_cons, List.length_nil]
  refine ⟨⟨⟨trivial, fun h => by omega⟩, ?_⟩, ?_⟩
  · refine ⟨?_, ?_, ?_, ?_, ?_, ?_, trivial⟩ <;> omega
  · intro x x0 x1 y y0 y1 g g0 g1 hi
    refine ⟨fun hy => ?_, fun hy => ?_⟩
    · have h5 := tmod_lt x y x0 (by omega)
      refine ⟨⟨(gcd_step x y).trans hi.1, fun _ => trivial⟩, ?_, ?_⟩
      · refine ⟨?_, ?_, ?_, ?_, ?_, ?_, trivial⟩ <;> omega
      · omega
    · have hy : y = 0 := by omega
      subst hy
      have h6 := gcd_zero x
      have h7 := gcd_pos (a := a) (b := b) (by omega)
      refine ⟨⟨?_, ?_, trivial⟩, ?_⟩ <;> have := hi.2 rfl <;> have := hi.1 <;> omega
theorem okDivR {σ τ} : ∀ N w0, ConOk Try.prog N w0 σ τ cDivR := by
  refine con_of_walk (tb := tb) (C := [lDivR]) fine (lopCons rfl noCon) 1000 ⟨[mp, mp], [], []⟩ rfl fun xs hp hl => ?_
  match xs, hp with
  | [a, b], hp =>
  obtain ⟨h1, h2, h3, h4⟩ := hp
  refine ⟨in_bnd ⟨h1, h2, h3, h4, trivial⟩, ?_⟩
  rw [show runP tb [lDivR] 1000 cDivR.f (argsOf cDivR.args 0) ⟨[mp, mp], [], []⟩ = _ from tree_divR]
  simp only [T.res, resOk, svV, pvV, pvsV, cellV, cellsV, E.den, B.prop, allB, inB, kb, if_true, List.map_cons, List.map_nil, List.getD_cons_zero, List.getD_cons_succ, List.cons_append, List.nil_append, List.append_nil, List.getElem?_cons_zero, cDivR, lDivR, List.take_succ_cons, List.take_zero, List.length_cons, List.length_nil]
  refine ⟨⟨?_, ?_⟩, ?_⟩
  · trivial
  · refine ⟨?_, ?_, ?_, ?_, trivial⟩ <;> omega
  · intro x x0 x1 y y0 y1 hi
    refine ⟨fun hy => ?_, fun hy => ?_⟩
    · have h5 := tmod_lt x y x0 (by omega)
      refine ⟨(gcd_step x y).trans hi, ?_, ?_⟩
      · refine ⟨?_, ?_, ?_, ?_, trivial⟩ <;> omega
      · omega
    · have hy : y = 0 := by omega
      subst hy
      have h6 := gcd_zero x
      refine ⟨⟨?_, ?_, trivial⟩, ?_⟩ <;> omega
theorem low_fin {n d A B g : Int} (hA : A = n.natAbs) (hB : B = d.natAbs) (hg : g = gcdI A B) : A.tdiv g = rx n d ∧ B.tdiv g = ry n d := by
  subst hA hB hg
  unfold rx ry gcdI
  constructor <;> rw [Int.tdiv_eq_ediv_of_nonneg (by omega)] <;> simp
theorem ry_pos {n d : Int} (hd : d ≠ 0) : 1 ≤ ry n d := by
  unfold ry
  exact Nat.div_pos (Nat.gcd_le_right _ (by omega)) (Nat.gcd_pos_of_pos_right _ (by omega))
theorem mk_big {n d : Int} (hd : d ≠ 0) (h : 1073741824 < rx n d ∨ 1073741824 < ry n d) : mkN n d = 0 ∧ mkD n d = 0 ∧ mkE n d = 2 := by
  unfold mkN mkD mkE
  rw [if_neg (by omega), if_neg (by omega), if_neg hd, if_neg (by omega)]
  exact ⟨rfl, rfl, rfl⟩
theorem mk_ok {n d : Int} (hd : d ≠ 0) (h1 : rx n d ≤ 1073741824) (h2 : ry n d ≤ 1073741824) : mkN n d = (if n < 0 ↔ d < 0 then (rx n d : Int) else -(rx n d : Int)) ∧ mkD n d = ry n d ∧ mkE n d = 0 := by
  have hc : (rx n d ≤ 1073741824 ∧ ry n d ≤ 1073741824) ∧ d ≠ 0 := ⟨⟨h1, h2⟩, hd⟩
  refine ⟨?_, ?_, ?_⟩
  · unfold mkN; rw [if_pos hc]
  · unfold mkD; rw [if_pos hc]
  · unfold mkE; rw [if_neg hd, if_pos hc.1]
theorem mk_zero (n : Int) : mkN n 0 = 0 ∧ mkD n 0 = 0 ∧ mkE n 0 = 120 := by simp [mkN, mkD, mkE]
theorem low_end {n d X Y N D : Int} (hd : d ≠ 0) (hX : X = rx n d) (hY : Y = ry n d) (hD : D = Y) (hN : N = if n < 0 ↔ d < 0 then X else -X) :
    ((1073741824 < X ∨ 1073741824 < Y) → (((-1073741824 : Int) ≤ 0 ∧ (0 : Int) ≤ 1073741824 ∧ (0 : Int) ≤ 0 ∧ (0 : Int) ≤ 1073741824 ∧ (0 : Int) ≤ 2 ∧ (2 : Int) ≤ 2 ∧ True) ∧ 0 = mkN n d ∧ 0 = mkD n d ∧ 2 = mkE n d)) ∧
    (¬(1073741824 < X ∨ 1073741824 < Y) → ((-1073741824 ≤ N ∧ N ≤ 1073741824 ∧ 0 ≤ D ∧ D ≤ 1073741824 ∧ (0 : Int) ≤ 0 ∧ (0 : Int) ≤ 2 ∧ True) ∧ N = mkN n d ∧ D = mkD n d ∧ 0 = mkE n d)) := by
  have := ry_pos (n := n) hd
  refine ⟨fun h => ?_, fun h => ?_⟩
  · obtain ⟨h1, h2, h3⟩ := mk_big hd (n := n) (by omega)
    rw [h1, h2, h3]
    exact ⟨⟨by omega, by omega, by omega, by omega, by omega, by omega, trivial⟩, rfl, rfl, rfl⟩
  · obtain ⟨h1, h2, h3⟩ := mk_ok hd (n := n) (by omega) (by omega)
    rw [h1, h2, h3, hD, hN, hY, hX]
    refine ⟨⟨?_, ?_, ?_, ?_, ?_, ?_, trivial⟩, rfl, rfl, rfl⟩ <;> (try split) <;> omega
theorem okLow {σ τ} : ∀ N w0, ConOk Try.prog N w0 σ τ cLow := by
  refine con_of_walk (tb := tb) (C := [cDiv]) fine (conCons okDiv noCon) 1000 ⟨[i64b, i64b], [], []⟩ rfl fun xs hp hl => ?_
  match xs, hp with
  | [n, d], hp =>
  obtain ⟨⟨h1, h2⟩, ⟨h3, h4⟩, hd⟩ := hp
  refine ⟨in_bnd ⟨h1, h2, h3, h4, trivial⟩, ?_⟩
  rw [show runP tb [cDiv] 1000 cLow.f (argsOf cLow.args 0) ⟨[i64b, i64b], [], []⟩ = _ from tree_low]
  simp only [T.res, resOk, svV, pvV, pvsV, cellV, cellsV, E.den, B.prop, allB, inB, kb, if_true, List.map_cons, List.map_nil, List.getD_cons_zero, List.getD_cons_succ, List.cons_append, List.nil_append, List.append_nil, List.getElem?_cons_zero, cDiv, cLow, w_u64]
  refine ⟨fun hn => ⟨fun hd' => ?_, fun hd' => ?_⟩, fun hn => ⟨fun hd' => ?_, fun hd' => ?_⟩⟩
  all_goals refine ⟨by omega, fun g g0 g1 hg => ?_⟩
  all_goals
    obtain ⟨e1, e2⟩ := low_fin (n := n) (d := d) (by omega) (by omega) hg
    refine low_end hd e1 e2 rfl ?_
    first
      | rw [if_pos (by omega)]
      | (rw [if_neg (by omega)]; omega)
theorem okMake {σ τ} : ∀ N w0, ConOk Try.prog N w0 σ τ cMake := by
  refine con_of_walk (tb := tb) (C := [cLow]) fine (conCons okLow noCon) 1000 ⟨[i64b, i64b], [], []⟩ rfl fun xs hp hl => ?_
  match xs, hp with
  | [n, d], hp =>
  obtain ⟨⟨h1, h2⟩, ⟨h3, h4⟩⟩ := hp
  refine ⟨in_bnd ⟨h1, h2, h3, h4, trivial⟩, ?_⟩
  rw [show runP tb [cLow] 1000 cMake.f (argsOf cMake.args 0) ⟨[i64b, i64b], [], []⟩ = _ from tree_make]
  simp only [T.res, resOk, svV, pvV, pvsV, cellV, cellsV, E.den, B.prop, allB, inB, kb, if_true, List.map_cons, List.map_nil, List.getD_cons_zero, List.getD_cons_succ, List.cons_append, List.nil_append, List.append_nil, List.getElem?_cons_zero, cMake, cLow]
  refine ⟨fun hd => ?_, fun hd => ?_⟩
  · subst hd
    obtain ⟨e1, e2, e3⟩ := mk_zero n
    rw [e1, e2, e3]
    exact ⟨⟨by omega, by omega, by omega, by omega, by omega, by omega, trivial⟩, rfl, rfl, rfl⟩
  · refine ⟨⟨⟨h1, h2⟩, ⟨h3, h4⟩, hd⟩, fun x x0 x1 y y0 y1 e ee0 ee1 hq => ⟨⟨?_, ?_, ?_, ?_, ?_, ?_, trivial⟩, hq⟩⟩ <;> omega
open Classical in
theorem okChk {σ τ} : ∀ N w0, ConOk Try.prog N w0 σ τ cChk := by
  refine con_of_walk (tb := tb) (C := [cDiv]) fine (conCons okDiv noCon) 1000 ⟨[i64b, i64b], [], []⟩ rfl fun xs hp hl => ?_
  match xs, hp with
  | [n, d], hp =>
  obtain ⟨⟨h1, h2⟩, ⟨h3, h4⟩⟩ := hp
  refine ⟨in_bnd ⟨h1, h2, h3, h4, trivial⟩, ?_⟩
  rw [show runP tb [cDiv] 1000 cChk.f (argsOf cChk.args 0) ⟨[i64b, i64b], [], []⟩ = _ from tree_chk]
  have key : ∀ A g : Int, A = n.natAbs → g = gcdI A d → g = gcdI n d := fun A g hA hg => by rw [hg, hA]; simp [gcdI]
  simp only [T.res, resOk, svV, pvV, pvsV, cellV, cellsV, E.den, B.prop, allB, inB, kb, if_true, and_true, List.map_cons, List.map_nil, List.getD_cons_zero, List.getD_cons_succ, List.cons_append, List.nil_append, List.append_nil, List.getElem?_cons_zero, cDiv, cChk, w_u64]
  refine ⟨fun hv => ⟨fun hn => ?_, fun hn => ?_⟩, fun hv => ?_⟩
  · refine ⟨by omega, fun g g0 g1 hg => ?_⟩
    have hg := key _ g (by omega) hg
    refine ⟨fun h => ⟨by omega, ?_⟩, fun h => ⟨by omega, ?_⟩⟩
    · rw [if_neg fun hq => h (by have := hq.2.2.2.2; omega)]
    · rw [if_pos ⟨by omega, by omega, by omega, by omega, by omega⟩]
  · refine ⟨by omega, fun g g0 g1 hg => ?_⟩
    have hg := key _ g (by omega) hg
    refine ⟨fun h => ⟨by omega, ?_⟩, fun h => ⟨by omega, ?_⟩⟩
    · rw [if_neg fun hq => h (by have := hq.2.2.2.2; omega)]
    · rw [if_pos ⟨by omega, by omega, by omega, by omega, by omega⟩]
  · refine ⟨by omega, ?_⟩
    rw [if_neg fun hq => hv (by have := hq.1; have := hq.2.1; have := hq.2.2.1; have := hq.2.2.2.1; omega)]
open Classical in
theorem okVal {σ τ} : ∀ N w0, ConOk Try.prog N w0 σ τ cVal := by
  refine con_of_walk (tb := tb) (C := [cDivR]) fine (conCons okDivR noCon) 1000 ⟨[i64b, i64b], [], []⟩ rfl fun xs hp hl => ?_
  match xs, hp with
  | [n, d], hp =>
  obtain ⟨⟨h1, h2⟩, ⟨h3, h4⟩⟩ := hp
  refine ⟨in_bnd ⟨h1, h2, h3, h4, trivial⟩, ?_⟩
  rw [show runP tb [cDivR] 1000 cVal.f (argsOf cVal.args 0) ⟨[i64b, i64b], [], []⟩ = _ from tree_val]
  have key : ∀ A g : Int, A = n.natAbs → g = gcdI A d → g = gcdI n d := fun A g hA hg => by rw [hg, hA]; simp [gcdI]
  simp only [T.res, resOk, svV, pvV, pvsV, cellV, cellsV, E.den, B.den, B.prop, allB, inB, kb, if_true, and_true, List.map_cons, List.map_nil, List.getD_cons_zero, List.getD_cons_succ, List.cons_append, List.nil_append, List.append_nil, List.getElem?_cons_zero, cDivR, cVal, w_u64]
  refine ⟨fun hv => ⟨fun hn => ?_, fun hn => ?_⟩, fun hv => ?_⟩
  · refine ⟨by omega, fun g g0 g1 hg => ?_⟩
    have hg := key _ g (by omega) hg
    by_cases h : g = 1
    · rw [decide_eq_true h, if_pos ⟨by omega, by omega, by omega, by omega, by omega⟩]; exact ⟨by decide, rfl⟩
    · rw [decide_eq_false h, if_neg fun hq => h (by have := hq.2.2.2.2; omega)]; exact ⟨by decide, rfl⟩
  · refine ⟨by omega, fun g g0 g1 hg => ?_⟩
    have hg := key _ g (by omega) hg
    by_cases h : g = 1
    · rw [decide_eq_true h, if_pos ⟨by omega, by omega, by omega, by omega, by omega⟩]; exact ⟨by decide, rfl⟩
    · rw [decide_eq_false h, if_neg fun hq => h (by have := hq.2.2.2.2; omega)]; exact ⟨by decide, rfl⟩
  · rw [if_neg fun hq => hv (by have := hq.1; have := hq.2.1; have := hq.2.2.1; have := hq.2.2.2.1; omega)]
    exact ⟨by decide, rfl⟩
theorem rx_one {n d : Int} (h : gcdI n d = 1) : rx n d = n.natAbs ∧ ry n d = d.natAbs := by
  unfold gcdI at h
  unfold rx ry
  rw [show Nat.gcd n.natAbs d.natAbs = 1 by omega]
  simp
theorem rx_neg {n d a X Y : Int} (ha : a ≤ 0) (hg : (a.natAbs : Int) = gcdI n d) (hX : X = -(n.natAbs : Int)) (hY : Y = -(d.natAbs : Int)) : X.tdiv a = rx n d ∧ Y.tdiv a = ry n d := by
  obtain ⟨g, rfl⟩ : ∃ g : Nat, a = -(g : Int) := ⟨a.natAbs, by omega⟩
  have e : Nat.gcd n.natAbs d.natAbs = g := by unfold gcdI at hg; omega
  subst hX hY
  unfold rx ry
  rw [e, Int.neg_tdiv_neg, Int.neg_tdiv_neg, Int.tdiv_eq_ediv_of_nonneg (by omega), Int.tdiv_eq_ediv_of_nonneg (by omega)]
  simp
theorem rx_two {n d : Int} (h : 2 ≤ gcdI n d) : 2 * rx n d ≤ n.natAbs ∧ 2 * ry n d ≤ d.natAbs := by
  unfold gcdI at h
  unfold rx ry
  generalize Nat.gcd n.natAbs d.natAbs = g at *
  have h1 := Nat.div_mul_le_self n.natAbs g
  have h2 := Nat.div_mul_le_self d.natAbs g
  have h3 : n.natAbs / g * 2 ≤ n.natAbs / g * g := Nat.mul_le_mul_left _ (by omega)
  have h4 : d.natAbs / g * 2 ≤ d.natAbs / g * g := Nat.mul_le_mul_left _ (by omega)
  omega
theorem tdiv_m1 (x : Int) : x.tdiv (-1) = -x := by rw [Int.tdiv_neg]; simp
theorem gcd_neg (x y X Y : Int) (hx : X.natAbs = x.natAbs) (hy : Y.natAbs = y.natAbs) : gcdI X Y = gcdI x y := by unfold gcdI; rw [hx, hy]
theorem tmod_neg (x y : Int) (hx : x ≤ 0) (hy : y < 0) : x.tmod y ≤ 0 ∧ y < x.tmod y := by
  have h := tmod_lt (-x) (-y) (by omega) (by omega)
  rw [Int.neg_tmod, Int.tmod_neg] at h
  omega
set_option maxHeartbeats 4000000 in
theorem okMakeR {σ τ} : ∀ N w0, ConOk Try.prog N w0 σ τ cMakeR := by
  refine con_of_walk (tb := tb) (C := [lMakeR]) fine (lopCons rfl noCon) 1000 ⟨[i64b, i64b], [], []⟩ rfl fun xs hp hl => ?_
  match xs, hp with
  | [n, d], hp =>
  obtain ⟨⟨h1, h2⟩, ⟨h3, h4⟩⟩ := hp
  refine ⟨in_bnd ⟨h1, h2, h3, h4, trivial⟩, ?_⟩
  rw [show runP tb [lMakeR] 1000 cMakeR.f (argsOf cMakeR.args 0) ⟨[i64b, i64b], [], []⟩ = _ from tree_makeR]
  clear hl
  simp only [T.res, resOk, svV, pvV, pvsV, cellV, cellsV, E.den, B.prop, allB, inB, kb, if_true, and_true, List.map_cons, List.map_nil, List.getD_cons_zero, List.getD_cons_succ, List.cons_append, List.nil_append, List.append_nil, List.getElem?_cons_zero, cMakeR, cMake, lMakeR, List.take_succ_cons, List.take_zero, List.length_cons, List.length_nil, w_i64, tdiv_m1]
  refine ⟨fun hd => ?_, fun hd => ⟨fun hn => ⟨fun hd' => ?_, fun hd' => ?_⟩, fun hn => ⟨fun hd' => ?_, fun hd' => ?_⟩⟩⟩
  · subst hd
    obtain ⟨e1, e2, e3⟩ := mk_zero n
    rw [e1, e2, e3]
    omega
  all_goals refine ⟨⟨⟨by first | trivial | exact gcd_neg _ _ _ _ (by omega) (by omega), fun _ => by omega⟩, by omega⟩, fun a a0 a1 b b0 b1 hi => ⟨fun hb => ?_, fun hb => ⟨fun hb1 => ?_, fun hb1 => ?_⟩⟩⟩
  all_goals obtain ⟨hi, hne⟩ := hi
  all_goals have hpos := gcd_pos (a := n) hd
  all_goals have hry := ry_pos (n := n) hd
  all_goals first
    | (have h5 := tmod_neg a b a1 (by omega)
       exact ⟨⟨(gcd_step a b).trans hi, fun h => by omega⟩, by omega, by omega⟩)
    | (have g1 : gcdI n d = 1 := by rw [← hi, hb1]; simp [gcdI]
       obtain ⟨x1, y1⟩ := rx_one g1
       by_cases hbig : 1073741824 < rx n d ∨ 1073741824 < ry n d
       · obtain ⟨e1, e2, e3⟩ := mk_big hd hbig
         rw [e1, e2, e3]
         omega
       · obtain ⟨e1, e2, e3⟩ := mk_ok (n := n) (d := d) hd (by omega) (by omega)
         rw [e1, e2, e3]
         split <;> omega)
    | (have hb0 : b = 0 := by omega
       subst hb0
       have ga := gcd_zero a
       have hga : (a.natAbs : Int) = gcdI n d := by rw [← ga]; exact hi
       have hX := fun X Y => rx_neg (n := n) (d := d) (X := X) (Y := Y) a1 hga
       have hY := (hX _ _ rfl rfl).2
       have x1 : n ≤ 0 → n.tdiv a = rx n d := fun h => (hX n _ (by omega) rfl).1
       have x2 : 0 ≤ n → (0 - n).tdiv a = rx n d := fun h => (hX (0 - n) _ (by omega) rfl).1
       have y1 : d ≤ 0 → d.tdiv a = ry n d := fun h => (hX _ d rfl (by omega)).2
       have y2 : 0 ≤ d → (0 - d).tdiv a = ry n d := fun h => (hX _ (0 - d) rfl (by omega)).2
       clear hX hY
       have f1 : gcdI n d = 1 → rx n d = n.natAbs ∧ ry n d = d.natAbs := rx_one
       have f2 : 2 ≤ gcdI n d → 2 * rx n d ≤ n.natAbs ∧ 2 * ry n d ≤ d.natAbs := rx_two
       by_cases hbig : 1073741824 < rx n d ∨ 1073741824 < ry n d
       · obtain ⟨e1, e2, e3⟩ := mk_big hd hbig
         rw [e1, e2, e3]
         omega
       · obtain ⟨e1, e2, e3⟩ := mk_ok (n := n) (d := d) hd (by omega) (by omega)
         rw [e1, e2, e3]
         split <;> omega)
end Go.Proofs.Ytkcomadagclikaa
