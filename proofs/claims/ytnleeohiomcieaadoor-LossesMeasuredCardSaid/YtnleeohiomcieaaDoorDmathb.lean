/- DERIVED. What evaporates and seeps, in numbers: arithmetic only. -/
import Derived.Test.YtnleeohiomcieaaDoorDconb
import Derived.Test.YtnleeohiomcieaaDoorDct
namespace Go.Proofs.YtnleeohiomcieaaDoor
open Go.Dx
set_option linter.unusedVariables false
theorem len_nn (d : DV) : 0 ≤ d.len := by unfold DV.len clampL; split <;> omega
theorem allP_succ {p : DV → Int → Prop} {d : DV} {x : Int} (h : AllP p d x) (hx : p d x) : AllP p d (x + 1) := fun k h0 h1 => by
  by_cases e : k < x
  · exact h k h0 e
  · rw [show k = x by omega]; exact hx
theorem toN_succ {x : Int} (h : 0 ≤ x) : (x + 1).toNat = x.toNat + 1 := by omega
/-- A coefficient from 0 to 1. -/
structure Cf (n d : Int) : Prop where
  n0 : 0 ≤ n
  nm : n ≤ 1000
  d1 : 1 ≤ d
  dm : d ≤ 1000
  nd : n ≤ d
theorem Head.cf {s : Svy} (h : Head s) : Cf s.n0 s.d0 ∧ Cf s.n1 s.d1 := by
  obtain ⟨_, ⟨⟨a1, a2, a3, a4, _⟩, ⟨b1, b2, b3, b4, _⟩, h4, h5, h6⟩, h7, h8⟩ := h
  have := shr_mid a1 b1 h4 h5 h6
  exact ⟨⟨h5, by omega, a1, h7, this.2⟩, ⟨this.1, by omega, b1, h8, h6⟩⟩
theorem prod_bd {n x su dl : Int} (hn : 0 ≤ n) (hn1 : n ≤ 1000) (hx : 0 ≤ x) (hx1 : x ≤ 1000) (hs : 0 ≤ su) (hs1 : su ≤ 1048576) (hd : 1 ≤ dl) (hd1 : dl ≤ 16) :
    (0 ≤ n * x ∧ n * x ≤ 1000000) ∧ (0 ≤ n * x * su ∧ n * x * su ≤ 1048576000000) ∧ (0 ≤ n * x * su * dl ∧ n * x * su * dl ≤ 16777216000000) := by
  have a0 := mul_nn hn hx
  have a1 := mul_le hn1 hx1 (by omega) hx
  have b0 := mul_nn a0 hs
  have b1 := mul_le (show n * x ≤ 1000000 by omega) hs1 (by omega) hs
  have c0 := mul_nn b0 (show 0 ≤ dl by omega)
  have c1 := mul_le (show n * x * su ≤ 1048576000000 by omega) hd1 (by omega) (by omega)
  exact ⟨⟨a0, by omega⟩, ⟨b0, by omega⟩, ⟨c0, by omega⟩⟩
theorem ev_w {n d x su dl : Int} (c : Cf n d) (hx : 0 ≤ x) (hx1 : x ≤ 1000) (hs : 0 ≤ su) (hs1 : su ≤ 1048576) (hd : 1 ≤ dl) (hd1 : dl ≤ 16) :
    IntKind.i64.wrap (n * x) = n * x ∧ IntKind.i64.wrap (n * x * su) = n * x * su ∧ IntKind.i64.wrap (n * x * su * dl) = n * x * su * dl ∧ IntKind.i64.wrap (240 * d) = 240 * d ∧
    IntKind.i64.wrap ((n * x * su * dl).tdiv (240 * d)) = (n * x * su * dl).tdiv (240 * d) ∧ IntKind.i64.wrap (n * x * su * dl + 240 * d) = n * x * su * dl + 240 * d ∧ IntKind.i64.wrap (n * x * su * dl + 240 * d - 1) = n * x * su * dl + 240 * d - 1 ∧
    IntKind.i64.wrap ((n * x * su * dl + 240 * d - 1).tdiv (240 * d)) = (n * x * su * dl + 240 * d - 1).tdiv (240 * d) ∧ 0 ≤ (n * x * su * dl).tdiv (240 * d) ∧ (n * x * su * dl + 240 * d - 1).tdiv (240 * d) ≤ 1073741824 ∧ ¬ 240 * d = 0 := by
  obtain ⟨c1, c2, c3, c4, c5⟩ := c
  obtain ⟨⟨a0, a1⟩, ⟨b0, b1⟩, ⟨e0, e1⟩⟩ := prod_bd c1 c2 hx hx1 hs hs1 hd hd1
  have t1 := mul_le c5 hx1 (by omega) hx
  have t2 := mul_le t1 hs1 (by omega) hs
  have t3 := mul_le t2 hd1 (by omega) (by omega)
  generalize n * x * su * dl = q at *
  have f0 : 0 ≤ q / (240 * d) := Int.ediv_nonneg e0 (by omega)
  have f1 : q / (240 * d) ≤ q := Int.ediv_le_self _ e0
  have g0 : 0 ≤ (q + 240 * d - 1) / (240 * d) := Int.ediv_nonneg (by omega) (by omega)
  have g1 : (q + 240 * d - 1) / (240 * d) ≤ 1073741824 := by
    refine Int.le_trans (Int.ediv_le_ediv (by omega) (show q + 240 * d - 1 ≤ 1073741824 * (240 * d) by omega)) ?_
    rw [Int.mul_ediv_cancel _ (by omega)]
    exact Int.le_refl _
  rw [td e0, td (show 0 ≤ q + 240 * d - 1 by omega)]
  exact ⟨wI (by omega) (by omega), wI (by omega) (by omega), wI (by omega) (by omega), wI (by omega) (by omega), wI (by omega) (by omega), wI (by omega) (by omega), wI (by omega) (by omega), wI (by omega) (by omega), f0, g1, by omega⟩
theorem so_bd (c : Int) : (0 ≤ soLo c ∧ soLo c ≤ 2048) ∧ (64 ≤ soHi c ∧ soHi c ≤ 16384) := by
  unfold soLo soHi
  constructor <;> (repeat' split) <;> omega
theorem sp_w {v h x dl : Int} (hv : 1 ≤ v) (hv1 : v ≤ 1073741824) (hh : 1 ≤ h) (hh1 : h ≤ 4096) (hx : 0 ≤ x) (hx1 : x ≤ v) (hd : 1 ≤ dl) (hd1 : dl ≤ 16) :
    IntKind.i64.wrap (v * h) = v * h ∧ IntKind.i64.wrap (1048576 * x) = 1048576 * x ∧ IntKind.i64.wrap (1048576 * x * dl) = 1048576 * x * dl ∧ IntKind.i64.wrap ((1048576 * x * dl).tdiv (v * h)) = (1048576 * x * dl).tdiv (v * h) ∧
    IntKind.i64.wrap (1048576 * x * dl + v * h) = 1048576 * x * dl + v * h ∧ IntKind.i64.wrap (1048576 * x * dl + v * h - 1) = 1048576 * x * dl + v * h - 1 ∧ IntKind.i64.wrap ((1048576 * x * dl + v * h - 1).tdiv (v * h)) = (1048576 * x * dl + v * h - 1).tdiv (v * h) ∧
    0 ≤ (1048576 * x * dl).tdiv (v * h) ∧ 0 ≤ (1048576 * x * dl + v * h - 1).tdiv (v * h) ∧ ¬ v * h = 0 := by
  have a1 := mul_le (a := 1) (b := v) (c := 1) (d := h) hv hh (by omega) (by omega)
  have a2 := mul_le (a := v) (b := 1073741824) (c := h) (d := 4096) hv1 hh1 (by omega) (by omega)
  have b0 := mul_nn (show 0 ≤ 1048576 * x by omega) (show 0 ≤ dl by omega)
  have b1 := mul_le (a := 1048576 * x) (b := 1125899906842624) (c := dl) (d := 16) (by omega) hd1 (by omega) (by omega)
  generalize 1048576 * x * dl = q at *
  generalize v * h = m at *
  have f0 : 0 ≤ q / m := Int.ediv_nonneg b0 (by omega)
  have f1 : q / m ≤ q := Int.ediv_le_self _ b0
  have g0 : 0 ≤ (q + m - 1) / m := Int.ediv_nonneg (by omega) (by omega)
  have g1 : (q + m - 1) / m ≤ q + m - 1 := Int.ediv_le_self _ (by omega)
  rw [td b0, td (show 0 ≤ q + m - 1 by omega)]
  exact ⟨wI (by omega) (by omega), wI (by omega) (by omega), wI (by omega) (by omega), wI (by omega) (by omega), wI (by omega) (by omega), wI (by omega) (by omega), wI (by omega) (by omega), f0, g0, by omega⟩
theorem evL_nn (s : Svy) (dl : Int) : ∀ k, 0 ≤ evL s dl k
  | 0 => by simp [evL]
  | k + 1 => by have := evL_nn s dl k; simp only [evL]; omega
theorem spL_nn (s : Svy) {dl : Int} (hd : 1 ≤ dl) : ∀ k, 0 ≤ spL s dl k
  | 0 => by simp only [spL]; exact mul_nn (so_bd s.so).1.1 (by omega)
  | k + 1 => by have := spL_nn s hd k; simp only [spL]; omega
theorem pHi_nn {s : Svy} {dl : Int} (hd : Dly dl) {k : Int} (hp : PondOk s.po k) : 0 ≤ pHi s dl k := by
  obtain ⟨⟨⟨h1, h2⟩, h3, h4⟩, ⟨h5, h6⟩, h7⟩ := hp
  exact (sp_w h1 h2 h3 h4 (show 0 ≤ s.po.at k 3 by omega) h7 hd.1 hd.2).2.2.2.2.2.2.2.2.1
theorem spH_nn {s : Svy} {dl : Int} (hd : Dly dl) : ∀ k : Nat, AllP PondOk s.po k → 0 ≤ spH s dl k
  | 0, _ => by simp only [spH]; exact mul_nn (by have := (so_bd s.so).2.1; omega) (by have := hd.1; omega)
  | k + 1, h => by
    have := spH_nn (s := s) hd k fun j h0 h1 => h j h0 (by omega)
    have := pHi_nn hd (h k (by omega) (by omega))
    simp only [spH]; omega
theorem err_long {s : Svy} {dl : Int} {z : List DV} {fine : Prop} (h : Long s) : ErrP s dl z fine (z ++ [.n 2]) := ⟨fun _ => rfl, fun k => absurd h k, fun k => absurd h k, fun k => absurd h k⟩
theorem err_bad {s : Svy} {dl : Int} {z : List DV} {fine : Prop} (h : ¬ Long s) (k : ¬ RightS s) : ErrP s dl z fine (z ++ [.n 210]) := ⟨fun q => absurd q h, fun _ _ => rfl, fun _ q => absurd q k, fun _ q => absurd q k⟩
theorem err_arg {s : Svy} {dl : Int} {z : List DV} {fine : Prop} (h : ¬ Long s) (k : RightS s) (l : ¬ Dly dl) : ErrP s dl z fine (z ++ [.n 1]) := ⟨fun q => absurd q h, fun _ q => absurd k q, fun _ _ _ => rfl, fun _ _ q => absurd q l⟩
theorem err_fine {s : Svy} {dl : Int} {z y : List DV} {fine : Prop} (h : ¬ Long s) (k : RightS s) (l : Dly dl) (f : fine) : ErrP s dl z fine y := ⟨fun q => absurd q h, fun _ q => absurd k q, fun _ _ q => absurd l q, fun _ _ _ => f⟩
theorem mk_fin {n a : Int} (hn : 0 ≤ n) (ha : a ≤ 0) (hg : (a.natAbs : Int) = gcdI n 1048576) (hp : 1 ≤ gcdI n 1048576) : (0 - n).tdiv a = mN n ∧ (0 - 1048576 : Int).tdiv a = mD n := by
  obtain ⟨g, rfl⟩ : ∃ g : Int, a = -g := ⟨-a, by omega⟩
  have e : gcdI n 1048576 = g := by omega
  unfold mN mD
  rw [e, Int.zero_sub, Int.neg_tdiv_neg, td hn]
  refine ⟨rfl, ?_⟩
  rw [show (0 - 1048576 : Int) = -1048576 from rfl, Int.neg_tdiv_neg, td (by omega)]
theorem gcd_neg (x y X Y : Int) (hx : X.natAbs = x.natAbs) (hy : Y.natAbs = y.natAbs) : gcdI X Y = gcdI x y := by unfold gcdI; rw [hx, hy]
theorem tmod_neg (x y : Int) (hx : x ≤ 0) (hy : y < 0) : x.tmod y ≤ 0 ∧ y < x.tmod y := by
  have h := tmod_lt (-x) (-y) (by omega) (by omega)
  rw [Int.neg_tmod, Int.tmod_neg] at h
  omega
end Go.Proofs.YtnleeohiomcieaaDoor
