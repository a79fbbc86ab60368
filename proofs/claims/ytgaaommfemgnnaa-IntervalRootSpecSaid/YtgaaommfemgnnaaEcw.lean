/- DERIVED. Roots, squares, the reference's Scale: contracts. -/
import Derived.Test.YtgaaommfemgnnaaElaw
import Derived.Test.YtgaaommfemgnnaaEtrw
namespace Go.Proofs.Ytgaaommfemgnnaa
open Go.Dx
set_option linter.unusedVariables false
set_option linter.unusedSimpArgs false
theorem res_chk {C : List Con} {post : List DV → Prop} {i o : Nat} {zs : List E} {r : List DV} {d : Con} (hd : C[i]? = some d) (h : d.pre (r.take o ++ zs.map (E.top r))) (k : d.mea (r.take o ++ zs.map (E.top r)) < d.mea (r.take (o + zs.length))) : T.res C post (.chk i o zs) r := by
  simp only [T.res, hd]; exact ⟨h, k⟩
theorem clip_in {z : Int} (h : In z) : clip z = z := by unfold clip; rw [if_neg (by omega), if_neg (by omega)]
theorem clip_big {z : Int} (h : 1099511627776 < z) : 1099511627776 < clip z := by unfold clip; split <;> (try split) <;> omega
theorem clip_low {z : Int} (h : z < -1099511627776) : clip z < -1099511627776 := by unfold clip; split <;> (try split) <;> omega
theorem clip_min {p q : Int} : clip (min p q) = min (clip p) (clip q) := by unfold clip; split <;> (try split) <;> (try split) <;> (try split) <;> (try split) <;> (try split) <;> omega
theorem clip_max {p q : Int} : clip (max p q) = max (clip p) (clip q) := by unfold clip; split <;> (try split) <;> (try split) <;> (try split) <;> (try split) <;> (try split) <;> omega
theorem sq_pos (x : Int) : 0 ≤ x * x := by
  rcases Int.lt_or_le x 0 with h | h
  · exact Int.le_of_lt (Int.mul_pos_of_neg_of_neg h h)
  · exact Int.mul_nonneg h h
theorem sq_le {x y : Int} (h : 0 ≤ x) (k : x ≤ y) : x * x ≤ y * y := Int.mul_le_mul k k h (Int.le_trans h k)
theorem sq_le' {x y : Int} (h : y ≤ 0) (k : x ≤ y) : y * y ≤ x * x := by
  have := sq_le (x := -y) (y := -x) (by omega) (by omega)
  rw [Int.neg_mul_neg, Int.neg_mul_neg] at this; exact this
theorem sq_sides {a b : Int} (h : a ≤ b) : min (min (min (a * a) (a * b)) (b * a)) (b * b) ≤ min (a * a) (b * b) ∧ max (max (max (a * a) (a * b)) (b * a)) (b * b) = max (a * a) (b * b) ∧ (¬ (a ≤ 0 ∧ 0 ≤ b) → min (min (min (a * a) (a * b)) (b * a)) (b * b) = min (a * a) (b * b)) ∧ (0 ≤ a → a * a ≤ b * b) ∧ (b ≤ 0 → b * b ≤ a * a) ∧ -max (a * a) (b * b) ≤ min (min (min (a * a) (a * b)) (b * a)) (b * b) := by
  have pa := sq_pos a
  have pb := sq_pos b
  have c := Int.mul_comm b a
  have e1 := sq_pos (a + b)
  have e2 := sq_pos (a - b)
  have f1 : (a + b) * (a + b) = a * a + 2 * (a * b) + b * b := by grind
  have f2 : (a - b) * (a - b) = a * a - 2 * (a * b) + b * b := by grind
  rw [f1] at e1
  rw [f2] at e2
  have g1 : 0 ≤ a → a * a ≤ a * b ∧ a * b ≤ b * b := fun k => ⟨Int.mul_le_mul_of_nonneg_left h k, Int.mul_le_mul_of_nonneg_right h (Int.le_trans k h)⟩
  have g2 : b ≤ 0 → b * b ≤ a * b ∧ a * b ≤ a * a := fun k => by
    have h1 := Int.mul_le_mul_of_nonneg_left (a := -b) (b := -a) (c := -b) (by omega) (by omega)
    have h2 := Int.mul_le_mul_of_nonneg_left (a := -b) (b := -a) (c := -a) (by omega) (by omega)
    rw [Int.neg_mul_neg, Int.neg_mul_neg] at h1 h2
    omega
  rw [c]
  generalize a * a = p at *
  generalize b * b = q at *
  generalize a * b = r at *
  refine ⟨by omega, by omega, fun k => ?_, fun k => by have := g1 k; omega, fun k => by have := g2 k; omega, by omega⟩
  rcases Int.lt_or_le 0 a with h1 | h1
  · have := g1 (by omega); omega
  · have := g2 (by omega); omega
theorem rt_le {x y : Int} (h0 : 0 ≤ y) (h : x * x < (y + 1) * (y + 1)) : x ≤ y := by
  rcases Int.lt_or_le y x with k | k
  · have := sq_le (x := y + 1) (y := x) (by omega) (by omega); omega
  · exact k
theorem rt_step {n r b : Int} (h1 : 0 ≤ r) (h2 : 0 < b) (hi : RtI n r b) (hn : n ≤ 1099511627776) :
    ((r + b) * (r + b) ≤ n → RtI n (r + b) (b.tdiv 2) ∧ r + b ≤ 1048576) ∧ (¬ (r + b) * (r + b) ≤ n → RtI n r (b.tdiv 2)) := by
  obtain ⟨i1, i2⟩ := hi
  rcases i2 with ⟨i2, _⟩ | ⟨j, hj, i3⟩
  · omega
  have hb : (b.tdiv 2 = 0 ∧ b = 1) ∨ ∃ i : Nat, b.tdiv 2 = 2 ^ i ∧ b = 2 * 2 ^ i := by
    cases j with
    | zero => left; subst hj; decide
    | succ i => right; refine ⟨i, ?_, ?_⟩
                · rw [Int.tdiv_eq_ediv_of_nonneg (by omega), hj, Int.pow_succ]; omega
                · rw [hj, Int.pow_succ]; omega
  refine ⟨fun h => ⟨⟨h, ?_⟩, ?_⟩, fun h => ⟨i1, ?_⟩⟩
  · rcases hb with ⟨e1, e2⟩ | ⟨i, e1, e2⟩
    · left; subst e2; refine ⟨e1, ?_⟩; rw [show r + 1 + 1 = r + 2 * 1 by omega]; exact i3
    · right; refine ⟨i, e1, ?_⟩; rw [e1, show r + b + 2 * 2 ^ i = r + 2 * b by omega]; exact i3
  · exact rt_le (by decide) (Int.lt_of_le_of_lt (Int.le_trans h hn) (by decide))
  · rcases hb with ⟨e1, e2⟩ | ⟨i, e1, e2⟩
    · left; subst e2; exact ⟨e1, by omega⟩
    · right; refine ⟨i, e1, ?_⟩; rw [e1, ← e2]; omega
theorem root_no {a b : Int} (h : ¬ V a b) : RootP a b 0 0 130 := ⟨fun a => absurd a h, fun a => absurd a h, fun _ => ⟨rfl, rfl, rfl⟩⟩
theorem root_neg {a b : Int} (h : V a b) (k : a < 0) : RootP a b 0 0 1 := ⟨fun _ n => absurd n (by omega), fun _ _ => ⟨rfl, rfl, rfl⟩, fun n => absurd h n⟩
theorem root_ok {a b x y : Int} (h : V a b) (k : 0 ≤ a) (hx : IsRt a x) (hy : IsUp b y) : RootP a b x y 0 := ⟨fun _ _ => ⟨hx, hy, rfl⟩, fun _ n => absurd n (by omega), fun n => absurd h n⟩
theorem up_same {n r : Int} (h : IsRt n r) (k : ¬ r * r < n) : IsUp n r := by
  refine ⟨h.1, by omega, ?_⟩
  by_cases h0 : r = 0
  · exact Or.inl h0
  · right
    have h1 := h.1
    have e : (r - 1) * (r - 1) = r * r - 2 * r + 1 := by grind
    have h2 := h.2.1
    rw [e]; omega
theorem up_next {n r : Int} (h : IsRt n r) (k : r * r < n) : IsUp n (r + 1) := ⟨by have := h.1; omega, Int.le_of_lt h.2.2, Or.inr (by rw [show r + 1 - 1 = r by omega]; exact k)⟩
theorem up_le {n y : Int} (h : IsUp n y) (k : n ≤ 1099511627776) : y ≤ 1048576 := by
  rcases h.2.2 with e | e
  · omega
  · have := rt_le (x := y - 1) (y := 1048575) (by decide) (Int.lt_of_lt_of_le e k); omega
theorem cDivR_ok (N : Nat) (w0 : World) : ConOk Try.prog tb N w0 (cDivR 63) := by
  refine con_of_walk (tb := tb) fine (C := [lDivR]) (lopCons rfl noCon) 80 rfl ?_ N w0
  refine fun a a0 a1 b b0 b1 hp => ?_
  rw [tree_divR]
  simp only [T.res, B.prop, E.den, E.dat, E.top, E.val, E.isD, DV.canon, DV.int, List.getElem?_cons_zero, List.getElem?_cons_succ, List.getD_cons_zero, List.getD_cons_succ, List.getD_nil, List.map_cons, List.map_nil, List.cons_append, List.nil_append, allB, List.take_succ_cons, List.take_zero, List.length_cons, List.length_nil, Nat.zero_add, Nat.reduceAdd, lDivR, cDivR]
  refine ⟨trivial, fun x x0 x1 y y0 y1 h1 => ⟨fun hy => ?_, fun hy => ?_⟩⟩
  · have h5 := tmod_lt x y x0 (by omega)
    exact ⟨(gcd_step x y).trans h1, by omega⟩
  · have hy : y = 0 := by omega
    subst hy
    have h6 := gcd_zero x
    omega
theorem vl_yes {p : Prop} (h : p) : ValP p [.n 1] := ⟨fun _ => rfl, fun k => absurd h k⟩
theorem vl_no {p : Prop} (h : ¬ p) : ValP p [.n 0] := ⟨fun k => absurd k h, fun _ => rfl⟩
theorem vl_in {p : Prop} {x : Int} (h : ValP p [.n x]) : (p ∧ x = 1) ∨ (¬ p ∧ x = 0) := by
  by_cases k : p
  · have := h.1 k; simp only [List.cons.injEq, DV.n.injEq, and_true] at this; exact .inl ⟨k, this⟩
  · have := h.2 k; simp only [List.cons.injEq, DV.n.injEq, and_true] at this; exact .inr ⟨k, this⟩
theorem cVal_ok (N : Nat) (w0 : World) : ConOk Try.prog tb N w0 (cVal 59) := by
  refine con_of_walk (tb := tb) fine (C := [cDivR 63]) (conCons cDivR_ok noCon) 80 rfl ?_ N w0
  refine fun n n0 n1 d d0 d1 _ => ?_
  rw [tree_val]
  simp only [T.res, B.prop, E.den, E.dat, E.top, E.val, E.isD, DV.canon, DV.int, List.getElem?_cons_zero, List.getElem?_cons_succ, List.getD_cons_zero, List.getD_cons_succ, List.getD_nil, List.map_cons, List.map_nil, List.cons_append, List.nil_append, allB, List.take_succ_cons, List.take_zero, List.length_cons, List.length_nil, Nat.zero_add, Nat.reduceAdd, resB, resL', RSh.l, RC.vd, List.flatMap_cons, List.flatMap_nil, List.append_nil, List.replicate, cDivR, cVal]
  have key : ∀ A g : Int, A = n.natAbs → g = gcdI A d → g = gcdI n d := fun A g hA hg => by rw [hg, hA]; simp [gcdI]
  refine ⟨fun h => ⟨fun hn => ⟨trivial, fun x x0 x1 hx => ?_⟩, fun hn => ⟨trivial, fun x x0 x1 hx => ?_⟩⟩, fun h => vl_no fun q => h ?_⟩
  · have hx := key _ x (by omega) hx
    exact ⟨fun h1 => vl_yes ⟨by omega, by omega, by omega, by omega, by omega⟩, fun h1 => vl_no fun q => h1 (by rw [hx]; exact q.2.2.2.2)⟩
  · have hx := key _ x (by omega) hx
    exact ⟨fun h1 => vl_yes ⟨by omega, by omega, by omega, by omega, by omega⟩, fun h1 => vl_no fun q => h1 (by rw [hx]; exact q.2.2.2.2)⟩
  · obtain ⟨q1, q2, q3, q4, _⟩ := q
    omega
theorem cRt_ok (M : Nat) (w0 : World) : ConOk Try.prog tb M w0 (cRt 44) := by
  refine con_of_walk (tb := tb) fine (C := [lRt]) (lopCons rfl noCon) 80 rfl ?_ M w0
  refine fun n n0 n1 _ => ?_
  rw [tree_rt]
  show T.res _ (fun y => IsRt n (gi y 0)) _ _
  refine res_lop rfl (show RtI n 0 1048576 from ⟨by omega, .inr ⟨20, by decide, by omega⟩⟩) (fun r r0 r1 b b0 b1 hi => ?_)
  have hi : RtI n r b := hi
  refine res_ite (fun hb => ?_) fun hb => ?_
  · have hb : 0 < b := hb
    obtain ⟨s1, s2⟩ := rt_step r0 hb hi n1
    have hd : 0 ≤ b.tdiv 2 ∧ b.tdiv 2 < b := by rw [Int.tdiv_eq_ediv_of_nonneg b0]; omega
    refine res_ite (fun h => ?_) fun h => ?_
    · have h : (r + b) * (r + b) ≤ n := h
      obtain ⟨s1, s3⟩ := s1 h
      refine res_ok (show 0 ≤ r + b ∧ r + b ≤ 1048576 by omega) ?_
      exact res_chk rfl (show RtI n (r + b) (b.tdiv 2) from s1) (show (b.tdiv 2).toNat < b.toNat by omega)
    · exact res_chk rfl (show RtI n r (b.tdiv 2) from s2 h) (show (b.tdiv 2).toNat < b.toNat by omega)
  · have hb : ¬ 0 < b := hb
    show IsRt n r
    obtain ⟨i1, i2⟩ := hi
    rcases i2 with ⟨_, i2⟩ | ⟨j, hj, _⟩
    · exact ⟨r0, i1, i2⟩
    · have : 0 < b := by rw [hj]; exact Int.pow_pos (by decide)
      omega
theorem cRtR_ok (M : Nat) (w0 : World) : ConOk Try.prog tb M w0 (cRt 45) := by
  refine con_of_walk (tb := tb) fine (C := [lRt]) (lopCons rfl noCon) 80 rfl ?_ M w0
  refine fun n n0 n1 _ => ?_
  rw [tree_rtR]
  show T.res _ (fun y => IsRt n (gi y 0)) _ _
  refine res_lop rfl (show RtI n 0 1048576 from ⟨by omega, .inr ⟨20, by decide, by omega⟩⟩) (fun r r0 r1 b b0 b1 hi => ?_)
  have hi : RtI n r b := hi
  refine res_ite (fun hb => ?_) fun hb => ?_
  · have hb : 0 < b := hb
    obtain ⟨s1, s2⟩ := rt_step r0 hb hi n1
    have hd : 0 ≤ b.tdiv 2 ∧ b.tdiv 2 < b := by rw [Int.tdiv_eq_ediv_of_nonneg b0]; omega
    refine res_ite (fun h => ?_) fun h => ?_
    · have h : (r + b) * (r + b) ≤ n := h
      obtain ⟨s1, s3⟩ := s1 h
      refine res_ok (show 0 ≤ r + b ∧ r + b ≤ 1048576 by omega) ?_
      exact res_chk rfl (show RtI n (r + b) (b.tdiv 2) from s1) (show (b.tdiv 2).toNat < b.toNat by omega)
    · exact res_chk rfl (show RtI n r (b.tdiv 2) from s2 h) (show (b.tdiv 2).toNat < b.toNat by omega)
  · have hb : ¬ 0 < b := hb
    show IsRt n r
    obtain ⟨i1, i2⟩ := hi
    rcases i2 with ⟨_, i2⟩ | ⟨j, hj, _⟩
    · exact ⟨r0, i1, i2⟩
    · have : 0 < b := by rw [hj]; exact Int.pow_pos (by decide)
      omega
theorem cRoot_ok (M : Nat) (w0 : World) : ConOk Try.prog tb M w0 (cRoot 23) := by
  refine con_of_walk (tb := tb) fine (C := [cRt 44]) (conCons cRt_ok noCon) 80 rfl ?_ M w0
  refine fun a _ _ b _ _ _ => ?_
  rw [tree_root]
  show T.res _ (fun y => RootP a b (gi y 0) (gi y 1) (gi y 2)) _ _
  refine res_ite (fun h => ?_) fun h => ?_
  · have h : (a < -1099511627776 ∨ b < a) ∨ 1099511627776 < b := h
    exact root_no (by omega)
  have h : ¬ ((a < -1099511627776 ∨ b < a) ∨ 1099511627776 < b) := h
  refine res_ite (fun k => ?_) fun k => ?_
  · have k : a < 0 := k
    exact root_neg (by omega) k
  have k : ¬ a < 0 := k
  refine res_ok (show 0 ≤ a ∧ a ≤ 1099511627776 by omega) ?_
  refine res_con rfl trivial (fun x _ _ hx => ?_)
  have hx : IsRt a x := hx
  refine res_ok (show 0 ≤ b ∧ b ≤ 1099511627776 by omega) ?_
  refine res_con rfl trivial (fun y y0 y1 hy => ?_)
  have hy : IsRt b y := hy
  refine res_ite (fun l => ?_) fun l => ?_
  · have l : y * y < b := l
    have hu := up_next hy l
    have := up_le hu (by omega)
    exact res_ok (show 0 ≤ y + 1 ∧ y + 1 ≤ 1048576 by omega) (root_ok (by omega) (by omega) hx hu)
  · have l : ¬ y * y < b := l
    exact root_ok (by omega) (by omega) hx (up_same hy l)
theorem cRootR_ok (M : Nat) (w0 : World) : ConOk Try.prog tb M w0 (cRoot 24) := by
  refine con_of_walk (tb := tb) fine (C := [cRt 45]) (conCons cRtR_ok noCon) 80 rfl ?_ M w0
  refine fun a _ _ b _ _ _ => ?_
  rw [tree_rootR]
  show T.res _ (fun y => RootP a b (gi y 0) (gi y 1) (gi y 2)) _ _
  refine res_ite (fun h => ?_) fun h => ?_
  · have h : ¬ ((-1099511627776 ≤ a ∧ a ≤ b) ∧ b ≤ 1099511627776) := h
    exact root_no (by omega)
  have h : ¬ ¬ ((-1099511627776 ≤ a ∧ a ≤ b) ∧ b ≤ 1099511627776) := h
  refine res_ite (fun k => ?_) fun k => ?_
  · have k : a < 0 := k
    exact root_neg (by omega) k
  have k : ¬ a < 0 := k
  refine res_ok (show 0 ≤ b ∧ b ≤ 1099511627776 by omega) ?_
  refine res_con rfl trivial (fun y y0 y1 hy => ?_)
  have hy : IsRt b y := hy
  refine res_ite (fun l => ?_) fun l => ?_
  · have l : y * y < b := l
    have hu := up_next hy l
    have := up_le hu (by omega)
    refine res_ok (show 0 ≤ a ∧ a ≤ 1099511627776 by omega) ?_
    refine res_con rfl trivial (fun x _ _ hx => ?_)
    have hx : IsRt a x := hx
    exact res_ok (show 0 ≤ y + 1 ∧ y + 1 ≤ 1048576 by omega) (root_ok (by omega) (by omega) hx hu)
  · have l : ¬ y * y < b := l
    refine res_ok (show 0 ≤ a ∧ a ≤ 1099511627776 by omega) ?_
    refine res_con rfl trivial (fun x _ _ hx => ?_)
    have hx : IsRt a x := hx
    exact root_ok (by omega) (by omega) hx (up_same hy l)
theorem scr_big {n z1 z2 D : Int} (hd : 1 ≤ D) (h : n < -1649267441664 * D ∨ 1649267441664 * D < n) (h1 : z1 ≤ n) (h2 : n ≤ z2) : ¬ V (flo z1 D) (cei z2 D) := by
  rcases h with h | h
  · have := flo_bd (z := n) (d := D) (k := -1649267441664) (by omega) h
    have := flo_mono (x := z1) (y := n) (d := D) (by omega) h1
    omega
  · have := flo_ge (z := n) (d := D) (k := 1649267441664) (by omega) (by omega)
    have := (flo_cei (x := n) (d := D) (by omega)).1
    have := cei_mono (x := n) (y := z2) (d := D) (by omega) h2
    omega
theorem fits_lem {x y X Y : Int} (hX : 1 ≤ X) (hx : X = max x (0 - x)) (hy : Y = max y (0 - y)) : (Y ≤ (1099511627776 : Int).tdiv X ↔ In (x * y)) := by
  rw [Int.tdiv_eq_ediv_of_nonneg (by omega), Int.le_ediv_iff_mul_le (by omega)]
  obtain ⟨s1, s2, s3⟩ := sgn_mul hx hy
  rw [Int.mul_comm Y X]
  generalize X * Y = m at *
  generalize x * y = z at *
  by_cases h : x < 0 ∧ y < 0 ∨ 0 ≤ x ∧ 0 ≤ y
  · have := s2 h; omega
  · have := s3 h; omega
set_option maxRecDepth 100000 in
theorem cFlr_ok (M : Nat) (w0 : World) : ConOk Try.prog tb M w0 (cFlr 60) := by
  refine con_of_walk (tb := tb) fine (C := []) noCon 80 rfl ?_ M w0
  refine fun x x0 x1 d d0 d1 _ => ?_
  rw [tree_flr]
  show T.res _ (fun y => gi y 0 = flo x d) _ _
  have near := tdiv_near (z := x) d0
  have fc := flo_cei (x := x) (d := d) (by omega)
  have fs := flo_spec (z := x) d0
  have lo := flo_ge (z := x) (d := d) (k := -2305843009213693952) (by omega) (by omega)
  have hi := flo_le (z := x) (d := d) (k := 2305843009213693952) d0 (by omega)
  rcases (show x.tdiv d = flo x d ∨ x.tdiv d = flo x d + 1 by omega) with q | q
  · refine res_ite (fun h => ?_) fun _ => q
    have h : x < IntKind.i64.wrap (x.tdiv d * d) := h
    rw [q, wI (by omega) (by omega)] at h
    exact absurd h (by omega)
  · have e : (flo x d + 1) * d = flo x d * d + d := by rw [Int.add_mul, Int.one_mul]
    refine res_ite (fun _ => ?_) fun h => ?_
    · refine res_ok (show -2305843009213693952 ≤ x.tdiv d - 1 ∧ x.tdiv d - 1 ≤ 2305843009213693952 by omega) (show x.tdiv d - 1 = flo x d by omega)
    · have h : ¬ x < IntKind.i64.wrap (x.tdiv d * d) := h
      rw [q, e, wI (by omega) (by omega)] at h
      exact absurd h (by omega)
theorem scr_eq {x N D q s : Int} (hd : 1 ≤ D) (h : x = q * D + s) : flo (N * x) D = q * N + flo (s * N) D ∧ cei (N * x) D = q * N - flo (0 - s * N) D := by
  have e1 : N * x = q * N * D + s * N := by rw [h]; grind
  have e2 : -(N * x) = -(q * N) * D + (0 - s * N) := by rw [h]; grind
  have f1 := flo_add (q := q * N) (N := N) (r := s * N) (d := D) (by omega)
  have f2 := flo_add (q := -(q * N)) (N := N) (r := 0 - s * N) (d := D) (by omega)
  refine ⟨by rw [e1]; exact f1, ?_⟩
  have : cei (N * x) D = -flo (-(N * x)) D := rfl
  rw [this, e2, f2]
  omega
set_option maxRecDepth 100000 in
set_option maxHeartbeats 1000000 in
theorem cScdR_ok (M : Nat) (w0 : World) : ConOk Try.prog tb M w0 (cScdR 51) := by
  refine con_of_walk (tb := tb) fine (C := [cFlr 60]) (conCons cFlr_ok noCon) 80 rfl ?_ M w0
  refine fun x x0 x1 N n0 n1 D d0 d1 _ => ?_
  rw [tree_scdR]
  show T.res _ (fun y => ScRP x N D (gi y 0) (gi y 1) (gi y 2)) _ _
  refine res_con rfl trivial (fun q _ _ hq => ?_)
  have hq : q = flo x D := hq
  have fs := flo_spec (z := x) d0
  rw [← hq] at fs
  have wq : IntKind.i64.wrap (q * D) = q * D := wI (by omega) (by omega)
  have ws : IntKind.i64.wrap (x - q * D) = x - q * D := wI (by omega) (by omega)
  obtain ⟨s, hs⟩ : ∃ s, x - q * D = s := ⟨_, rfl⟩
  have s0 : 0 ≤ s ∧ s < D := by omega
  obtain ⟨e1, e2⟩ := scr_eq (x := x) (N := N) (D := D) (q := q) (s := s) d0 (by omega)
  have b1 : s * N ≤ s * 1073741824 := Int.mul_le_mul_of_nonneg_left n1 s0.1
  have b2 : s * (-1073741824) ≤ s * N := Int.mul_le_mul_of_nonneg_left n0 s0.1
  have ss : s * N ≤ 1073741824 * D ∧ -1073741824 * D ≤ s * N := by omega
  have fl1 := flo_le (z := s * N) (d := D) (k := 1073741824) d0 ss.1
  have fl2 := flo_ge (z := s * N) (d := D) (k := -1073741824) (by omega) ss.2
  have fl3 := flo_le (z := 0 - s * N) (d := D) (k := 1073741824) d0 (by omega)
  have fl4 := flo_ge (z := 0 - s * N) (d := D) (k := -1073741824) (by omega) (by omega)
  have wn : IntKind.i64.wrap (s * N) = s * N := wI (by omega) (by omega)
  have wm : IntKind.i64.wrap (0 - s * N) = 0 - s * N := wI (by omega) (by omega)
  have sn : IntKind.i64.wrap (IntKind.i64.wrap (x - IntKind.i64.wrap (q * D)) * N) = s * N := by rw [wq, ws, hs, wn]
  refine res_ite (fun h => ?_) fun h => ?_
  · have h : ¬ N = 0 := h
    obtain ⟨t1, t2, t3⟩ := sgn_mul (x := q) (y := N) rfl rfl
    refine res_ite (fun k => absurd (show max N (0 - N) = 0 from k) (by omega)) fun _ => ?_
    have hA : 1 ≤ max N (0 - N) := by omega
    have lt := Int.lt_ediv_add_one_mul_self 2199023255552 (show 0 < max N (0 - N) by omega)
    have le := Int.ediv_mul_le 2199023255552 (show max N (0 - N) ≠ 0 by omega)
    refine res_ite (fun k => ?_) fun k => ?_
    · have k : (2199023255552 : Int).tdiv (max N (0 - N)) < max q (0 - q) := k
      rw [td (by decide)] at k
      have big : 2199023255552 < max q (0 - q) * max N (0 - N) := by
        have := Int.mul_le_mul_of_nonneg_right (show 2199023255552 / max N (0 - N) + 1 ≤ max q (0 - q) by omega) (show 0 ≤ max N (0 - N) by omega)
        omega
      have e0 : N * x = q * N * D + s * N := by rw [show x = q * D + s by omega]; grind
      refine cvh (a := ScRP x N D 0 0 0) (by kernel_rfl) ⟨fun z => absurd z (by decide), fun _ => ?_⟩
      generalize max q (0 - q) * max N (0 - N) = m at *
      by_cases c : q < 0 ∧ N < 0 ∨ 0 ≤ q ∧ 0 ≤ N
      · have e := t2 c
        right
        have := Int.mul_le_mul_of_nonneg_right (show 2199023255553 ≤ q * N by omega) (show 0 ≤ D by omega)
        omega
      · have e := t3 c
        left
        have := Int.mul_le_mul_of_nonneg_right (show q * N ≤ -2199023255553 by omega) (show 0 ≤ D by omega)
        omega
    · have k : ¬ (2199023255552 : Int).tdiv (max N (0 - N)) < max q (0 - q) := k
      rw [td (by decide)] at k
      have small : max q (0 - q) * max N (0 - N) ≤ 2199023255552 := by
        have := Int.mul_le_mul_of_nonneg_right (show max q (0 - q) ≤ 2199023255552 / max N (0 - N) by omega) (show 0 ≤ max N (0 - N) by omega)
        omega
      have qn : -2199023255552 ≤ q * N ∧ q * N ≤ 2199023255552 := by
        generalize max q (0 - q) * max N (0 - N) = m at *
        by_cases c : q < 0 ∧ N < 0 ∨ 0 ≤ q ∧ 0 ≤ N
        · have e := t2 c; omega
        · have e := t3 c; omega
      have wqn : IntKind.i64.wrap (q * N) = q * N := wI (by omega) (by omega)
      refine res_ok (cvh (a := -2305843009213693952 ≤ IntKind.i64.wrap (IntKind.i64.wrap (x - IntKind.i64.wrap (q * D)) * N) ∧ IntKind.i64.wrap (IntKind.i64.wrap (x - IntKind.i64.wrap (q * D)) * N) ≤ 2305843009213693952) (by kernel_rfl) (by rw [sn]; omega)) ?_
      refine res_con rfl trivial (fun f _ _ hf => ?_)
      replace hf := cvh (b := f = flo (IntKind.i64.wrap (IntKind.i64.wrap (x - IntKind.i64.wrap (q * D)) * N)) D) (by kernel_rfl) hf
      rw [sn] at hf
      refine res_ok (cvh (a := -2305843009213693952 ≤ IntKind.i64.wrap (0 - IntKind.i64.wrap (IntKind.i64.wrap (x - IntKind.i64.wrap (q * D)) * N)) ∧ IntKind.i64.wrap (0 - IntKind.i64.wrap (IntKind.i64.wrap (x - IntKind.i64.wrap (q * D)) * N)) ≤ 2305843009213693952) (by kernel_rfl) (by rw [sn, wm]; omega)) ?_
      refine res_con rfl trivial (fun g _ _ hg => ?_)
      replace hg := cvh (b := g = flo (IntKind.i64.wrap (0 - IntKind.i64.wrap (IntKind.i64.wrap (x - IntKind.i64.wrap (q * D)) * N))) D) (by kernel_rfl) hg
      rw [sn, wm] at hg
      have w1 : IntKind.i64.wrap (IntKind.i64.wrap (q * N) + f) = q * N + f := by rw [wqn]; exact wI (by omega) (by omega)
      have w2 : IntKind.i64.wrap (IntKind.i64.wrap (q * N) - g) = q * N - g := by rw [wqn]; exact wI (by omega) (by omega)
      refine res_ok (cvh (a := -3298534883328 ≤ IntKind.i64.wrap (IntKind.i64.wrap (q * N) + f) ∧ IntKind.i64.wrap (IntKind.i64.wrap (q * N) + f) ≤ 3298534883328) (by kernel_rfl) (by rw [w1]; omega)) ?_
      refine res_ok (cvh (a := -3298534883328 ≤ IntKind.i64.wrap (IntKind.i64.wrap (q * N) - g) ∧ IntKind.i64.wrap (IntKind.i64.wrap (q * N) - g) ≤ 3298534883328) (by kernel_rfl) (by rw [w2]; omega)) ?_
      refine cvh (a := ScRP x N D (IntKind.i64.wrap (IntKind.i64.wrap (q * N) + f)) (IntKind.i64.wrap (IntKind.i64.wrap (q * N) - g)) 1) (by kernel_rfl) ?_
      rw [w1, w2]
      exact ⟨fun _ => ⟨by rw [e1, hf], by rw [e2, hg]⟩, fun z => absurd z (by decide)⟩
  · have h : N = 0 := Classical.not_not.1 (show ¬ ¬ N = 0 from h)
    have qz : q * N = 0 := by rw [h, Int.mul_zero]
    have sm : IntKind.i64.wrap (x - IntKind.i64.wrap (q * D)) * N = s * N := by rw [wq, ws, hs]
    refine res_con rfl trivial (fun f _ _ hf => ?_)
    replace hf := cvh (b := f = flo (IntKind.i64.wrap (x - IntKind.i64.wrap (q * D)) * N) D) (by kernel_rfl) hf
    rw [sm] at hf
    refine res_con rfl trivial (fun g _ _ hg => ?_)
    replace hg := cvh (b := g = flo (0 - IntKind.i64.wrap (x - IntKind.i64.wrap (q * D)) * N) D) (by kernel_rfl) hg
    rw [sm] at hg
    refine res_ok (cvh (a := -3298534883328 ≤ q * N + f ∧ q * N + f ≤ 3298534883328) (by kernel_rfl) (by omega)) ?_
    refine res_ok (cvh (a := -3298534883328 ≤ q * N - g ∧ q * N - g ≤ 3298534883328) (by kernel_rfl) (by omega)) ?_
    refine cvh (a := ScRP x N D (q * N + f) (q * N - g) 1) (by kernel_rfl) ?_
    exact ⟨fun _ => ⟨by rw [e1, hf], by rw [e2, hg]⟩, fun z => absurd z (by decide)⟩
set_option maxRecDepth 100000 in
theorem cSclR_ok (M : Nat) (w0 : World) : ConOk Try.prog tb M w0 (cScl 26) := by
  refine con_of_walk (tb := tb) fine (C := [cVal 59, cScdR 51]) (conCons cVal_ok (conCons cScdR_ok noCon)) 80 rfl ?_ M w0
  refine fun a _ _ b _ _ N _ _ D _ _ _ => ?_
  rw [tree_sclR]
  show T.res _ (fun y => SclP a b N D (gi y 0) (gi y 1) (gi y 2)) _ _
  refine res_ite (fun h => ?_) fun h => ?_
  · have h : ¬ ((-1099511627776 ≤ a ∧ a ≤ b) ∧ b ≤ 1099511627776) := h
    exact ⟨fun _ => ⟨rfl, rfl, rfl⟩, fun k => by omega, fun k => by omega⟩
  have h : ¬ ¬ ((-1099511627776 ≤ a ∧ a ≤ b) ∧ b ≤ 1099511627776) := h
  have hv : V a b := by omega
  clear h
  refine res_con rfl trivial (fun e _ _ he => ?_)
  rcases vl_in (show ValP (VRat N D) [.n e] from he) with ⟨vr, rfl⟩ | ⟨vr, rfl⟩
  rotate_left
  · exact res_ite (fun _ => ⟨fun k => absurd hv k, fun _ _ => ⟨rfl, rfl, rfl⟩, fun _ k => absurd k vr⟩) fun k => absurd rfl (show ¬ (0 : Int) = 0 from k)
  refine res_ite (fun k => absurd (show (1 : Int) = 0 from k) (by decide)) fun _ => ?_
  have d1 : 1 ≤ D := vr.1
  have d2 : D ≤ 1073741824 := vr.2.1
  have n1 : -1073741824 ≤ N := vr.2.2.1
  have n2 : N ≤ 1073741824 := vr.2.2.2.1
  refine res_ok (show -1099511627776 ≤ a ∧ a ≤ 1099511627776 by omega) ?_
  refine res_ok (show -1073741824 ≤ N ∧ N ≤ 1073741824 by omega) ?_
  refine res_ok (show 1 ≤ D ∧ D ≤ 1073741824 by omega) ?_
  refine res_con rfl trivial (fun p _ _ q _ _ k k0 k1 hp => ?_)
  have hp : ScRP a N D p q k := hp
  refine res_ok (show -1073741824 ≤ N ∧ N ≤ 1073741824 by omega) ?_
  refine res_ok (show 1 ≤ D ∧ D ≤ 1073741824 by omega) ?_
  refine res_con rfl trivial (fun s _ _ t _ _ l l0 l1 hs => ?_)
  have hs : ScRP b N D s t l := hs
  have big : ¬ V (flo (min (N * a) (N * b)) D) (cei (max (N * a) (N * b)) D) → SclP a b N D 0 0 2 := fun h => ⟨fun k => absurd hv k, fun _ k => absurd vr k, fun _ _ => op_big trivial h⟩
  refine res_ite (fun z => ?_) fun z => ?_
  · have z := cvh (b := k = 0 ∨ l = 0) (by kernel_rfl) z
    refine cvh (a := SclP a b N D 0 0 2) (by kernel_rfl) (big ?_)
    rcases z with z | z
    · exact scr_big d1 (hp.2 z) (by omega) (by omega)
    · exact scr_big d1 (hs.2 z) (by omega) (by omega)
  have z := cvh (b := ¬ (k = 0 ∨ l = 0)) (by kernel_rfl) z
  have ep := hp.1 (by omega)
  have es := hs.1 (by omega)
  have e1 : min p s = flo (min (N * a) (N * b)) D := by rw [flo_min (by omega), ep.1, es.1]
  have e2 : max q t = cei (max (N * a) (N * b)) D := by rw [cei_max (by omega), ep.2, es.2]
  refine res_ite (fun y => ?_) fun y => ?_
  · have y := cvh (b := ¬ ((-1099511627776 ≤ min p s ∧ min p s ≤ max q t) ∧ max q t ≤ 1099511627776)) (by kernel_rfl) y
    refine cvh (a := SclP a b N D 0 0 2) (by kernel_rfl) (big ?_)
    rw [← e1, ← e2]; omega
  have y := cvh (b := ¬ ¬ ((-1099511627776 ≤ min p s ∧ min p s ≤ max q t) ∧ max q t ≤ 1099511627776)) (by kernel_rfl) y
  refine res_ok (cvh (a := -1099511627776 ≤ min p s ∧ min p s ≤ 1099511627776) (by kernel_rfl) (by omega)) ?_
  refine res_ok (cvh (a := -1099511627776 ≤ max q t ∧ max q t ≤ 1099511627776) (by kernel_rfl) (by omega)) ?_
  refine cvh (a := SclP a b N D (min p s) (max q t) 0) (by kernel_rfl) ?_
  exact ⟨fun k => absurd hv k, fun _ k => absurd vr k, fun _ _ => op_ok trivial (by rw [← e1, ← e2]; omega) e1 e2⟩
set_option maxRecDepth 100000 in
theorem cProd_ok (M : Nat) (w0 : World) : ConOk Try.prog tb M w0 (cProd 42) := by
  refine con_of_walk (tb := tb) fine (C := [cMul64 56, cDiv64 58]) (conCons cMul64_ok (conCons cDiv64_ok noCon)) 80 rfl ?_ M w0
  refine fun n n0 n1 x x0 x1 _ => ?_
  rw [tree_prod]
  show T.res _ (fun y => gi y 0 = clip (n * x)) _ _
  obtain ⟨s1, s2, s3⟩ := sgn_mul (x := n) (y := x) rfl rfl
  refine res_con rfl trivial (fun hi h0 h1 lo l0 l1 hm => ?_)
  have hm : hi * 18446744073709551616 + lo = IntKind.u64.wrap (max n (0 - n)) * IntKind.u64.wrap (max x (0 - x)) := hm
  rw [wU, wU, show max n (0 - n) % 18446744073709551616 = max n (0 - n) by omega, show max x (0 - x) % 18446744073709551616 = max x (0 - x) by omega] at hm
  generalize max n (0 - n) * max x (0 - x) = m at *
  generalize n * x = z at *
  have far : 2199023255552 < m → (¬ (n < 0 ∧ x < 0 ∨ 0 ≤ n ∧ 0 ≤ x) → -2199023255552 = clip z) ∧ (n < 0 ∧ x < 0 ∨ 0 ≤ n ∧ 0 ≤ x → 2199023255552 = clip z) := fun hb =>
    ⟨fun k => by have := s3 k; unfold clip; rw [if_neg (by omega), if_pos (by omega)], fun k => by have := s2 k; unfold clip; rw [if_pos (by omega)]⟩
  refine res_ite (fun h => ?_) fun h => ?_
  · have h : 1 ≤ hi := h
    obtain ⟨f1, f2⟩ := far (by omega)
    exact res_ite (fun k => f1 k) fun k => f2 (Classical.not_not.1 (show ¬ ¬ _ from k))
  have h : ¬ 1 ≤ hi := h
  refine res_con rfl (show hi < 1 by omega) (fun q q0 _ r _ _ hq => ?_)
  have hq : q * 1 + r = hi * 18446744073709551616 + lo ∧ 0 ≤ r ∧ r < 1 := hq
  have eq : q = m := by omega
  refine res_ite (fun k1 => ?_) fun k1 => ?_
  · have k1 : 2199023255552 < q := k1
    obtain ⟨f1, f2⟩ := far (by omega)
    exact res_ite (fun k => f1 k) fun k => f2 (Classical.not_not.1 (show ¬ ¬ _ from k))
  have k1 : ¬ 2199023255552 < q := k1
  refine res_ite (fun k => ?_) fun k => ?_
  · have k : ¬ (n < 0 ∧ x < 0 ∨ 0 ≤ n ∧ 0 ≤ x) := k
    have := s3 k
    show 0 - q = clip z
    unfold clip; rw [if_neg (by omega), if_neg (by omega)]; omega
  · have k : n < 0 ∧ x < 0 ∨ 0 ≤ n ∧ 0 ≤ x := Classical.not_not.1 (show ¬ ¬ _ from k)
    have := s2 k
    show q = clip z
    unfold clip; rw [if_neg (by omega), if_neg (by omega)]; omega
set_option maxRecDepth 100000 in
theorem cSqr_ok (M : Nat) (w0 : World) : ConOk Try.prog tb M w0 (cSqr 21) := by
  refine con_of_walk (tb := tb) fine (C := [cProd 42]) (conCons cProd_ok noCon) 80 rfl ?_ M w0
  refine fun a _ _ b _ _ _ => ?_
  rw [tree_sqr]
  show T.res _ (fun y => OpP (V a b) (sqL a b) (max (a * a) (b * b)) (gi y 0) (gi y 1) (gi y 2)) _ _
  refine res_ite (fun h => ?_) fun h => ?_
  · have h : (a < -1099511627776 ∨ b < a) ∨ 1099511627776 < b := h
    exact op_no (by omega)
  have h : ¬ ((a < -1099511627776 ∨ b < a) ∨ 1099511627776 < b) := h
  have hA : V a b := by omega
  have pa := sq_pos a
  have pb := sq_pos b
  unfold sqL
  refine res_ok (show -1099511627776 ≤ a ∧ a ≤ 1099511627776 by omega) ?_
  refine res_ok (show -1099511627776 ≤ a ∧ a ≤ 1099511627776 by omega) ?_
  refine res_con rfl trivial (fun k1 _ _ e1 => ?_)
  have e1 : k1 = clip (a * a) := e1
  refine res_con rfl trivial (fun k2 _ _ e2 => ?_)
  have e2 : k2 = clip (b * b) := e2
  have hx : max k1 k2 = clip (max (a * a) (b * b)) := by rw [clip_max, e1, e2]
  have hy : min k1 k2 = clip (min (a * a) (b * b)) := by rw [clip_min, e1, e2]
  have l1 := clip_in (z := max (a * a) (b * b))
  have l2 := clip_big (z := max (a * a) (b * b))
  have l3 := clip_in (z := min (a * a) (b * b))
  have l4 := clip_big (z := min (a * a) (b * b))
  rw [← hx] at l1 l2
  rw [← hy] at l3 l4
  clear hx hy e1 e2
  generalize a * a = p at *
  generalize b * b = q at *
  refine res_ite (fun hc => ?_) fun hc => ?_
  · have hc : a ≤ 0 ∧ 0 ≤ b := cvh (by kernel_rfl) hc
    rw [if_pos hc]
    refine res_ite (fun k => ?_) fun k => ?_
    · replace k := cvh (b := max k1 k2 < 0 ∨ 1099511627776 < max k1 k2) (by kernel_rfl) k
      exact cvh (a := OpP (V a b) 0 (max p q) 0 0 2) (by kernel_rfl) (op_big hA (by omega))
    · replace k := cvh (b := ¬ (max k1 k2 < 0 ∨ 1099511627776 < max k1 k2)) (by kernel_rfl) k
      refine res_ok (cvh (a := -1099511627776 ≤ max k1 k2 ∧ max k1 k2 ≤ 1099511627776) (by kernel_rfl) (by omega)) ?_
      exact cvh (a := OpP (V a b) 0 (max p q) 0 (max k1 k2) 0) (by kernel_rfl) (op_ok hA (by omega) (by omega) (by omega))
  · have hc : ¬ (a ≤ 0 ∧ 0 ≤ b) := cvh (by kernel_rfl) hc
    rw [if_neg hc]
    refine res_ite (fun k => ?_) fun k => ?_
    · replace k := cvh (b := (min k1 k2 < -1099511627776 ∨ max k1 k2 < min k1 k2) ∨ 1099511627776 < max k1 k2) (by kernel_rfl) k
      exact cvh (a := OpP (V a b) (min p q) (max p q) 0 0 2) (by kernel_rfl) (op_big hA (by omega))
    · replace k := cvh (b := ¬ ((min k1 k2 < -1099511627776 ∨ max k1 k2 < min k1 k2) ∨ 1099511627776 < max k1 k2)) (by kernel_rfl) k
      refine res_ok (cvh (a := -1099511627776 ≤ min k1 k2 ∧ min k1 k2 ≤ 1099511627776) (by kernel_rfl) (by omega)) ?_
      refine res_ok (cvh (a := -1099511627776 ≤ max k1 k2 ∧ max k1 k2 ≤ 1099511627776) (by kernel_rfl) (by omega)) ?_
      exact cvh (a := OpP (V a b) (min p q) (max p q) (min k1 k2) (max k1 k2) 0) (by kernel_rfl) (op_ok hA (by omega) (by omega) (by omega))
set_option maxRecDepth 100000 in
theorem cFits_ok (M : Nat) (w0 : World) : ConOk Try.prog tb M w0 (cFits 34) := by
  refine con_of_walk (tb := tb) fine (C := []) noCon 80 rfl ?_ M w0
  refine fun x x0 x1 y y0 y1 _ => ?_
  rw [tree_fits]
  show T.res _ (fun r => gi r 0 = 1 ↔ In (x * y)) _ _
  refine res_ite (fun h => ?_) fun h => ?_
  · have h : ¬ x = 0 := h
    refine res_ite (fun k => absurd (show max x (0 - x) = 0 from k) (by omega)) fun _ => ?_
    have fl := fits_lem (x := x) (y := y) (X := max x (0 - x)) (Y := max y (0 - y)) (by omega) rfl rfl
    refine res_ite (fun k => ?_) fun k => ?_
    · exact ⟨fun _ => fl.1 k, fun _ => rfl⟩
    · exact ⟨fun z => absurd (show (0 : Int) = 1 from z) (by decide), fun z => absurd (fl.2 z) k⟩
  · have h : x = 0 := Classical.not_not.1 (show ¬ ¬ x = 0 from h)
    subst h
    exact ⟨fun _ => by rw [Int.zero_mul]; exact ⟨by decide, by decide⟩, fun _ => rfl⟩
set_option maxRecDepth 100000 in
set_option maxHeartbeats 1000000 in
theorem cMulR_ok (M : Nat) (w0 : World) : ConOk Try.prog tb M w0 (cMul 18) := by
  refine con_of_walk (tb := tb) fine (C := [cFits 34]) (conCons cFits_ok noCon) 80 rfl ?_ M w0
  refine fun a _ _ b _ _ c _ _ d _ _ _ => ?_
  rw [tree_mulR]
  show T.res _ (fun y => OpP (V a b ∧ V c d) (min4 (a * c) (a * d) (b * c) (b * d)) (max4 (a * c) (a * d) (b * c) (b * d)) (gi y 0) (gi y 1) (gi y 2)) _ _
  refine res_ite (fun h => ?_) fun h => ?_
  · have h : ¬ ((-1099511627776 ≤ a ∧ a ≤ b) ∧ b ≤ 1099511627776) ∨ ¬ ((-1099511627776 ≤ c ∧ c ≤ d) ∧ d ≤ 1099511627776) := h
    exact op_no (by omega)
  have h : ¬ (¬ ((-1099511627776 ≤ a ∧ a ≤ b) ∧ b ≤ 1099511627776) ∨ ¬ ((-1099511627776 ≤ c ∧ c ≤ d) ∧ d ≤ 1099511627776)) := h
  have hA : V a b ∧ V c d := by omega
  refine res_ok (show -1099511627776 ≤ a ∧ a ≤ 1099511627776 by omega) ?_
  refine res_ok (show -1099511627776 ≤ c ∧ c ≤ 1099511627776 by omega) ?_
  refine res_con rfl trivial (fun k1 _ _ h1 => ?_)
  have h1 : k1 = 1 ↔ In (a * c) := h1
  have fail : ∀ z, (z = a * c ∨ z = a * d ∨ z = b * c ∨ z = b * d) → ¬ In z → OpP (V a b ∧ V c d) (min4 (a * c) (a * d) (b * c) (b * d)) (max4 (a * c) (a * d) (b * c) (b * d)) 0 0 2 := fun z hz hn => op_big hA fun v => hn (by
    have v : V (min (min (min (a * c) (a * d)) (b * c)) (b * d)) (max (max (max (a * c) (a * d)) (b * c)) (b * d)) := v
    generalize a * c = p1 at *
    generalize a * d = p2 at *
    generalize b * c = p3 at *
    generalize b * d = p4 at *
    omega)
  refine res_ite (fun g1 => ?_) fun g1 => ?_
  rotate_left
  · have g1 := cvh (b := ¬ ¬ k1 = 0) (by kernel_rfl) g1
    exact cvh (a := OpP (V a b ∧ V c d) (min4 (a * c) (a * d) (b * c) (b * d)) (max4 (a * c) (a * d) (b * c) (b * d)) 0 0 2) (by kernel_rfl) (fail _ (.inl rfl) fun q => by have := h1.2 q; omega)
  have g1 := cvh (b := ¬ k1 = 0) (by kernel_rfl) g1
  refine res_ok (cvh (a := -1099511627776 ≤ a ∧ a ≤ 1099511627776) (by kernel_rfl) (by omega)) ?_
  refine res_con rfl trivial (fun k2 _ _ h2 => ?_)
  replace h2 := cvh (b := k2 = 1 ↔ In (a * d)) (by kernel_rfl) h2
  refine res_ite (fun g2 => ?_) fun g2 => ?_
  rotate_left
  · have g2 := cvh (b := ¬ ¬ k2 = 0) (by kernel_rfl) g2
    exact cvh (a := OpP (V a b ∧ V c d) (min4 (a * c) (a * d) (b * c) (b * d)) (max4 (a * c) (a * d) (b * c) (b * d)) 0 0 2) (by kernel_rfl) (fail _ (.inr (.inl rfl)) fun q => by have := h2.2 q; omega)
  have g2 := cvh (b := ¬ k2 = 0) (by kernel_rfl) g2
  refine res_ok (cvh (a := -1099511627776 ≤ c ∧ c ≤ 1099511627776) (by kernel_rfl) (by omega)) ?_
  refine res_con rfl trivial (fun k3 _ _ h3 => ?_)
  replace h3 := cvh (b := k3 = 1 ↔ In (b * c)) (by kernel_rfl) h3
  refine res_ite (fun g3 => ?_) fun g3 => ?_
  rotate_left
  · have g3 := cvh (b := ¬ ¬ k3 = 0) (by kernel_rfl) g3
    exact cvh (a := OpP (V a b ∧ V c d) (min4 (a * c) (a * d) (b * c) (b * d)) (max4 (a * c) (a * d) (b * c) (b * d)) 0 0 2) (by kernel_rfl) (fail _ (.inr (.inr (.inl rfl))) fun q => by have := h3.2 q; omega)
  have g3 := cvh (b := ¬ k3 = 0) (by kernel_rfl) g3
  refine res_con rfl trivial (fun k4 _ _ h4 => ?_)
  replace h4 := cvh (b := k4 = 1 ↔ In (b * d)) (by kernel_rfl) h4
  refine res_ite (fun g4 => ?_) fun g4 => ?_
  · have g4 := cvh (b := k4 = 0) (by kernel_rfl) g4
    exact cvh (a := OpP (V a b ∧ V c d) (min4 (a * c) (a * d) (b * c) (b * d)) (max4 (a * c) (a * d) (b * c) (b * d)) 0 0 2) (by kernel_rfl) (fail _ (.inr (.inr (.inr rfl))) fun q => by have := h4.2 q; omega)
  have g4 := cvh (b := ¬ k4 = 0) (by kernel_rfl) g4
  have i1 := h1.1 (by omega)
  have i2 := h2.1 (by omega)
  have i3 := h3.1 (by omega)
  have i4 := h4.1 (by omega)
  have w1 : IntKind.i64.wrap (a * c) = a * c := wI (by omega) (by omega)
  have w2 : IntKind.i64.wrap (a * d) = a * d := wI (by omega) (by omega)
  have w3 : IntKind.i64.wrap (b * c) = b * c := wI (by omega) (by omega)
  have w4 : IntKind.i64.wrap (b * d) = b * d := wI (by omega) (by omega)
  have em : min4 (IntKind.i64.wrap (a * c)) (IntKind.i64.wrap (a * d)) (IntKind.i64.wrap (b * c)) (IntKind.i64.wrap (b * d)) = min4 (a * c) (a * d) (b * c) (b * d) := by rw [w1, w2, w3, w4]
  have ex : max4 (IntKind.i64.wrap (a * c)) (IntKind.i64.wrap (a * d)) (IntKind.i64.wrap (b * c)) (IntKind.i64.wrap (b * d)) = max4 (a * c) (a * d) (b * c) (b * d) := by rw [w1, w2, w3, w4]
  have rg : (-1099511627776 ≤ min4 (a * c) (a * d) (b * c) (b * d) ∧ min4 (a * c) (a * d) (b * c) (b * d) ≤ 1099511627776) ∧ (-1099511627776 ≤ max4 (a * c) (a * d) (b * c) (b * d) ∧ max4 (a * c) (a * d) (b * c) (b * d) ≤ 1099511627776) ∧ V (min4 (a * c) (a * d) (b * c) (b * d)) (max4 (a * c) (a * d) (b * c) (b * d)) := by
    clear fail h1 h2 h3 h4 em ex w1 w2 w3 w4
    show (-1099511627776 ≤ min (min (min (a * c) (a * d)) (b * c)) (b * d) ∧ min (min (min (a * c) (a * d)) (b * c)) (b * d) ≤ 1099511627776) ∧ (-1099511627776 ≤ max (max (max (a * c) (a * d)) (b * c)) (b * d) ∧ max (max (max (a * c) (a * d)) (b * c)) (b * d) ≤ 1099511627776) ∧ V (min (min (min (a * c) (a * d)) (b * c)) (b * d)) (max (max (max (a * c) (a * d)) (b * c)) (b * d))
    generalize a * c = p1 at *
    generalize a * d = p2 at *
    generalize b * c = p3 at *
    generalize b * d = p4 at *
    omega
  refine res_ok (cvh (a := -1099511627776 ≤ min4 (IntKind.i64.wrap (a * c)) (IntKind.i64.wrap (a * d)) (IntKind.i64.wrap (b * c)) (IntKind.i64.wrap (b * d)) ∧ min4 (IntKind.i64.wrap (a * c)) (IntKind.i64.wrap (a * d)) (IntKind.i64.wrap (b * c)) (IntKind.i64.wrap (b * d)) ≤ 1099511627776) (by kernel_rfl) (by rw [em]; exact rg.1)) ?_
  refine res_ok (cvh (a := -1099511627776 ≤ max4 (IntKind.i64.wrap (a * c)) (IntKind.i64.wrap (a * d)) (IntKind.i64.wrap (b * c)) (IntKind.i64.wrap (b * d)) ∧ max4 (IntKind.i64.wrap (a * c)) (IntKind.i64.wrap (a * d)) (IntKind.i64.wrap (b * c)) (IntKind.i64.wrap (b * d)) ≤ 1099511627776) (by kernel_rfl) (by rw [ex]; exact rg.2.1)) ?_
  refine cvh (a := OpP (V a b ∧ V c d) (min4 (a * c) (a * d) (b * c) (b * d)) (max4 (a * c) (a * d) (b * c) (b * d)) (min4 (IntKind.i64.wrap (a * c)) (IntKind.i64.wrap (a * d)) (IntKind.i64.wrap (b * c)) (IntKind.i64.wrap (b * d))) (max4 (IntKind.i64.wrap (a * c)) (IntKind.i64.wrap (a * d)) (IntKind.i64.wrap (b * c)) (IntKind.i64.wrap (b * d))) 0) (by kernel_rfl) ?_
  exact op_ok hA rg.2.2 em ex
set_option maxRecDepth 100000 in
theorem cSqrR_ok (M : Nat) (w0 : World) : ConOk Try.prog tb M w0 (cSqr 22) := by
  refine con_of_walk (tb := tb) fine (C := [cMul 18]) (conCons cMulR_ok noCon) 80 rfl ?_ M w0
  refine fun a _ _ b _ _ _ => ?_
  rw [tree_sqrR]
  show T.res _ (fun y => OpP (V a b) (sqL a b) (max (a * a) (b * b)) (gi y 0) (gi y 1) (gi y 2)) _ _
  refine res_con rfl trivial (fun x _ _ y _ _ e _ _ he => ?_)
  have hu := op_un (show OpP (V a b ∧ V a b) (min4 (a * a) (a * b) (b * a) (b * b)) (max4 (a * a) (a * b) (b * a) (b * b)) x y e from he)
  clear he
  unfold sqL
  have pa := sq_pos a
  have pb := sq_pos b
  refine res_ite (fun he0 => ?_) fun he0 => ?_
  · have he0 : ¬ e = 0 := he0
    rcases hu with ⟨_, _, _, _, h⟩ | ⟨hA, hv, rfl, rfl, rfl⟩ | ⟨hA, rfl, rfl, rfl⟩
    · exact absurd h he0
    · have hs := sq_sides (a := a) (b := b) (by omega)
      refine cvh (a := OpP (V a b) (if a ≤ 0 ∧ 0 ≤ b then 0 else min (a * a) (b * b)) (max (a * a) (b * b)) 0 0 2) (by kernel_rfl) ?_
      have hv : ¬ V (min (min (min (a * a) (a * b)) (b * a)) (b * b)) (max (max (max (a * a) (a * b)) (b * a)) (b * b)) := hv
      generalize min (min (min (a * a) (a * b)) (b * a)) (b * b) = l at *
      generalize max (max (max (a * a) (a * b)) (b * a)) (b * b) = m at *
      refine op_big hA.1 ?_
      by_cases hc : a ≤ 0 ∧ 0 ≤ b
      · rw [if_pos hc]; omega
      · rw [if_neg hc]; have := hs.2.2.1 hc; omega
    · exact cvh (a := OpP (V a b) (if a ≤ 0 ∧ 0 ≤ b then 0 else min (a * a) (b * b)) (max (a * a) (b * b)) 0 0 130) (by kernel_rfl) (op_no (by omega))
  have he0 : e = 0 := Classical.not_not.1 (show ¬ ¬ e = 0 from he0)
  obtain ⟨hA, hv, hx, hy, _⟩ : (V a b ∧ V a b) ∧ V (min (min (min (a * a) (a * b)) (b * a)) (b * b)) (max (max (max (a * a) (a * b)) (b * a)) (b * b)) ∧ x = min (min (min (a * a) (a * b)) (b * a)) (b * b) ∧ y = max (max (max (a * a) (a * b)) (b * a)) (b * b) ∧ e = 0 := by
    rcases hu with h | ⟨_, _, _, _, h⟩ | ⟨_, _, _, h⟩
    · exact h
    · omega
    · omega
  have hs := sq_sides (a := a) (b := b) (by omega)
  generalize min (min (min (a * a) (a * b)) (b * a)) (b * b) = l at *
  generalize max (max (max (a * a) (a * b)) (b * a)) (b * b) = m at *
  have wp : IntKind.i64.wrap (a * a) = a * a := wI (by omega) (by omega)
  have wq : IntKind.i64.wrap (b * b) = b * b := wI (by omega) (by omega)
  refine res_ite (fun ha => ?_) fun ha => ?_
  · have ha := cvh (b := 0 < a) (by kernel_rfl) ha
    rw [if_neg (by omega)]
    refine res_ite (fun hb => ?_) fun hb => ?_
    · have hb := cvh (b := b < 0) (by kernel_rfl) hb
      exact absurd ha (by omega)
    · refine res_ok (cvh (a := -1099511627776 ≤ IntKind.i64.wrap (a * a) ∧ IntKind.i64.wrap (a * a) ≤ 1099511627776) (by kernel_rfl) (by rw [wp]; omega)) ?_
      refine cvh (a := OpP (V a b) (min (a * a) (b * b)) (max (a * a) (b * b)) (IntKind.i64.wrap (a * a)) y 0) (by kernel_rfl) ?_
      rw [wp]
      exact op_ok hA.1 (by omega) (by omega) (by omega)
  · have ha := cvh (b := ¬ 0 < a) (by kernel_rfl) ha
    refine res_ite (fun hb => ?_) fun hb => ?_
    · have hb := cvh (b := b < 0) (by kernel_rfl) hb
      rw [if_neg (by omega)]
      refine res_ok (cvh (a := -1099511627776 ≤ IntKind.i64.wrap (b * b) ∧ IntKind.i64.wrap (b * b) ≤ 1099511627776) (by kernel_rfl) (by rw [wq]; omega)) ?_
      refine cvh (a := OpP (V a b) (min (a * a) (b * b)) (max (a * a) (b * b)) (IntKind.i64.wrap (b * b)) y 0) (by kernel_rfl) ?_
      rw [wq]
      exact op_ok hA.1 (by omega) (by omega) (by omega)
    · have hb := cvh (b := ¬ b < 0) (by kernel_rfl) hb
      rw [if_pos (by omega)]
      exact cvh (a := OpP (V a b) 0 (max (a * a) (b * b)) 0 y 0) (by kernel_rfl) (op_ok hA.1 (by omega) rfl (by omega))
end Go.Proofs.Ytgaaommfemgnnaa
