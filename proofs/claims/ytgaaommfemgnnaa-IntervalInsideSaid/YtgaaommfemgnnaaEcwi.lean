/- DERIVED. Roots, squares, the reference's Scale: contracts. -/
import Derived.Test.YtgaaommfemgnnaaElawq
import Derived.Test.YtgaaommfemgnnaaEtrv
namespace Go.Proofs.Ytgaaommfemgnnaa
open Go.Dx
set_option linter.unusedVariables false
set_option linter.unusedSimpArgs false
theorem res_chk {C : List Con} {post : List DV → Prop} {i o : Nat} {zs : List E} {r : List DV} {d : Con} (hd : C[i]? = some d) (h : d.pre (r.take o ++ zs.map (E.top r))) (k : d.mea (r.take o ++ zs.map (E.top r)) < d.mea (r.take (o + zs.length))) : T.res C post (.chk i o zs) r := by
  simp only [T.res, hd]; exact ⟨h, k⟩
theorem clip_in {z : Int} (h : In z) : clip z = z := by unfold clip; rw [if_neg (by omega), if_neg (by omega)]
theorem clip_big {z : Int} (h : 1099511627776 < z) : 1099511627776 < clip z := by unfold clip; split <;> (try split) <;> omega
theorem clip_low {z : Int} (h : z < -1099511627776) : clip z < -1099511627776 := by unfold clip; split <;> (try split) <;> omega
theorem clip_min {p q : Int} : clip (min p q) = min (clip p) (clip q) := by unfold clip; split <;> (try split) <;> (try split) <;> (try split) <;> (try split) <;> (try split) <;> omega
theorem clip_max {p q : Int} : clip (max p q) = max (clip p) (clip q) := by unfold clip; split <;> (try split) <;> (try split) <;> (try split) <;> (try split) <;> (try split) <;> omega
theorem sq_pos (x : Int) : 0 ≤ x * x := by
  rcases Int.lt_or_le x 0 with h | h
  · exact Int.le_of_lt (Int.mul_pos_of_neg_of_neg h h)
  · exact Int.mul_nonneg h h
theorem sq_le {x y : Int} (h : 0 ≤ x) (k : x ≤ y) : x * x ≤ y * y := Int.mul_le_mul k k h (Int.le_trans h k)
theorem sq_le' {x y : Int} (h : y ≤ 0) (k : x ≤ y) : y * y ≤ x * x := by
  have := sq_le (x := -y) (y := -x) (by omega) (by omega)
  rw [Int.neg_mul_neg, Int.neg_mul_neg] at this; exact this
theorem rt_le {x y : Int} (h0 : 0 ≤ y) (h : x * x < (y + 1) * (y + 1)) : x ≤ y := by
  rcases Int.lt_or_le y x with k | k
  · have := sq_le (x := y + 1) (y := x) (by omega) (by omega); omega
  · exact k
theorem rt_step {n r b : Int} (h1 : 0 ≤ r) (h2 : 0 < b) (hi : RtI n r b) (hn : n ≤ 1099511627776) :
    ((r + b) * (r + b) ≤ n → RtI n (r + b) (b.tdiv 2) ∧ r + b ≤ 1048576) ∧ (¬ (r + b) * (r + b) ≤ n → RtI n r (b.tdiv 2)) := by
  obtain ⟨i1, i2⟩ := hi
  rcases i2 with ⟨i2, _⟩ | ⟨j, hj, i3⟩
  · omega
  have hb : (b.tdiv 2 = 0 ∧ b = 1) ∨ ∃ i : Nat, b.tdiv 2 = 2 ^ i ∧ b = 2 * 2 ^ i := by
    cases j with
    | zero => left; subst hj; decide
    | succ i => right; refine ⟨i, ?_, ?_⟩
                · rw [Int.tdiv_eq_ediv_of_nonneg (by omega), hj, Int.pow_succ]; omega
                · rw [hj, Int.pow_succ]; omega
  refine ⟨fun h => ⟨⟨h, ?_⟩, ?_⟩, fun h => ⟨i1, ?_⟩⟩
  · rcases hb with ⟨e1, e2⟩ | ⟨i, e1, e2⟩
    · left; subst e2; refine ⟨e1, ?_⟩; rw [show r + 1 + 1 = r + 2 * 1 by omega]; exact i3
    · right; refine ⟨i, e1, ?_⟩; rw [e1, show r + b + 2 * 2 ^ i = r + 2 * b by omega]; exact i3
  · exact rt_le (by decide) (Int.lt_of_le_of_lt (Int.le_trans h hn) (by decide))
  · rcases hb with ⟨e1, e2⟩ | ⟨i, e1, e2⟩
    · left; subst e2; exact ⟨e1, by omega⟩
    · right; refine ⟨i, e1, ?_⟩; rw [e1, ← e2]; omega
theorem root_no {a b : Int} (h : ¬ V a b) : RootP a b 0 0 130 := ⟨fun a => absurd a h, fun a => absurd a h, fun _ => ⟨rfl, rfl, rfl⟩⟩
theorem root_neg {a b : Int} (h : V a b) (k : a < 0) : RootP a b 0 0 1 := ⟨fun _ n => absurd n (by omega), fun _ _ => ⟨rfl, rfl, rfl⟩, fun n => absurd h n⟩
theorem root_ok {a b x y : Int} (h : V a b) (k : 0 ≤ a) (hx : IsRt a x) (hy : IsUp b y) : RootP a b x y 0 := ⟨fun _ _ => ⟨hx, hy, rfl⟩, fun _ n => absurd n (by omega), fun n => absurd h n⟩
theorem up_same {n r : Int} (h : IsRt n r) (k : ¬ r * r < n) : IsUp n r := by
  refine ⟨h.1, by omega, ?_⟩
  by_cases h0 : r = 0
  · exact Or.inl h0
  · right
    have h1 := h.1
    have e : (r - 1) * (r - 1) = r * r - 2 * r + 1 := by grind
    have h2 := h.2.1
    rw [e]; omega
theorem up_next {n r : Int} (h : IsRt n r) (k : r * r < n) : IsUp n (r + 1) := ⟨by have := h.1; omega, Int.le_of_lt h.2.2, Or.inr (by rw [show r + 1 - 1 = r by omega]; exact k)⟩
theorem up_le {n y : Int} (h : IsUp n y) (k : n ≤ 1099511627776) : y ≤ 1048576 := by
  rcases h.2.2 with e | e
  · omega
  · have := rt_le (x := y - 1) (y := 1048575) (by decide) (Int.lt_of_lt_of_le e k); omega
theorem cRt_ok (M : Nat) (w0 : World) : ConOk Try.prog tb M w0 (cRt 44) := by
  refine con_of_walk (tb := tb) fine (C := [lRt]) (lopCons rfl noCon) 80 rfl ?_ M w0
  refine fun n n0 n1 _ => ?_
  rw [tree_rt]
  show T.res _ (fun y => IsRt n (gi y 0)) _ _
  refine res_lop rfl (show RtI n 0 1048576 from ⟨by omega, .inr ⟨20, by decide, by omega⟩⟩) (fun r r0 r1 b b0 b1 hi => ?_)
  have hi : RtI n r b := hi
  refine res_ite (fun hb => ?_) fun hb => ?_
  · have hb : 0 < b := hb
    obtain ⟨s1, s2⟩ := rt_step r0 hb hi n1
    have hd : 0 ≤ b.tdiv 2 ∧ b.tdiv 2 < b := by rw [Int.tdiv_eq_ediv_of_nonneg b0]; omega
    refine res_ite (fun h => ?_) fun h => ?_
    · have h : (r + b) * (r + b) ≤ n := h
      obtain ⟨s1, s3⟩ := s1 h
      refine res_ok (show 0 ≤ r + b ∧ r + b ≤ 1048576 by omega) ?_
      exact res_chk rfl (show RtI n (r + b) (b.tdiv 2) from s1) (show (b.tdiv 2).toNat < b.toNat by omega)
    · exact res_chk rfl (show RtI n r (b.tdiv 2) from s2 h) (show (b.tdiv 2).toNat < b.toNat by omega)
  · have hb : ¬ 0 < b := hb
    show IsRt n r
    obtain ⟨i1, i2⟩ := hi
    rcases i2 with ⟨_, i2⟩ | ⟨j, hj, _⟩
    · exact ⟨r0, i1, i2⟩
    · have : 0 < b := by rw [hj]; exact Int.pow_pos (by decide)
      omega
theorem cRoot_ok (M : Nat) (w0 : World) : ConOk Try.prog tb M w0 (cRoot 23) := by
  refine con_of_walk (tb := tb) fine (C := [cRt 44]) (conCons cRt_ok noCon) 80 rfl ?_ M w0
  refine fun a _ _ b _ _ _ => ?_
  rw [tree_root]
  show T.res _ (fun y => RootP a b (gi y 0) (gi y 1) (gi y 2)) _ _
  refine res_ite (fun h => ?_) fun h => ?_
  · have h : (a < -1099511627776 ∨ b < a) ∨ 1099511627776 < b := h
    exact root_no (by omega)
  have h : ¬ ((a < -1099511627776 ∨ b < a) ∨ 1099511627776 < b) := h
  refine res_ite (fun k => ?_) fun k => ?_
  · have k : a < 0 := k
    exact root_neg (by omega) k
  have k : ¬ a < 0 := k
  refine res_ok (show 0 ≤ a ∧ a ≤ 1099511627776 by omega) ?_
  refine res_con rfl trivial (fun x _ _ hx => ?_)
  have hx : IsRt a x := hx
  refine res_ok (show 0 ≤ b ∧ b ≤ 1099511627776 by omega) ?_
  refine res_con rfl trivial (fun y y0 y1 hy => ?_)
  have hy : IsRt b y := hy
  refine res_ite (fun l => ?_) fun l => ?_
  · have l : y * y < b := l
    have hu := up_next hy l
    have := up_le hu (by omega)
    exact res_ok (show 0 ≤ y + 1 ∧ y + 1 ≤ 1048576 by omega) (root_ok (by omega) (by omega) hx hu)
  · have l : ¬ y * y < b := l
    exact root_ok (by omega) (by omega) hx (up_same hy l)
set_option maxRecDepth 100000 in
theorem cProd_ok (M : Nat) (w0 : World) : ConOk Try.prog tb M w0 (cProd 42) := by
  refine con_of_walk (tb := tb) fine (C := [cMul64 56, cDiv64 58]) (conCons cMul64_ok (conCons cDiv64_ok noCon)) 80 rfl ?_ M w0
  refine fun n n0 n1 x x0 x1 _ => ?_
  rw [tree_prod]
  show T.res _ (fun y => gi y 0 = clip (n * x)) _ _
  obtain ⟨s1, s2, s3⟩ := sgn_mul (x := n) (y := x) rfl rfl
  refine res_con rfl trivial (fun hi h0 h1 lo l0 l1 hm => ?_)
  have hm : hi * 18446744073709551616 + lo = IntKind.u64.wrap (max n (0 - n)) * IntKind.u64.wrap (max x (0 - x)) := hm
  rw [wU, wU, show max n (0 - n) % 18446744073709551616 = max n (0 - n) by omega, show max x (0 - x) % 18446744073709551616 = max x (0 - x) by omega] at hm
  generalize max n (0 - n) * max x (0 - x) = m at *
  generalize n * x = z at *
  have far : 2199023255552 < m → (¬ (n < 0 ∧ x < 0 ∨ 0 ≤ n ∧ 0 ≤ x) → -2199023255552 = clip z) ∧ (n < 0 ∧ x < 0 ∨ 0 ≤ n ∧ 0 ≤ x → 2199023255552 = clip z) := fun hb =>
    ⟨fun k => by have := s3 k; unfold clip; rw [if_neg (by omega), if_pos (by omega)], fun k => by have := s2 k; unfold clip; rw [if_pos (by omega)]⟩
  refine res_ite (fun h => ?_) fun h => ?_
  · have h : 1 ≤ hi := h
    obtain ⟨f1, f2⟩ := far (by omega)
    exact res_ite (fun k => f1 k) fun k => f2 (Classical.not_not.1 (show ¬ ¬ _ from k))
  have h : ¬ 1 ≤ hi := h
  refine res_con rfl (show hi < 1 by omega) (fun q q0 _ r _ _ hq => ?_)
  have hq : q * 1 + r = hi * 18446744073709551616 + lo ∧ 0 ≤ r ∧ r < 1 := hq
  have eq : q = m := by omega
  refine res_ite (fun k1 => ?_) fun k1 => ?_
  · have k1 : 2199023255552 < q := k1
    obtain ⟨f1, f2⟩ := far (by omega)
    exact res_ite (fun k => f1 k) fun k => f2 (Classical.not_not.1 (show ¬ ¬ _ from k))
  have k1 : ¬ 2199023255552 < q := k1
  refine res_ite (fun k => ?_) fun k => ?_
  · have k : ¬ (n < 0 ∧ x < 0 ∨ 0 ≤ n ∧ 0 ≤ x) := k
    have := s3 k
    show 0 - q = clip z
    unfold clip; rw [if_neg (by omega), if_neg (by omega)]; omega
  · have k : n < 0 ∧ x < 0 ∨ 0 ≤ n ∧ 0 ≤ x := Classical.not_not.1 (show ¬ ¬ _ from k)
    have := s2 k
    show q = clip z
    unfold clip; rw [if_neg (by omega), if_neg (by omega)]; omega
set_option maxRecDepth 100000 in
theorem cSqr_ok (M : Nat) (w0 : World) : ConOk Try.prog tb M w0 (cSqr 21) := by
  refine con_of_walk (tb := tb) fine (C := [cProd 42]) (conCons cProd_ok noCon) 80 rfl ?_ M w0
  refine fun a _ _ b _ _ _ => ?_
  rw [tree_sqr]
  show T.res _ (fun y => OpP (V a b) (sqL a b) (max (a * a) (b * b)) (gi y 0) (gi y 1) (gi y 2)) _ _
  refine res_ite (fun h => ?_) fun h => ?_
  · have h : (a < -1099511627776 ∨ b < a) ∨ 1099511627776 < b := h
    exact op_no (by omega)
  have h : ¬ ((a < -1099511627776 ∨ b < a) ∨ 1099511627776 < b) := h
  have hA : V a b := by omega
  have pa := sq_pos a
  have pb := sq_pos b
  unfold sqL
  refine res_ok (show -1099511627776 ≤ a ∧ a ≤ 1099511627776 by omega) ?_
  refine res_ok (show -1099511627776 ≤ a ∧ a ≤ 1099511627776 by omega) ?_
  refine res_con rfl trivial (fun k1 _ _ e1 => ?_)
  have e1 : k1 = clip (a * a) := e1
  refine res_con rfl trivial (fun k2 _ _ e2 => ?_)
  have e2 : k2 = clip (b * b) := e2
  have hx : max k1 k2 = clip (max (a * a) (b * b)) := by rw [clip_max, e1, e2]
  have hy : min k1 k2 = clip (min (a * a) (b * b)) := by rw [clip_min, e1, e2]
  have l1 := clip_in (z := max (a * a) (b * b))
  have l2 := clip_big (z := max (a * a) (b * b))
  have l3 := clip_in (z := min (a * a) (b * b))
  have l4 := clip_big (z := min (a * a) (b * b))
  rw [← hx] at l1 l2
  rw [← hy] at l3 l4
  clear hx hy e1 e2
  generalize a * a = p at *
  generalize b * b = q at *
  refine res_ite (fun hc => ?_) fun hc => ?_
  · have hc : a ≤ 0 ∧ 0 ≤ b := cvh (by kernel_rfl) hc
    rw [if_pos hc]
    refine res_ite (fun k => ?_) fun k => ?_
    · replace k := cvh (b := max k1 k2 < 0 ∨ 1099511627776 < max k1 k2) (by kernel_rfl) k
      exact cvh (a := OpP (V a b) 0 (max p q) 0 0 2) (by kernel_rfl) (op_big hA (by omega))
    · replace k := cvh (b := ¬ (max k1 k2 < 0 ∨ 1099511627776 < max k1 k2)) (by kernel_rfl) k
      refine res_ok (cvh (a := -1099511627776 ≤ max k1 k2 ∧ max k1 k2 ≤ 1099511627776) (by kernel_rfl) (by omega)) ?_
      exact cvh (a := OpP (V a b) 0 (max p q) 0 (max k1 k2) 0) (by kernel_rfl) (op_ok hA (by omega) (by omega) (by omega))
  · have hc : ¬ (a ≤ 0 ∧ 0 ≤ b) := cvh (by kernel_rfl) hc
    rw [if_neg hc]
    refine res_ite (fun k => ?_) fun k => ?_
    · replace k := cvh (b := (min k1 k2 < -1099511627776 ∨ max k1 k2 < min k1 k2) ∨ 1099511627776 < max k1 k2) (by kernel_rfl) k
      exact cvh (a := OpP (V a b) (min p q) (max p q) 0 0 2) (by kernel_rfl) (op_big hA (by omega))
    · replace k := cvh (b := ¬ ((min k1 k2 < -1099511627776 ∨ max k1 k2 < min k1 k2) ∨ 1099511627776 < max k1 k2)) (by kernel_rfl) k
      refine res_ok (cvh (a := -1099511627776 ≤ min k1 k2 ∧ min k1 k2 ≤ 1099511627776) (by kernel_rfl) (by omega)) ?_
      refine res_ok (cvh (a := -1099511627776 ≤ max k1 k2 ∧ max k1 k2 ≤ 1099511627776) (by kernel_rfl) (by omega)) ?_
      exact cvh (a := OpP (V a b) (min p q) (max p q) (min k1 k2) (max k1 k2) 0) (by kernel_rfl) (op_ok hA (by omega) (by omega) (by omega))
end Go.Proofs.Ytgaaommfemgnnaa
