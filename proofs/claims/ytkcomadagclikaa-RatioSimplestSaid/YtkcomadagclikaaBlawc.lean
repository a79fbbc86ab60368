/- DERIVED. RatioSimplest. -/
import Derived.Test.YtkcomadagclikaaBsim
import Derived.Test.YtkcomadagclikaaBtree8
import Derived.Test.YtkcomadagclikaaSane
namespace Go.Proofs.Ytkcomadagclikaa
open Go.Sx Go.RowKit
set_option linter.unusedVariables false
set_option linter.unusedSimpArgs false
theorem sgn_one {X Y : Int} : sgn X Y = -1 ↔ X < Y := by unfold sgn; split <;> (try split) <;> omega
open Classical in
theorem RatioSimplest_walk (K : Nat) (hK : (2147483648 : Int) ≤ K) (a b c d p q : Int) (w : World) (ha : I64 a) (hb : I64 b) (hc : I64 c) (hd : I64 d) (hp : I64 p) (hq : I64 q) :
    Calls Try.prog 8 #[.agg #[.int .i64 a, .int .i64 b], .agg #[.int .i64 c, .int .i64 d], .agg #[.int .i64 p, .int .i64 q]] w fun e w' => e = .returned (.bool true) ∧ Below w.heap.size w w' := by
  refine sx_law (tb := tb) (w := w) (σ := []) (τ := []) fine (C := [trueCon 10, cVal, cBtw 27 K, cCmp 23]) (conCons okSane (conCons okVal (conCons (okBtw K hK) (conCons okCmp noCon))) _ _) 1000 8 (argsOf [two, two, two] 0) ⟨[i64b, i64b, i64b, i64b, i64b, i64b], [], []⟩ [a, b, c, d, p, q]
    (in_bnd ⟨ha.1, ha.2, hb.1, hb.2, hc.1, hc.2, hd.1, hd.2, hp.1, hp.2, hq.1, hq.2, trivial⟩) ?_
  rw [tree_l8]
  simp only [T.law, E.den, B.prop, allB, inB, List.map_cons, List.map_nil, List.getD_cons_zero, List.getD_cons_succ, List.cons_append, List.nil_append, List.append_nil, List.getElem?_cons_zero, List.getElem?_cons_succ, trueCon, cVal, cCmp, cBtw, true_and, and_true]
  refine fun s _ _ _ => ⟨⟨ha, hb⟩, fun k1 _ _ t1 => ⟨fun n1 => ⟨⟨hc, hd⟩, fun k2 _ _ t2 => ⟨fun n2 => ⟨⟨hp, hq⟩, fun k3 _ _ t3 => ⟨fun n3 => by first | trivial | rfl, fun n3 => ?_⟩⟩, fun _ => by first | trivial | rfl⟩⟩, fun _ => by first | trivial | rfl⟩⟩
  have v1 : Val a b := by
    by_cases z : Val a b
    · exact z
    · rw [if_neg z] at t1; exact absurd t1 n1
  have v2 : Val c d := by
    by_cases z : Val c d
    · exact z
    · rw [if_neg z] at t2; exact absurd t2 n2
  have v3 : Val p q := by
    by_cases z : Val p q
    · exact z
    · rw [if_neg z] at t3; exact absurd (Or.inl t3) n3
  obtain ⟨y1, y2, y3, y4, _⟩ := id v1
  obtain ⟨z1, z2, z3, z4, _⟩ := id v2
  obtain ⟨x1, x2, x3, x4, _⟩ := id v3
  have q1 := mb y3 y4 (show -1073741824 ≤ d by omega) z2
  have q2 := mb z3 z4 (show -1073741824 ≤ b by omega) y2
  have w3 : IntKind.i64.wrap (a * d) = a * d := w_id (by omega) (by omega)
  have w4 : IntKind.i64.wrap (c * b) = c * b := w_id (by omega) (by omega)
  rw [w3, w4] at n3
  have hl : a * d < c * b := by omega
  refine ⟨⟨ha, hb, hc, hd⟩, fun N N0 N1 D D0 D1 e e0 e1 hB => ⟨⟨ha, hb, hp, hq⟩, fun x xa xb f f0 f1 hx => ⟨⟨hp, hq, hc, hd⟩, fun y ya yb g g0 g1 hy => ?_⟩⟩⟩
  have sim := btw_sim hK ⟨v1, v2⟩ hl hB
  obtain ⟨hx1, hx2⟩ := hx.1 ⟨v1, v3⟩
  obtain ⟨hy1, hy2⟩ := hy.1 ⟨v3, v2⟩
  have sx : x = -1 ↔ a * q < p * b := by rw [hx1]; exact sgn_one
  have sy : y = -1 ↔ p * d < c * q := by rw [hy1]; exact sgn_one
  refine ⟨fun h => absurd hx2 h, fun _ => ⟨fun h => absurd hy2 h, fun _ => ⟨fun h => ?_, fun _ => ⟨fun he => ?_, fun he => ?_⟩⟩⟩⟩
  · rcases sim with z | z
    · exact absurd z.1 h.2
    · exact absurd z.1 h.1
  · rcases sim with ⟨_, n0, d0, none⟩ | z
    · exact ⟨⟨n0, d0⟩, fun h => none p q v3 (sx.1 h.1) (sy.1 h.2)⟩
    · have := z.1; omega
  · rcases sim with z | ⟨_, vr, lo, up, mn⟩
    · exact absurd z.1 he
    · have iN : I64 N := ⟨by omega, by omega⟩
      have iD : I64 D := ⟨by omega, by omega⟩
      refine ⟨⟨ha, hb, iN, iD⟩, fun u u0 u1 i i0 i1 hu => ⟨⟨iN, iD, hc, hd⟩, fun v va vb j j0 j1 hv => ?_⟩⟩
      obtain ⟨hu1, hu2⟩ := hu.1 ⟨v1, vr⟩
      obtain ⟨hv1, hv2⟩ := hv.1 ⟨vr, v2⟩
      have su : u = -1 := by rw [hu1]; exact sgn_one.2 lo
      have sv : v = -1 := by rw [hv1]; exact sgn_one.2 up
      refine ⟨fun h => absurd hu2 h, fun _ => ⟨fun h => absurd hv2 h, fun _ => ⟨fun h => ?_, fun _ => ⟨fun _ => by first | trivial | rfl, fun h => ?_⟩⟩⟩⟩
      · rcases h with h | h
        · exact absurd su h
        · exact absurd sv h
      · have hxy : x = -1 ∧ y = -1 := Classical.byContradiction fun z => h (Or.inl z)
        have wp : IntKind.i64.wrap (0 - p) = 0 - p := w_id (by omega) (by omega)
        rw [wp]
        rcases mn p q v3 (sx.1 hxy.1) (sy.1 hxy.2) with z | z | z
        · exact absurd (Or.inr z) h
        · exact Or.inl z
        · exact Or.inr ⟨z.1.symm, by have := z.2; omega⟩
theorem RatioSimplest_any (v v' v'' : Value) (w : World) (hv : Pair v) (hv' : Pair v') (hv'' : Pair v'') : Calls Try.prog 8 #[v, v', v''] w fun e w' => e = .returned (.bool true) ∧ Below w.heap.size w w' := by
  obtain ⟨a, b, rfl, ha, hb⟩ := hv
  obtain ⟨c, d, rfl, hc, hd⟩ := hv'
  obtain ⟨p, q, rfl, hp, hq⟩ := hv''
  exact RatioSimplest_walk 2147483648 (by decide) a b c d p q w ha hb hc hd hp hq
end Go.Proofs.Ytkcomadagclikaa
