/- DERIVED. The laws of ratios that compare the program with the reference. -/
import Derived.Test.YtkcomadagclikaaTreeD
import Derived.Test.YtkcomadagclikaaCtC
import Derived.Test.YtkcomadagclikaaSane
namespace Go.Proofs.Ytkcomadagclikaa
open Go.Sx Go.RowKit
set_option linter.unusedVariables false
set_option linter.unusedSimpArgs false
theorem Op2.eq {V : Prop} {n d N D e N' D' e' : Int} (h : Op2 V n d N D e) (h' : Op2 V n d N' D' e') : N = N' ∧ D = D' ∧ e = e' := by
  by_cases hv : V
  · obtain ⟨a, b, c⟩ := h.1 hv; obtain ⟨a', b', c'⟩ := h'.1 hv; omega
  · obtain ⟨a, b, c⟩ := h.2 hv; obtain ⟨a', b', c'⟩ := h'.2 hv; omega
open Classical in
theorem RatioSpec_walk (a b n d : Int) (w : World) (ha : I64 a) (hb : I64 b) (hn : I64 n) (hd : I64 d) : Calls Try.prog 3 #[.agg #[.int .i64 a, .int .i64 b], .int .i64 n, .int .i64 d] w fun e w' => e = .returned (.bool true) ∧ Below w.heap.size w w' := by
  refine sx_law (tb := tb) (w := w) (σ := []) (τ := []) fine (C := [trueCon 10, cChk, cVal, cMake, cMakeR]) (conCons okSane (conCons okChk (conCons okVal (conCons okMake (conCons okMakeR noCon)))) _ _) 1000 3 (argsOf [two, .int .i64, .int .i64] 0) ⟨[i64b, i64b, i64b, i64b], [], []⟩ [a, b, n, d]
    (in_bnd ⟨ha.1, ha.2, hb.1, hb.2, hn.1, hn.2, hd.1, hd.2, trivial⟩) ?_
  rw [tree_l3]
  simp only [T.law, E.den, B.prop, allB, inB, List.map_cons, List.map_nil, List.getD_cons_zero, List.getD_cons_succ, List.cons_append, List.nil_append, List.append_nil, List.getElem?_cons_zero, List.getElem?_cons_succ, trueCon, cChk, cVal, cMake, cMakeR, true_and, and_true]
  refine fun s _ _ _ => ⟨⟨hn, hd⟩, fun x _ _ y _ _ e _ _ h1 => ⟨⟨hn, hd⟩, fun x' _ _ y' _ _ e' _ _ h2 => ⟨⟨ha, hb⟩, fun k _ _ h3 => ⟨⟨ha, hb⟩, fun k' _ _ h4 => ?_⟩⟩⟩⟩
  by_cases hv : Val a b
  · rw [if_pos hv] at h3 h4
    omega
  · rw [if_neg hv] at h3 h4
    omega
theorem RatioSumSpec_walk (a b c d : Int) (w : World) (ha : I64 a) (hb : I64 b) (hn : I64 c) (hd : I64 d) : Calls Try.prog 4 #[.agg #[.int .i64 a, .int .i64 b], .agg #[.int .i64 c, .int .i64 d]] w fun e w' => e = .returned (.bool true) ∧ Below w.heap.size w w' := by
  refine sx_law (tb := tb) (w := w) (σ := []) (τ := []) fine (C := [trueCon 10, cAdd 15, cAdd 16, cSub 17, cSub 18, cMul 19, cMul 20, cQuo 21, cQuo 22, cCmp 23, cCmp 24])
    (conCons okSane (conCons okAdd (conCons okAddR (conCons okSub (conCons okSubR (conCons okMul (conCons okMulR (conCons okQuo (conCons okQuoR (conCons okCmp (conCons okCmpR noCon)))))))))) _ _) 1000 4 (argsOf [two, two] 0) ⟨[i64b, i64b, i64b, i64b], [], []⟩ [a, b, c, d]
    (in_bnd ⟨ha.1, ha.2, hb.1, hb.2, hn.1, hn.2, hd.1, hd.2, trivial⟩) ?_
  rw [tree_l4]
  simp only [T.law, E.den, B.prop, allB, inB, List.map_cons, List.map_nil, List.getD_cons_zero, List.getD_cons_succ, List.cons_append, List.nil_append, List.append_nil, List.getElem?_cons_zero, List.getElem?_cons_succ, trueCon, cAdd, cSub, cMul, cQuo, cOp, cCmp, true_and, and_true]
  have hI : I4 a b c d := ⟨ha, hb, hn, hd⟩
  refine fun s _ _ _ => ⟨hI, fun x _ _ y _ _ e _ _ h1 => ⟨hI, fun x' _ _ y' _ _ e' _ _ h1' => ?_⟩⟩
  have q1 := h1.eq h1'
  refine ⟨fun h => by omega, fun _ => ⟨hI, fun x2 _ _ y2 _ _ e2 _ _ h2 => ⟨hI, fun x2' _ _ y2' _ _ e2' _ _ h2' => ?_⟩⟩⟩
  have q2 := h2.eq h2'
  refine ⟨fun h => by omega, fun _ => ⟨hI, fun x3 _ _ y3 _ _ e3 _ _ h3 => ⟨hI, fun x3' _ _ y3' _ _ e3' _ _ h3' => ?_⟩⟩⟩
  have q3 := h3.eq h3'
  refine ⟨fun h => by omega, fun _ => ⟨hI, fun x4 _ _ y4 _ _ e4 _ _ h4 => ⟨hI, fun x4' _ _ y4' _ _ e4' _ _ h4' => ⟨hI, fun x5 _ _ e5 _ _ h5 => ⟨hI, fun x5' _ _ e5' _ _ h5' => ?_⟩⟩⟩⟩⟩
  have q4 := h4.eq h4'
  by_cases hv : V2 a b c d
  · have := h5.1 hv; have := h5'.1 hv; omega
  · have := h5.2 hv; have := h5'.2 hv; omega
theorem RatioSpec_any (v : Value) (n d : Int) (w : World) (hv : Pair v) (wn : (Lit.int .i64 n).wf = true) (wd : (Lit.int .i64 d).wf = true) : Calls Try.prog 3 #[v, .int .i64 n, .int .i64 d] w fun e w' => e = .returned (.bool true) ∧ Below w.heap.size w w' := by
  obtain ⟨a, b, rfl, ha, hb⟩ := hv
  exact RatioSpec_walk a b n d w ha hb (wf_i64 wn) (wf_i64 wd)
theorem RatioSumSpec_any (v v' : Value) (w : World) (hv : Pair v) (hv' : Pair v') : Calls Try.prog 4 #[v, v'] w fun e w' => e = .returned (.bool true) ∧ Below w.heap.size w w' := by
  obtain ⟨a, b, rfl, ha, hb⟩ := hv
  obtain ⟨c, d, rfl, hc, hd⟩ := hv'
  exact RatioSumSpec_walk a b c d w ha hb hc hd
end Go.Proofs.Ytkcomadagclikaa
