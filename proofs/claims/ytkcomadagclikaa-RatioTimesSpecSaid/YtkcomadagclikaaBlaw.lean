/- DERIVED. RatioTimesSpec. -/
import Derived.Test.YtkcomadagclikaaBcu
import Derived.Test.YtkcomadagclikaaSane
namespace Go.Proofs.Ytkcomadagclikaa
open Go.Sx Go.RowKit
set_option linter.unusedVariables false
set_option linter.unusedSimpArgs false
theorem TimP.eq {a b n lo hi e lo' hi' e' : Int} (h : TimP a b n lo hi e) (h' : TimP a b n lo' hi' e') : lo = lo' ∧ hi = hi' ∧ e = e' := by
  by_cases hv : Val a b
  · by_cases hn : -1073741824 ≤ n ∧ n ≤ 1073741824
    · obtain ⟨a1, a2, a3⟩ := h.2.2 hv hn
      obtain ⟨b1, b2, b3⟩ := h'.2.2 hv hn
      exact ⟨a1.trans b1.symm, a2.trans b2.symm, a3.trans b3.symm⟩
    · have := h.2.1 hv hn; have := h'.2.1 hv hn; omega
  · have := h.1 hv; have := h'.1 hv; omega
open Classical in
theorem RatioTimesSpec_walk (K : Nat) (hK : (2147483648 : Int) ≤ K) (a b c d n : Int) (w : World) (ha : I64 a) (hb : I64 b) (hc : I64 c) (hd : I64 d) (hn : I64 n) :
    Calls Try.prog 5 #[.agg #[.int .i64 a, .int .i64 b], .agg #[.int .i64 c, .int .i64 d], .int .i64 n] w fun e w' => e = .returned (.bool true) ∧ Below w.heap.size w w' := by
  refine sx_law (tb := tb) (w := w) (σ := []) (τ := []) fine (C := [trueCon 10, cTim 25, cTim 26, cBtw 27 K, cBtw 28 K]) (conCons okSane (conCons okTim (conCons okTimR (conCons (okBtw K hK) (conCons (okBtwR K hK) noCon)))) _ _) 1000 5 (argsOf [two, two, .int .i64] 0) ⟨[i64b, i64b, i64b, i64b, i64b], [], []⟩ [a, b, c, d, n]
    (in_bnd ⟨ha.1, ha.2, hb.1, hb.2, hc.1, hc.2, hd.1, hd.2, hn.1, hn.2, trivial⟩) ?_
  rw [tree_l5]
  simp only [T.law, E.den, B.prop, allB, inB, List.map_cons, List.map_nil, List.getD_cons_zero, List.getD_cons_succ, List.cons_append, List.nil_append, List.append_nil, List.getElem?_cons_zero, List.getElem?_cons_succ, trueCon, cTim, cBtw, true_and, and_true]
  refine fun s _ _ _ => ⟨⟨ha, hb, hn⟩, fun lo _ _ hi _ _ e _ _ h1 => ⟨⟨ha, hb, hn⟩, fun lo' _ _ hi' _ _ e' _ _ h1' => ⟨⟨ha, hb, hc, hd⟩, fun x _ _ y _ _ f _ _ h2 => ⟨⟨ha, hb, hc, hd⟩, fun x' _ _ y' _ _ f' _ _ h2' => ?_⟩⟩⟩⟩
  have q1 := h1.eq h1'
  have q2 := h2.eq h2'
  omega
theorem RatioTimesSpec_any (v v' : Value) (n : Int) (w : World) (hv : Pair v) (hv' : Pair v') (wn : (Lit.int .i64 n).wf = true) : Calls Try.prog 5 #[v, v', .int .i64 n] w fun e w' => e = .returned (.bool true) ∧ Below w.heap.size w w' := by
  obtain ⟨a, b, rfl, ha, hb⟩ := hv
  obtain ⟨c, d, rfl, hc, hd⟩ := hv'
  exact RatioTimesSpec_walk 2147483648 (by decide) a b c d n w ha hb hc hd (wf_i64 wn)
end Go.Proofs.Ytkcomadagclikaa
