/- DERIVED. IntervalRootSpec, for any arguments. -/
import Derived.Test.YtgaaommfemgnnaaEcw
import Derived.Test.YtgaaommfemgnnaaElawb
import Derived.Test.YtgaaommfemgnnaaEtrr
namespace Go.Proofs.Ytgaaommfemgnnaa
open Go.Dx Go.RowKit
set_option linter.unusedVariables false
theorem IsRt.one {n x y : Int} (h : IsRt n x) (k : IsRt n y) : x = y := by
  have a := rt_le (x := x) (y := y) k.1 (Int.lt_of_le_of_lt h.2.1 k.2.2)
  have b := rt_le (x := y) (y := x) h.1 (Int.lt_of_le_of_lt k.2.1 h.2.2)
  omega
theorem up_rt {n x y : Int} (h : IsUp n x) (k : IsUp n y) : x ≤ y := by
  rcases h.2.2 with e | e
  · have := k.1; omega
  · have ky := k.1
    by_cases c : x ≤ y
    · exact c
    · exfalso
      have m : y * y ≤ (x - 1) * (x - 1) := Int.mul_le_mul (by omega) (by omega) k.1 (by omega)
      have := k.2.1
      omega
theorem RootP.eq {a b x y e x' y' e' : Int} (h : RootP a b x y e) (k : RootP a b x' y' e') : x = x' ∧ y = y' ∧ e = e' := by
  by_cases v : V a b
  · by_cases n : 0 ≤ a
    · obtain ⟨h1, h2, rfl⟩ := h.1 v n
      obtain ⟨k1, k2, rfl⟩ := k.1 v n
      have := up_rt h2 k2
      have := up_rt k2 h2
      exact ⟨h1.one k1, by omega, rfl⟩
    · obtain ⟨rfl, rfl, rfl⟩ := h.2.1 v (by omega)
      obtain ⟨rfl, rfl, rfl⟩ := k.2.1 v (by omega)
      exact ⟨rfl, rfl, rfl⟩
  · obtain ⟨rfl, rfl, rfl⟩ := h.2.2 v
    obtain ⟨rfl, rfl, rfl⟩ := k.2.2 v
    exact ⟨rfl, rfl, rfl⟩
theorem SclP.eq {a b N D x y e x' y' e' : Int} (h : SclP a b N D x y e) (k : SclP a b N D x' y' e') : x = x' ∧ y = y' ∧ e = e' := by
  by_cases v : V a b
  · by_cases r : VRat N D
    · exact (h.2.2 v r).eq (k.2.2 v r)
    · obtain ⟨rfl, rfl, rfl⟩ := h.2.1 v r
      obtain ⟨rfl, rfl, rfl⟩ := k.2.1 v r
      exact ⟨rfl, rfl, rfl⟩
  · obtain ⟨rfl, rfl, rfl⟩ := h.1 v
    obtain ⟨rfl, rfl, rfl⟩ := k.1 v
    exact ⟨rfl, rfl, rfl⟩
set_option maxRecDepth 100000 in
theorem walk_root (a b N D : Int) : (runC tb [lawCon 12 [], cSqr 21, cSqr 22, cRoot 23, cRoot 24, cScl 25, cScl 26] 80 (lawCon 4 [two, two])).res [lawCon 12 [], cSqr 21, cSqr 22, cRoot 23, cRoot 24, cScl 25, cScl 26] (fun ys => ys = [.n 1]) [.n a, .n b, .n N, .n D] := by
  rw [tree_lroot]
  refine res_con rfl trivial (fun z _ _ hz => ?_)
  obtain rfl := n_inj (show [DV.n z] = [.n 1] from hz)
  refine res_ite (fun h => absurd (show (1 : Int) = 0 from h) (by decide)) fun _ => ?_
  refine res_con rfl trivial (fun x1 _ _ y1 _ _ e1 _ _ h1 => ?_)
  refine res_con rfl trivial (fun x2 _ _ y2 _ _ e2 _ _ h2 => ?_)
  obtain ⟨rfl, rfl, rfl⟩ := OpP.eq (cvh (b := OpP (V a b) (sqL a b) (max (a * a) (b * b)) x1 y1 e1) (by kernel_rfl) h1) (cvh (b := OpP (V a b) (sqL a b) (max (a * a) (b * b)) x2 y2 e2) (by kernel_rfl) h2)
  refine res_con rfl trivial (fun x3 _ _ y3 _ _ e3 _ _ h3 => ?_)
  refine res_con rfl trivial (fun x4 _ _ y4 _ _ e4 _ _ h4 => ?_)
  obtain ⟨rfl, rfl, rfl⟩ := RootP.eq (cvh (b := RootP a b x3 y3 e3) (by kernel_rfl) h3) (cvh (b := RootP a b x4 y4 e4) (by kernel_rfl) h4)
  refine res_con rfl trivial (fun x5 _ _ y5 _ _ e5 _ _ h5 => ?_)
  refine res_con rfl trivial (fun x6 _ _ y6 _ _ e6 _ _ h6 => ?_)
  obtain ⟨rfl, rfl, rfl⟩ := SclP.eq (cvh (b := SclP a b N D x5 y5 e5) (by kernel_rfl) h5) (cvh (b := SclP a b N D x6 y6 e6) (by kernel_rfl) h6)
  refine res_ite (fun _ => rfl) fun h => absurd ?_ (cvh (b := ¬ ((((((x1 = x1 ∧ y1 = y1) ∧ e1 = e1) ∧ (x3 = x3 ∧ y3 = y3)) ∧ e3 = e3) ∧ (x5 = x5 ∧ y5 = y5)) ∧ e5 = e5)) (by kernel_rfl) h)
  exact ⟨⟨⟨⟨⟨⟨rfl, rfl⟩, rfl⟩, rfl, rfl⟩, rfl⟩, rfl, rfl⟩, rfl⟩
set_option maxRecDepth 100000 in
theorem IntervalRootSpec_any (v0 v1 : Value) (w : World) (hG : Glb tb w) (g0 : PairA w v0) (g1 : PairA w v1) :
    Calls Try.prog 4 #[v0, v1] w fun e w' => e = .returned (.bool true) ∧ Below w.heap.size w w' := by
  obtain ⟨a, b, c0, rfl, h0⟩ := g0
  obtain ⟨N, D, c1, rfl, h1⟩ := g1
  refine law_of_walk (tb := tb) (P := Try.prog) fine (C := [lawCon 12 [], cSqr 21, cSqr 22, cRoot 23, cRoot 24, cScl 25, cScl 26]) (conCons cSane_ok (conCons cSqr_ok (conCons cSqrR_ok (conCons cRoot_ok (conCons cRootR_ok (conCons cScl_ok (conCons cSclR_ok noCon))))))) 80 4 [two, two] rfl (w := w) hG (xs := [.n a, .n b, .n N, .n D]) ?_ (walk_root a b N D)
  exact ⟨_, [.n N, .n D], c0, rfl, rfl, h0, _, [], c1, rfl, rfl, h1, by simp [ArgsV]⟩
end Go.Proofs.Ytgaaommfemgnnaa
