/- DERIVED. The first laws of garments, walked. -/
import Derived.Test.YtcjdheaaddaagaaDsane
namespace Go.Proofs.Ytcjdheaaddaagaa
open Go.Dx Go.RowKit
set_option linter.unusedVariables false
set_option linter.unusedSimpArgs false
theorem nums5_eq {a b c d e a' b' c' d' e' : Int} {q : List DV} (h : [DV.n a, .n b, .n c, .n d, .n e] = q) (k : [DV.n a', .n b', .n c', .n d', .n e'] = q) : a = a' ∧ b = b' ∧ c = c' ∧ d = d' ∧ e = e' := nums5 h k.symm
theorem nums3_eq {a b c a' b' c' : Int} {q : List DV} (h : [DV.n a, .n b, .n c] = q) (k : [DV.n a', .n b', .n c'] = q) : a = a' ∧ b = b' ∧ c = c' := nums3 h k.symm
theorem nums2_eq {a b a' b' : Int} {q : List DV} (h : [DV.n a, .n b] = q) (k : [DV.n a', .n b'] = q) : a = a' ∧ b = b' := nums2 h k.symm
theorem same_yes {x : Int} {a : DV} (h : [DV.n x] = [DV.n (if sameP a a then 1 else 0)]) : x = 1 := by
  rw [if_pos ⟨rfl, fun _ _ => rfl⟩] at h
  exact n_inj h
set_option maxHeartbeats 4000000 in
set_option maxRecDepth 100000 in
theorem GarmentSpec_any (m : Int) (v1 : Value) (w : World) (hG : Glb tb w) (hm : -9223372036854775808 ≤ m ∧ m ≤ 9223372036854775807) (g1 : ∃ d, cellA w ints (.sl none 0 d) v1) :
    Calls Try.prog 3 #[.int .i64 m, v1] w fun e w' => e = .returned (.bool true) ∧ Below w.heap.size w w' := by
  obtain ⟨p, h1⟩ := g1
  refine law_of_walk (tb := tb) (P := Try.prog) fine (C := [lawCon 10 [], cFew, cAw 12, cAw 13, cThr 14, cThr 15, cSame]) (conCons cSane_ok (conCons cFew_ok (conCons cAw_ok (conCons cAwR_ok (conCons cThr_ok (conCons cThrR_ok (conCons cSame_ok noCon))))))) 80 3 [aI, .c ints] rfl (w := w) hG
    (xs := [.n m, .sl none 0 p]) ?_ ?_
  · exact ⟨cell_int hm, h1, by simp [ArgsV]⟩
  clear h1
  rw [tree_lspec]
  refine res_con rfl trivial (fun z z0 z1 hz => ?_)
  obtain rfl := n_inj (cvh (b := [DV.n z] = [DV.n 1]) (by kernel_rfl) hz)
  refine res_ite (fun h => absurd (cvh (b := (1 : Int) = 0) (by kernel_rfl) h) (by decide)) fun _ => ?_
  refine res_con rfl trivial (fun f f0 f1 _ => ?_)
  refine res_ite (fun _ => rfl) fun _ => ?_
  refine res_con rfl trivial (fun a ha e e0 e1 q1 => res_con rfl trivial fun b hb g g0 g1 q2 => ?_)
  obtain ⟨rfl, rfl⟩ := two_eq (cvh (b := [DV.sl none 0 a, .n e] = awF m (.sl none 0 p)) (by kernel_rfl) q1) (cvh (b := [DV.sl none 0 b, .n g] = awF m (.sl none 0 p)) (by kernel_rfl) q2)
  refine res_con rfl trivial (fun x1 x10 x11 x2 _ _ x3 _ _ x4 _ _ x5 _ _ q3 => res_con rfl trivial fun y1 _ _ y2 _ _ y3 _ _ y4 _ _ y5 _ _ q4 => ?_)
  obtain ⟨rfl, rfl, rfl, rfl, rfl⟩ := nums5_eq (cvh (b := [DV.n x1, .n x2, .n x3, .n x4, .n x5] = thR m (.sl none 0 p)) (by kernel_rfl) q3) (cvh (b := [DV.n y1, .n y2, .n y3, .n y4, .n y5] = thR m (.sl none 0 p)) (by kernel_rfl) q4)
  refine res_con rfl trivial (fun s s0 s1 q5 => ?_)
  obtain rfl := same_yes (cvh (b := [DV.n s] = [DV.n (if sameP (.sl none 0 a) (.sl none 0 a) then 1 else 0)]) (by kernel_rfl) q5)
  exact res_ite (fun _ => rfl) fun h => absurd (cvh (a := (((¬ (1 : Int) = 0) ∧ e = e) ∧ (((¬ x1 = 0) ∧ ¬ x1 = 0) ∨ (x1 = 0 ∧ x1 = 0)) ∧ (x2 = x2 ∧ (x3 = x3 ∧ x4 = x4))) ∧ x5 = x5) (by kernel_rfl) ⟨⟨⟨by decide, rfl⟩, by omega, rfl, rfl, rfl⟩, rfl⟩) h
set_option maxHeartbeats 4000000 in
set_option maxRecDepth 100000 in
theorem GarmentOwnSpec_any (v0 : Value) (i c e d : Int) (w : World) (hG : Glb tb w) (g0 : MarkA w v0) (hi : -9223372036854775808 ≤ i ∧ i ≤ 9223372036854775807) (hc : -9223372036854775808 ≤ c ∧ c ≤ 9223372036854775807) (he : -9223372036854775808 ≤ e ∧ e ≤ 9223372036854775807) (hd : -9223372036854775808 ≤ d ∧ d ≤ 9223372036854775807) :
    Calls Try.prog 4 #[v0, .int .i64 i, .int .i64 c, .int .i64 e, .int .i64 d] w fun e w' => e = .returned (.bool true) ∧ Below w.heap.size w w' := by
  obtain ⟨b, l, k, x, cs, rfl, _, hcs⟩ := g0
  refine law_of_walk (tb := tb) (P := Try.prog) fine (C := [lawCon 10 [], cOwn 17, cOwn 18, cPr 19, cPr 20]) (conCons cSane_ok (conCons cOwn_ok (conCons cOwnR_ok (conCons cPr_ok (conCons cPrR_ok noCon))))) 80 4 [.agg mkSh, aI, aI, aI, aI] rfl (w := w) hG
    (xs := [.n b, .n l, .n k, .n x, .n i, .n c, .n e, .n d]) ?_ ?_
  · exact ⟨_, [.n i, .n c, .n e, .n d], cs, rfl, rfl, hcs, cell_int hi, cell_int hc, cell_int he, cell_int hd, by simp [ArgsV]⟩
  clear hcs
  rw [tree_lown]
  refine res_con rfl trivial (fun z z0 z1 hz => ?_)
  obtain rfl := n_inj (cvh (b := [DV.n z] = [DV.n 1]) (by kernel_rfl) hz)
  refine res_ite (fun h => absurd (cvh (b := (1 : Int) = 0) (by kernel_rfl) h) (by decide)) fun _ => ?_
  refine res_con rfl trivial (fun a _ _ f _ _ q1 => res_con rfl trivial fun a2 _ _ f2 _ _ q2 => ?_)
  obtain ⟨rfl, rfl⟩ := nums2_eq (cvh (b := [DV.n a, .n f] = ownR ⟨!decide (b = 0), l, k, x⟩ i c) (by kernel_rfl) q1) (cvh (b := [DV.n a2, .n f2] = ownR ⟨!decide (b = 0), l, k, x⟩ i c) (by kernel_rfl) q2)
  refine res_con rfl trivial (fun r _ _ s _ _ g _ _ q3 => res_con rfl trivial fun r2 _ _ s2 _ _ g2 _ _ q4 => ?_)
  obtain ⟨rfl, rfl, rfl⟩ := nums3_eq (cvh (b := [DV.n r, .n s, .n g] = prR e c d) (by kernel_rfl) q3) (cvh (b := [DV.n r2, .n s2, .n g2] = prR e c d) (by kernel_rfl) q4)
  exact res_ite (fun _ => rfl) fun h => absurd (cvh (a := (((a = a ∧ f = f) ∧ (r = r ∧ s = s)) ∧ g = g)) (by kernel_rfl) ⟨⟨⟨rfl, rfl⟩, rfl, rfl⟩, rfl⟩) h
end Go.Proofs.Ytcjdheaaddaagaa
