/- DERIVED. What lies between two ratios: the program's contract. -/
import Derived.Test.YtkcomadagclikaaBcs
import Derived.Test.YtkcomadagclikaaBct
import Derived.Test.YtkcomadagclikaaBtree
import Derived.Test.YtkcomadagclikaaCtC
namespace Go.Proofs.Ytkcomadagclikaa
open Go.Sx
set_option linter.unusedVariables false
set_option linter.unusedSimpArgs false
theorem sgn_lt {x y : Int} (h : ¬ 0 ≤ sgn x y) : x < y := by
  by_cases z : x < y
  · exact z
  · exfalso
    unfold sgn at h
    rw [if_neg z] at h
    split at h <;> omega
theorem sgn_ge {x y : Int} (h : 0 ≤ sgn x y) : ¬ x < y := fun z => by
  unfold sgn at h
  rw [if_pos z] at h
  omega
theorem mk_01 : mkN 0 1 = 0 ∧ mkD 0 1 = 1 ∧ mkE 0 1 = 0 := by simp [mkN, mkD, mkE, rx, ry]
open Classical in
theorem okBtw {σ τ} (K : Nat) (hK : (2147483648 : Int) ≤ K) : ∀ N w0, ConOk Try.prog N w0 σ τ (cBtw 27 K) := by
  refine con_of_walk (tb := tb) (C := [cCmp 23, cSmp K, cLow]) fine (conCons okCmp (conCons (okSmp K) (conCons okLow noCon))) 1000 ⟨[i64b, i64b, i64b, i64b], [], []⟩ rfl fun xs hp hl => ?_
  match xs, hp with
  | [a, b, c, d], hp =>
  obtain ⟨⟨h1, h2⟩, ⟨h3, h4⟩, ⟨h5, h6⟩, ⟨h7, h8⟩⟩ := id hp
  refine ⟨in_bnd ⟨h1, h2, h3, h4, h5, h6, h7, h8, trivial⟩, ?_⟩
  clear hl
  rw [show runP tb [cCmp 23, cSmp K, cLow] 1000 (cBtw 27 K).f (argsOf (cBtw 27 K).args 0) ⟨[i64b, i64b, i64b, i64b], [], []⟩ = _ from tree_btw K]
  simp only [T.res, resOk, svV, pvV, pvsV, cellV, cellsV, E.den, B.den, B.prop, allB, inB, kb, if_true, and_true, List.map_cons, List.map_nil, List.getD_cons_zero, List.getD_cons_succ, List.cons_append, List.nil_append, List.append_nil, List.getElem?_cons_zero, List.getElem?_cons_succ, cLow, cCmp, cSmp, cBtw]
  refine ⟨hp, fun x x0 x1 e e0 e1 h => ?_⟩
  by_cases hv : V2 a b c d
  · obtain ⟨hx, he⟩ := h.1 hv
    subst he
    obtain ⟨y1, y2, y3, y4, _⟩ := hv.1
    obtain ⟨z1, z2, z3, z4, _⟩ := hv.2
    refine ⟨fun h => absurd rfl h, fun _ => ⟨fun h0 => ?_, fun h0 => ?_⟩⟩
    · have hl := sgn_ge (hx ▸ h0)
      exact ⟨by omega, fun n => absurd hv n, fun _ => ⟨fun _ => ⟨rfl, rfl, rfl⟩, fun z => absurd z hl⟩⟩
    · have hl := sgn_lt (hx ▸ h0)
      refine ⟨fun hz => ⟨⟨⟨by omega, by omega⟩, ⟨by omega, by omega⟩, by omega⟩, fun N N0 N1 D D0 D1 f f0 f1 hN => ?_⟩, fun hz => ⟨fun hc => ?_, fun hc => ?_⟩⟩
      · obtain ⟨m1, m2, m3⟩ := mk_01
        exact ⟨by omega, fun n => absurd hv n, fun _ => ⟨fun z => absurd hl z, fun _ => ⟨fun _ => ⟨by omega, by omega, by omega⟩, fun z => by omega, fun z => by omega⟩⟩⟩
      · have w1 : IntKind.i64.wrap (0 - c) = -c := (w_id (by omega) (by omega)).trans (Int.zero_sub _)
        have w2 : IntKind.i64.wrap (0 - a) = -a := (w_id (by omega) (by omega)).trans (Int.zero_sub _)
        rw [w1, w2]
        have sp := sp_neg hK hv hl hc
        have sb := smp_b sp
        refine ⟨sp, fun n n0 n1 m m0 m1 hnm => ?_⟩
        obtain ⟨rfl, rfl⟩ := hnm
        rw [Int.zero_sub]
        refine ⟨⟨⟨by omega, by omega⟩, ⟨by omega, by omega⟩, by omega⟩, fun N N0 N1 D D0 D1 f f0 f1 hN => ?_⟩
        exact ⟨by omega, fun n => absurd hv n, fun _ => ⟨fun z => absurd hl z, fun _ => ⟨fun z => by omega, fun _ => hN, fun z => by exfalso; have := sp.1.2.2.2.1; omega⟩⟩⟩
      · have ha : 0 ≤ a := by omega
        have sp := sp_pos hK hv hl ha
        have sb := smp_b sp
        refine ⟨sp, fun n n0 n1 m m0 m1 hnm => ?_⟩
        obtain ⟨rfl, rfl⟩ := hnm
        refine ⟨⟨⟨by omega, by omega⟩, ⟨by omega, by omega⟩, by omega⟩, fun N N0 N1 D D0 D1 f f0 f1 hN => ?_⟩
        exact ⟨by omega, fun n => absurd hv n, fun _ => ⟨fun z => absurd hl z, fun _ => ⟨fun z => by omega, fun z => absurd z hc, fun _ => hN⟩⟩⟩
  · obtain ⟨rfl, rfl⟩ := h.2 hv
    exact ⟨fun _ => ⟨by omega, fun _ => ⟨rfl, rfl, rfl⟩, fun z => absurd z hv⟩, fun z => absurd (by omega) z⟩
open Classical in
theorem okBtwR {σ τ} (K : Nat) (hK : (2147483648 : Int) ≤ K) : ∀ N w0, ConOk Try.prog N w0 σ τ (cBtw 28 K) := by
  refine con_of_walk (tb := tb) (C := [cVal, cSmpR K, cMakeR]) fine (conCons okVal (conCons (okSmpR K) (conCons okMakeR noCon))) 1000 ⟨[i64b, i64b, i64b, i64b], [], []⟩ rfl fun xs hp hl => ?_
  match xs, hp with
  | [a, b, c, d], hp =>
  obtain ⟨⟨h1, h2⟩, ⟨h3, h4⟩, ⟨h5, h6⟩, ⟨h7, h8⟩⟩ := id hp
  refine ⟨in_bnd ⟨h1, h2, h3, h4, h5, h6, h7, h8, trivial⟩, ?_⟩
  clear hl
  rw [show runP tb [cVal, cSmpR K, cMakeR] 1000 (cBtw 28 K).f (argsOf (cBtw 28 K).args 0) ⟨[i64b, i64b, i64b, i64b], [], []⟩ = _ from tree_btwR K]
  simp only [T.res, resOk, svV, pvV, pvsV, cellV, cellsV, E.den, B.den, B.prop, allB, inB, kb, if_true, and_true, List.map_cons, List.map_nil, List.getD_cons_zero, List.getD_cons_succ, List.cons_append, List.nil_append, List.append_nil, List.getElem?_cons_zero, List.getElem?_cons_succ, cVal, cMake, cMakeR, cSmpR, cBtw]
  refine ⟨⟨⟨h1, h2⟩, h3, h4⟩, fun e e0 e1 he => ?_⟩
  by_cases hv1 : Val a b
  · rw [if_pos hv1] at he
    subst he
    refine ⟨fun _ => ⟨⟨⟨h5, h6⟩, h7, h8⟩, fun e' e0' e1' he' => ?_⟩, fun h => absurd (by omega) h⟩
    by_cases hv2 : Val c d
    · rw [if_pos hv2] at he'
      subst he'
      have hv : V2 a b c d := ⟨hv1, hv2⟩
      obtain ⟨y1, y2, y3, y4, _⟩ := id hv1
      obtain ⟨z1, z2, z3, z4, _⟩ := id hv2
      have q1 := mb y3 y4 (show -1073741824 ≤ d by omega) z2
      have q2 := mb z3 z4 (show -1073741824 ≤ b by omega) y2
      have w3 : IntKind.i64.wrap (a * d) = a * d := w_id (by omega) (by omega)
      have w4 : IntKind.i64.wrap (c * b) = c * b := w_id (by omega) (by omega)
      rw [w3, w4]
      refine ⟨fun h => absurd h (by omega), fun _ => ⟨fun h0 => ?_, fun h0 => ?_⟩⟩
      · have hl : ¬ a * d < c * b := by omega
        exact ⟨by omega, fun n => absurd hv n, fun _ => ⟨fun _ => ⟨rfl, rfl, rfl⟩, fun z => absurd z hl⟩⟩
      · have hl : a * d < c * b := by omega
        refine ⟨fun hz => ?_, fun hz => ⟨fun hc => ?_, fun hc => ?_⟩⟩
        · exact ⟨by omega, fun n => absurd hv n, fun _ => ⟨fun z => absurd hl z, fun _ => ⟨fun _ => ⟨rfl, rfl, rfl⟩, fun z => by omega, fun z => by omega⟩⟩⟩
        · have w1 : IntKind.i64.wrap (0 - c) = -c := (w_id (by omega) (by omega)).trans (Int.zero_sub _)
          have w2 : IntKind.i64.wrap (0 - a) = -a := (w_id (by omega) (by omega)).trans (Int.zero_sub _)
          rw [w1, w2]
          have sp := sp_neg hK hv hl (by omega)
          have sb := smp_b sp
          refine ⟨sp, fun n n0 n1 m m0 m1 hnm => ?_⟩
          obtain ⟨rfl, rfl⟩ := hnm
          rw [Int.zero_sub]
          refine ⟨⟨⟨by omega, by omega⟩, ⟨by omega, by omega⟩⟩, fun N N0 N1 D D0 D1 f f0 f1 hN => ?_⟩
          exact ⟨by omega, fun n => absurd hv n, fun _ => ⟨fun z => absurd hl z, fun _ => ⟨fun z => by omega, fun _ => hN, fun z => by omega⟩⟩⟩
        · have ha : 0 ≤ a := by omega
          have sp := sp_pos hK hv hl ha
          have sb := smp_b sp
          refine ⟨sp, fun n n0 n1 m m0 m1 hnm => ?_⟩
          obtain ⟨rfl, rfl⟩ := hnm
          refine ⟨⟨⟨by omega, by omega⟩, ⟨by omega, by omega⟩⟩, fun N N0 N1 D D0 D1 f f0 f1 hN => ?_⟩
          exact ⟨by omega, fun n => absurd hv n, fun _ => ⟨fun z => absurd hl z, fun _ => ⟨fun z => by omega, fun z => by exfalso; have := sp.1.2.2.2.1; omega, fun _ => hN⟩⟩⟩
    · rw [if_neg hv2] at he'
      subst he'
      exact ⟨fun _ => ⟨by omega, fun _ => ⟨rfl, rfl, rfl⟩, fun z => absurd z.2 hv2⟩, fun h => absurd (by omega) h⟩
  · rw [if_neg hv1] at he
    subst he
    exact ⟨fun h => absurd rfl h, fun _ => ⟨by omega, fun _ => ⟨rfl, rfl, rfl⟩, fun z => absurd z.1 hv1⟩⟩
end Go.Proofs.Ytkcomadagclikaa
