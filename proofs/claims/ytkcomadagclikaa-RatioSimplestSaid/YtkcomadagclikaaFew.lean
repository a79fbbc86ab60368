/- DERIVED. Ratios as numbers. -/
import Derived.Test.YtkcomadagclikaaTreeD
import Derived.Test.YtkcomadagclikaaCtC
namespace Go.Proofs.Ytkcomadagclikaa
open Go.Sx Go.RowKit
set_option linter.unusedVariables false
set_option linter.unusedSimpArgs false
/-- N / D is n / d in lowest terms. -/
def Can (N D n d : Int) : Prop := Val N D ∧ d ≠ 0 ∧ N * d = n * D
theorem red {n d : Int} (hd : d ≠ 0) : ∃ g : Nat, 0 < g ∧ n.natAbs = rx n d * g ∧ d.natAbs = ry n d * g ∧ Nat.Coprime (rx n d) (ry n d) := by
  have hg := Nat.gcd_pos_of_pos_right n.natAbs (n := d.natAbs) (by omega)
  exact ⟨_, hg, (Nat.div_mul_cancel (Nat.gcd_dvd_left _ _)).symm, (Nat.div_mul_cancel (Nat.gcd_dvd_right _ _)).symm, Nat.coprime_div_gcd_div_gcd hg⟩
theorem cop_eq {x y x' y' : Nat} (h : Nat.Coprime x y) (h' : Nat.Coprime x' y') (hy : 0 < y) (hy' : 0 < y') (e : x * y' = x' * y) : x = x' ∧ y = y' := by
  have d1 : y ∣ y' := h.symm.dvd_of_dvd_mul_left (by rw [e]; exact Nat.dvd_mul_left _ _)
  have d2 : y' ∣ y := h'.symm.dvd_of_dvd_mul_left (by rw [← e]; exact Nat.dvd_mul_left _ _)
  have hyy := Nat.dvd_antisymm d1 d2
  subst hyy
  exact ⟨Nat.eq_of_mul_eq_mul_right hy e, rfl⟩
theorem abs_eq {a b c d : Int} (h : a * b = c * d) : a.natAbs * b.natAbs = c.natAbs * d.natAbs := by
  rw [← Int.natAbs_mul, ← Int.natAbs_mul, h]
theorem rx_cross {n d n' d' : Int} (hd : d ≠ 0) (hd' : d' ≠ 0) (h : n * d' = n' * d) : rx n d = rx n' d' ∧ ry n d = ry n' d' := by
  obtain ⟨g, g0, e1, e2, c⟩ := red (n := n) hd
  obtain ⟨g', g0', e1', e2', c'⟩ := red (n := n') hd'
  have hp := ry_pos (n := n) hd
  have hp' := ry_pos (n := n') hd'
  refine cop_eq c c' hp hp' ?_
  have := abs_eq h
  rw [e1, e2, e1', e2'] at this
  have h2 : (rx n d * ry n' d') * (g * g') = (rx n' d' * ry n d) * (g * g') := by
    calc _ = rx n d * g * (ry n' d' * g') := by grind
      _ = _ := this
      _ = _ := by grind
  exact Nat.eq_of_mul_eq_mul_right (Nat.mul_pos g0 g0') h2
theorem sg {a b : Int} (hb : b ≠ 0) : (a * b < 0 ↔ (a < 0 ∧ 0 < b ∨ 0 < a ∧ b < 0)) := by
  rcases Int.lt_trichotomy a 0 with h | h | h
  · rcases Int.lt_or_gt_of_ne hb with h' | h'
    · have := Int.mul_pos_of_neg_of_neg h h'; omega
    · have := Int.mul_neg_of_neg_of_pos h h'; omega
  · subst h; omega
  · rcases Int.lt_or_gt_of_ne hb with h' | h'
    · have := Int.mul_neg_of_pos_of_neg h h'; omega
    · have := Int.mul_pos h h'; omega
theorem mk_cross {n d n' d' : Int} (hd : d ≠ 0) (hd' : d' ≠ 0) (h : n * d' = n' * d) : mkN n d = mkN n' d' ∧ mkD n d = mkD n' d' ∧ mkE n d = mkE n' d' := by
  obtain ⟨e1, e2⟩ := rx_cross hd hd' h
  by_cases hb : 1073741824 < rx n d ∨ 1073741824 < ry n d
  · obtain ⟨a1, a2, a3⟩ := mk_big hd hb
    obtain ⟨b1, b2, b3⟩ := mk_big (n := n') hd' (by omega)
    omega
  · obtain ⟨a1, a2, a3⟩ := mk_ok (n := n) hd (by omega) (by omega)
    obtain ⟨b1, b2, b3⟩ := mk_ok (n := n') hd' (by omega) (by omega)
    refine ⟨?_, by omega, by omega⟩
    rw [a1, b1, e1]
    by_cases h0 : rx n' d' = 0
    · rw [h0]; split <;> split <;> rfl
    · have hn : n ≠ 0 := fun e => by rw [e1.symm] at h0; subst e; exact h0 (by simp [rx])
      have hn' : n' ≠ 0 := fun e => by subst e; exact h0 (by simp [rx])
      have s1 := sg (a := n) hd'
      have s2 := sg (a := n') hd
      rw [h] at s1
      have : (n < 0 ↔ d < 0) ↔ (n' < 0 ↔ d' < 0) := by omega
      simp only [this]
theorem can_mk {N D n d : Int} (h : Can N D n d) : mkN n d = N ∧ mkD n d = D ∧ mkE n d = 0 := by
  obtain ⟨hv, hd, he⟩ := h
  obtain ⟨b1, b2, b3, b4⟩ := hv.b
  have hD : D ≠ 0 := by omega
  obtain ⟨m1, m2, m3⟩ := mk_cross hd hD (n := n) (n' := N) (by rw [← he])
  obtain ⟨x1, y1⟩ := rx_one hv.2.2.2.2
  obtain ⟨a1, a2, a3⟩ := mk_ok (n := N) hD (by omega) (by omega)
  rw [m1, m2, m3, a1, a2, a3]
  refine ⟨?_, by omega, rfl⟩
  split <;> omega
theorem gcd_co {a b : Nat} {x y : Int} (h : Nat.Coprime a b) (hx : x.natAbs = a) (hy : y.natAbs = b) : gcdI x y = 1 := by
  unfold gcdI; rw [hx, hy, h]; rfl
theorem mk_can {n d : Int} (hd : d ≠ 0) (he : mkE n d = 0) : Can (mkN n d) (mkD n d) n d := by
  have hb : ¬ (1073741824 < rx n d ∨ 1073741824 < ry n d) := fun hb => by
    obtain ⟨a1, a2, a3⟩ := mk_big hd hb
    omega
  obtain ⟨a1, a2, a3⟩ := mk_ok (n := n) (d := d) hd (by omega) (by omega)
  have hp := ry_pos (n := n) hd
  obtain ⟨g, g0, e1, e2, c⟩ := red (n := n) hd
  rw [a1, a2]
  have hg : gcdI (if n < 0 ↔ d < 0 then (rx n d : Int) else -(rx n d : Int)) (ry n d : Int) = 1 := gcd_co c (by split <;> omega) (by omega)
  refine ⟨⟨by omega, by omega, ?_, ?_, hg⟩, hd, ?_⟩
  · split <;> omega
  · split <;> omega
  · have f1 : (n.natAbs : Int) = rx n d * (g : Int) := by rw [e1]; simp
    have f2 : (d.natAbs : Int) = ry n d * (g : Int) := by rw [e2]; simp
    generalize (rx n d : Int) = x at *
    generalize (ry n d : Int) = y at *
    rcases Int.lt_or_le n 0 with h1 | h1 <;> rcases Int.lt_or_le d 0 with h2 | h2
    · rw [if_pos (by omega), show d = -(y * g) by omega, show n = -(x * g) by omega]; grind
    · rw [if_neg (by omega), show d = y * g by omega, show n = -(x * g) by omega]; grind
    · rw [if_neg (by omega), show d = -(y * g) by omega, show n = x * g by omega]; grind
    · rw [if_pos (by omega), show d = y * g by omega, show n = x * g by omega]; grind
theorem mk_two {n d : Int} (hd : d ≠ 0) (he : mkE n d ≠ 0) : mkN n d = 0 ∧ mkD n d = 0 ∧ mkE n d = 2 := by
  by_cases hb : 1073741824 < rx n d ∨ 1073741824 < ry n d
  · exact mk_big hd hb
  · obtain ⟨a1, a2, a3⟩ := mk_ok (n := n) (d := d) hd (by omega) (by omega)
    exact absurd a3 he
theorem rx_le {n d : Int} : rx n d ≤ n.natAbs ∧ ry n d ≤ d.natAbs := ⟨Nat.div_le_self _ _, Nat.div_le_self _ _⟩
theorem mk_small {n d : Int} (hd : d ≠ 0) (h1 : n.natAbs ≤ 1073741824) (h2 : d.natAbs ≤ 1073741824) : mkE n d = 0 := by
  have := rx_le (n := n) (d := d)
  exact (mk_ok hd (by omega) (by omega)).2.2
def cFew : Con := { f := 29, args := [.int .i16, .int .u16], res := [rtwo, .one none], bnd := [(-511, 511), (0, 1024), (0, 1)]
                    pre := fun | [n, d] => -32768 ≤ n ∧ n ≤ 32767 ∧ 0 ≤ d ∧ d ≤ 65535 | _ => False
                    post := fun | [n, d], [N, D, k] => k = 1 ∧ Can N D (n.tmod 512) (1 + d.tmod 1024) | _, _ => False }
theorem okFew {σ τ} : ∀ N w0, ConOk Try.prog N w0 σ τ cFew := by
  refine con_of_walk (tb := tb) (C := [cMake]) fine (conCons okMake noCon) 1000 ⟨[(-32768, 32767), (0, 65535)], [], []⟩ rfl fun xs hp hl => ?_
  match xs, hp with
  | [n, d], hp =>
  obtain ⟨h1, h2, h3, h4⟩ := hp
  refine ⟨in_bnd ⟨h1, h2, h3, h4, trivial⟩, ?_⟩
  clear hl
  rw [show runP tb [cMake] 1000 cFew.f (argsOf cFew.args 0) ⟨[(-32768, 32767), (0, 65535)], [], []⟩ = _ from tree_few]
  simp only [T.res, resOk, svV, pvV, pvsV, cellV, cellsV, E.den, B.den, B.prop, allB, inB, kb, if_true, and_true, List.map_cons, List.map_nil, List.getD_cons_zero, List.getD_cons_succ, List.cons_append, List.nil_append, List.append_nil, List.getElem?_cons_zero, cMake, cFew]
  have t1 : -511 ≤ n.tmod 512 ∧ n.tmod 512 ≤ 511 := by have := Int.natAbs_tmod n 512; rw [show (512 : Int).natAbs = 512 from rfl] at this; omega
  have t2 : 0 ≤ d.tmod 1024 ∧ d.tmod 1024 ≤ 1023 := by rw [Int.tmod_eq_emod_of_nonneg h3]; omega
  refine ⟨⟨⟨by omega, by omega⟩, by omega, by omega⟩, fun N _ _ D _ _ e _ _ hq => ?_⟩
  have he := mk_small (n := n.tmod 512) (d := 1 + d.tmod 1024) (by omega) (by omega) (by omega)
  have hc := mk_can (n := n.tmod 512) (d := 1 + d.tmod 1024) (by omega) he
  have hr := rx_le (n := n.tmod 512) (d := 1 + d.tmod 1024)
  obtain ⟨a1, a2, a3⟩ := mk_ok (n := n.tmod 512) (d := 1 + d.tmod 1024) (by omega) (by omega) (by omega)
  rw [← hq.1, ← hq.2.1] at hc
  have hN : -511 ≤ N ∧ N ≤ 511 := by rw [hq.1, a1]; split <;> omega
  have hE : e = 0 := by rw [hq.2.2, he]
  rw [decide_eq_true hE]
  exact ⟨⟨hN.1, hN.2, by omega, by omega, by decide, by decide⟩, rfl, hc⟩
end Go.Proofs.Ytkcomadagclikaa
