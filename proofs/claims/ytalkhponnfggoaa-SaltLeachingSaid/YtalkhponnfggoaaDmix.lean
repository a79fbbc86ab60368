/- DERIVED. Mixing and losing, of both packages: the contracts, proved. -/
import Derived.Test.YtalkhponnfggoaaDtree
namespace Go.Proofs.Ytalkhponnfggoaa
open Go.Dx
set_option linter.unusedVariables false
set_option linter.unusedSimpArgs false
theorem sh_len {mx : Nat} {row : List Sh} (hm : mx ≤ 9223372036854775807) {a : List (List DV)} (ha : HasSh (.sl mx row) (.sl none 0 a)) : (DV.sl none 0 a).len = a.length := by
  simp only [HasSh, DV.els] at ha
  exact clampL_eq (Nat.le_trans ha.1 hm)
theorem wats_len {a : List (List DV)} (ha : HasSh wats (.sl none 0 a)) : (DV.sl none 0 a).len = a.length := sh_len (Nat.le_refl _) ha
theorem toNat_succ {x : Int} (h : 0 ≤ x) : (x + 1).toNat = x.toNat + 1 := by omega
theorem allR_succ {d : DV} {x : Int} (h0 : 0 ≤ x) (h : AllR d x.toNat) (hx : okR d x) : AllR d (x + 1).toNat := fun k hk => by
  rw [toNat_succ h0] at hk
  by_cases e : k < x.toNat
  · exact h k e
  · rw [show (k : Int) = x by omega]; exact hx
theorem sm_succ {d : DV} {j : Nat} {x : Int} (h0 : 0 ≤ x) : sm d j (x + 1).toNat = sm d j x.toNat + d.at x j := by
  rw [toNat_succ h0]; simp only [sm]; rw [show ((x.toNat : Nat) : Int) = x by omega]
theorem sm_rng {d : DV} {n : Nat} (h : AllR d n) : ∀ k : Nat, k ≤ n → (0 ≤ sm d 0 k ∧ sm d 0 k ≤ k * 1073741824) ∧ (0 ≤ sm d 1 k ∧ sm d 1 k ≤ k * 1073741824) ∧ (sm d 0 k = 0 → sm d 1 k = 0)
  | 0, _ => by simp [sm]
  | k + 1, hk => by
    have ih := sm_rng h k (by omega)
    obtain ⟨⟨h1, h2⟩, h3⟩ := h k (by omega)
    simp only [sm]
    refine ⟨by omega, by omega, by omega⟩
theorem cMixR_ok (N : Nat) (w0 : World) : ConOk Try.prog N w0 cMixR := by
  refine con_of_walk (tb := tb) fine (C := [lMR]) (lopCons rfl noCon) 80 rfl ?_ N w0
  refine fun a ha _ => ?_
  have ha : HasSh wats (.sl none 0 a) := ha
  rw [tree_mixR]
  simp only [T.res, B.prop, E.den, E.dat, E.top, E.val, E.isD, DV.canon, List.getElem?_cons_zero, List.getElem?_cons_succ, List.getD_cons_zero, List.getD_cons_succ, List.getD_nil, List.map_cons, List.map_nil, List.cons_append, List.nil_append, allB, lMR, cMixR, List.take_succ_cons, List.take_zero, List.length_cons, List.length_nil, Nat.zero_add, Nat.reduceAdd, wats_len ha, MixP]
  simp only [DV.int]
  have hels : (DV.sl none 0 a).els = a := rfl
  simp only [hels]
  generalize hd : DV.sl none 0 a = d
  refine ⟨fun h => ⟨fun _ => trivial, fun h1 => by omega, fun h1 => by omega, fun h1 => by omega⟩, fun h => ⟨⟨by omega, fun k hk => absurd hk (by simp), rfl, rfl⟩, fun x x0 _ l l0 l1 s s0 s1 ⟨hx, hk, e1, e2⟩ => ⟨fun hlt => ⟨fun hb => ⟨fun h1 => by omega, fun h1 h2 => trivial, fun h1 h2 => ?_, fun h1 h2 => ?_⟩, fun hb => ?_⟩, fun hge => ?_⟩⟩⟩
  · exfalso
    have := h2 x.toNat (by omega)
    unfold okR okW at this
    rw [show ((x.toNat : Nat) : Int) = x by omega] at this
    exact hb this
  · exfalso
    have := h2 x.toNat (by omega)
    unfold okR okW at this
    rw [show ((x.toNat : Nat) : Int) = x by omega] at this
    exact hb this
  · have hb : okR d x := Classical.not_not.1 hb
    have hk1 := allR_succ x0 hk hb
    have r := sm_rng hk x.toNat (Nat.le_refl _)
    have q := hb
    unfold okR okW at q
    refine ⟨fun c1 => ⟨fun c2 => ⟨⟨by omega, hk1, ?_, ?_⟩, by omega⟩, fun c2 => c2 ?_⟩, fun c1 => c1 ?_⟩
    · rw [sm_succ x0]; omega
    · rw [sm_succ x0]; omega
    · omega
    · omega
  · have hn : x.toNat = a.length := by omega
    rw [hn] at hk e1 e2
    refine ⟨fun hb => ⟨fun h1 => by omega, fun h1 h2 => trivial, fun h1 h2 h3 => trivial, fun h1 h2 h3 h4 => ?_⟩, fun hb => ⟨fun h1 => by omega, fun h1 h2 => absurd hk h2, fun h1 h2 h3 => ?_, fun h1 h2 h3 h4 => ?_⟩⟩
    · exfalso; omega
    · exfalso; omega
    · rw [e1, e2]
end Go.Proofs.Ytalkhponnfggoaa
