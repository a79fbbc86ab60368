/- DERIVED. Clashes; one case more. -/
import Derived.Test.YtpaphkpdnmalhaaEmathb
namespace Go.Proofs.Ytpaphkpdnmalhaa
open Go.Dx
set_option linter.unusedVariables false
def noClash (C : DV) : Prop := ∀ i j : Nat, i < j → j < C.len.toNat → ¬ clC C i j
theorem clash_val {S C : DV} {a b c e : Int} (h : chkF S C = 0) (k : [DV.n a, .n b, .n c, .n e] = ClashF S C) : e = 0 ∧ ((c = 1 ∧ ∃ i j : Nat, i < j ∧ j < C.len.toNat ∧ clC C i j) ∨ (c = 0 ∧ noClash C)) := by
  obtain ⟨h1, h2⟩ := first_spec (cl1 C C.len.toNat) C.len.toNat
  have k0 := (C.len_rng).1
  unfold ClashF at k
  rw [if_neg (by rw [h]; decide)] at k
  by_cases q : cl1N C < C.len.toNat
  · rw [if_pos (by omega)] at k
    simp only [List.cons.injEq, DV.n.injEq, and_true] at k
    obtain ⟨j, hj, hij, hcl⟩ := h2 q
    exact ⟨k.2.2.2, Or.inl ⟨k.2.2.1, _, j, hij, hj, hcl⟩⟩
  · rw [if_neg (by omega)] at k
    simp only [List.cons.injEq, DV.n.injEq, and_true] at k
    refine ⟨k.2.2.2, Or.inr ⟨k.2.2.1, fun i j hij hj hcl => ?_⟩⟩
    have q : ¬ firstN (cl1 C C.len.toNat) C.len.toNat < C.len.toNat := q
    exact h1 i (by omega) ⟨j, hj, hij, hcl⟩
theorem bind_half {S C f : DV} {u v : Int} (hc : chkF S C = 0) {i j : Nat} (hi : i < C.len.toNat) (huv : u ≠ v) (h1 : bindP S C f u i) (h2 : bindP S C f v j) : allP (rc C i) (fc C j) := fun m hm => by
  have hd := (case_dec hc (i := i) (by omega) (by omega)).1.2.2.2 m hm
  obtain ⟨k, hk, e⟩ := h1.2.1 m hm
  have q := h2.2.2 k hk
  rw [e] at q
  by_cases z : memP (fc C j) (el (rc C i) m)
  · exact z
  · exact absurd ⟨by rw [hd, h1.1, h2.1]; exact huv, z⟩ q
theorem bind_both {S C f : DV} (hc : chkF S C = 0) (hn : noClash C) {i j : Nat} (hi : i < C.len.toNat) (hj : j < C.len.toNat) (h1 : bindP S C f 0 i) (h2 : bindP S C f 1 j) : False := by
  have a := bind_half hc hi (by decide) h1 h2
  have b := bind_half hc hj (by decide) h2 h1
  have e1 := h1.1
  have e2 := h2.1
  by_cases c : i = j
  · rw [c] at e1; omega
  · by_cases d : i < j
    · exact hn i j d hj ⟨by omega, a, b⟩
    · exact hn j i (by omega) hi ⟨by omega, b, a⟩
section
variable {S : DV} {C f o : List (List DV)} {no hr g : Int} {x y : DV}
def moreC (C : List (List DV)) (no hr g : Int) (x y : DV) : DV := .sl none 0 (C ++ [[.n no, .n hr, .n g, x, y]])
theorem more_cell {i : Int} {j : Nat} (h0 : 0 ≤ i) (h : i < C.length) : (moreC C no hr g x y).cell i j = (DV.sl none 0 C).cell i j := cell_lt h0 h
theorem more_at {i : Int} {j : Nat} (h0 : 0 ≤ i) (h : i < C.length) : (moreC C no hr g x y).at i j = (DV.sl none 0 C).at i j := by unfold DV.at; rw [more_cell h0 h]
theorem more_fc {i : Int} (h0 : 0 ≤ i) (h : i < C.length) : fc (moreC C no hr g x y) i = fc (.sl none 0 C) i := by unfold fc; rw [more_cell h0 h]
theorem more_rc {i : Int} (h0 : 0 ≤ i) (h : i < C.length) : rc (moreC C no hr g x y) i = rc (.sl none 0 C) i := by unfold rc; rw [more_cell h0 h]
theorem last_at {i : Int} (h : i = C.length) (hno : 0 ≤ no ∧ no ≤ 1048576) (hhr : 0 ≤ hr ∧ hr ≤ 4096) (hg : 0 ≤ g ∧ g ≤ 1) : (moreC C no hr g x y).at i 0 = no ∧ (moreC C no hr g x y).at i 1 = hr ∧ (moreC C no hr g x y).at i 2 = g := by
  unfold DV.at moreC
  rw [cell_last h, cell_last h, cell_last h]
  exact ⟨clampB_id (x := no) (by omega), clampB_id (x := hr) (by omega), clampB_id (x := g) (by omega)⟩
theorem last_fc {i : Int} (h : i = C.length) : fc (moreC C no hr g x y) i = .sl none 0 x.els := by unfold fc moreC; rw [cell_last h]; rfl
theorem last_rc {i : Int} (h : i = C.length) : rc (moreC C no hr g x y) i = .sl none 0 y.els := by unfold rc moreC; rw [cell_last h]; rfl
/-- One case more, that may be: right cases still, and they clash exactly if it clashes with one of them. -/
theorem more_clash (hc : chkF S (.sl none 0 C) = 0) (hl : (DV.sl none 0 C).len = C.length) (h60 : C.length ≤ 60) (hn : noClash (.sl none 0 C)) (hno : 0 ≤ no ∧ no ≤ 1048576) (hhr : 0 ≤ hr ∧ hr ≤ 4096) (hg : 0 ≤ g ∧ g ≤ 1)
    (hx : x.els = f) (hy : y.els = o) (hd : decP S (.sl none 0 f) (.sl none 0 o) g) (hp : 0 < C.length → (DV.sl none 0 C).at ((C.length : Int) - 1) 0 < no ∧ (DV.sl none 0 C).at ((C.length : Int) - 1) 1 ≤ hr)
    {a b c e : Int} (k : [DV.n a, .n b, .n c, .n e] = ClashF S (moreC C no hr g x y)) {d : Int} (kd : (d = 0 ∧ ∃ i, i < (DV.sl none 0 C).len.toNat ∧ mayP (.sl none 0 C) (.sl none 0 f) (.sl none 0 o) g i) ∨ (d = 1 ∧ ∀ i, i < (DV.sl none 0 C).len.toNat → ¬ mayP (.sl none 0 C) (.sl none 0 f) (.sl none 0 o) g i)) :
    e = 0 ∧ ((c = 1 ∧ d = 0) ∨ (c = 0 ∧ d = 1)) := by
  obtain ⟨⟨hS, _⟩, hsd, hcs⟩ := chk_zero hc
  have lX : (moreC C no hr g x y).len = (C.length : Int) + 1 := by
    unfold moreC
    rw [len_of (n := 61) (by simp; omega) (by omega)]; simp
  obtain ⟨l0, l1, l2⟩ := last_at (C := C) (x := x) (y := y) (i := (C.length : Int)) rfl hno hhr hg
  have l3 := last_fc (C := C) (no := no) (hr := hr) (g := g) (x := x) (y := y) (i := (C.length : Int)) rfl
  have l4 := last_rc (C := C) (no := no) (hr := hr) (g := g) (x := x) (y := y) (i := (C.length : Int)) rfl
  rw [hx] at l3
  rw [hy] at l4
  have hX : chkF S (moreC C no hr g x y) = 0 := by
    have q := chk_fine (S := S) (C := moreC C no hr g x y) (by omega) ⟨hsd, fun i hi => ?_⟩
    · exact (n_inj q).symm
    · by_cases z : i < C.length
      · have w := hcs i (by omega)
        unfold caseP at w ⊢
        rw [more_at (by omega) (by omega), more_at (by omega) (by omega), more_at (by omega) (by omega), more_fc (by omega) (by omega), more_rc (by omega) (by omega)]
        refine ⟨w.1, fun v => ?_, w.2.2⟩
        rw [more_at (by omega) (by omega), more_at (by omega) (by omega)]
        exact w.2.1 v
      · obtain rfl : i = C.length := by omega
        unfold caseP
        rw [l0, l1, l2, l3, l4]
        refine ⟨⟨⟨hno, hhr⟩, hg⟩, fun v => ?_, hd⟩
        rw [more_at (by omega) (by omega), more_at (by omega) (by omega)]
        exact hp v
  obtain ⟨k1, k2⟩ := clash_val hX k
  have key : ∀ i : Nat, i < C.length → (clC (moreC C no hr g x y) i (C.length : Int) ↔ mayP (.sl none 0 C) (.sl none 0 f) (.sl none 0 o) g i) := fun i hi => by
    unfold clC mayP
    rw [more_at (by omega) (by omega), more_fc (by omega) (by omega), more_rc (by omega) (by omega), l2, l3, l4]
  refine ⟨k1, ?_⟩
  rcases k2 with ⟨c1, i, j, hij, hj, hcl⟩ | ⟨c0, hno'⟩
  · refine Or.inl ⟨c1, ?_⟩
    rcases kd with ⟨z, _⟩ | ⟨_, z⟩
    · exact z
    · exfalso
      by_cases q : j = C.length
      · rw [q] at hcl
        exact z i (by omega) ((key i (by omega)).1 hcl)
      · refine hn i j hij (by omega) ?_
        unfold clC at hcl ⊢
        rwa [more_at (by omega) (by omega), more_at (by omega) (by omega), more_fc (by omega) (by omega), more_rc (by omega) (by omega), more_fc (by omega) (by omega), more_rc (by omega) (by omega)] at hcl
  · refine Or.inr ⟨c0, ?_⟩
    rcases kd with ⟨_, i, hi, z⟩ | ⟨z, _⟩
    · exact absurd ((key i (by omega)).2 z) (hno' i C.length (by omega) (by omega))
    · exact z
end
end Go.Proofs.Ytpaphkpdnmalhaa
