/- DERIVED. Gauges: a gauge that came in. -/
import Derived.Test.YtmmoenbdlfmgeacSane
import Derived.ProofKit
import Derived.Deep.Slices
import Derived.Deep.SlicePairs
import Derived.Deep.Fields
namespace Go.Proofs.Ytmmoenbdlfmgeac
open Go.ChangeShapes Go.WideShapes Go.RowKit Go.Deep
set_option linter.unusedVariables false
set_option linter.unusedSimpArgs false
section
variable {H : Type} {enc : TypeId × Value → H} {P : Program} {w : World} {base : Nat} {spare : Nat → Bool} {held : Bool}
/-- One field of a struct of one-cell fields. -/
theorem fieldOf {t : TypeId} {fs : Array Field} {fuel : Nat} {cs : List Value} {x : DataW H × List MemPlace} (ht : P.underlying t = some (.struct fs)) (hone : oneCellFields P fs = true) (hC : P.cellsOf t = fs.size)
    (h : DataW.trod enc P w base spare held fuel t cs = some x) (j : Nat) (f : Field) (hj : fs[j]? = some f) :
    ∃ v y n, cs[j]? = some v ∧ DataW.trod enc P w base spare held n f.type [v] = some y := by
  obtain ⟨xs, n, _, _, hl, hxl, hg⟩ := DataW.trod_struct ht h
  obtain ⟨ho, hc⟩ := hone_of hone j f hj
  have hlt : j < fs.size := (Array.getElem?_eq_some_iff.1 hj).1
  have h1 := hg j f hj
  rw [ho, hc] at h1
  have hcs : j < cs.length := by omega
  have hx : j < xs.length := by omega
  have e : (cs.drop j).take 1 = [cs[j]] := by rw [List.drop_eq_getElem_cons hcs]; rfl
  rw [e, List.getElem?_eq_getElem hx] at h1
  exact ⟨_, _, n, List.getElem?_eq_getElem hcs, h1⟩
theorem intOf_field {t : TypeId} {k : IntKind} {n : Nat} {v : Value} {y : DataW H × List MemPlace} (ht : P.underlying t = some (.int k)) (h : DataW.trod enc P w base spare held n t [v] = some y) : ∃ i, v = .int k i ∧ (Lit.int k i).wf = true := by
  obtain ⟨i, hi, _, hw⟩ := DataW.trod_int ht h
  exact ⟨i, by simpa using hi, hw⟩
end
/-- Values for all indexes below n, as a list. -/
theorem collect {α : Type} (d : α) {R : Nat → α → Prop} : ∀ (n : Nat), (∀ i, i < n → ∃ q, R i q) → ∃ l : List α, l.length = n ∧ ∀ i, i < n → R i (l[i]?.getD d)
  | 0, _ => ⟨[], rfl, fun i hi => by omega⟩
  | n + 1, h => by
    obtain ⟨l, hl, hc⟩ := collect d n (fun i hi => h i (by omega))
    obtain ⟨q, hq⟩ := h n (by omega)
    refine ⟨l ++ [q], by simp [hl], fun i hi => ?_⟩
    by_cases e : i = n
    · subst e; rw [List.getElem?_append_right (by omega), hl]; simpa using hq
    · rw [List.getElem?_append_left (by omega)]; exact hc i (by omega)
theorem cells39 : Try.prog.cellsOf 34 = 2 := by kernel_rfl
theorem cells3 : Try.prog.cellsOf 3 = 1 := by kernel_rfl
theorem open_ptsl {H : Type} {enc : TypeId × Value → H} {W : World} {fuel : Nat} {v : Value} {y : DataW H × List MemPlace}
    (h : DataW.trod enc Try.prog W 0 (fun _ => true) true fuel 22 [v] = some y) : ∃ pts, PtSl W v pts := by
  rcases open_slice_pairs Try.underlying22 Try.underlying34 cells39 rfl rfl cells3 cells3 h with ⟨hcs, hx⟩ | ⟨a, len, cap, m, n, V0, V1, D0, D1, P0, P1, hcs, _, hl, hm, hmm, hx, hcell⟩
  · obtain rfl : v = .slice none 0 0 := by simpa using hcs
    exact ⟨[], _, _, rfl, fun h => absurd rfl h⟩
  · obtain rfl : v = .slice (some a) len cap := by simpa using hcs
    simp only [if_true] at hmm
    have hp : ∀ i, i < len → ∃ q : Int × Int, W.cell? (a.add (i * 2)) = some (.int .i64 q.1) ∧ W.cell? (a.add (i * 2 + 1)) = some (.int .i64 q.2) := fun i hi => by
      obtain ⟨h0, h1, h2, h3⟩ := hcell i (by omega)
      obtain ⟨q0, e0, _⟩ := intOf_field Try.underlying3 h2
      obtain ⟨q1, e1, _⟩ := intOf_field Try.underlying3 h3
      exact ⟨(q0, q1), by rw [h0, e0], by rw [h1, e1]⟩
    have hl' := collect (0, 0) len hp
    obtain ⟨pts, rfl, hpc⟩ := hl'
    refine ⟨pts, some a, cap, rfl, fun hne => ?_⟩
    have hpos : 0 < pts.length := List.length_pos_iff.2 hne
    obtain ⟨b, off, spot⟩ := a
    have hspot : spot = none := by simpa [Addr.add] using World.cell?_spot (hpc 0 hpos).1
    subst hspot
    refine ⟨b, off, rfl, by simpa [Addr.add] using World.block_lt_of_cell? W _ (hpc 0 hpos).1, fun j hj => ?_⟩
    have e : ∀ i, Addr.add ⟨b, off, none⟩ i = ⟨b, off + i, none⟩ := fun i => by unfold Addr.add; split <;> simp_all
    have := hpc j hj
    rwa [e, e, ← Nat.add_assoc] at this
theorem open_gauge {H : Type} {enc : TypeId × Value → H} {W : World} {r : Reach} {base : Nat} {v : Value} {d : DataW H} {p : List MemPlace}
    (hv : Value.okWide Try.prog W r base 24 v) (h : DataW.Trod enc Try.prog W 0 (fun _ => true) true 24 v d p) :
    ∃ (no rc cl dr si : Int) (t : Value) (pts : List (Int × Int)), v = gv no rc cl dr si t ∧ PtSl W t pts := by
  obtain ⟨cs, rfl, hsz⟩ := okWide_struct Try.underlying24 hv
  obtain ⟨fuel, hf⟩ := h
  obtain ⟨l⟩ := cs
  have hsz' : l.length = 6 := by rw [← show Try.prog.cellsOf 24 = 6 from by kernel_rfl]; simpa using hsz
  have F := fun j f hj => fieldOf Try.underlying24 (by kernel_rfl) (by kernel_rfl) hf j f hj
  match l, hsz' with
  | [c0, c1, c2, c3, c4, c5], _ =>
    obtain ⟨v0, y0, n0, e0, t0⟩ := F 0 _ rfl
    obtain ⟨v1, y1, n1, e1, t1⟩ := F 1 _ rfl
    obtain ⟨v2, y2, n2, e2, t2⟩ := F 2 _ rfl
    obtain ⟨v3, y3, n3, e3, t3⟩ := F 3 _ rfl
    obtain ⟨v4, y4, n4, e4, t4⟩ := F 4 _ rfl
    obtain ⟨v5, y5, n5, e5, t5⟩ := F 5 _ rfl
    simp only [Value.cells, List.getElem?_cons_zero, List.getElem?_cons_succ, Option.some.injEq] at e0 e1 e2 e3 e4 e5
    subst e0 e1 e2 e3 e4 e5
    obtain ⟨i0, rfl, _⟩ := intOf_field Try.underlying3 t0
    obtain ⟨i1, rfl, _⟩ := intOf_field Try.underlying3 t1
    obtain ⟨i2, rfl, _⟩ := intOf_field Try.underlying3 t2
    obtain ⟨i3, rfl, _⟩ := intOf_field Try.underlying3 t3
    obtain ⟨i4, rfl, _⟩ := intOf_field Try.underlying3 t4
    obtain ⟨pts, hp⟩ := open_ptsl t5
    exact ⟨i0, i1, i2, i3, i4, _, pts, rfl, hp⟩
theorem ends_read (pts : List (Int × Int)) (hT : Tab pts) (st of : Int) (hst : 0 ≤ st ∧ st ≤ 1048576) (hof : 0 ≤ of) : rLo pts st [end0 st of, end1 st of] = lo pts (end0 st of) ∧ rHi pts st [end0 st of, end1 st of] = hi pts (end1 st of) := by
  cases pts with
  | nil => exact absurd rfl hT.ne
  | cons a r =>
    have e0 : end0 st of ≤ st := by unfold end0; omega
    have e1 : st ≤ end1 st of := by unfold end1; omega
    have h0 := lo_mono a r hT.srt _ _ e0
    have h1 := lo_mono a r hT.srt _ _ e1
    simp only [rLo, rHi, List.foldl]
    omega

theorem read_one (no rc cl dr si st hour : Int) (t : Value) (pts : List (Int × Int)) : ∃ a b c : Int,
    (∀ w, PtSl w t pts → Calls Try.prog 5 #[gv no rc cl dr si t, .int .i64 st, .int .i64 hour] w fun e w' => e = .returned (.tuple #[.agg #[.int .i64 a, .int .i64 b], .int .i64 c]) ∧ Below w.heap.size w w') ∧
    (c = 0 → chk no rc cl dr si pts = 0 ∧ 0 ≤ st ∧ st ≤ 1048576 ∧ 0 ≤ hour ∧ hour ≤ 4096 ∧ a = lo pts (end0 st (offV cl dr si hour)) ∧ b = hi pts (end1 st (offV cl dr si hour))) ∧
    (chk no rc cl dr si pts = 0 → inB st 1048576 = true → inB hour 4096 = true → c = 0) := by
  by_cases hc : chk no rc cl dr si pts = 0
  · cases hst : inB st 1048576 with
    | true =>
      cases hho : inB hour 4096 with
      | true =>
        have hTt := chk_tab hc
        have ho := (offV_bd (cl := cl) (dr := dr) (si := si) (hour := hour) ⟨hTt.2.1, hTt.2.2.1⟩ ⟨hTt.2.2.2.1, hTt.2.2.2.2.1⟩ hTt.2.2.2.2.2.1 (inB_t hho).2).1
        have he := ends_read pts hTt.1 st (offV cl dr si hour) (inB_t hst) (by have := hTt.2.1; unfold offV; omega)
        refine ⟨_, _, _, fun w hs => ?_, fun _ => ⟨hc, (inB_t hst).1, (inB_t hst).2, (inB_t hho).1, (inB_t hho).2, rfl, rfl⟩, fun _ _ _ => rfl⟩
        have := Read_ok no rc cl dr si st hour t pts hc hst hho w hs
        rwa [he.1, he.2] at this
      | false => exact ⟨_, _, _, fun w hs => Read_arg2 no rc cl dr si st hour t pts hc hst hho w hs, fun h => (by cases h), fun _ _ h => (by cases h)⟩
    | false => exact ⟨_, _, _, fun w hs => Read_arg1 no rc cl dr si st hour t pts hc hst w hs, fun h => (by cases h), fun _ h => (by cases h)⟩
  · exact ⟨_, _, _, fun w hs => Read_bad no rc cl dr si st hour t pts hc w hs, fun h => absurd h hc, fun h => absurd h hc⟩
end Go.Proofs.Ytmmoenbdlfmgeac
