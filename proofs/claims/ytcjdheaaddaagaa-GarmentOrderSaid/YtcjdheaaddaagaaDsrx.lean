/- DERIVED. slices.SortFunc of an own slice: a contract that turns it in place. -/
import Derived.Test.YtcjdheaaddaagaaDlnm
import Derived.Shelf.SlSortCmp.NoneTotal
namespace Go.Proofs.Ytcjdheaaddaagaa
open Go.Dx
set_option linter.unusedVariables false
set_option linter.unusedSimpArgs false
theorem flat_k {enc : List DV → List Value} {k : Nat} (hk : ∀ e, (enc e).length = k) (h0 : 0 < k) (els : List (List DV)) : (Go.Sort.flatK enc k els.toArray).toList = els.flatMap enc := by
  have hlen : (els.flatMap enc).length = els.length * k := by
    induction els with
    | nil => simp
    | cons e l ih => rw [List.flatMap_cons, List.length_append, hk, ih, List.length_cons, Nat.add_mul]; omega
  apply List.ext_getElem
  · rw [hlen]; simp
  intro t h1 h2
  have ht : t < els.length * k := by rw [hlen] at h2; exact h2
  have hg : ∀ (l : List (List DV)) (t : Nat) (h : t < (l.flatMap enc).length), (l.flatMap enc)[t] = (enc (l.getD (t / k) []))[t % k]! := by
    intro l
    induction l with
    | nil => intro t h; simp at h
    | cons e l ih =>
      intro t h
      simp only [List.flatMap_cons] at h ⊢
      by_cases htk : t < k
      · rw [List.getElem_append_left (by rw [hk]; exact htk), Nat.div_eq_of_lt htk, Nat.mod_eq_of_lt htk]
        simp [hk, htk]
      · rw [List.getElem_append_right (by rw [hk]; omega)]
        have e1 : t / k = (t - k) / k + 1 := by
          rw [show t = (t - k) + k by omega, Nat.add_div_right _ h0]; simp
        have e2 : t % k = (t - k) % k := by
          conv => lhs; rw [show t = (t - k) + k by omega]
          rw [Nat.add_mod_right]
        rw [e1, e2]
        simp only [hk, List.getD_cons_succ]
        exact ih (t - k) _
  rw [hg els t h2]
  have hi : t / k < els.length := by
    apply Nat.div_lt_of_lt_mul; rw [Nat.mul_comm]; exact ht
  have := Go.Sort.get_flatK enc k els.toArray t (by simpa using ht)
  rw [getElem!_pos _ t (by simpa using ht)] at this
  rw [Array.getElem_toList, this]
  congr 2
  simp [hi]
theorem holds_k {enc : List DV → List Value} {k : Nat} (hk : ∀ e, (enc e).length = k) (h0 : 0 < k) {w : World} {g : Nat} {cur : Array Value} {e : TypeId} {els : List (List DV)} (hb : w.heap[g]? = some (.cells cur e (0, 0))) (ht : cur.toList.take (els.length * k) = els.flatMap enc) : Go.Sort.HoldsK enc k w g 0 els.toArray := by
  intro j hj
  have hj' : j < els.length * k := by simpa using hj
  refine ⟨?_, by simp [World.frozen?, hb]⟩
  have h1 : (cur.toList.take (els.length * k))[j]? = (els.flatMap enc)[j]? := by rw [ht]
  rw [List.getElem?_take_of_lt hj', ← flat_k hk h0] at h1
  simp only [World.cell?, hb, Nat.zero_add]
  simp only [Option.isSome_none, Bool.false_eq_true, if_false]
  rw [← Array.getElem?_toList, h1]
  simp [hj']
theorem heap_k {k : Nat} {enc : List DV → List Value} {w : World} {g n : Nat} {os : Array Obj} {cur : Array Value} {e : TypeId} {fr : Nat × Nat} (d : Array (List DV)) (hb : w.heap[g]? = some (.cells cur e fr)) :
    (sortWorldK enc k w g 0 n d os).heap[g]? = some (.cells (Go.Sort.putCells id 0 (Go.Sort.flatK enc k d) cur) e fr) := by
  have hg : g < w.heap.size := (Array.getElem?_eq_some_iff.1 hb).1
  unfold sortWorldK Go.Sort.putRowK
  rw [Go.Sort.heap_grow_old _ _ (by simpa using hg)]
  simp [Go.Sort.putRow, Go.Sort.mapBlock, Go.Sort.ahead, Array.getElem?_modify, hb, Go.Sort.onCells]
theorem grown_k {k : Nat} {enc : List DV → List Value} {w : World} {g n : Nat} {os : Array Obj} (d : Array (List DV)) : w.grownBy (sortWorldK enc k w g 0 n d os) (some g) := by
  refine ⟨rfl, rfl, rfl, by unfold sortWorldK Go.Sort.putRowK; simp, fun j hj hne => ?_⟩
  unfold sortWorldK Go.Sort.putRowK
  rw [Go.Sort.heap_grow_old _ _ (by simpa using hj)]
  have : g ≠ j := fun e => hne (by rw [e])
  simp [Go.Sort.putRow, Go.Sort.mapBlock, Go.Sort.ahead, Array.getElem?_modify, this]
theorem take_k {k : Nat} {enc : List DV → List Value} (hk : ∀ e, (enc e).length = k) (h0 : 0 < k) (cur : Array Value) (d : Array (List DV)) (h : d.size * k ≤ cur.size) : (Go.Sort.putCells id 0 (Go.Sort.flatK enc k d) cur).toList.take (d.size * k) = d.toList.flatMap enc := by
  rw [← flat_k hk h0]
  apply List.ext_getElem?
  intro j
  by_cases hj : j < d.size * k
  · rw [List.getElem?_take_of_lt hj, Array.getElem?_toList]
    simp [Go.Sort.putCells, hj, show j < cur.size by omega]
  · rw [List.getElem?_take_eq_none (by omega), List.getElem?_eq_none (by simp; omega)]
theorem sort_in {P : Program} {ρ : Go.Shelf.Ren} (L : SlLaysF0.n6 P ρ) {tb : Tb} {N : Nat} {w0 : World} {c : Con} {q : Inp} {g : Nat} (cf : List DV → List DV → Int) (enc : List DV → List Value) (hc : c.f = ρ.f 6) (hg : q.g = some g) (h0 : 0 < q.row.length)
    (aE : ∀ w, (isAgg (ρ.t 24)).run P w = .ok true w) (zE : ∀ w, (Go.sizeOf (ρ.t 24)).run P w = .ok q.row.length w) (hk : ∀ e, (enc e).length = q.row.length) (h1 : ∀ e, ∀ v ∈ enc e, v.oneCell' = true) (he : ∀ e, HasShs q.row e → rowV q.row e = enc e)
    (hO : Go.Sort.SWO (ltOf cf)) (eg : ∀ args w, (callFunc g args).run P w = .ok (.enter g args) w)
    (hcmp : ∀ x y W, Calls P g #[.agg (enc x).toArray, .agg (enc y).toArray] W fun e w' => e = .returned (.int .i64 (cf x y)) ∧ ∃ n os', w' = Go.Sort.grow (W.drewN n) os')
    (hres : resB c.res = [.d (.sl q.mx q.row)]) (hmx : q.mx < 4611686018427387904)
    (hpost : ∀ x ys, ys.Perm x.els → ys.Pairwise (fun a b => ltOf cf b a = false) → c.post [x] [.sl none 0 ys]) : ConIn P tb N w0 c q := by
  intro x v w M ety hx hown hpre hb hglb
  obtain ⟨hsh, _⟩ := hx
  have hsh2 := hsh
  simp only [HasSh] at hsh2
  have hflat : ∀ ys : List (List DV), (∀ e ∈ ys, HasShs q.row e) → flatV q.row ys = ys.flatMap enc := fun ys hy => by
    unfold flatV
    induction ys with
    | nil => rfl
    | cons e l ih => rw [List.flatMap_cons, List.flatMap_cons, he e (hy e (by simp)), ih fun e' h' => hy e' (by simp [h'])]
  have hyok : ∀ ys : List (List DV), ys.Perm x.els → VD.ok (.d (.sl q.mx q.row)) (.sl none 0 ys) := fun ys hp => by
    refine ⟨?_, ⟨ys, rfl⟩⟩
    simp only [HasSh, DV.els]
    exact ⟨by rw [hp.length_eq]; exact hsh2.1, fun e h => hsh2.2 e (hp.mem_iff.1 h)⟩
  have hin : ∀ ys : List (List DV), ys.Perm x.els → inB [.sl none 0 ys] (resB c.res) := fun ys hp => by
    rw [hres]; simp only [inB]; exact ⟨hyok ys hp, trivial⟩
  have hmore : (v :: q.more).toArray = #[v, .func (.func g) #[] #[]] := by unfold Inp.more; rw [hg]; rfl
  rw [hmore, hc]
  by_cases hz : x.els.length = 0
  · have hv : ∃ p cap, v = .slice p 0 cap := by
      rcases hown.2 with ⟨h, _⟩ | ⟨b, cap, cur, h, _⟩
      · exact ⟨_, _, h⟩
      · rw [hz] at h; exact ⟨_, _, h⟩
    obtain ⟨p, cap, rfl⟩ := hv
    have hnil : x.els = [] := List.length_eq_zero_iff.1 hz
    refine (AnyF.slices_SortFunc_none L p cap (.func (.func g) #[] #[]) w).mono ?_
    rintro e w' ⟨rfl, rfl⟩
    refine ⟨rfl, .sl none 0 [], hyok [] (by rw [hnil]), hin [] (by rw [hnil]), hpost x [] (by rw [hnil]) (by simp), hz.symm, ?_, Go.RowKit.Below.refl _ _, fun _ _ _ => rfl⟩
    rw [hnil] at hown ⊢
    exact hown
  · rcases hown.2 with ⟨_, h⟩ | ⟨b, cap, cur, rfl, hMb, hcell, hcap, hmax, hsz, htk⟩
    · exact absurd h hz
    have hfl := hflat x.els hsh2.2
    rw [hfl] at htk
    have hH := holds_k hk h0 hcell htk
    have hblk : b < w.heap.size := (Array.getElem?_eq_some_iff.1 hcell).1
    have hl : CmpLays P g #[] enc q.row.length cf b 0 x.els.toArray.size w := fun m os dk hdk a b' => hcmp a b' _
    have hcon := AnyQ.slices_SortFunc L q.row.length aE zE enc hk h1 cf hO g #[] b 0 cap x.els.toArray w eg hl hH hblk (by simpa using Nat.lt_of_le_of_lt hsh2.1 hmx)
    simp only [List.size_toArray] at hcon
    refine hcon.mono ?_
    rintro e w' ⟨rfl, d', n, os, ⟨hs, _, hp⟩, hsort, rfl⟩
    have hs' : d'.size = x.els.length := by simpa using hs
    have hp' : d'.toList.Perm x.els := by
      have h2 : d'.extract 0 x.els.length = d' := by rw [← hs']; simp
      rw [h2] at hp
      have h3 : x.els.toArray.extract 0 x.els.length = x.els.toArray := by simp
      rw [h3] at hp
      exact hp
    have hgr := grown_k (k := q.row.length) (enc := enc) (w := w) (g := b) (n := n) (os := os) d'
    refine ⟨rfl, .sl none 0 d'.toList, hyok _ hp', hin _ hp', hpost x _ hp' ?_, by show d'.toList.length = _; simpa using hs', ?_, ?_, ?_⟩
    · rw [List.pairwise_iff_getElem]
      intro i j hi hj hij
      have := hsort i j (Nat.zero_le _) hij (by simpa [hs'] using hj)
      rw [getElem!_pos d' j (by simpa using hj), getElem!_pos d' i (by simpa using hi)] at this
      simpa using this
    · show World.ownsRow _ M ety _ _ _ (flatV q.row d'.toList)
      rw [hflat d'.toList fun e h => hsh2.2 e (hp'.mem_iff.1 h)]
      refine ⟨?_, .inr ⟨b, cap, _, rfl, hMb, heap_k d' hcell, hcap, hmax, by simp [Go.Sort.putCells, hsz], ?_⟩⟩
      · rw [← flat_k hk h0]; simp [hs']
      · rw [← hs']; exact take_k hk h0 cur d' (by rw [hs', hsz]; exact Nat.mul_le_mul_right _ hcap)
    · exact Go.RowKit.Below.grown (Go.RowKit.Below.refl 0 w) hgr (Nat.zero_le _) (fun _ _ => Nat.zero_le _)
    · intro j hj hne
      exact hgr.block j hj fun e => hne (by simpa [Value.ownBlock] using e.symm)
#print axioms sort_in
end Go.Proofs.Ytcjdheaaddaagaa
