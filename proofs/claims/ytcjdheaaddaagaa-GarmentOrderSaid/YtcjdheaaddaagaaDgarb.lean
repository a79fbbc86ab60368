/- DERIVED. The last litre of an estate, and who has one before it. -/
import Derived.Test.YtcjdheaaddaagaaDgar
namespace Go.Proofs.Ytcjdheaaddaagaa
open Go.Dx
set_option linter.unusedVariables false
set_option linter.unusedSimpArgs false
theorem firstN_at {p : Nat → Bool} {t : Nat} (h : p t = true) (k : ∀ j, j < t → p j = false) : ∀ n, t < n → firstN p n = t
  | 0, q => by omega
  | n + 1, q => by
    have low : ∀ m, m ≤ t → firstN p m = m := fun m => by
      induction m with
      | zero => intro _; rfl
      | succ m ih =>
        intro hm
        simp only [firstN]
        rw [ih (by omega), k m (by omega)]
        simp
    by_cases e : n = t
    · subst e
      simp only [firstN]
      rw [low n (Nat.le_refl _), h]
      simp
    · have ih := firstN_at h k n (by omega)
      simp only [firstN]
      rw [ih]
      rw [decide_eq_true (show t < n by omega)]
theorem firstN_none {p : Nat → Bool} : ∀ n, (∀ j, j < n → p j = false) → firstN p n = n
  | 0, _ => rfl
  | n + 1, k => by
    simp only [firstN]
    rw [firstN_none n fun j hj => k j (by omega), k n (by omega)]
    simp
theorem prD_gi (c : Nat → Int) (i : Nat) : (gi (prD c i) 0).toNat = i ∧ gi (prD c i) 0 = i ∧ gi (prD c i) 1 = c i := by
  simp [prD, gi, DV.int]
def RI (b : Bool) (c : Nat → Int) (i j : Nat) : Prop := ahF b (c i) i (c j) j
instance decRI (b : Bool) (c : Nat → Int) : DecidableRel (RI b c) := fun i j => by unfold RI; infer_instance
structure LastP (est : Int) (c : Nat → Int) (n : Nat) (b : Bool) (l : Int) (T : List (List DV)) (t : Nat) : Prop where
  isl : IsL b est c n l
  tn : t < n
  has : hasF b l (c t)
  pl : plF b l c n t = est
  thg : thG est c n b l = ⟨b, l, c t, t⟩
  len : T.length = (est - toF b (prv b l) c n).toNat
  last : T[T.length - 1]? = some (prD c t)
  pos : 1 ≤ T.length
  mem : ∀ e ∈ T, ∃ j, j < n ∧ e = prD c j
  cnt : ∀ i, i < n → cntL T i = if hasF b l (c i) ∧ ahF b (c i) i (c t) t then 1 else 0
theorem LineP.last {est : Int} {c : Nat → Int} {n : Nat} {b : Bool} {l : Int} {T : List (List DV)} (he : Est est c n) (h : LineP est c n b l T) : ∃ t, LastP est c n b l T t := by
  obtain ⟨hb, hl, S, hp, hs, hT⟩ := h
  have il : IsL b est c n l := by rw [hl, hb]; exact lvF_isL he
  have hstep := toF_step (b := b) he.cl il.l1
  have hup := il.up
  have hdn := il.dn
  obtain ⟨q, hq⟩ : ∃ q : Nat, (est - toF b (prv b l) c n).toNat = q + 1 := ⟨(est - toF b (prv b l) c n).toNat - 1, by omega⟩
  rw [hq] at hT
  -- indices
  obtain ⟨S', hS'⟩ : ∃ S', S' = S.map fun e => (gi e 0).toNat := ⟨_, rfl⟩
  have hf : ∀ e ∈ S, prD c (gi e 0).toNat = e := fun e he => by
    obtain ⟨i, _, rfl⟩ := List.mem_map.1 (hp.mem_iff.1 he)
    rw [(prD_gi c i).1]
  have hSS : S = S'.map (prD c) := by
    rw [hS', List.map_map]
    conv => lhs; rw [← List.map_id S]
    exact (List.map_congr_left fun e he => by simpa using hf e he).symm
  have hperm : S'.Perm (hasI b l c n) := by
    have := hp.map fun e => (gi e 0).toNat
    rw [← hS', List.map_map] at this
    have e : (hasI b l c n).map ((fun e => (gi e 0).toNat) ∘ prD c) = hasI b l c n := by
      conv => rhs; rw [← List.map_id (hasI b l c n)]
      exact List.map_congr_left fun i _ => (prD_gi c i).1
    rwa [e] at this
  have hnd : S'.Nodup := hperm.nodup_iff.2 (List.Nodup.sublist List.filter_sublist List.nodup_range)
  have hR : S'.Pairwise (RI b c) := by
    rw [hSS, List.pairwise_map] at hs
    refine hs.imp fun {i j} h => ?_
    have h : leP b (prD c i) (prD c j) := h
    unfold leP at h
    rw [(prD_gi c i).2.1, (prD_gi c i).2.2, (prD_gi c j).2.1, (prD_gi c j).2.2] at h
    exact h
  have hstr : S'.Pairwise fun i j => RI b c i j ∧ ¬ RI b c j i := by
    refine List.Pairwise.imp₂ (R := RI b c) (S := fun i j => i ≠ j) (fun i j h k => ⟨h, fun m => k ?_⟩) hR hnd
    have := (ah_anti h m).2
    omega
  have hlen : S'.length = (hasI b l c n).length := hperm.length_eq
  have hql : q < S'.length := by omega
  obtain ⟨t, ht⟩ : ∃ t, S'[q]? = some t := ⟨_, List.getElem?_eq_getElem hql⟩
  have refl : ∀ i, RI b c i i := fun i => ah_refl b _ _
  have htm : t ∈ hasI b l c n := hperm.mem_iff.1 (List.mem_of_getElem? ht)
  obtain ⟨htn, hth⟩ := hasI_mem.1 htm
  have rank : ∀ p i, S'[p]? = some i → cntF b l c n (c i) i = (p + 1 : Nat) := fun p i hi => by
    have := rank_aux (R := RI b c) refl S' hstr p i hi
    rw [(hperm.filter _).length_eq] at this
    rw [← this, hasI_len (fun y => RI b c y i)]
    rfl
  have hpl : plF b l c n t = est := by
    unfold plF
    rw [rank q t ht]; omega
  have uniq : ∀ i, i < n → hasF b l (c i) → plF b l c n i = est → i = t := fun i hi hh hpi => by
    obtain ⟨p, hp'⟩ := List.mem_iff_getElem?.1 (hperm.mem_iff.2 (hasI_mem.2 ⟨hi, hh⟩))
    unfold plF at hpi
    rw [rank p i hp'] at hpi
    have : p = q := by omega
    subst this
    rw [ht] at hp'; cases hp'; rfl
  have hTT : T = (S'.take (q + 1)).map (prD c) := by rw [hT, hSS, List.map_take]
  have hTl : T.length = q + 1 := by rw [hTT, List.length_map, List.length_take]; omega
  refine ⟨t, il, htn, hth, hpl, ?_, by rw [hTl, hq], ?_, by omega, ?_, ?_⟩
  · have hp1 : thP est c n b l t = true := by unfold thP; simpa using ⟨hth, hpl⟩
    have hp2 : ∀ j, j < t → thP est c n b l j = false := fun j hj => by
      unfold thP
      simp only [decide_eq_false_iff_not]
      intro ⟨h1, h2⟩
      have := uniq j (by omega) h1 h2
      omega
    unfold thG
    rw [firstN_at hp1 hp2 n htn, if_pos htn]
  · rw [hTl, hTT, List.getElem?_map, List.getElem?_take, if_pos (by omega)]
    simp only [Nat.add_sub_cancel]
    rw [ht]; rfl
  · intro e he
    rw [hTT] at he
    obtain ⟨j, hj, rfl⟩ := List.mem_map.1 he
    exact ⟨j, (hasI_mem.1 (hperm.mem_iff.1 (List.mem_of_mem_take hj))).1, rfl⟩
  · intro i hi
    have e1 : cntL T i = (((S'.take (q + 1)).filter fun j => decide (j = i)).length : Int) := by
      unfold cntL
      rw [hTT, List.filter_map, List.length_map]
      congr 2
      refine List.filter_congr fun j _ => ?_
      simp only [Function.comp, (prD_gi c j).2.1]
      congr 1
      exact propext ⟨fun h => by omega, fun h => by omega⟩
    rw [e1]
    have hnd2 : (S'.take (q + 1)).Nodup := hnd.sublist (List.take_sublist _ _)
    have e2 : ((S'.take (q + 1)).filter fun j => decide (j = i)).length = if i ∈ S'.take (q + 1) then 1 else 0 := by
      have := hnd2.count (a := i)
      rw [List.count_eq_length_filter] at this
      rw [← this]
      congr 1
    rw [e2]
    have e3 : i ∈ S'.take (q + 1) ↔ hasF b l (c i) ∧ ahF b (c i) i (c t) t := by
      constructor
      · intro h
        have hm := List.mem_of_mem_take h
        exact ⟨(hasI_mem.1 (hperm.mem_iff.1 hm)).2, (take_iff refl hstr ht hm).1 h⟩
      · intro ⟨h1, h2⟩
        exact (take_iff refl hstr ht (hperm.mem_iff.2 (hasI_mem.2 ⟨hi, h1⟩))).2 h2
    by_cases h : i ∈ S'.take (q + 1)
    · rw [if_pos h, if_pos (e3.1 h)]; rfl
    · rw [if_neg h, if_neg fun k => h (e3.2 k)]; rfl
end Go.Proofs.Ytcjdheaaddaagaa
