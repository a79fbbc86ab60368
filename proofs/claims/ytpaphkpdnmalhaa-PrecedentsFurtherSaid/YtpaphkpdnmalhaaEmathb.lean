/- DERIVED. Parts of sets, the factors that favour a side; who is bound, and who may win. -/
import Derived.Test.YtpaphkpdnmalhaaEcte
import Derived.Test.YtpaphkpdnmalhaaEconc
namespace Go.Proofs.Ytpaphkpdnmalhaa
open Go.Dx
set_option linter.unusedVariables false
theorem cell_lt {l r : List (List DV)} {i : Int} {j : Nat} (h0 : 0 ≤ i) (h : i < l.length) : (DV.sl none 0 (l ++ r)).cell i j = (DV.sl none 0 l).cell i j := by
  have e : (l ++ r).getD i.toNat [] = l.getD i.toNat [] := by
    simp only [List.getD_eq_getElem?_getD]
    rw [List.getElem?_append_left (by omega)]
  show ((l ++ r).getD i.toNat []).getD j _ = (l.getD i.toNat []).getD j _
  rw [e]
theorem cell_last {l : List (List DV)} {x : List DV} {i : Int} {j : Nat} (h : i = l.length) : (DV.sl none 0 (l ++ [x])).cell i j = x.getD j (.n 0) := by
  have e : (l ++ [x]).getD i.toNat [] = x := by
    simp only [List.getD_eq_getElem?_getD]
    rw [show i.toNat = l.length by omega]
    simp
  show ((l ++ [x]).getD i.toNat []).getD j _ = _
  rw [e]
theorem el_lt {l r : List (List DV)} {i : Nat} (h : i < l.length) : el (.sl none 0 (l ++ r)) i = el (.sl none 0 l) i := by
  show ((DV.sl none 0 (l ++ r)).cell i 0).cint = _
  rw [cell_lt (by omega) (by omega)]
  rfl
theorem clampB_id {x : Int} (h : -9223372036854775808 ≤ x ∧ x ≤ 18446744073709551615) : clampB x = x := by unfold clampB; rw [if_pos h]
theorem el_last {l : List (List DV)} {x : Int} {i : Nat} (h : i = l.length) (hx : -9223372036854775808 ≤ x ∧ x ≤ 18446744073709551615) : el (.sl none 0 (l ++ [[.n x]])) i = x := by
  show ((DV.sl none 0 (l ++ [[.n x]])).cell i 0).cint = _
  rw [cell_last (by omega)]
  exact clampB_id hx
theorem el_rng (L : DV) (i : Nat) : -9223372036854775808 ≤ el L i ∧ el L i ≤ 18446744073709551615 := clampB_rng _
theorem len_of {l : List (List DV)} {n : Nat} (h : l.length ≤ n) (k : (n : Int) ≤ 9223372036854775807) : (DV.sl none 0 l).len = l.length := clampL_eq (show l.length ≤ 9223372036854775807 by omega)
theorem set_mono {F : Int} {L : DV} {n : Nat} (h : setP F L n) {a : Nat} : ∀ {b : Nat}, a < b → b < n → el L a < el L b
  | 0, q, _ => absurd q (Nat.not_lt_zero a)
  | b + 1, q, k => by
    have h1 := (h (b + 1) k).2 (by omega)
    have h1 : el L b < el L (b + 1) := h1
    by_cases c : a = b
    · rw [c]; exact h1
    · have := set_mono h (a := a) (b := b) (by omega) (by omega)
      omega
/-- A part grows by the next element. -/
theorem part_nil (L : DV) : partP L (.sl none 0 []) 0 := ⟨Int.le_refl _, fun m h => absurd h (Nat.not_lt_zero m), fun m h => absurd h (Nat.not_lt_zero m)⟩
theorem part_skip {L o : DV} {n : Nat} (h : partP L o n) : partP L o (n + 1) := ⟨by have := h.1; omega, fun m hm => by obtain ⟨k, a, b⟩ := h.2.1 m hm; exact ⟨k, by omega, b⟩, h.2.2⟩
theorem part_add {F : Int} {L : DV} {o : List (List DV)} {n : Nat} (hL : setP F L L.len.toNat) (hn : n < L.len.toNat) (ho : o.length ≤ n) (h : partP L (.sl none 0 o) n) : partP L (.sl none 0 (o ++ [[.n (el L n)]])) (n + 1) := by
  have lL := (L.len_rng).2
  have l1 : (DV.sl none 0 o).len = o.length := len_of ho (by omega)
  have l2 : (DV.sl none 0 (o ++ [[.n (el L n)]])).len = o.length + 1 := by
    rw [len_of (n := n + 1) (by simp; omega) (by omega)]; simp
  have e1 : (DV.sl none 0 o).len.toNat = o.length := by omega
  have e2 : (DV.sl none 0 (o ++ [[.n (el L n)]])).len.toNat = o.length + 1 := by omega
  obtain ⟨_, h2, h3⟩ := h
  rw [e1] at h2 h3
  refine ⟨by rw [l2]; omega, ?_, ?_⟩
  · rw [e2]
    intro m hm
    by_cases c : m < o.length
    · obtain ⟨k, a, b⟩ := h2 m c
      exact ⟨k, by omega, by rw [el_lt c]; exact b⟩
    · exact ⟨n, by omega, by rw [el_last (by omega) (el_rng L n)]⟩
  · rw [e2]
    intro m hm h0
    by_cases c : m < o.length
    · rw [el_lt c, el_lt (by omega)]
      exact h3 m c h0
    · rw [el_last (i := m) (by omega) (el_rng L n), el_lt (by omega)]
      obtain ⟨k, a, b⟩ := h2 (m - 1) (by omega)
      rw [← b]
      exact set_mono hL a hn
theorem part_set {F : Int} {L o : DV} {n : Nat} (hL : setP F L L.len.toNat) (hn : n ≤ L.len.toNat) (h : partP L o n) : setP F o o.len.toNat := fun m hm => by
  obtain ⟨k, a, b⟩ := h.2.1 m hm
  refine ⟨by rw [← b]; exact (hL k (by omega)).1, h.2.2 m hm⟩
theorem part_all {L o : DV} {n : Nat} (hn : n ≤ L.len.toNat) (h : partP L o n) : allP o L := fun m hm => by
  obtain ⟨k, a, b⟩ := h.2.1 m hm
  exact ⟨k, by omega, b⟩
theorem all_trans {a b c : DV} (h : allP a b) (k : allP b c) : allP a c := fun i hi => by
  obtain ⟨m, hm, e⟩ := h i hi
  rw [← e]; exact k m hm
theorem part_fav {S L o : DV} {side : Int} {n : Nat} (hn : n ≤ L.len.toNat) (h : partP L o n) (k : favP S L side L.len.toNat) : favP S o side o.len.toNat := fun m hm => by
  obtain ⟨j, a, b⟩ := h.2.1 m hm
  rw [← b]; exact k j (by omega)
theorem favL_le (S f : DV) (side : Int) : ∀ n, (favL S f side n).length ≤ n
  | 0 => Nat.le_refl _
  | n + 1 => by
    have := favL_le S f side n
    unfold favL
    split
    · simp only [List.length_append, List.length_cons, List.length_nil]; omega
    · omega
theorem fav_part {S f : DV} {side F : Int} (hf : setP F f f.len.toNat) : ∀ {n : Nat}, n ≤ f.len.toNat → partP f (.sl none 0 (favL S f side n)) n
  | 0, _ => part_nil f
  | n + 1, h => by
    have ih := fav_part (S := S) (side := side) hf (n := n) (by omega)
    show partP f (.sl none 0 (if S.at (el f n) 0 = side then favL S f side n ++ [[.n (el f n)]] else favL S f side n)) (n + 1)
    split
    · exact part_add hf (by omega) (favL_le S f side n) ih
    · exact part_skip ih
theorem fav_has {S f : DV} {side x : Int} : ∀ {n : Nat}, (∃ m, m < (favL S f side n).length ∧ el (.sl none 0 (favL S f side n)) m = x) ↔ ∃ k, k < n ∧ el f k = x ∧ S.at x 0 = side
  | 0 => ⟨fun ⟨m, h, _⟩ => absurd h (Nat.not_lt_zero m), fun ⟨m, h, _⟩ => absurd h (Nat.not_lt_zero m)⟩
  | n + 1 => by
    have ih := fav_has (S := S) (f := f) (side := side) (x := x) (n := n)
    by_cases c : S.at (el f n) 0 = side
    · have e : favL S f side (n + 1) = favL S f side n ++ [[.n (el f n)]] := by show (if _ then _ else _) = _; rw [if_pos c]
      rw [e]
      constructor
      · rintro ⟨m, hm, hx⟩
        simp only [List.length_append, List.length_cons, List.length_nil] at hm
        by_cases q : m < (favL S f side n).length
        · rw [el_lt q] at hx
          obtain ⟨k, a, b⟩ := ih.1 ⟨m, q, hx⟩
          exact ⟨k, by omega, b⟩
        · rw [el_last (by omega) (el_rng f n)] at hx
          exact ⟨n, by omega, hx, by rw [← hx]; exact c⟩
      · rintro ⟨k, hk, h1, h2⟩
        by_cases q : k < n
        · obtain ⟨m, a, b⟩ := ih.2 ⟨k, q, h1, h2⟩
          exact ⟨m, by simp only [List.length_append, List.length_cons, List.length_nil]; omega, by rw [el_lt a]; exact b⟩
        · refine ⟨(favL S f side n).length, by simp only [List.length_append, List.length_cons, List.length_nil]; omega, ?_⟩
          rw [el_last rfl (el_rng f n), ← h1, show k = n by omega]
    · have e : favL S f side (n + 1) = favL S f side n := by show (if _ then _ else _) = _; rw [if_neg c]
      rw [e]
      constructor
      · intro h
        obtain ⟨k, a, b⟩ := ih.1 h
        exact ⟨k, by omega, b⟩
      · rintro ⟨k, hk, h1, h2⟩
        refine ih.2 ⟨k, ?_, h1, h2⟩
        by_cases q : k < n
        · exact q
        · exfalso; apply c; rw [show n = k by omega, h1]; exact h2
/-- All factors of a set that favour a side. -/
abbrev favs (S f : DV) (side : Int) : DV := .sl none 0 (favL S f side f.len.toNat)
theorem favs_len {S f : DV} {side : Int} : (favs S f side).len = (favL S f side f.len.toNat).length := by
  have := (f.len_rng).2
  have := (f.len_rng).1
  exact len_of (favL_le S f side _) (by omega)
theorem favs_mem {S f : DV} {side x : Int} : memP (favs S f side) x ↔ memP f x ∧ S.at x 0 = side := by
  have l := favs_len (S := S) (f := f) (side := side)
  unfold memP
  rw [show (favs S f side).len.toNat = (favL S f side f.len.toNat).length by omega]
  rw [fav_has]
  exact ⟨fun ⟨k, a, b, c⟩ => ⟨⟨k, a, b⟩, c⟩, fun ⟨⟨k, a, b⟩, c⟩ => ⟨k, a, b, c⟩⟩
theorem favs_fav {S f : DV} {side : Int} : favP S (favs S f side) side (favs S f side).len.toNat := fun i hi => (favs_mem.1 ⟨i, hi, rfl⟩).2
theorem favs_rea {S f : DV} {side : Int} (hf : setP S.len f f.len.toNat) : reaP S f (favs S f side) side :=
  ⟨part_set hf (Nat.le_refl _) (fav_part hf (Nat.le_refl _)), part_all (Nat.le_refl _) (fav_part hf (Nat.le_refl _)), favs_fav⟩
theorem some_rea {S f o : DV} {side : Int} {n : Nat} (hf : setP S.len f f.len.toNat) (hn : n ≤ (favs S f side).len.toNat) (h : partP (favs S f side) o n) : reaP S f o side := by
  have k := favs_rea (side := side) hf
  exact ⟨part_set k.1 hn h, all_trans (part_all hn h) k.2.1, part_fav hn h k.2.2⟩
/-- Bound by a case, exactly if all that favours the other side clashes with it. -/
theorem bind_may {S C f : DV} {side : Int} (hc : chkF S C = 0) (hf : setP S.len f f.len.toNat) (hs : 0 ≤ side ∧ side ≤ 1) {i : Nat} (hi : i < C.len.toNat) : bindP S C f side i ↔ mayP C f (favs S f (1 - side)) (1 - side) i := by
  obtain ⟨_, hsd, _⟩ := chk_zero hc
  have hw := (case_dec hc (i := i) (by omega) (by omega)).2
  unfold bindP mayP clP
  have hx : ∀ {x : Int}, memP f x → 0 ≤ S.at x 0 ∧ S.at x 0 ≤ 1 := fun {x} ⟨k, hk, e⟩ => by
    have h1 := (hf k hk).1
    have := hsd x.toNat (by omega)
    unfold el at this
    rwa [show ((x.toNat : Nat) : Int) = x by omega] at this
  constructor
  · rintro ⟨h1, h2, h3⟩
    refine ⟨by omega, h2, fun m hm => ?_⟩
    obtain ⟨⟨k, hk, e⟩, h5⟩ := favs_mem.1 ⟨m, hm, rfl⟩
    rw [← e] at h5 ⊢
    by_cases q : memP (fc C i) (el f k)
    · exact q
    · exact absurd ⟨by rw [h1]; omega, q⟩ (h3 k hk)
  · rintro ⟨h1, h2, h3⟩
    refine ⟨by omega, h2, fun k hk => ?_⟩
    rintro ⟨h4, h5⟩
    have h6 := hx ⟨k, hk, rfl⟩
    obtain ⟨m, hm, e⟩ := favs_mem.2 ⟨⟨k, hk, rfl⟩, (by omega : S.at (el f k) 0 = 1 - side)⟩
    exact h5 (by rw [← e]; exact h3 m hm)
theorem binds_val {S C f : DV} {side a b e : Int} (h : askF S C f side = 0) (k : [DV.n a, .n b, .n e] = BindsF S C f side) : e = 0 ∧ ((b = 1 ∧ ∃ i, i < C.len.toNat ∧ a = i ∧ bindP S C f side i ∧ ∀ j, j < i → ¬ bindP S C f side j) ∨ (b = 0 ∧ ∀ i, i < C.len.toNat → ¬ bindP S C f side i)) := by
  obtain ⟨h1, h2⟩ := first_spec (bindP S C f side) C.len.toNat
  unfold BindsF at k
  rw [if_neg (by rw [h]; decide)] at k
  by_cases q : bindN S C f side < C.len.toNat
  · rw [if_pos (by omega)] at k
    simp only [List.cons.injEq, DV.n.injEq, and_true] at k
    exact ⟨k.2.2, Or.inl ⟨k.2.1, bindN S C f side, q, k.1, h2 q, h1⟩⟩
  · rw [if_neg (by omega)] at k
    simp only [List.cons.injEq, DV.n.injEq, and_true] at k
    refine ⟨k.2.2, Or.inr ⟨k.2.1, fun i hi => h1 i ?_⟩⟩
    have q : ¬ firstN (bindP S C f side) C.len.toNat < C.len.toNat := q
    omega
theorem may_val {S C f R : DV} {side a b e : Int} (h : askF S C f side = 0) (hr : reaP S f R side) (k : [DV.n a, .n b, .n e] = MayF S C f R side) : e = 0 ∧ ((b = 0 ∧ ∃ i, i < C.len.toNat ∧ mayP C f R side i) ∨ (b = 1 ∧ ∀ i, i < C.len.toNat → ¬ mayP C f R side i)) := by
  obtain ⟨h1, h2⟩ := first_spec (mayP C f R side) C.len.toNat
  unfold MayF at k
  rw [if_neg (by rw [h]; decide), if_neg (fun z => z hr)] at k
  by_cases q : mayN C f R side < C.len.toNat
  · rw [if_pos (by omega)] at k
    simp only [List.cons.injEq, DV.n.injEq, and_true] at k
    exact ⟨k.2.2, Or.inl ⟨k.2.1, mayN C f R side, q, h2 q⟩⟩
  · rw [if_neg (by omega)] at k
    simp only [List.cons.injEq, DV.n.injEq, and_true] at k
    refine ⟨k.2.2, Or.inr ⟨k.2.1, fun i hi => h1 i ?_⟩⟩
    have q : ¬ firstN (mayP C f R side) C.len.toNat < C.len.toNat := q
    omega
theorem may_less {C f R T : DV} {side : Int} {i : Nat} (h : allP T R) (k : mayP C f R side i) : mayP C f T side i := ⟨k.1, k.2.1, all_trans h k.2.2⟩
/-- Bound, exactly if not all that favours the other side may win. -/
theorem bound_may {S C f : DV} {side a b e a' b' e' : Int} (hc : chkF S C = 0) (hf : setP S.len f f.len.toNat) (hs : 0 ≤ side ∧ side ≤ 1) (k : [DV.n a, .n b, .n e] = BindsF S C f side) (q : [DV.n a', .n b', .n e'] = MayF S C f (favs S f (1 - side)) (1 - side)) : e = 0 ∧ e' = 0 ∧ ((b = 1 ∧ b' = 0 ∧ ∃ i, i < C.len.toNat ∧ mayP C f (favs S f (1 - side)) (1 - side) i) ∨ (b = 0 ∧ b' = 1)) := by
  obtain ⟨h1, h2⟩ := binds_val (ask_ok hc hf hs) k
  obtain ⟨h3, h4⟩ := may_val (ask_ok hc hf (by omega)) (favs_rea hf) q
  refine ⟨h1, h3, ?_⟩
  rcases h2 with ⟨z, i, hi, _, hb, _⟩ | ⟨z, hb⟩
  · rcases h4 with ⟨y, m⟩ | ⟨y, m⟩
    · exact Or.inl ⟨z, y, m⟩
    · exact absurd ((bind_may hc hf hs hi).1 hb) (m i hi)
  · rcases h4 with ⟨y, i, hi, m⟩ | ⟨y, m⟩
    · exact absurd ((bind_may hc hf hs hi).2 m) (hb i hi)
    · exact Or.inr ⟨z, y⟩
end Go.Proofs.Ytpaphkpdnmalhaa
