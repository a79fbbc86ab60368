/- DERIVED. Lists of packets and pairs: what moves keep. -/
import Derived.Test.YtmphcgafegmheaaDarg
namespace Go.Proofs.Ytmphcgafegmheaa
open Go.Dx Go.RowKit
set_option linter.unusedVariables false
set_option linter.unusedSimpArgs false
theorem hold {c : Prop} {x : Int} (h : [DV.n x] = yn c) (k : c) : x = 1 := ((yn_01 h).resolve_right fun m => m.2 k).1
theorem one_n {b : Int} (h : b = 1) : [DV.n b] = [DV.n 1] := by rw [h]
theorem getD_in {α : Type} {l : List α} {i : Nat} (d : α) (h : i < l.length) : l.getD i d ∈ l := by
  rw [List.getD_eq_getElem?_getD, List.getElem?_eq_getElem h]
  exact List.getElem_mem h
theorem getQ {q : List P3} {k : Int} (h : inQ q k) : q.getD k.toNat zero ∈ q := getD_in zero (by unfold inQ at h; omega)
theorem zero_no : ¬ pkP zero := fun h => h.1.2 rfl
theorem ok_cut {q : List P3} {a s : List (Int × Int)} {l : Int × Int} {on : Prop} (h : okP q a) (hl : prP l) (k : cutR a l on s) : okP q s :=
  ⟨h.1, h.2.1, fun p hp => by
    rcases (k.2 p).1 hp with m | m
    · rw [m.1]; exact hl
    · exact h.2.2.1 p m.2, k.1⟩
theorem ok_er {q : List P3} {a : List (Int × Int)} {k : Nat} (h : okP q a) : okP (q.eraseIdx k) a :=
  ⟨Nat.le_trans (List.eraseIdx_sublist q k).length_le h.1, fun p hp => h.2.1 p (List.mem_of_mem_eraseIdx hp), h.2.2.1, h.2.2.2⟩
theorem ok_add {q : List P3} {a : List (Int × Int)} {p : P3} (h : okP q a) (hp : pkP p) (hn : ¬ q.length = 4096) : okP (q ++ [p]) a :=
  ⟨by have := h.1; rw [List.length_append]; simp only [List.length_cons, List.length_nil]; omega, fun x hx => by
    rcases List.mem_append.1 hx with m | m
    · exact h.2.1 x m
    · rw [List.mem_singleton.1 m]; exact hp, h.2.2.1, h.2.2.2⟩
theorem link_comm (x y : Int) : link x y = link y x := by unfold link; rw [Int.min_comm, Int.max_comm]
theorem link_eq {x y a b : Int} : link x y = link a b ↔ (x = a ∧ y = b) ∨ (x = b ∧ y = a) := by
  unfold link
  rw [Prod.mk.injEq]
  omega
theorem sort_nodup {s : List (Int × Int)} (h : s.Pairwise ltP) : s.Nodup := h.imp fun hab e => by subst e; exact ltP_irr hab
/-- A cut link is one more pair than a mended one. -/
theorem cut_len {a s t : List (Int × Int)} {l : Int × Int} (h : cutR a l True s) (k : cutR a l False t) : s.length = t.length + 1 := by
  have hl : l ∉ t := fun m => by
    rcases (k.2 l).1 m with m | m
    · exact m.2
    · exact m.1 rfl
  have := ((List.perm_ext_iff_of_nodup (l₁ := s) (l₂ := l :: t) (sort_nodup h.1) (List.nodup_cons.2 ⟨hl, sort_nodup k.1⟩)).2 fun p => by
    rw [List.mem_cons, h.2 p, k.2 p]
    constructor
    · rintro (m | m)
      · exact .inl m.1
      · exact .inr (.inr m)
    · rintro (m | m | m)
      · exact .inl ⟨m, trivial⟩
      · exact m.2.elim
      · exact .inr m).length_eq
  exact this
theorem send_in {q q' : List P3} {a a' : List (Int × Int)} {e : Int} {p : P3} (h : ((q', a', e) : Net) = sendQ q a p) (h0 : e = 0) : okP q a ∧ pkP p ∧ ¬ q.length = 4096 ∧ q' = q ++ [p] ∧ a' = a := by
  by_cases k : okP q a ∧ pkP p
  · by_cases m : q.length = 4096
    · have := net3_in (h.trans (send_lim k m).symm); omega
    · have := net3_in (h.trans (send_yes k m).symm)
      exact ⟨k.1, k.2, m, this.1, this.2.1⟩
  · have := net3_in (h.trans (send_no k).symm); omega
theorem send_er {q q' : List P3} {a a' : List (Int × Int)} {e : Int} {p : P3} (h : ((q', a', e) : Net) = sendQ q a p) (h0 : ¬ e = 0) : q' = [] ∧ a' = [] := by
  by_cases k : okP q a ∧ pkP p
  · by_cases m : q.length = 4096
    · have := net3_in (h.trans (send_lim k m).symm); exact ⟨this.1, this.2.1⟩
    · have := net3_in (h.trans (send_yes k m).symm); omega
  · have := net3_in (h.trans (send_no k).symm); exact ⟨this.1, this.2.1⟩
theorem los_in {q q' : List P3} {a a' : List (Int × Int)} {e k : Int} (h : ((q', a', e) : Net) = losQ q a k) : (e = 0 ∧ okP q a ∧ inQ q k ∧ q' = q.eraseIdx k.toNat ∧ a' = a) ∨ (¬ e = 0 ∧ ¬ (okP q a ∧ inQ q k) ∧ q' = [] ∧ a' = []) := by
  by_cases ok : okP q a
  · by_cases m : inQ q k
    · have := net3_in (h.trans (los_yes ok m).symm); exact .inl ⟨this.2.2, ok, m, this.1, this.2.1⟩
    · have := net3_in (h.trans (los_out ok m).symm); exact .inr ⟨by omega, fun x => m x.2, this.1, this.2.1⟩
  · have := net3_in (h.trans (los_no ok).symm); exact .inr ⟨by omega, fun x => ok x.1, this.1, this.2.1⟩
theorem rep_in {q q' : List P3} {a a' : List (Int × Int)} {e k : Int} (h : ((q', a', e) : Net) = repQ q a k) : (e = 0 ∧ okP q a ∧ inQ q k ∧ ¬ q.length = 4096 ∧ q' = q ++ [q.getD k.toNat zero] ∧ a' = a) ∨ (¬ e = 0 ∧ ¬ (okP q a ∧ inQ q k ∧ ¬ q.length = 4096) ∧ q' = [] ∧ a' = []) := by
  by_cases ok : okP q a
  · by_cases m : inQ q k
    · by_cases l : q.length = 4096
      · have := net3_in (h.trans (rep_lim ok m l).symm); exact .inr ⟨by omega, fun x => x.2.2 l, this.1, this.2.1⟩
      · have := net3_in (h.trans (rep_yes ok m l).symm); exact .inl ⟨this.2.2, ok, m, l, this.1, this.2.1⟩
    · have := net3_in (h.trans (rep_out ok m).symm); exact .inr ⟨by omega, fun x => m x.2.1, this.1, this.2.1⟩
  · have := net3_in (h.trans (rep_no ok).symm); exact .inr ⟨by omega, fun x => ok x.1, this.1, this.2.1⟩
theorem del_in {p : P3} {q q' : List P3} {a a' : List (Int × Int)} {e k : Int} (h : ((p, q', a', e) : P3 × Net) = delQ q a k) :
    (e = 0 ∧ okP q a ∧ inQ q k ∧ q' = q.eraseIdx k.toNat ∧ a' = a ∧ ((p = zero ∧ link (q.getD k.toNat zero).1 (q.getD k.toNat zero).2.1 ∈ a) ∨ (p = q.getD k.toNat zero ∧ link (q.getD k.toNat zero).1 (q.getD k.toNat zero).2.1 ∉ a))) ∨
    (¬ e = 0 ∧ ¬ (okP q a ∧ inQ q k) ∧ q' = [] ∧ a' = []) := by
  by_cases ok : okP q a
  · by_cases m : inQ q k
    · by_cases c : link (q.getD k.toNat zero).1 (q.getD k.toNat zero).2.1 ∈ a
      · have := del4_in (h.trans (del_cut ok m c).symm); exact .inl ⟨this.2.2.2, ok, m, this.2.1, this.2.2.1, .inl ⟨this.1, c⟩⟩
      · have := del4_in (h.trans (del_yes ok m c).symm); exact .inl ⟨this.2.2.2, ok, m, this.2.1, this.2.2.1, .inr ⟨this.1, c⟩⟩
    · have := del4_in (h.trans (del_out ok m).symm); exact .inr ⟨by omega, fun x => m x.2, this.2.1, this.2.2.1⟩
  · have := del4_in (h.trans (del_no ok).symm); exact .inr ⟨by omega, fun x => ok x.1, this.2.1, this.2.2.1⟩
theorem cutQ_in {q q' : List P3} {a a' : List (Int × Int)} {x y e : Int} {on : Prop} (h : cutQ q a x y on (q', a', e)) :
    (e = 0 ∧ okP q a ∧ ((siteP x ∧ siteP y) ∧ x ≠ y) ∧ q' = q ∧ cutR a (link x y) on a') ∨ (¬ e = 0 ∧ ¬ (okP q a ∧ ((siteP x ∧ siteP y) ∧ x ≠ y)) ∧ q' = [] ∧ a' = [] ∧ (okP q a → e = 1)) := by
  rcases h with ⟨h1, h2⟩ | ⟨h1, h2, h3⟩ | ⟨h1, h2, h3, h4, h5⟩
  · have := net3_in h2; exact .inr ⟨by omega, fun m => h1 m.1, this.1, this.2.1, fun m => absurd m h1⟩
  · have := net3_in h3; exact .inr ⟨by omega, fun m => h2 m.2, this.1, this.2.1, fun _ => this.2.2⟩
  · exact .inl ⟨h5, h1, h2, h3, h4⟩
end Go.Proofs.Ytmphcgafegmheaa
