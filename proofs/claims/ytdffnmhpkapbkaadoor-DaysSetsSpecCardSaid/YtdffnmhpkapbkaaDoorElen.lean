/- DERIVED. How long what is put together is; days counted. -/
import Derived.Test.YtdffnmhpkapbkaaDoorEstep
namespace Go.Proofs.YtdffnmhpkapbkaaDoor
open Go.Dx
set_option linter.unusedVariables false
theorem inc_sub : ∀ {y x : List Int} {m k : Int}, Inc m x → Inc k y → (∀ e, e ∈ x → e ∈ y) → x.length ≤ y.length
  | [], [], _, _, _, _, _ => Nat.le_refl _
  | [], d :: s, _, _, _, _, h => absurd (h d (List.mem_cons_self ..)) (by simp)
  | e :: r, [], _, _, _, _, _ => Nat.zero_le _
  | e :: r, d :: s, m, k, hx, hy, h => by
    by_cases c : d = e
    · subst c
      have := inc_sub (y := r) (x := s) hx.2 hy.2 fun x hm => by
        rcases List.mem_cons.1 (h x (List.mem_cons_of_mem _ hm)) with q | q
        · have := inc_mem hx.2 hm
          omega
        · exact q
      exact Nat.succ_le_succ this
    · have hd : d ∈ r := (List.mem_cons.1 (h d (List.mem_cons_self ..))).resolve_left c
      have h1 := inc_mem hy.2 hd
      have := inc_sub (y := r) (x := d :: s) hx hy.2 fun x hm => by
        rcases List.mem_cons.1 (h x hm) with q | q
        · rcases List.mem_cons.1 hm with z | z
          · omega
          · have := inc_mem hx.2 z
            omega
        · exact q
      exact Nat.le_succ_of_le this
theorem edge_mem {e : Int} : ∀ {l : Sp} {m : Int}, Can m l → e ∈ edges l → (Mem e l ∧ ¬ Mem (e - 1) l) ∨ (¬ Mem e l ∧ Mem (e - 1) l)
  | [], _, _, h => by cases h
  | (a, b) :: r, m, c, h => by
    have q := c.1
    have lo : ∀ n, Mem n r → b + 2 ≤ n := fun n => Can.le c.2
    have h : e ∈ a :: (b + 1) :: edges r := h
    rw [mem_cons, mem_cons]
    rcases List.mem_cons.1 h with rfl | h
    · refine .inl ⟨.inl ⟨Int.le_refl _, q.2⟩, fun z => ?_⟩
      rcases z with z | z
      · omega
      · have := lo _ z; omega
    · rcases List.mem_cons.1 h with rfl | h
      · refine .inr ⟨fun z => ?_, .inl ⟨by omega, by omega⟩⟩
        rcases z with z | z
        · omega
        · have := lo _ z; omega
      · have h2 := inc_mem (edges_inc c.2) h
        rcases edge_mem c.2 h with ⟨z1, z2⟩ | ⟨z1, z2⟩
        · exact .inl ⟨.inr z1, fun z => z.elim (fun z => by omega) z2⟩
        · exact .inr ⟨fun z => z.elim (fun z => by omega) z1, .inr z2⟩
theorem comb_len {o : Int} {A B l : Sp} (cA : Can 0 A) (cB : Can 0 B) (cl : Can 0 l) (h : ∀ n, FF (chO o) A B n ↔ Mem n l) : l.length ≤ A.length + B.length := by
  have hinc : Inc 0 (endsL (endsL [] A) B) := ends_inc (ends_inc (show Inc 0 [] from trivial) cA (Int.le_refl _)) cB (Int.le_refl _)
  have hmem : ∀ x, x ∈ endsL (endsL [] A) B ↔ x ∈ edges A ∨ x ∈ edges B := fun x => by
    rw [mem_ends, mem_ends]; simp
  have g1 := ends_len (l := A) (t := [])
  have g2 := ends_len (l := B) (t := endsL [] A)
  have g1 : (endsL [] A).length ≤ 0 + 2 * A.length := g1
  have g3 := inc_sub (edges_inc cl) hinc fun e he => by
    refine Classical.byContradiction fun hn => ?_
    have hs := FF_same (ch := chO o) (a := A) (b := B) hmem (e := e - 1) (e' := e + 1) (n := e) (fun d hd => by
      by_cases c : d = e
      · rw [c] at hd; exact absurd hd hn
      · omega) (by omega) (by omega)
    rw [h, h] at hs
    rcases edge_mem cl he with ⟨z1, z2⟩ | ⟨z1, z2⟩
    · exact z2 (hs.1 z1)
    · exact z1 (hs.2 z2)
  rw [edges_len] at g3
  omega
theorem mem_hi {l : Sp} {n : Int} (h : Mem n l) (m : ∀ p, p ∈ l → p.2 ≤ 73048) : n ≤ 73048 := by
  obtain ⟨p, hp, _, h2⟩ := h
  have := m p hp
  omega
theorem can_in : ∀ {l : Sp} {m : Int}, Can m l → ∀ p, p ∈ l → p.1 ≤ p.2
  | [], _, _, p, h => by cases h
  | (a, b) :: r, m, c, p, h => by
    rcases List.mem_cons.1 h with e | e
    · rw [e]; exact c.1.2
    · exact can_in c.2 p e
theorem comb_hi {o : Int} {A B l : Sp} (cA : Can 0 A) (cB : Can 0 B) (cl : Can 0 l) (h : ∀ n, FF (chO o) A B n ↔ Mem n l) (mA : ∀ p, p ∈ A → p.2 ≤ 73048) (mB : ∀ p, p ∈ B → p.2 ≤ 73048) : ∀ p, p ∈ l → p.2 ≤ 73048 := fun p hp => by
  have hm : Mem p.2 l := ⟨p, hp, can_in cl p hp, Int.le_refl _⟩
  have hf := (ff_mem cA cB).1 ((h _).2 hm)
  split at hf
  · exact hf.elim (fun z => mem_hi z mA) fun z => mem_hi z mB
  · split at hf
    · exact mem_hi hf.1 mA
    · exact mem_hi hf.1 mA
/-- A list of spans that Check takes. -/
def Gd (a : List (List DV)) : Prop := ¬ 256 < (dl a).len ∧ AllS (dl a) (dl a).len
theorem gd_iff {a : List (List DV)} (la : (dl a).len = a.length) : Gd a ↔ (a.length ≤ 256 ∧ Can 0 (spn (dl a)) ∧ ∀ p, p ∈ spn (dl a) → p.2 ≤ 73048) := by
  unfold Gd
  rw [alls_iff (d := dl a) la]
  constructor
  · rintro ⟨h1, h2⟩; exact ⟨by omega, h2⟩
  · rintro ⟨h1, h2⟩; exact ⟨by omega, h2⟩
/-- Two lists that are fine, and few spans: fine. -/
theorem comb_fine {o : Int} {a b L : List (List DV)} {e : Int} (la : (dl a).len = a.length) (lb : (dl b).len = b.length) (lL : (dl L).len = L.length) (ga : Gd a) (gb : Gd b) (h : CombP o (dl a) (dl b) [dl L, .n e]) (hs : a.length + b.length ≤ 256) :
    e = 0 ∧ Gd L ∧ ∀ n, FF (chO o) (spn (dl a)) (spn (dl b)) n ↔ Mem n (spn (dl L)) := by
  obtain ⟨a1, a2, a3⟩ := (gd_iff la).1 ga
  obtain ⟨b1, b2, b3⟩ := (gd_iff lb).1 gb
  obtain ⟨L2, e2, he, l, ⟨h1, h2⟩, h3⟩ := (h.2.2 ga.1 ga.2).2.2 gb.1 gb.2
  simp only [List.cons.injEq, DV.n.injEq, DV.sl.injEq, and_true, true_and] at he
  obtain ⟨rfl, rfl⟩ := he
  have hl := comb_len a2 b2 h1 h2
  rw [spn_len, spn_len] at hl
  have hl : l.length ≤ a.length + b.length := hl
  rcases h3 with ⟨z, _⟩ | ⟨z, rfl, r⟩
  · omega
  · have e3 : l.length = L.length := by rw [← r]; exact spn_len _
    have hL : L.length ≤ 256 := by omega
    rw [← r] at h1 h2
    exact ⟨rfl, (gd_iff lL).2 ⟨hL, h1, comb_hi a2 b2 h1 h2 a3 b3⟩, h2⟩
/-- What both return is the same. -/
theorem comb_one {o : Int} {a b L M : List (List DV)} {e f : Int} (h : CombP o (dl a) (dl b) [dl L, .n e]) (k : CombP o (dl a) (dl b) [dl M, .n f]) : spn (dl L) = spn (dl M) ∧ e = f := by
  have close : ∀ {z : Int}, [dl L, DV.n e] = [dl []] ++ [.n z] → [dl M, DV.n f] = [dl []] ++ [.n z] → spn (dl L) = spn (dl M) ∧ e = f := fun {z} q1 q2 => by
    simp only [List.cons_append, List.nil_append, List.cons.injEq, DV.n.injEq, DV.sl.injEq, and_true, true_and] at q1 q2
    obtain ⟨rfl, rfl⟩ := q1
    obtain ⟨rfl, rfl⟩ := q2
    exact ⟨rfl, rfl⟩
  by_cases c1 : 256 < (dl a).len
  · exact close (h.1 c1) (k.1 c1)
  by_cases c2 : ¬ AllS (dl a) (dl a).len
  · exact close (h.2.1 c1 c2) (k.2.1 c1 c2)
  have c2 := Classical.not_not.1 c2
  have h := h.2.2 c1 c2
  have k := k.2.2 c1 c2
  by_cases d1 : 256 < (dl b).len
  · exact close (h.1 d1) (k.1 d1)
  by_cases d2 : ¬ AllS (dl b) (dl b).len
  · exact close (h.2.1 d1 d2) (k.2.1 d1 d2)
  have d2 := Classical.not_not.1 d2
  obtain ⟨L2, e2, he, l, ⟨h1, h2⟩, h3⟩ := h.2.2 d1 d2
  obtain ⟨M2, f2, hf, m, ⟨k1, k2⟩, k3⟩ := k.2.2 d1 d2
  simp only [List.cons.injEq, DV.n.injEq, DV.sl.injEq, and_true, true_and] at he hf
  obtain ⟨rfl, rfl⟩ := he
  obtain ⟨rfl, rfl⟩ := hf
  have : l = m := same_days h1 h2 k1 k2
  subst this
  rcases h3 with ⟨z, rfl, rfl⟩ | ⟨z, rfl, r⟩
  · rcases k3 with ⟨_, rfl, rfl⟩ | ⟨z2, _⟩
    · exact ⟨rfl, rfl⟩
    · omega
  · rcases k3 with ⟨z2, _⟩ | ⟨_, rfl, s⟩
    · omega
    · exact ⟨r.trans s.symm, rfl⟩
/-! Counting. -/
theorem many_app {a b : Int} : ∀ l : Sp, many (l ++ [(a, b)]) = many l + (b - a + 1)
  | [] => by show b - a + 1 + 0 = 0 + (b - a + 1); omega
  | (c, d) :: r => by
    have := many_app (a := a) (b := b) r
    show d - c + 1 + many (r ++ [(a, b)]) = d - c + 1 + many r + (b - a + 1)
    omega
theorem cn_take {d : DV} : ∀ {k : Nat}, k ≤ d.els.length → cn d k = many ((spn d).take k)
  | 0, _ => rfl
  | k + 1, h => by
    have ih := cn_take (d := d) (k := k) (by omega)
    rw [take_one (0, 0) (by rw [spn_len]; omega), spn_get (by omega), many_app, ← ih]
    rfl
theorem cn_all {a : List (List DV)} (la : (dl a).len = a.length) : cn (dl a) (dl a).len.toNat = many (spn (dl a)) := by
  have h : (dl a).len.toNat = (spn (dl a)).length := by
    have : (spn (dl a)).length = a.length := spn_len _
    omega
  rw [cn_take (d := dl a) (show (dl a).len.toNat ≤ a.length by omega), h, List.take_length]
theorem can_split {f t : Int} {r : Sp} : ∀ {p : Sp} {m : Int}, Can m (p ++ (f, t) :: r) → Can m p ∧ (∀ q, q ∈ p → q.2 + 2 ≤ f) ∧ (m ≤ f ∧ f ≤ t) ∧ Can (t + 2) r
  | [], m, h => ⟨trivial, fun q hq => (by cases hq), h.1, h.2⟩
  | (c, d) :: p, m, h => by
    obtain ⟨h1, h2, h3, h4⟩ := can_split (p := p) h.2
    have q1 := h.1
    refine ⟨⟨h.1, h1⟩, fun q hq => ?_, ⟨by omega, h3.2⟩, h4⟩
    rcases List.mem_cons.1 hq with e | e
    · subst e; exact h3.1
    · exact h2 q e
theorem split_at {l : Sp} {i : Nat} (h : i < l.length) : ∃ r, l = l.take i ++ l.getD i (0, 0) :: r := by
  refine ⟨l.drop (i + 1), ?_⟩
  rw [List.getD_eq_getElem?_getD, List.getElem?_eq_getElem h]
  show l = l.take i ++ l[i] :: l.drop (i + 1)
  rw [← List.drop_eq_getElem_cons h, List.take_append_drop]
/-- The beginning of a list up to a day of it. -/
theorem cut_list {l : Sp} {i : Nat} {d : Int} (h : i < l.length) (cl : Can 0 l) (hd : (l.getD i (0, 0)).1 ≤ d ∧ d ≤ (l.getD i (0, 0)).2) :
    Can 0 (l.take i ++ [((l.getD i (0, 0)).1, d)]) ∧ 0 ≤ d ∧ Mem d l ∧ ∀ n, FF (chO 2) l [(0, d)] n ↔ Mem n (l.take i ++ [((l.getD i (0, 0)).1, d)]) := by
  obtain ⟨r, hr⟩ := split_at h
  generalize l.getD i (0, 0) = ft at *
  obtain ⟨f, t⟩ := ft
  have hd : f ≤ d ∧ d ≤ t := hd
  generalize hp : l.take i = p at *
  have cl2 := cl
  rw [hr] at cl2
  obtain ⟨c1, c2, c3, c4⟩ := can_split cl2
  have c0 : Can 0 [((0 : Int), d)] := ⟨⟨Int.le_refl _, by omega⟩, trivial⟩
  refine ⟨can_app c1 c2 c3.1 hd.1, by omega, ?_, fun n => ?_⟩
  · rw [hr, mem_app, mem_cons]; exact .inr (.inl hd)
  · rw [ff_mem cl c0, if_neg (by decide), if_pos rfl, mem_app, mem_cons, mem_cons]
    rw [hr, mem_app, mem_cons]
    have lo : ∀ n, Mem n r → t + 2 ≤ n := fun n => Can.le c4
    have l0 : ∀ n, Mem n p → 0 ≤ n ∧ n ≤ f := fun n hn => ⟨Can.le c1 hn, by obtain ⟨q, hq, _, h2⟩ := hn; have := c2 q hq; omega⟩
    constructor
    · rintro ⟨h1 | h1 | h1, h2⟩
      · exact .inl h1
      · exact .inr (.inl ⟨h1.1, h2.elim (fun z => z.2) fun z => absurd z mem_nil⟩)
      · have := lo n h1
        have h2 := h2.elim id fun z => absurd z mem_nil
        omega
    · rintro (h1 | h1)
      · have := l0 n h1
        exact ⟨.inl h1, .inl ⟨by omega, by omega⟩⟩
      · have h1 := h1.elim id fun z => absurd z mem_nil
        exact ⟨.inr (.inl ⟨h1.1, by omega⟩), .inl ⟨by omega, h1.2⟩⟩
theorem many_hi {l : Sp} (cl : Can 0 l) (m : ∀ p, p ∈ l → p.2 ≤ 73048) : many l = card (fun n => Mem n l) 73049 := many_card cl (Int.le_refl _) fun p hp => by have := m p hp; omega
end Go.Proofs.YtdffnmhpkapbkaaDoor
