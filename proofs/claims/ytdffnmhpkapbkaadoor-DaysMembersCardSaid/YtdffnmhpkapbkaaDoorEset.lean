/- DERIVED. Sets of days as canonical lists of spans: they are told by their members; how many days they have. -/
import Derived.KernelRfl
namespace Go.Proofs.YtdffnmhpkapbkaaDoor
set_option linter.unusedVariables false
/-- Spans: from, to. -/
abbrev Sp := List (Int × Int)
/-- Canonical, from a day on. -/
def Can : Int → Sp → Prop
  | _, [] => True
  | m, (a, b) :: r => (m ≤ a ∧ a ≤ b) ∧ Can (b + 2) r
def Mem (n : Int) (l : Sp) : Prop := ∃ p, p ∈ l ∧ p.1 ≤ n ∧ n ≤ p.2
theorem mem_nil {n : Int} : ¬ Mem n [] := fun ⟨p, h, _⟩ => by cases h
theorem mem_cons {n a b : Int} {r : Sp} : Mem n ((a, b) :: r) ↔ (a ≤ n ∧ n ≤ b) ∨ Mem n r := by
  constructor
  · rintro ⟨p, h, k⟩
    rcases List.mem_cons.1 h with e | e
    · subst e; exact .inl k
    · exact .inr ⟨p, e, k⟩
  · rintro (k | ⟨p, h, k⟩)
    · exact ⟨(a, b), List.mem_cons_self .., k⟩
    · exact ⟨p, List.mem_cons_of_mem _ h, k⟩
theorem mem_app {n : Int} {l r : Sp} : Mem n (l ++ r) ↔ Mem n l ∨ Mem n r := by
  constructor
  · rintro ⟨p, h, k⟩
    rcases List.mem_append.1 h with e | e
    · exact .inl ⟨p, e, k⟩
    · exact .inr ⟨p, e, k⟩
  · rintro (⟨p, h, k⟩ | ⟨p, h, k⟩)
    · exact ⟨p, List.mem_append.2 (.inl h), k⟩
    · exact ⟨p, List.mem_append.2 (.inr h), k⟩
theorem Can.mono {m k : Int} (h : k ≤ m) : ∀ {l : Sp}, Can m l → Can k l
  | [], _ => trivial
  | (a, b) :: r, c => ⟨⟨by have := c.1.1; omega, c.1.2⟩, c.2⟩
theorem Can.le : ∀ {l : Sp} {m n : Int}, Can m l → Mem n l → m ≤ n
  | [], _, _, _, h => absurd h mem_nil
  | (a, b) :: r, m, n, c, h => by
    rcases mem_cons.1 h with k | k
    · have := c.1.1; omega
    · have := Can.le c.2 k
      have := c.1
      omega
/-- The members say what the list is. -/
theorem can_uniq : ∀ {l k : Sp} {m o : Int}, Can m l → Can o k → (∀ n, Mem n l ↔ Mem n k) → l = k
  | [], [], _, _, _, _, _ => rfl
  | [], (a, b) :: r, _, _, _, c, h => absurd ((h a).2 (mem_cons.2 (.inl ⟨Int.le_refl _, c.1.2⟩))) mem_nil
  | (a, b) :: r, [], _, _, c, _, h => absurd ((h a).1 (mem_cons.2 (.inl ⟨Int.le_refl _, c.1.2⟩))) mem_nil
  | (a, b) :: r, (c, d) :: s, m, o, h1, h2, h => by
    have q1 := h1.1
    have q2 := h2.1
    have l1 : ∀ n, Mem n r → b + 2 ≤ n := fun n => Can.le h1.2
    have l2 : ∀ n, Mem n s → d + 2 ≤ n := fun n => Can.le h2.2
    have ea : a = c := by
      have x := mem_cons.1 ((h a).1 (mem_cons.2 (.inl ⟨Int.le_refl _, q1.2⟩)))
      have y := mem_cons.1 ((h c).2 (mem_cons.2 (.inl ⟨Int.le_refl _, q2.2⟩)))
      have x2 : c ≤ a := by
        rcases x with x | x
        · exact x.1
        · have := l2 a x; omega
      have y2 : a ≤ c := by
        rcases y with y | y
        · exact y.1
        · have := l1 c y; omega
      omega
    subst ea
    have eb : b = d := by
      by_cases x : b < d
      · have y := mem_cons.1 ((h (b + 1)).2 (mem_cons.2 (.inl ⟨by omega, by omega⟩)))
        rcases y with y | y
        · omega
        · have := l1 _ y; omega
      · by_cases z : d < b
        · have y := mem_cons.1 ((h (d + 1)).1 (mem_cons.2 (.inl ⟨by omega, by omega⟩)))
          rcases y with y | y
          · omega
          · have := l2 _ y; omega
        · omega
    subst eb
    rw [can_uniq h1.2 h2.2 fun n => ?_]
    constructor
    · intro x
      have y := mem_cons.1 ((h n).1 (mem_cons.2 (.inr x)))
      rcases y with y | y
      · have := l1 n x; omega
      · exact y
    · intro x
      have y := mem_cons.1 ((h n).2 (mem_cons.2 (.inr x)))
      rcases y with y | y
      · have := l2 n x; omega
      · exact y
/-- One span more at the end. -/
theorem can_app {a b : Int} : ∀ {l : Sp} {m : Int}, Can m l → (∀ p, p ∈ l → p.2 + 2 ≤ a) → m ≤ a → a ≤ b → Can m (l ++ [(a, b)])
  | [], m, _, _, h1, h2 => ⟨⟨h1, h2⟩, trivial⟩
  | (c, d) :: r, m, h, k, h1, h2 => ⟨h.1, can_app h.2 (fun p hp => k p (List.mem_cons_of_mem _ hp)) (k (c, d) (List.mem_cons_self ..)) h2⟩
theorem can_take {a b : Int} : ∀ {l : Sp} {m : Int}, Can m (l ++ [(a, b)]) → Can m l ∧ (∀ p, p ∈ l → p.2 + 2 ≤ a) ∧ m ≤ a ∧ a ≤ b
  | [], m, h => ⟨trivial, ⟨fun p hp => (by cases hp), h.1⟩⟩
  | (c, d) :: r, m, h => by
    obtain ⟨h1, h2, h3, h4⟩ := can_take (l := r) h.2
    have q1 := h.1
    refine ⟨⟨h.1, h1⟩, fun p hp => ?_, by omega, h4⟩
    rcases List.mem_cons.1 hp with e | e
    · subst e; exact h3
    · exact h2 p e
/-! How many. -/
noncomputable def ind (p : Prop) : Int := @ite _ p (Classical.propDecidable p) 1 0
theorem ind_yes {p : Prop} (h : p) : ind p = 1 := if_pos h
theorem ind_no {p : Prop} (h : ¬ p) : ind p = 0 := if_neg h
/-- The sum of an indicator below a number. -/
noncomputable def card (p : Int → Prop) : Nat → Int
  | 0 => 0
  | k + 1 => card p k + ind (p k)
theorem card_nn (p : Int → Prop) : ∀ k, 0 ≤ card p k ∧ card p k ≤ k
  | 0 => ⟨Int.le_refl _, Int.le_refl _⟩
  | k + 1 => by
    have := card_nn p k
    show 0 ≤ card p k + ind (p k) ∧ card p k + ind (p k) ≤ ((k + 1 : Nat) : Int)
    by_cases h : p k
    · rw [ind_yes h]; omega
    · rw [ind_no h]; omega
theorem card_congr {p q : Int → Prop} : ∀ {k : Nat}, (∀ i : Nat, i < k → (p i ↔ q i)) → card p k = card q k
  | 0, _ => rfl
  | k + 1, h => by
    show card p k + ind (p k) = card q k + ind (q k)
    rw [card_congr fun i hi => h i (by omega)]
    by_cases c : p k
    · rw [ind_yes c, ind_yes ((h k (by omega)).1 c)]
    · rw [ind_no c, ind_no fun z => c ((h k (by omega)).2 z)]
/-- Those of both and those of one or the other. -/
theorem card_both {p q : Int → Prop} : ∀ k : Nat, card (fun n => p n ∨ q n) k + card (fun n => p n ∧ q n) k = card p k + card q k
  | 0 => rfl
  | k + 1 => by
    have := card_both (p := p) (q := q) k
    show card _ k + ind (p k ∨ q k) + (card _ k + ind (p k ∧ q k)) = card p k + ind (p k) + (card q k + ind (q k))
    by_cases c : p k
    · by_cases d : q k
      · rw [ind_yes (.inl c), ind_yes ⟨c, d⟩, ind_yes c, ind_yes d]; omega
      · rw [ind_yes (.inl c), ind_no fun z => d z.2, ind_yes c, ind_no d]; omega
    · by_cases d : q k
      · rw [ind_yes (.inr d), ind_no fun z => c z.1, ind_no c, ind_yes d]; omega
      · rw [ind_no fun z => z.elim c d, ind_no fun z => c z.1, ind_no c, ind_no d]; omega
theorem card_less {p q : Int → Prop} : ∀ k : Nat, card (fun n => p n ∧ ¬ q n) k + card (fun n => p n ∧ q n) k = card p k
  | 0 => rfl
  | k + 1 => by
    have := card_less (p := p) (q := q) k
    show card _ k + ind (p k ∧ ¬ q k) + (card _ k + ind (p k ∧ q k)) = card p k + ind (p k)
    by_cases c : p k
    · by_cases d : q k
      · rw [ind_no fun z => z.2 d, ind_yes ⟨c, d⟩, ind_yes c]; omega
      · rw [ind_yes ⟨c, d⟩, ind_no fun z => d z.2, ind_yes c]; omega
    · rw [ind_no fun z => c z.1, ind_no fun z => c z.1, ind_no c]; omega
/-- A span's days below a number. -/
theorem card_span {a b : Int} (h0 : 0 ≤ a) (h1 : a ≤ b + 1) : ∀ k : Nat, card (fun n => a ≤ n ∧ n ≤ b) k = if (k : Int) ≤ a then 0 else if (k : Int) ≤ b + 1 then k - a else b + 1 - a
  | 0 => by rw [if_pos (by omega)]; rfl
  | k + 1 => by
    have ih := card_span h0 h1 k
    show card (fun n => a ≤ n ∧ n ≤ b) k + ind (a ≤ (k : Int) ∧ (k : Int) ≤ b) = _
    rw [ih]
    by_cases c : a ≤ (k : Int) ∧ (k : Int) ≤ b
    · rw [ind_yes c]
      repeat' split
      all_goals omega
    · rw [ind_no c]
      repeat' split
      all_goals omega
/-- Days of a list. -/
def many : Sp → Int
  | [] => 0
  | (a, b) :: r => b - a + 1 + many r
theorem many_card : ∀ {l : Sp} {m : Int} {k : Nat}, Can m l → 0 ≤ m → (∀ p, p ∈ l → p.2 < k) → many l = card (fun n => Mem n l) k
  | [], m, k, _, _, _ => by
    have : ∀ k : Nat, card (fun n => Mem n []) k = 0 := fun k => by
      induction k with
      | zero => rfl
      | succ k ih => show card _ k + ind (Mem k []) = 0; rw [ih, ind_no mem_nil]; rfl
    exact (this k).symm
  | (a, b) :: r, m, k, h, h0, hk => by
    have q := h.1
    have kb := hk (a, b) (List.mem_cons_self ..)
    have kb : b < k := kb
    have ih := many_card (k := k) h.2 (by omega) fun p hp => hk p (List.mem_cons_of_mem _ hp)
    have e1 := card_both (p := fun n => a ≤ n ∧ n ≤ b) (q := fun n => Mem n r) k
    have e2 : card (fun n => (a ≤ n ∧ n ≤ b) ∧ Mem n r) k = card (fun _ => False) k := card_congr fun i _ => ⟨fun z => by have := Can.le h.2 z.2; omega, fun z => z.elim⟩
    have e3 : ∀ k : Nat, card (fun _ => False) k = 0 := fun k => by
      induction k with
      | zero => rfl
      | succ k ih => show card _ k + ind False = 0; rw [ih, ind_no id]; rfl
    have e4 := card_span (a := a) (b := b) (by omega) (by omega) k
    rw [if_neg (by omega)] at e4
    have e5 : card (fun n => Mem n ((a, b) :: r)) k = card (fun n => (a ≤ n ∧ n ≤ b) ∨ Mem n r) k := card_congr fun i _ => mem_cons
    show b - a + 1 + many r = _
    rw [e5, ih]
    rw [e2, e3] at e1
    split at e4 <;> omega
/-! Two lists are put together by their edges. -/
def edges : Sp → List Int
  | [] => []
  | (a, b) :: r => a :: (b + 1) :: edges r
def Inc : Int → List Int → Prop
  | _, [] => True
  | m, e :: x => m ≤ e ∧ Inc (e + 1) x
/-- What holds at a day, if A holds before the edges. -/
def stE (A : Bool) : List Int → Int → Bool
  | [], _ => A
  | e :: x, n => if e ≤ n then stE (!A) x n else A
theorem edges_inc : ∀ {l : Sp} {m : Int}, Can m l → Inc m (edges l)
  | [], _, _ => trivial
  | (a, b) :: r, m, h => ⟨h.1.1, by have := h.1.2; show a + 1 ≤ b + 1; omega, by have := edges_inc h.2; rw [show b + 1 + 1 = b + 2 by omega]; exact this⟩
theorem Inc.mono {m k : Int} (h : k ≤ m) : ∀ {x : List Int}, Inc m x → Inc k x
  | [], _ => trivial
  | e :: x, c => ⟨by have := c.1; omega, c.2⟩
theorem stE_lt {A : Bool} {n : Int} : ∀ {x : List Int}, Inc (n + 1) x → stE A x n = A
  | [], _ => rfl
  | e :: x, c => by
    show (if e ≤ n then stE (!A) x n else A) = A
    rw [if_neg (by have := c.1; omega)]
theorem stE_edges {n : Int} : ∀ {l : Sp} {m : Int}, Can m l → (stE false (edges l) n = true ↔ Mem n l)
  | [], _, _ => ⟨fun h => (by cases h), fun h => absurd h mem_nil⟩
  | (a, b) :: r, m, h => by
    have q := h.1
    have ih := stE_edges (n := n) h.2
    show (if a ≤ n then (if b + 1 ≤ n then stE false (edges r) n else true) else false) = true ↔ _
    rw [mem_cons]
    by_cases c : a ≤ n
    · rw [if_pos c]
      by_cases d : b + 1 ≤ n
      · rw [if_pos d, ih]
        exact ⟨.inr, fun z => z.elim (fun z => by omega) id⟩
      · rw [if_neg d]
        exact ⟨fun _ => .inl ⟨c, by omega⟩, fun _ => rfl⟩
    · rw [if_neg c]
      refine ⟨fun z => (by cases z), fun z => ?_⟩
      rcases z with z | z
      · omega
      · have := Can.le h.2 z; omega
/-- An edge is passed. -/
def flip (A : Bool) (x : List Int) (D : Int) : Bool := match x with
  | e :: _ => if e = D then !A else A
  | [] => A
def rest (x : List Int) (D : Int) : List Int := match x with
  | e :: r => if e = D then r else x
  | [] => []
def From (D : Int) : List Int → Prop
  | e :: _ => D ≤ e
  | [] => True
theorem pass {A : Bool} {x : List Int} {D0 D : Int} (h : Inc (D0 + 1) x) (hd : D0 < D) (hf : From D x) : Inc (D + 1) (rest x D) ∧ (∀ n, D ≤ n → stE A x n = stE (flip A x D) (rest x D) n) ∧ (∀ n, n < D → stE A x n = A) ∧ (rest x D).length ≤ x.length := by
  cases x with
  | nil => exact ⟨trivial, fun _ _ => rfl, fun _ _ => rfl, Nat.le_refl _⟩
  | cons e r =>
    have hf : D ≤ e := hf
    by_cases c : e = D
    · have e1 : rest (e :: r) D = r := if_pos c
      have e2 : flip A (e :: r) D = !A := if_pos c
      rw [e1, e2]
      refine ⟨by rw [← c]; exact h.2, fun n hn => ?_, fun n hn => ?_, Nat.le_succ _⟩
      · show (if e ≤ n then stE (!A) r n else A) = _
        rw [if_pos (by omega)]
      · show (if e ≤ n then stE (!A) r n else A) = _
        rw [if_neg (by omega)]
    · have e1 : rest (e :: r) D = e :: r := if_neg c
      have e2 : flip A (e :: r) D = A := if_neg c
      rw [e1, e2]
      refine ⟨⟨by omega, h.2⟩, fun n hn => rfl, fun n hn => ?_, Nat.le_refl _⟩
      show (if e ≤ n then stE (!A) r n else A) = _
      rw [if_neg (by omega)]
/-- Between two boundaries: what has been written down, and what is to come. -/
structure CI (ch : Bool → Bool → Bool) (F : Int → Prop) (x y : List Int) (A B o : Bool) (l : Sp) (D : Int) : Prop where
  ix : Inc (D + 1) x
  iy : Inc (D + 1) y
  low : -1 ≤ D
  fut : ∀ n, D ≤ n → (F n ↔ ch (stE A x n) (stE B y n) = true)
  op : o = ch A B
  clo : o = false → Can 0 l ∧ (∀ p, p ∈ l → p.2 + 1 ≤ D) ∧ ∀ n, n < D → (F n ↔ Mem n l)
  opn : o = true → ∃ l0 f, l = l0 ++ [(f, 0)] ∧ Can 0 l0 ∧ (∀ p, p ∈ l0 → p.2 + 2 ≤ f) ∧ (0 ≤ f ∧ f ≤ D) ∧ ∀ n, n < D → (F n ↔ Mem n l0 ∨ f ≤ n)
/-- The list after a boundary. -/
def nextL (o o' : Bool) (l : Sp) (D : Int) : Sp := match o, o' with
  | false, true => l ++ [(D, 0)]
  | true, false => l.dropLast ++ [((l.getLastD (0, 0)).1, D - 1)]
  | _, _ => l
theorem CI.step {ch : Bool → Bool → Bool} {F : Int → Prop} {x y : List Int} {A B o : Bool} {l : Sp} {D D' : Int} (h : CI ch F x y A B o l D) (hD : D < D') (fx : From D' x) (fy : From D' y) :
    CI ch F (rest x D') (rest y D') (flip A x D') (flip B y D') (ch (flip A x D') (flip B y D')) (nextL o (ch (flip A x D') (flip B y D')) l D') D' := by
  obtain ⟨x1, x2, x3, _⟩ := pass (A := A) h.ix hD fx
  obtain ⟨y1, y2, y3, _⟩ := pass (A := B) h.iy hD fy
  have mid : ∀ n, D ≤ n → n < D' → (F n ↔ o = true) := fun n h1 h2 => by
    rw [h.fut n h1, x3 n h2, y3 n h2, h.op]
  have low := h.low
  refine ⟨x1, y1, by omega, fun n hn => by rw [h.fut n (by omega), x2 n hn, y2 n hn], rfl, fun ho' => ?_, fun ho' => ?_⟩
  · rw [ho']
    cases ho : o with
    | false =>
      obtain ⟨c1, c2, c3⟩ := h.clo ho
      refine ⟨c1, fun p hp => by have := c2 p hp; omega, fun n hn => ?_⟩
      show F n ↔ Mem n l
      by_cases c : n < D
      · exact c3 n c
      · rw [mid n (by omega) hn, ho]
        refine ⟨fun z => (by cases z), fun ⟨p, hp, _, z⟩ => ?_⟩
        have := c2 p hp
        omega
    | true =>
      obtain ⟨l0, f, rfl, c1, c2, c3, c4⟩ := h.opn ho
      have e : nextL true false (l0 ++ [(f, 0)]) D' = l0 ++ [(f, D' - 1)] := by
        simp [nextL]
      rw [e]
      refine ⟨can_app c1 c2 c3.1 (by omega), fun p hp => ?_, fun n hn => ?_⟩
      · rcases List.mem_append.1 hp with q | q
        · have := c2 p q; omega
        · rw [List.mem_singleton.1 q]; show D' - 1 + 1 ≤ D'; omega
      · rw [mem_app, mem_cons]
        by_cases c : n < D
        · rw [c4 n c]
          refine ⟨fun z => z.imp id fun z => .inl ⟨z, by omega⟩, fun z => z.imp id fun z => ?_⟩
          rcases z with z | z
          · exact z.1
          · exact absurd z mem_nil
        · rw [mid n (by omega) hn, ho]
          exact ⟨fun _ => .inr (.inl ⟨by omega, by omega⟩), fun _ => rfl⟩
  · rw [ho']
    cases ho : o with
    | false =>
      obtain ⟨c1, c2, c3⟩ := h.clo ho
      refine ⟨l, D', rfl, c1, fun p hp => by have := c2 p hp; omega, ⟨by omega, Int.le_refl _⟩, fun n hn => ?_⟩
      by_cases c : n < D
      · rw [c3 n c]
        exact ⟨.inl, fun z => z.elim id fun z => by omega⟩
      · rw [mid n (by omega) hn, ho]
        refine ⟨fun z => (by cases z), fun z => ?_⟩
        rcases z with ⟨p, hp, _, z⟩ | z
        · have := c2 p hp; omega
        · omega
    | true =>
      obtain ⟨l0, f, rfl, c1, c2, c3, c4⟩ := h.opn ho
      refine ⟨l0, f, rfl, c1, c2, ⟨c3.1, by omega⟩, fun n hn => ?_⟩
      by_cases c : n < D
      · exact c4 n c
      · rw [mid n (by omega) hn, ho]
        exact ⟨fun _ => .inr (by omega), fun _ => rfl⟩
theorem CI.start {ch : Bool → Bool → Bool} (hch : ch false false = false) {a b : Sp} (ha : Can 0 a) (hb : Can 0 b) : CI ch (fun n => ch (stE false (edges a) n) (stE false (edges b) n) = true) (edges a) (edges b) false false false [] (-1) :=
  ⟨edges_inc ha, edges_inc hb, Int.le_refl _, fun n _ => Iff.rfl, hch.symm, fun _ => ⟨trivial, fun p hp => (by cases hp), fun n hn => by
    rw [stE_lt ((edges_inc ha).mono (by omega)), stE_lt ((edges_inc hb).mono (by omega)), hch]
    exact ⟨fun z => (by cases z), fun z => absurd z mem_nil⟩⟩, fun z => (by cases z)⟩
/-- At the end nothing is open, and the list has the days that are to be in it. -/
theorem CI.done {ch : Bool → Bool → Bool} {F : Int → Prop} {A B o : Bool} {l : Sp} {D : Int} (h : CI ch F [] [] A B o l D) (hA : A = false) (hB : B = false) (hch : ch false false = false) : Can 0 l ∧ ∀ n, F n ↔ Mem n l := by
  have ho : o = false := by rw [h.op, hA, hB, hch]
  obtain ⟨c1, c2, c3⟩ := h.clo ho
  refine ⟨c1, fun n => ?_⟩
  by_cases c : n < D
  · exact c3 n c
  · rw [h.fut n (by omega)]
    show ch A B = true ↔ _
    rw [hA, hB, hch]
    refine ⟨fun z => (by cases z), fun ⟨p, hp, _, z⟩ => ?_⟩
    have := c2 p hp
    omega
/-- Edges go by twos: A says whether their number is odd. -/
theorem edges_even : ∀ l : Sp, (edges l).length % 2 = 0
  | [] => rfl
  | (a, b) :: r => by
    have := edges_even r
    show ((edges r).length + 1 + 1) % 2 = 0
    omega
def Ev (A : Bool) (x : List Int) : Prop := x.length % 2 = if A then 1 else 0
theorem Ev.pass {A : Bool} {x : List Int} {D : Int} (h : Ev A x) : Ev (flip A x D) (rest x D) := by
  cases x with
  | nil => exact h
  | cons e r =>
    by_cases c : e = D
    · have e1 : rest (e :: r) D = r := if_pos c
      have e2 : flip A (e :: r) D = !A := if_pos c
      rw [e1, e2]
      unfold Ev at h ⊢
      have h : (r.length + 1) % 2 = if A then 1 else 0 := h
      cases A with
      | false => have h : (r.length + 1) % 2 = 0 := h; show r.length % 2 = 1; omega
      | true => have h : (r.length + 1) % 2 = 1 := h; show r.length % 2 = 0; omega
    · have e1 : rest (e :: r) D = e :: r := if_neg c
      have e2 : flip A (e :: r) D = A := if_neg c
      rw [e1, e2]
      exact h
theorem Ev.nil {A : Bool} (h : Ev A []) : A = false := by
  cases A with
  | false => rfl
  | true => cases h
/-! The reference: the days between two edges that follow each other are all in, or none is. -/
theorem stE_same {n m : Int} (h : n ≤ m) : ∀ {x : List Int} {A : Bool}, (∀ e, e ∈ x → ¬ (n < e ∧ e ≤ m)) → stE A x n = stE A x m
  | [], _, _ => rfl
  | e :: x, A, k => by
    have ih := stE_same h (x := x) (A := !A) fun d hd => k d (List.mem_cons_of_mem _ hd)
    have ke := k e (List.mem_cons_self ..)
    show (if e ≤ n then stE (!A) x n else A) = if e ≤ m then stE (!A) x m else A
    by_cases c : e ≤ n
    · rw [if_pos c, if_pos (by omega), ih]
    · rw [if_neg c, if_neg (by omega)]
theorem stE_first {n : Int} {A : Bool} : ∀ {x : List Int}, (∀ e, e ∈ x → n < e) → stE A x n = A
  | [], _ => rfl
  | e :: x, k => by
    show (if e ≤ n then stE (!A) x n else A) = A
    rw [if_neg (by have := k e (List.mem_cons_self ..); omega)]
theorem stE_last {n : Int} : ∀ {x : List Int} {A : Bool}, Ev A x → (∀ e, e ∈ x → e ≤ n) → stE A x n = false
  | [], A, h, _ => Ev.nil h
  | e :: x, A, h, k => by
    show (if e ≤ n then stE (!A) x n else A) = false
    rw [if_pos (k e (List.mem_cons_self ..))]
    have hp : Ev (!A) x := by
      have := Ev.pass (D := e) h
      have e1 : rest (e :: x) e = x := if_pos rfl
      have e2 : flip A (e :: x) e = !A := if_pos rfl
      rwa [e1, e2] at this
    exact stE_last hp fun d hd => k d (List.mem_cons_of_mem _ hd)
/-- Up to an edge. -/
structure RI (F : Int → Prop) (l : Sp) (e : Int) : Prop where
  can : Can 0 l
  low : ∀ p, p ∈ l → p.2 + 1 ≤ e
  mem : ∀ n, n < e → (F n ↔ Mem n l)
theorem RI.skip {F : Int → Prop} {l : Sp} {e e' : Int} (h : RI F l e) (he : e ≤ e') (k : ∀ n, e ≤ n → n < e' → ¬ F n) : RI F l e' := by
  refine ⟨h.can, fun p hp => by have := h.low p hp; omega, fun n hn => ?_⟩
  by_cases c : n < e
  · exact h.mem n c
  · refine ⟨fun z => absurd z (k n (by omega) hn), fun ⟨p, hp, _, z⟩ => ?_⟩
    have := h.low p hp
    omega
theorem RI.app {F : Int → Prop} {l : Sp} {e e' : Int} (h : RI F l e) (h0 : 0 ≤ e) (he : e < e') (hl : ∀ p, p ∈ l → p.2 + 1 ≠ e) (k : ∀ n, e ≤ n → n < e' → F n) : RI F (l ++ [(e, e' - 1)]) e' := by
  refine ⟨can_app h.can (fun p hp => by have := h.low p hp; have := hl p hp; omega) h0 (by omega), fun p hp => ?_, fun n hn => ?_⟩
  · rcases List.mem_append.1 hp with q | q
    · have := h.low p q; omega
    · rw [List.mem_singleton.1 q]; show e' - 1 + 1 ≤ e'; omega
  · rw [mem_app, mem_cons]
    by_cases c : n < e
    · rw [h.mem n c]
      refine ⟨.inl, fun z => ?_⟩
      rcases z with z | z | z
      · exact z
      · omega
      · exact absurd z mem_nil
    · exact ⟨fun _ => .inr (.inl ⟨by omega, by omega⟩), fun _ => k n (by omega) hn⟩
theorem RI.ext {F : Int → Prop} {l : Sp} {f e e' : Int} (h : RI F (l ++ [(f, e - 1)]) e) (he : e < e') (k : ∀ n, e ≤ n → n < e' → F n) : RI F (l ++ [(f, e' - 1)]) e' := by
  obtain ⟨c1, c2, c3, c4⟩ := can_take h.can
  refine ⟨can_app c1 c2 c3 (by omega), fun p hp => ?_, fun n hn => ?_⟩
  · rcases List.mem_append.1 hp with q | q
    · have := h.low p (List.mem_append.2 (.inl q)); omega
    · rw [List.mem_singleton.1 q]; show e' - 1 + 1 ≤ e'; omega
  · have hm := h.mem n
    rw [mem_app, mem_cons] at hm ⊢
    by_cases c : n < e
    · rw [hm c]
      refine ⟨fun z => ?_, fun z => ?_⟩
      · rcases z with z | z | z
        · exact .inl z
        · exact .inr (.inl ⟨z.1, by omega⟩)
        · exact absurd z mem_nil
      · rcases z with z | z | z
        · exact .inl z
        · exact .inr (.inl ⟨z.1, by omega⟩)
        · exact absurd z mem_nil
    · exact ⟨fun _ => .inr (.inl ⟨by omega, by omega⟩), fun _ => k n (by omega) hn⟩
/-- Only the last span can end just before. -/
theorem RI.only {F : Int → Prop} {l : Sp} {f t e : Int} (h : RI F (l ++ [(f, t)]) e) : ∀ p, p ∈ l → p.2 + 1 ≠ e := fun p hp => by
  obtain ⟨c1, c2, c3, c4⟩ := can_take h.can
  have := c2 p hp
  have := h.low (f, t) (List.mem_append.2 (.inr (List.mem_singleton.2 rfl)))
  have : t + 1 ≤ e := this
  omega
/-- Two lists with the same days are the same. -/
theorem same_days {F : Int → Prop} {l k : Sp} (h1 : Can 0 l) (h2 : ∀ n, F n ↔ Mem n l) (k1 : Can 0 k) (k2 : ∀ n, F n ↔ Mem n k) : l = k :=
  can_uniq h1 k1 fun n => (h2 n).symm.trans (k2 n)
/-! A number is put into an increasing list. -/
def ins : List Int → Int → List Int
  | [], n => [n]
  | e :: r, n => if e < n then e :: ins r n else if e = n then e :: r else n :: e :: r
theorem mem_ins {x n : Int} : ∀ {l : List Int}, x ∈ ins l n ↔ x = n ∨ x ∈ l
  | [] => by simp [ins]
  | e :: r => by
    have ih := mem_ins (x := x) (n := n) (l := r)
    unfold ins
    split
    · rw [List.mem_cons, ih, List.mem_cons]
      exact ⟨fun h => h.elim (fun h => .inr (.inl h)) fun h => h.imp id .inr, fun h => h.elim (fun h => .inr (.inl h)) fun h => h.imp id .inr⟩
    · split
      · rename_i h
        rw [List.mem_cons]
        exact ⟨.inr, fun k => k.elim (fun k => .inl (k.trans h.symm)) id⟩
      · rw [List.mem_cons]
theorem ins_inc {n : Int} : ∀ {l : List Int} {m : Int}, Inc m l → m ≤ n → Inc m (ins l n)
  | [], _, _, h => ⟨h, trivial⟩
  | e :: r, m, c, h => by
    have q := c.1
    unfold ins
    split
    · exact ⟨q, ins_inc c.2 (by omega)⟩
    · split
      · exact c
      · exact ⟨h, by omega, c.2⟩
theorem ins_len {n : Int} : ∀ {l : List Int}, l.length ≤ (ins l n).length ∧ (ins l n).length ≤ l.length + 1
  | [] => ⟨Nat.zero_le _, Nat.le_refl _⟩
  | e :: r => by
    have ih := ins_len (n := n) (l := r)
    unfold ins
    split
    · show r.length + 1 ≤ (ins r n).length + 1 ∧ (ins r n).length + 1 ≤ r.length + 1 + 1; omega
    · split
      · show r.length + 1 ≤ r.length + 1 ∧ r.length + 1 ≤ r.length + 1 + 1; omega
      · show r.length + 1 ≤ r.length + 1 + 1 ∧ r.length + 1 + 1 ≤ r.length + 1 + 1; omega
/-- What lies before the place, the number, and what lies behind it. -/
theorem ins_eq {n : Int} : ∀ {l : List Int} {k : Nat}, k ≤ l.length → (∀ i, i < k → l.getD i 0 < n) → (k < l.length → n ≤ l.getD k 0) → ins l n = l.take k ++ n :: l.drop (if k < l.length ∧ l.getD k 0 = n then k + 1 else k)
  | [], k, hk, _, _ => by
    have : k = 0 := by have : k ≤ 0 := hk; omega
    subst this
    rfl
  | e :: r, 0, _, _, h2 => by
    have h2 : n ≤ e := h2 (Nat.succ_pos _)
    unfold ins
    rw [if_neg (by omega)]
    by_cases c : e = n
    · rw [if_pos c, if_pos ⟨Nat.succ_pos _, c⟩, c]; rfl
    · rw [if_neg c, if_neg fun z => c z.2]; rfl
  | e :: r, k + 1, hk, h1, h2 => by
    have h0 : e < n := h1 0 (Nat.succ_pos _)
    have hk : k + 1 ≤ r.length + 1 := hk
    have ih := ins_eq (n := n) (l := r) (k := k) (by omega) (fun i hi => h1 (i + 1) (by omega)) fun q => h2 (by show k + 1 < r.length + 1; omega)
    unfold ins
    rw [if_pos h0, ih]
    by_cases c : k < r.length ∧ r.getD k 0 = n
    · rw [if_pos c, if_pos (show k + 1 < (e :: r).length ∧ (e :: r).getD (k + 1) 0 = n from ⟨Nat.succ_lt_succ c.1, c.2⟩)]; rfl
    · rw [if_neg c, if_neg (fun z => c ⟨Nat.lt_of_succ_lt_succ z.1, z.2⟩ : ¬ (k + 1 < (e :: r).length ∧ (e :: r).getD (k + 1) 0 = n))]; rfl
def endsL (at' : List Int) : Sp → List Int
  | [] => at'
  | (a, b) :: r => endsL (ins (ins at' a) (b + 1)) r
theorem mem_ends {x : Int} : ∀ {l : Sp} {t : List Int}, x ∈ endsL t l ↔ x ∈ t ∨ x ∈ edges l
  | [], t => by simp [endsL, edges]
  | (a, b) :: r, t => by
    show x ∈ endsL (ins (ins t a) (b + 1)) r ↔ x ∈ t ∨ x ∈ a :: (b + 1) :: edges r
    rw [mem_ends, mem_ins, mem_ins, List.mem_cons, List.mem_cons]
    constructor
    · rintro ((h | h | h) | h)
      · exact .inr (.inr (.inl h))
      · exact .inr (.inl h)
      · exact .inl h
      · exact .inr (.inr (.inr h))
    · rintro (h | h | h | h)
      · exact .inl (.inr (.inr h))
      · exact .inl (.inr (.inl h))
      · exact .inl (.inl h)
      · exact .inr h
theorem ends_inc : ∀ {l : Sp} {t : List Int} {m k : Int}, Inc m t → Can k l → m ≤ k → Inc m (endsL t l)
  | [], _, _, _, h, _, _ => h
  | (a, b) :: r, t, m, k, h, c, q => ends_inc (l := r) (t := ins (ins t a) (b + 1)) (k := b + 2) (ins_inc (ins_inc h (by have := c.1; omega)) (by have := c.1; omega)) c.2 (by have := c.1; omega)
theorem inc_mem {x : Int} : ∀ {l : List Int} {m : Int}, Inc m l → x ∈ l → m ≤ x
  | [], _, _, h => by cases h
  | e :: r, m, c, h => by
    have q := c.1
    rcases List.mem_cons.1 h with k | k
    · omega
    · have := inc_mem c.2 k; omega
/-- Nothing lies between neighbours. -/
theorem inc_gap : ∀ {l : List Int} {m : Int} {i : Nat}, Inc m l → i + 1 < l.length → l.getD i 0 < l.getD (i + 1) 0 ∧ ∀ e, e ∈ l → e ≤ l.getD i 0 ∨ l.getD (i + 1) 0 ≤ e
  | [], _, _, _, h => absurd h (Nat.not_lt_zero _)
  | [_], _, _, _, h => absurd (Nat.lt_of_succ_lt_succ h) (Nat.not_lt_zero _)
  | e :: d :: r, m, 0, c, h => by
    have c2 : e + 1 ≤ d ∧ Inc (d + 1) r := c.2
    refine ⟨by show e < d; omega, fun x hx => ?_⟩
    rcases List.mem_cons.1 hx with k | k
    · exact .inl (by show x ≤ e; omega)
    · rcases List.mem_cons.1 k with k | k
      · exact .inr (by show d ≤ x; omega)
      · exact .inr (by have := inc_mem c2.2 k; show d ≤ x; omega)
  | e :: d :: r, m, i + 1, c, h => by
    have ih := inc_gap (l := d :: r) (i := i) c.2 (Nat.lt_of_succ_lt_succ h)
    refine ⟨ih.1, fun x hx => ?_⟩
    rcases List.mem_cons.1 hx with k | k
    · have hm : (d :: r).getD i 0 ∈ d :: r := by
        have hlt : i < (d :: r).length := by have := Nat.lt_of_succ_lt_succ h; omega
        rw [List.getD_eq_getElem?_getD, List.getElem?_eq_getElem hlt]
        exact List.getElem_mem ..
      have := inc_mem c.2 hm
      exact .inl (by show x ≤ (d :: r).getD i 0; omega)
    · exact ih.2 x k
theorem inc_ends : ∀ {l : List Int} {m : Int}, Inc m l → (∀ e, e ∈ l → l.getD 0 0 ≤ e) ∧ ∀ e, e ∈ l → e ≤ l.getD (l.length - 1) 0
  | [], _, _ => ⟨fun e h => (by cases h), fun e h => (by cases h)⟩
  | [e], _, _ => ⟨fun x h => by rw [List.mem_singleton.1 h]; exact Int.le_refl _, fun x h => by rw [List.mem_singleton.1 h]; exact Int.le_refl _⟩
  | e :: d :: r, m, c => by
    have ih := inc_ends (l := d :: r) c.2
    have h1 := c.2.1
    refine ⟨fun x hx => ?_, fun x hx => ?_⟩
    · rcases List.mem_cons.1 hx with k | k
      · rw [k]; exact Int.le_refl _
      · have := inc_mem c.2 k; show e ≤ x; omega
    · rcases List.mem_cons.1 hx with k | k
      · have := ih.2 d (List.mem_cons_self ..)
        show x ≤ (d :: r).getD ((d :: r).length - 1) 0
        omega
      · exact ih.2 x k
/-- What is to be in the result. -/
def FF (ch : Bool → Bool → Bool) (a b : Sp) (n : Int) : Prop := ch (stE false (edges a) n) (stE false (edges b) n) = true
section
variable {ch : Bool → Bool → Bool} {a b : Sp} {t : List Int}
theorem FF_same (ht : ∀ e, e ∈ t ↔ e ∈ edges a ∨ e ∈ edges b) {e e' n : Int} (h : ∀ d, d ∈ t → d ≤ e ∨ e' ≤ d) (h1 : e ≤ n) (h2 : n < e') : FF ch a b n ↔ FF ch a b e := by
  unfold FF
  rw [stE_same (n := e) (m := n) h1 (x := edges a) fun d hd => by have := h d ((ht d).2 (.inl hd)); omega,
    stE_same (n := e) (m := n) h1 (x := edges b) fun d hd => by have := h d ((ht d).2 (.inr hd)); omega]
theorem FF_first (hch : ch false false = false) (ht : ∀ e, e ∈ t ↔ e ∈ edges a ∨ e ∈ edges b) {n : Int} (h : ∀ d, d ∈ t → n < d) : ¬ FF ch a b n := by
  unfold FF
  rw [stE_first fun d hd => h d ((ht d).2 (.inl hd)), stE_first fun d hd => h d ((ht d).2 (.inr hd)), hch]
  exact fun z => by cases z
theorem FF_last (hch : ch false false = false) (ht : ∀ e, e ∈ t ↔ e ∈ edges a ∨ e ∈ edges b) {n : Int} (h : ∀ d, d ∈ t → d ≤ n) : ¬ FF ch a b n := by
  unfold FF
  rw [stE_last (A := false) (show Ev false (edges a) from edges_even a) fun d hd => h d ((ht d).2 (.inl hd)), stE_last (A := false) (show Ev false (edges b) from edges_even b) fun d hd => h d ((ht d).2 (.inr hd)), hch]
  exact fun z => by cases z
end
end Go.Proofs.YtdffnmhpkapbkaaDoor
