/- DERIVED. A boundary is passed: what the program's combining keeps. -/
import Derived.Test.YtdffnmhpkapbkaaDoorEctf
namespace Go.Proofs.YtdffnmhpkapbkaaDoor
open Go.Dx
set_option linter.unusedVariables false
abbrev dl (x : List (List DV)) : DV := .sl none 0 x
/-- A list of edges with its flag is passed by a day, or waits. -/
def Pas (x x' : List (List DV)) (A A' D : Int) : Prop :=
  (x' = x ∧ A' = A ∧ ((dl x).len = 0 ∨ D < (dl x).at 0 0)) ∨ (x' = x.drop 1 ∧ A' = 1 - A ∧ 0 < (dl x).len ∧ (dl x).at 0 0 = D)
def Lst (l l' : List (List DV)) (q q' D : Int) : Prop :=
  (l' = l ∧ q' = q) ∨ (l' = l ++ [[.n D, .n 0]] ∧ q = 0 ∧ q' = 1) ∨
    (l' = l.modify ((dl l).len - 1).toNat (fun e : List DV => layG e 1 [DV.n (IntKind.i64.wrap (D - 1))]) ∧ q = 1 ∧ q' = 0)
def OpP (o A B : Int) : Prop := (o = 1 → A = 1 ∨ B = 1) ∧ (o = 2 → A = 1 ∧ B = 1) ∧ (o = 3 → A = 1 ∧ ¬ B = 1)
theorem op_ch {o A B q : Int} (ho : o = 1 ∨ o = 2 ∨ o = 3) (h : q = 1 ↔ OpP o A B) : decide (q = 1) = chO o (decide (A = 1)) (decide (B = 1)) := by
  unfold OpP at h
  unfold chO
  rcases ho with rfl | rfl | rfl
  · rw [if_pos rfl]
    by_cases a : A = 1 <;> by_cases b : B = 1 <;> simp_all
  · rw [if_neg (by decide), if_pos rfl]
    by_cases a : A = 1 <;> by_cases b : B = 1 <;> simp_all
  · rw [if_neg (by decide), if_neg (by decide)]
    by_cases a : A = 1 <;> by_cases b : B = 1 <;> simp_all
theorem ivl_head {x : List (List DV)} (h : 0 < x.length) : ivl (dl x) = (dl x).at 0 0 :: ivl (dl (x.drop 1)) := by
  cases x with
  | nil => exact absurd h (Nat.not_lt_zero 0)
  | cons e r => rfl
theorem pas_of {x x' : List (List DV)} {A A' D : Int} (lx : (dl x).len = x.length) (hA : 0 ≤ A ∧ A ≤ 1) (h : Pas x x' A A' D) :
    (rest (ivl (dl x)) D = ivl (dl x') ∧ flip (decide (A = 1)) (ivl (dl x)) D = decide (A' = 1)) ∧ From D (ivl (dl x)) ∧ (x'.length ≤ x.length ∧ (∀ e, e ∈ ivl (dl x') → e ∈ ivl (dl x))) ∧
    (x'.length < x.length → D ∈ ivl (dl x)) := by
  rcases h with ⟨rfl, rfl, h⟩ | ⟨rfl, rfl, h, rfl⟩
  · by_cases c : x'.length = 0
    · have : x' = [] := List.eq_nil_of_length_eq_zero c
      subst this
      exact ⟨⟨rfl, rfl⟩, trivial, ⟨Nat.le_refl _, fun e h => h⟩, fun z => absurd z (Nat.lt_irrefl _)⟩
    · have e := ivl_head (x := x') (by omega)
      have hd : D < (dl x').at 0 0 := h.resolve_left (by omega)
      refine ⟨?_, ?_, ⟨Nat.le_refl _, fun e h => h⟩, fun z => absurd z (Nat.lt_irrefl _)⟩
      · rw [e]
        exact ⟨if_neg (by omega), if_neg (by omega)⟩
      · rw [e]
        show D ≤ _
        omega
  · have e := ivl_head (x := x) (by omega)
    refine ⟨?_, ?_, ⟨by rw [List.length_drop]; omega, fun d hd => by rw [e]; exact List.mem_cons_of_mem _ hd⟩, fun _ => by rw [e]; exact List.mem_cons_self ..⟩
    · rw [e]
      refine ⟨if_pos rfl, (if_pos rfl).trans ?_⟩
      have : A = 0 ∨ A = 1 := by omega
      rcases this with rfl | rfl <;> rfl
    · rw [e]
      exact Int.le_refl _
theorem lst_len {l l' : List (List DV)} {q q' D : Int} (h : Lst l l' q q' D) : l'.length ≤ l.length + 1 := by
  rcases h with ⟨rfl, _⟩ | ⟨rfl, _⟩ | ⟨rfl, _⟩
  · exact Nat.le_succ _
  · simp
  · rw [List.length_modify]; exact Nat.le_succ _
theorem c_step {o : Int} (ho : o = 1 ∨ o = 2 ∨ o = 3) {a b : DV} {x x' y y' l l' : List (List DV)} {A A' B B' q q' D : Int} (lx : (dl x).len = x.length) (ly : (dl y).len = y.length) (hl : HasSh spans (dl l))
    (hA : 0 ≤ A ∧ A ≤ 1) (hB : 0 ≤ B ∧ B ≤ 1) (hq : 0 ≤ q ∧ q ≤ 1) (hI : CInv o a b (dl x) (dl y) A B (dl l) q) (px : Pas x x' A A' D) (py : Pas y y' B B' D) (hm : (dl x').len + (dl y').len < (dl x).len + (dl y).len)
    (hop : q' = 1 ↔ OpP o A' B') (hL : Lst l l' q q' D) : CInv o a b (dl x') (dl y') A' B' (dl l') q' := by
  obtain ⟨D0, hC, ⟨ea, eb⟩, hlen, rx, ry⟩ := hI
  have ll := len_of hl (Nat.le_refl _)
  have ll : (dl l).len = l.length := ll
  obtain ⟨⟨x1, x2⟩, x3, ⟨x4, x5⟩, x6⟩ := pas_of lx hA px
  obtain ⟨⟨y1, y2⟩, y3, ⟨y4, y5⟩, y6⟩ := pas_of ly hB py
  have lx' : (dl x').len = x'.length := clampL_eq (show x'.length ≤ 9223372036854775807 by omega)
  have ly' : (dl y').len = y'.length := clampL_eq (show y'.length ≤ 9223372036854775807 by omega)
  have l5 := lst_len hL
  have ll' : (dl l').len = l'.length := clampL_eq (show l'.length ≤ 9223372036854775807 by omega)
  have hD : D ∈ ivl (dl x) ∨ D ∈ ivl (dl y) := by
    by_cases c : x'.length < x.length
    · exact .inl (x6 c)
    · exact .inr (y6 (by omega))
  have rD : D0 < D ∧ 0 ≤ D ∧ D ≤ 73049 := by
    rcases hD with k | k
    · exact ⟨by have := inc_mem hC.ix k; omega, rx D k⟩
    · exact ⟨by have := inc_mem hC.iy k; omega, ry D k⟩
  have st := hC.step rD.1 x3 y3
  have ex := Ev.pass (D := D) ea
  have ey := Ev.pass (D := D) eb
  rw [x1, x2] at ex
  rw [y1, y2] at ey
  rw [x1, x2, y1, y2, ← op_ch ho hop] at st
  refine ⟨D, ?_, ⟨ex, ey⟩, by omega, fun e he => rx e (x5 e he), fun e he => ry e (y5 e he)⟩
  have el : nextL (decide (q = 1)) (decide (q' = 1)) (spn (dl l)) D = spn (dl l') := by
    rcases hL with ⟨rfl, rfl⟩ | ⟨rfl, rfl, rfl⟩ | ⟨rfl, rfl, rfl⟩
    · cases decide (q' = 1) <;> rfl
    · rw [spn_app _ _ _ (by omega) (by omega)]; rfl
    · have : ¬ l.length = 0 := fun c => by
        obtain ⟨l0, f, e, _⟩ := hC.opn (by rfl)
        have : (spn (dl l)).length = l.length := spn_len _
        rw [e, List.length_append, List.length_singleton] at this
        omega
      obtain ⟨l0, f, t, rfl, hf, ht⟩ := last_two hl (by omega)
      have l00 : (l0 ++ [[DV.n f, .n t]]).length = l0.length + 1 := by simp
      rw [show ((dl (l0 ++ [[DV.n f, .n t]])).len - 1).toNat = l0.length by omega, mod_last, show IntKind.i64.wrap (D - 1) = D - 1 from wW (by omega) (by omega)]
      show _ = spn (dl (l0 ++ [[DV.n f, .n (D - 1)]]))
      rw [spn_app _ _ _ hf ht, spn_app _ _ _ hf (by omega)]
      simp [nextL]
  rw [← el]
  exact st
theorem c_pos {o : Int} {a b x y : DV} {l : List (List DV)} {A B q : Int} (ll : (dl l).len = l.length) (hI : CInv o a b x y A B (dl l) q) (hq : q = 1) : 1 ≤ (dl l).len := by
  subst hq
  obtain ⟨D0, hC, _⟩ := hI
  obtain ⟨l0, f, e, _⟩ := hC.opn (by rfl)
  have h1 : (spn (dl l)).length = l.length := spn_len _
  rw [e, List.length_append, List.length_singleton] at h1
  cases l with
  | nil => cases h1
  | cons z r =>
    have : (z :: r).length = r.length + 1 := rfl
    omega
theorem edges_len : ∀ l : Sp, (edges l).length = 2 * l.length
  | [] => rfl
  | (a, b) :: r => by
    have := edges_len r
    show (edges r).length + 1 + 1 = 2 * (r.length + 1)
    omega
theorem edges_rng : ∀ {L : Sp} {m x : Int}, (∀ p, p ∈ L → p.2 ≤ 73048) → Can m L → 0 ≤ m → x ∈ edges L → 0 ≤ x ∧ x ≤ 73049
  | [], _, _, _, _, _, h => by cases h
  | (p1, p2) :: r, m, x, h, c, h0, hx => by
    have h6 := h (p1, p2) (List.mem_cons_self ..)
    have h6 : p2 ≤ 73048 := h6
    have h7 := c.1
    have hx : x ∈ p1 :: (p2 + 1) :: edges r := hx
    rcases List.mem_cons.1 hx with k | k
    · omega
    · rcases List.mem_cons.1 k with k | k
      · omega
      · exact edges_rng (fun p hp => h p (List.mem_cons_of_mem _ hp)) c.2 (by omega) k
theorem c_start {o : Int} {a b x y : List (List DV)} (hx : ivl (dl x) = edges (spn (dl a))) (hy : ivl (dl y) = edges (spn (dl b))) (lx : (dl x).len = x.length) (ly : (dl y).len = y.length)
    (la : a.length ≤ 256) (lb : b.length ≤ 256) (cA : Can 0 (spn (dl a))) (cB : Can 0 (spn (dl b))) (mA : ∀ p, p ∈ spn (dl a) → p.2 ≤ 73048) (mB : ∀ p, p ∈ spn (dl b) → p.2 ≤ 73048) :
    CInv o (dl a) (dl b) (dl x) (dl y) 0 0 (dl []) 0 := by
  have e1 : (ivl (dl x)).length = x.length := ivl_len _
  have e2 : (ivl (dl y)).length = y.length := ivl_len _
  have e3 : (spn (dl a)).length = a.length := spn_len _
  have e4 : (spn (dl b)).length = b.length := spn_len _
  rw [hx, edges_len, e3] at e1
  rw [hy, edges_len, e4] at e2
  refine ⟨-1, ?_, ⟨?_, ?_⟩, ?_, fun e he => ?_, fun e he => ?_⟩
  · rw [hx, hy]; exact CI.start ch_ff cA cB
  · rw [hx]; exact edges_even _
  · rw [hy]; exact edges_even _
  · rw [lx, ly, ← e1, ← e2]
    show (0 : Int) + _ + _ ≤ 1100
    omega
  · rw [hx] at he; exact edges_rng mA cA (Int.le_refl _) he
  · rw [hy] at he; exact edges_rng mB cB (Int.le_refl _) he
theorem c_done {o : Int} {a b : DV} {x y l : List (List DV)} {A B q : Int} (lx : x.length = 0) (ly : y.length = 0) (hI : CInv o a b (dl x) (dl y) A B (dl l) q) :
    Can 0 (spn (dl l)) ∧ ∀ n, FF (chO o) (spn a) (spn b) n ↔ Mem n (spn (dl l)) := by
  obtain ⟨D0, hC, ⟨ea, eb⟩, _⟩ := hI
  have : x = [] := List.eq_nil_of_length_eq_zero lx
  subst this
  have : y = [] := List.eq_nil_of_length_eq_zero ly
  subst this
  exact hC.done (Ev.nil ea) (Ev.nil eb) ch_ff
theorem sub_one {x : List (List DV)} (lx : (dl x).len = x.length) : (x.take (dl x).len.toNat).drop (1 : Int).toNat = x.drop 1 := by
  rw [show (dl x).len.toNat = x.length by omega, List.take_length]; rfl
end Go.Proofs.YtdffnmhpkapbkaaDoor
