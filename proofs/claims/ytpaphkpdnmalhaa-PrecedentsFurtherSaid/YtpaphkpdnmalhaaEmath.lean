/- DERIVED. Sets as bits; steps of a walk's tree. -/
import Derived.Test.YtpaphkpdnmalhaaEcon
namespace Go.Proofs.Ytpaphkpdnmalhaa
open Go.Dx
set_option linter.unusedVariables false
set_option linter.unusedSimpArgs false
theorem res_con {C : List Con} {post : List DV → Prop} {i : Nat} {zs : List E} {k : T (List E)} {r : List DV} {d : Con} (hd : C[i]? = some d) (hp : d.pre (zs.map (E.top r))) (h : allB (resB d.res) fun ys => d.post (zs.map (E.top r)) ys → T.res C post k (r ++ ys)) : T.res C post (.con i zs k) r := by
  simp only [T.res, hd]; exact ⟨hp, h⟩
theorem res_ite {C : List Con} {post : List DV → Prop} {b : B} {t e : T (List E)} {r : List DV} (h : b.prop r → T.res C post t r) (k : ¬ b.prop r → T.res C post e r) : T.res C post (.ite b t e) r := ⟨h, k⟩
theorem res_both {C : List Con} {post : List DV → Prop} {t e : T (List E)} {r : List DV} (h : T.res C post t r) (k : T.res C post e r) : T.res C post (.both t e) r := ⟨h, k⟩
theorem res_ok {C : List Con} {post : List DV → Prop} {b : B} {t : T (List E)} {r : List DV} (h : b.prop r) (k : T.res C post t r) : T.res C post (.ite b t .fail) r := ⟨fun _ => k, fun q => absurd h q⟩
theorem res_chk {C : List Con} {post : List DV → Prop} {i o : Nat} {zs : List E} {r : List DV} {d : Con} (hd : C[i]? = some d) (h : d.pre (r.take o ++ zs.map (E.top r))) (k : d.mea (r.take o ++ zs.map (E.top r)) < d.mea (r.take (o + zs.length))) : T.res C post (.chk i o zs) r := by
  simp only [T.res, hd]; exact ⟨h, k⟩
theorem res_lop {C : List Con} {post : List DV → Prop} {i m : Nat} {zs : List E} {k : T (List E)} {r : List DV} {d : Con} (hd : C[i]? = some d) (h : d.pre (r ++ zs.map (E.top r))) (q : allB d.bnd fun ys => d.pre (r ++ ys) → T.res C post k (r ++ (ys ++ List.replicate m (.n 0)))) : T.res C post (.lop i zs m k) r := by
  simp only [T.res, hd]; exact ⟨h, q⟩
theorem res_dat {C : List Con} {post : List DV → Prop} {f : DOp} {xs : List E} {k : T (List E)} {r : List DV} (v : DV) (e : f.fn (xs.map (E.val r)) = v) (h : T.res C post k (r ++ [v])) : T.res C post (.dat f xs k) r := by subst e; exact h
theorem len_nn (d : DV) : 0 ≤ d.len := d.len_rng.1
theorem n_inj {x y : Int} (h : [DV.n x] = [DV.n y]) : x = y := by simpa using h
theorem wI {x : Int} (h : -9223372036854775808 ≤ x) (k : x ≤ 9223372036854775807) : IntKind.i64.wrap x = x :=
  wrap_in .i64 x (by simpa [kmin, IntKind.signed, IntKind.bits] using h) (by simpa [kmax, IntKind.signed, IntKind.bits] using k)
theorem clampB_i64 {x : Int} (h : -9223372036854775808 ≤ x) (k : x ≤ 9223372036854775807) : clampB x = x := by unfold clampB; rw [if_pos (by omega)]
theorem yes {p : Prop} [Decidable p] (h : p) : [DV.n 1] = yn p := by unfold yn; rw [if_pos h]
theorem no {p : Prop} [Decidable p] (h : ¬ p) : [DV.n 0] = yn p := by unfold yn; rw [if_neg h]
theorem yn_in {c : Prop} [Decidable c] {x : Int} (h : [DV.n x] = yn c) : (x ≠ 0 ∧ c) ∨ (x = 0 ∧ ¬ c) := by
  unfold yn at h
  have := n_inj h
  by_cases q : c
  · rw [if_pos q] at this; exact .inl ⟨by omega, q⟩
  · rw [if_neg q] at this; exact .inr ⟨this, q⟩
/-! The first number for which something holds. -/
theorem first_le (p : Nat → Prop) [DecidablePred p] : ∀ n, firstN p n ≤ n
  | 0 => Nat.le_refl _
  | n + 1 => by
    have := first_le p n
    show (if firstN p n < n then firstN p n else if p n then n else n + 1) ≤ n + 1
    split
    · omega
    · split <;> omega
theorem first_none {p : Nat → Prop} [DecidablePred p] : ∀ {n : Nat}, (∀ i, i < n → ¬ p i) → firstN p n = n
  | 0, _ => rfl
  | n + 1, h => by
    have ih := first_none (p := p) (n := n) fun i hi => h i (by omega)
    show (if firstN p n < n then firstN p n else if p n then n else n + 1) = n + 1
    rw [if_neg (by omega), if_neg (h n (by omega))]
theorem first_eq {p : Nat → Prop} [DecidablePred p] {k : Nat} (hk : p k) (h : ∀ i, i < k → ¬ p i) : ∀ {n : Nat}, k < n → firstN p n = k
  | 0, hn => by omega
  | n + 1, hn => by
    show (if firstN p n < n then firstN p n else if p n then n else n + 1) = k
    by_cases e : k = n
    · subst e
      rw [if_neg (by rw [first_none h]; omega), if_pos hk]
    · have ih := first_eq hk h (n := n) (by omega)
      rw [ih, if_pos (by omega)]
theorem first_spec (p : Nat → Prop) [DecidablePred p] : ∀ n, (∀ i, i < firstN p n → ¬ p i) ∧ (firstN p n < n → p (firstN p n))
  | 0 => ⟨fun i hi => absurd hi (Nat.not_lt_zero i), fun h => absurd h (Nat.not_lt_zero _)⟩
  | n + 1 => by
    obtain ⟨h1, h2⟩ := first_spec p n
    have hl := first_le p n
    have e : firstN p (n + 1) = if firstN p n < n then firstN p n else if p n then n else n + 1 := rfl
    rw [e]
    by_cases c : firstN p n < n
    · rw [if_pos c]; exact ⟨h1, fun _ => h2 c⟩
    · rw [if_neg c]
      have en : firstN p n = n := by omega
      rw [en] at h1
      by_cases q : p n
      · rw [if_pos q]; exact ⟨h1, fun _ => q⟩
      · rw [if_neg q]
        refine ⟨fun i hi => ?_, fun h => by omega⟩
        by_cases z : i = n
        · subst z; exact q
        · exact h1 i (by omega)
/-! Bits. -/
theorem u32_id {n : Nat} (h : n < 2 ^ 32) : IntKind.u32.wrap (n : Int) = n :=
  wrap_in .u32 n (by simp [kmin, IntKind.signed, IntKind.bits]) (by simp [kmax, IntKind.signed, IntKind.bits]; omega)
theorem bv_id {n : Nat} (h : n < 2 ^ 32) : (BitVec.ofInt 32 (n : Int)).toNat = n := by
  rw [BitVec.ofInt_natCast, BitVec.toNat_ofNat, Nat.mod_eq_of_lt h]
theorem p2_id {x : Int} (h0 : 0 ≤ x) (h1 : x < 32) : IntKind.u32.wrap (1 * 2 ^ (Min.min x.toNat IntKind.u32.bits)) = ((2 ^ x.toNat : Nat) : Int) := by
  have e : Min.min x.toNat IntKind.u32.bits = x.toNat := by show Min.min x.toNat 32 = _; omega
  have hlt : 2 ^ x.toNat < 2 ^ 32 := Nat.pow_lt_pow_right (by decide) (by omega)
  rw [e, Int.one_mul, show (2 : Int) ^ x.toNat = ((2 ^ x.toNat : Nat) : Int) by simp]
  exact u32_id hlt
theorem or_id {a b : Nat} (ha : a < 2 ^ 32) (hb : b < 2 ^ 32) : bitD 1 .u32 (a : Int) (b : Int) = ((a ||| b : Nat) : Int) := by
  show IntKind.u32.wrap ((BitVec.ofInt 32 (a : Int) ||| BitVec.ofInt 32 (b : Int)).toNat : Int) = _
  rw [BitVec.toNat_or, bv_id ha, bv_id hb]
  exact u32_id (Nat.or_lt_two_pow ha hb)
theorem and_id {a b : Nat} (ha : a < 2 ^ 32) (hb : b < 2 ^ 32) : bitD 0 .u32 (a : Int) (b : Int) = ((a &&& b : Nat) : Int) := by
  show IntKind.u32.wrap ((BitVec.ofInt 32 (a : Int) &&& BitVec.ofInt 32 (b : Int)).toNat : Int) = _
  rw [BitVec.toNat_and, bv_id ha, bv_id hb]
  exact u32_id (Nat.lt_of_le_of_lt Nat.and_le_left ha)
theorem sub_iff {a b : Nat} (ha : a < 2 ^ 32) (hb : b < 2 ^ 32) : bitD 3 .u32 (a : Int) (b : Int) = 0 ↔ ∀ j, a.testBit j = true → b.testBit j = true := by
  show IntKind.u32.wrap ((BitVec.ofInt 32 (a : Int) &&& ~~~ BitVec.ofInt 32 (b : Int)).toNat : Int) = 0 ↔ _
  rw [u32_id (BitVec.isLt _)]
  have key : ∀ j, (BitVec.ofInt 32 (a : Int) &&& ~~~ BitVec.ofInt 32 (b : Int)).getLsbD j = (a.testBit j && (decide (j < 32) && !b.testBit j)) := fun j => by
    rw [BitVec.getLsbD_and, BitVec.getLsbD_not]
    simp only [BitVec.getLsbD, bv_id ha, bv_id hb]
  constructor
  · intro h j hj
    have hz : (BitVec.ofInt 32 (a : Int) &&& ~~~ BitVec.ofInt 32 (b : Int)) = 0#32 := BitVec.eq_of_toNat_eq (by simpa using h)
    have h32 : j < 32 := Nat.lt_of_not_le fun q => by
      have : a.testBit j = false := Nat.testBit_lt_two_pow (Nat.lt_of_lt_of_le ha (Nat.pow_le_pow_right (by decide) q))
      rw [this] at hj; cases hj
    have := key j
    rw [hz, hj] at this
    simp [h32] at this
    exact this
  · intro h
    have hz : (BitVec.ofInt 32 (a : Int) &&& ~~~ BitVec.ofInt 32 (b : Int)) = 0#32 := by
      apply BitVec.eq_of_getLsbD_eq
      intro j hj
      rw [key j]
      cases hq : a.testBit j with
      | false => simp
      | true => rw [h j hq]; simp
    rw [hz]; rfl
theorem has_iff {s : Nat} (hs : s < 2 ^ 32) {x : Int} (hx : 0 ≤ x) : Int.tmod (Int.tdiv (s : Int) (2 ^ (Min.min x.toNat IntKind.u32.bits))) 2 = 1 ↔ s.testBit x.toNat = true := by
  rw [show (2 : Int) ^ (Min.min x.toNat IntKind.u32.bits) = ((2 ^ (Min.min x.toNat 32) : Nat) : Int) by rw [show IntKind.u32.bits = 32 from rfl]; simp]
  rw [show Int.tmod (Int.tdiv (s : Int) ((2 ^ Min.min x.toNat 32 : Nat) : Int)) 2 = ((s / 2 ^ Min.min x.toNat 32 % 2 : Nat) : Int) from rfl]
  by_cases c : x.toNat < 32
  · rw [show Min.min x.toNat 32 = x.toNat by omega, Nat.testBit_eq_decide_div_mod_eq]
    simp only [decide_eq_true_eq]
    omega
  · rw [show Min.min x.toNat 32 = 32 by omega]
    have : s.testBit x.toNat = false := Nat.testBit_lt_two_pow (Nat.lt_of_lt_of_le hs (Nat.pow_le_pow_right (by decide) (by omega)))
    rw [this, Nat.div_eq_of_lt hs]
    simp
theorem bitsK_lt {L : DV} : ∀ {n : Nat}, (∀ i, i < n → el L i < 32) → (∀ i, i < n → 0 ≤ el L i) → bitsK L n < 2 ^ 32
  | 0, _, _ => show (0 : Nat) < 2 ^ 32 by decide
  | n + 1, h, h0 => by
    have ih := bitsK_lt (L := L) (n := n) (fun i hi => h i (by omega)) fun i hi => h0 i (by omega)
    have := h n (by omega)
    have := h0 n (by omega)
    exact Nat.or_lt_two_pow ih (Nat.pow_lt_pow_right (by decide) (by omega))
theorem bitsK_bit {L : DV} {j : Nat} : ∀ {n : Nat}, (bitsK L n).testBit j = true ↔ ∃ i, i < n ∧ (el L i).toNat = j
  | 0 => by
    constructor
    · intro h; simp [bitsK] at h
    · rintro ⟨i, hi, _⟩; omega
  | n + 1 => by
    show (bitsK L n ||| 2 ^ (el L n).toNat).testBit j = true ↔ _
    rw [Nat.testBit_or, Bool.or_eq_true, bitsK_bit, Nat.testBit_two_pow]
    simp only [decide_eq_true_eq]
    constructor
    · rintro (⟨i, hi, e⟩ | e)
      · exact ⟨i, by omega, e⟩
      · exact ⟨n, by omega, e⟩
    · rintro ⟨i, hi, e⟩
      by_cases c : i = n
      · subst c; exact .inr e
      · exact .inl ⟨i, by omega, e⟩
theorem favK_lt {S : DV} {side : Int} : ∀ {n : Nat}, n ≤ 32 → favK S side n < 2 ^ 32
  | 0, _ => show (0 : Nat) < 2 ^ 32 by decide
  | n + 1, h => by
    have ih := favK_lt (S := S) (side := side) (n := n) (by omega)
    unfold favK
    split
    · exact Nat.or_lt_two_pow ih (Nat.pow_lt_pow_right (by decide) (by omega))
    · exact ih
theorem favK_bit {S : DV} {side : Int} {j : Nat} : ∀ {n : Nat}, (favK S side n).testBit j = true ↔ j < n ∧ el S j = side
  | 0 => by
    constructor
    · intro h; simp [favK] at h
    · intro h; omega
  | n + 1 => by
    unfold favK
    by_cases c : el S n = side
    · rw [if_pos c, Nat.testBit_or, Bool.or_eq_true, favK_bit, Nat.testBit_two_pow]
      simp only [decide_eq_true_eq]
      constructor
      · rintro (⟨h1, h2⟩ | e)
        · exact ⟨by omega, h2⟩
        · subst e; exact ⟨by omega, c⟩
      · rintro ⟨h1, h2⟩
        by_cases e : n = j
        · exact .inr e
        · exact .inl ⟨by omega, h2⟩
    · rw [if_neg c, favK_bit]
      constructor
      · rintro ⟨h1, h2⟩; exact ⟨by omega, h2⟩
      · rintro ⟨h1, h2⟩
        refine ⟨?_, h2⟩
        by_cases e : j = n
        · subst e; exact absurd h2 c
        · omega
/-! Sets. -/
theorem set_lt {F : Int} {L : DV} {n : Nat} (hF : F ≤ 32) (h : setP F L n) : bitsK L n < 2 ^ 32 :=
  bitsK_lt (fun i hi => by have := (h i hi).1; omega) fun i hi => (h i hi).1.1
theorem bits_rng {F : Int} {L : DV} (hF : F ≤ 32) (h : setP F L L.len.toNat) : 0 ≤ bits L ∧ bits L ≤ 4294967295 := by
  have := set_lt hF h
  unfold bits
  omega
theorem mem_bit {F : Int} {L : DV} (h : setP F L L.len.toNat) {x : Int} (hx : 0 ≤ x) : (bitsK L L.len.toNat).testBit x.toNat = true ↔ memP L x := by
  rw [bitsK_bit]
  constructor
  · rintro ⟨i, hi, e⟩
    have := (h i hi).1.1
    exact ⟨i, hi, by omega⟩
  · rintro ⟨i, hi, e⟩
    exact ⟨i, hi, by rw [e]⟩
theorem sub_all {F G : Int} {a b : DV} (hF : F ≤ 32) (hG : G ≤ 32) (ha : setP F a a.len.toNat) (hb : setP G b b.len.toNat) : bitD 3 .u32 (bits a) (bits b) = 0 ↔ allP a b := by
  unfold bits
  rw [sub_iff (set_lt hF ha) (set_lt hG hb)]
  constructor
  · intro h i hi
    have h0 := (ha i hi).1.1
    exact (mem_bit hb h0).1 (h _ (bitsK_bit.2 ⟨i, hi, rfl⟩))
  · intro h j hj
    obtain ⟨i, hi, e⟩ := bitsK_bit.1 hj
    have h0 := (ha i hi).1.1
    rw [← e]
    exact (mem_bit hb h0).2 (h i hi)
theorem setP_succ {F : Int} {L : DV} {x : Int} (h0 : 0 ≤ x) (h : setP F L x.toNat) (h1 : 0 ≤ L.at x 0 ∧ L.at x 0 < F) (h2 : 0 < x → L.at (x - 1) 0 < L.at x 0) : setP F L (x + 1).toNat := fun k hk => by
  by_cases e : k < x.toNat
  · exact h k e
  · have ek : (k : Int) = x := by omega
    refine ⟨by unfold el; rw [ek]; exact h1, fun hp => ?_⟩
    unfold el
    rw [show ((k - 1 : Nat) : Int) = x - 1 by omega, ek]
    exact h2 (by omega)
theorem setP_no {F : Int} {L : DV} {x : Int} (h0 : 0 ≤ x) (h1 : x < L.len) (h : ¬ ((0 ≤ L.at x 0 ∧ L.at x 0 < F) ∧ (0 < x → L.at (x - 1) 0 < L.at x 0))) : ¬ setP F L L.len.toNat := fun q => h (by
  have := q x.toNat (by omega)
  unfold el at this
  rw [show ((x.toNat : Nat) : Int) = x by omega] at this
  refine ⟨this.1, fun hp => ?_⟩
  have h3 := this.2 (by omega)
  rw [show ((x.toNat - 1 : Nat) : Int) = x - 1 by omega] at h3
  exact h3)
/-- A list in a case, as it is handed on. -/
theorem cell_len {C : List (List DV)} (hC : HasSh casesS (.sl none 0 C)) {i : Int} (h0 : 0 ≤ i) (h1 : i < (DV.sl none 0 C).len) : ((DV.sl none 0 C).cell i 3).els.length ≤ 9223372036854775807 ∧ ((DV.sl none 0 C).cell i 4).els.length ≤ 9223372036854775807 := by
  have ll : (DV.sl none 0 C).len = C.length := clampL_eq hC.1
  have hi : i.toNat < C.length := by omega
  have he := hC.2 C[i.toNat] (List.getElem_mem hi)
  have hl := he.len
  show (((C.getD i.toNat []).getD 3 (.n 0)).els.length ≤ _) ∧ (((C.getD i.toNat []).getD 4 (.n 0)).els.length ≤ _)
  have hg : C.getD i.toNat [] = C[i.toNat] := by rw [List.getD_eq_getElem?_getD, List.getElem?_eq_getElem hi]; rfl
  rw [hg]
  generalize C[i.toNat] = e at he hl
  have q : ∃ x0 x1 x2 x3 x4, e = [x0, x1, x2, x3, x4] := by
    rcases e with _ | ⟨x0, _ | ⟨x1, _ | ⟨x2, _ | ⟨x3, _ | ⟨x4, _ | ⟨x5, e⟩⟩⟩⟩⟩⟩ <;> simp at hl
    exact ⟨_, _, _, _, _, rfl⟩
  obtain ⟨x0, x1, x2, x3, x4, rfl⟩ := q
  simp only [HasShs, HasSh] at he
  exact ⟨he.2.2.2.1.1, he.2.2.2.2.1.1⟩
theorem take_all {x : DV} (h : x.els.length ≤ 9223372036854775807) : DV.sl none 0 ((x.els.take x.len.toNat).drop (0 : Int).toNat) = .sl none 0 x.els := by
  have : x.len = x.els.length := clampL_eq h
  rw [this, Int.toNat_natCast, List.take_length]; rfl
end Go.Proofs.Ytpaphkpdnmalhaa
