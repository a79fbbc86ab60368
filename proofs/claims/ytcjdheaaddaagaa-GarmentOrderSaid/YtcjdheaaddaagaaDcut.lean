/- DERIVED. Awards as cuts: any two cuts can be compared, so the sum tells the cut. -/
import Derived.Test.YtcjdheaaddaagaaDcte
namespace Go.Proofs.Ytcjdheaaddaagaa
open Go.Dx
set_option linter.unusedVariables false
set_option linter.unusedSimpArgs false
/-- What a cut gives to a claim at an index. -/
def cutF (b : Bool) (l d k c i : Int) : Int := befF b l c + if hasF b l c ∧ ahF b c i d k then 1 else 0
theorem cut_f {l d k c i : Int} : cutF false l d k c i = max 0 (min (c / 2) (l - 1)) + if l ≤ c / 2 ∧ (d < c ∨ (c = d ∧ i ≤ k)) then 1 else 0 := by
  unfold cutF
  simp only [bef_f, has_f, ah_f]
theorem cut_t {l d k c i : Int} : cutF true l d k c i = c / 2 + max 0 (c - c / 2 - l) + if l ≤ c - c / 2 ∧ (c < d ∨ (c = d ∧ k ≤ i)) then 1 else 0 := by
  unfold cutF
  simp only [bef_t, has_t, ah_t]
  rw [show c - c / 2 - (l + 1) + 1 = c - c / 2 - l by omega]
theorem cut_rng {b : Bool} {l d k c i : Int} (hl : 1 ≤ l) (hc : 0 ≤ c) : 0 ≤ cutF b l d k c i ∧ cutF b l d k c i ≤ c := by
  cases b
  · rw [cut_f]; split <;> omega
  · rw [cut_t]; split <;> omega
theorem cut_comp {b b' : Bool} {l d k l' d' k' : Int} (hl : 1 ≤ l) (hl' : 1 ≤ l') : (∀ c i, 0 ≤ c → cutF b l d k c i ≤ cutF b' l' d' k' c i) ∨ (∀ c i, 0 ≤ c → cutF b' l' d' k' c i ≤ cutF b l d k c i) := by
  have le : ∀ {b : Bool} {l d k d' k' : Int}, ahF b d k d' k' → ∀ c i, cutF b l d k c i ≤ cutF b l d' k' c i := fun {b l d k d' k'} h c i => by
    unfold cutF
    by_cases q : hasF b l c ∧ ahF b c i d k
    · rw [if_pos q, if_pos ⟨q.1, ah_trans q.2 h⟩]; omega
    · rw [if_neg q]; split <;> omega
  rcases Int.lt_trichotomy l l' with q | q | q
  · cases b <;> cases b'
    · left; intro c i hc; rw [cut_f, cut_f]; split <;> split <;> omega
    · left; intro c i hc; rw [cut_f, cut_t]; split <;> split <;> omega
    · right; intro c i hc; rw [cut_f, cut_t]; split <;> split <;> omega
    · right; intro c i hc; rw [cut_t, cut_t]; split <;> split <;> omega
  · subst q
    cases b <;> cases b'
    · rcases ah_total false d k d' k' with h | h
      · left; intro c i hc; exact le h c i
      · right; intro c i hc; exact le h c i
    · left; intro c i hc; rw [cut_f, cut_t]; split <;> split <;> omega
    · right; intro c i hc; rw [cut_f, cut_t]; split <;> split <;> omega
    · rcases ah_total true d k d' k' with h | h
      · left; intro c i hc; exact le h c i
      · right; intro c i hc; exact le h c i
  · cases b <;> cases b'
    · right; intro c i hc; rw [cut_f, cut_f]; split <;> split <;> omega
    · left; intro c i hc; rw [cut_f, cut_t]; split <;> split <;> omega
    · right; intro c i hc; rw [cut_f, cut_t]; split <;> split <;> omega
    · left; intro c i hc; rw [cut_t, cut_t]; split <;> split <;> omega
/-- Nothing at all, or a cut; for claims of a kind. -/
def Cut (E : Int → Prop) (f : Int → Int → Int) : Prop := (∀ c i, E c → f c i = 0) ∨ ∃ b l d k, 1 ≤ l ∧ ∀ c i, E c → f c i = cutF b l d k c i
theorem Cut.sub {E D : Int → Prop} {f : Int → Int → Int} (h : Cut E f) (q : ∀ c, D c → E c) : Cut D f := by
  rcases h with h | ⟨b, l, d, k, hl, h⟩
  · exact .inl fun c i hc => h c i (q c hc)
  · exact .inr ⟨b, l, d, k, hl, fun c i hc => h c i (q c hc)⟩
section
variable {E : Int → Prop} (hE : ∀ c, E c → 0 ≤ c)
include hE
theorem Cut.rng {f : Int → Int → Int} (h : Cut E f) {c i : Int} (hc : E c) : 0 ≤ f c i ∧ f c i ≤ c := by
  have h0 := hE c hc
  rcases h with h | ⟨b, l, d, k, hl, h⟩
  · rw [h c i hc]; omega
  · rw [h c i hc]; exact cut_rng hl h0
theorem Cut.comp {f g : Int → Int → Int} (h : Cut E f) (q : Cut E g) : (∀ c i, E c → f c i ≤ g c i) ∨ (∀ c i, E c → g c i ≤ f c i) := by
  have hf := fun c i hc => (Cut.rng hE h (c := c) (i := i) hc).1
  have hg := fun c i hc => (Cut.rng hE q (c := c) (i := i) hc).1
  rcases h with h | ⟨b, l, d, k, hl, h⟩
  · left; intro c i hc; rw [h c i hc]; exact hg c i hc
  · rcases q with q | ⟨b', l', d', k', hl', q⟩
    · right; intro c i hc; rw [q c i hc]; exact hf c i hc
    · rcases cut_comp (b := b) (b' := b') (d := d) (k := k) (d' := d') (k' := k') hl hl' with r | r
      · left; intro c i hc; rw [h c i hc, q c i hc]; exact r c i (hE c hc)
      · right; intro c i hc; rw [h c i hc, q c i hc]; exact r c i (hE c hc)
omit hE in
theorem sumN_eq_of_le {f g : Nat → Int} : ∀ {n : Nat}, (∀ i, i < n → f i ≤ g i) → sumN g n ≤ sumN f n → ∀ i, i < n → f i = g i
  | 0, _, _, i, hi => absurd hi (Nat.not_lt_zero i)
  | n + 1, h, k, i, hi => by
    have h1 := sumN_le (f := f) (g := g) (n := n) fun j hj => h j (by omega)
    have h2 := h n (by omega)
    have k : sumN g n + g n ≤ sumN f n + f n := k
    by_cases e : i = n
    · subst e; omega
    · exact sumN_eq_of_le (n := n) (fun j hj => h j (by omega)) (by omega) i (by omega)
/-- A greater sum: a greater cut. -/
theorem Cut.mono {f g : Int → Int → Int} (h : Cut E f) (q : Cut E g) {c : Nat → Int} {n : Nat} (hc : ∀ i, i < n → E (c i)) (hs : sumN (fun i => f (c i) i) n ≤ sumN (fun i => g (c i) i) n) : ∀ i, i < n → f (c i) i ≤ g (c i) i := by
  rcases Cut.comp hE h q with r | r
  · intro i hi; exact r _ _ (hc i hi)
  · intro i hi
    have := sumN_eq_of_le (f := fun i => g (c i) i) (g := fun i => f (c i) i) (fun j hj => r _ _ (hc j hj)) hs i hi
    have : g (c i) i = f (c i) i := this
    omega
theorem Cut.same {f g : Int → Int → Int} (h : Cut E f) (q : Cut E g) {c : Nat → Int} {n : Nat} (hc : ∀ i, i < n → E (c i)) (hs : sumN (fun i => f (c i) i) n = sumN (fun i => g (c i) i) n) : ∀ i, i < n → f (c i) i = g (c i) i := by
  intro i hi
  have h1 := Cut.mono hE h q hc (by omega) i hi
  have h2 := Cut.mono hE q h hc (by omega) i hi
  omega
/-- Greater claims have no lesser awards and losses. -/
theorem Cut.order {f : Int → Int → Int} (h : Cut E f) {c i d k : Int} (hc : E c) (hd : E d) (hcd : d < c) : f d k ≤ f c i ∧ d - f d k ≤ c - f c i := by
  have h0 := hE d hd
  rcases h with h | ⟨b, l, e, m, hl, h⟩
  · rw [h c i hc, h d k hd]; omega
  · rw [h d k hd, h c i hc]
    cases b
    · rw [cut_f, cut_f]; split <;> split <;> omega
    · rw [cut_t, cut_t]; split <;> split <;> omega
end
/-- Even claims. -/
def Evn (c : Int) : Prop := 0 ≤ c ∧ c ≤ 1073741824 ∧ c % 2 = 0
/-- The other way about. -/
theorem Cut.dual {f : Int → Int → Int} (h : Cut Evn f) : Cut Evn fun c i => c - f c i := by
  rcases h with h | ⟨b, l, d, k, hl, h⟩
  · refine .inr ⟨true, 1, 1073741825, 0, by omega, fun c i hc => ?_⟩
    dsimp only
    rw [h c i hc, cut_t]
    obtain ⟨h0, h1, h2⟩ := hc
    split <;> omega
  · cases b
    · refine .inr ⟨true, l, d, k + 1, hl, fun c i hc => ?_⟩
      dsimp only
      rw [h c i hc, cut_t, cut_f]
      obtain ⟨h0, h1, h2⟩ := hc
      split <;> split <;> omega
    · refine .inr ⟨false, l, d, k - 1, hl, fun c i hc => ?_⟩
      dsimp only
      rw [h c i hc, cut_t, cut_f]
      obtain ⟨h0, h1, h2⟩ := hc
      split <;> split <;> omega
theorem pair_e {c d l x y n : Int} (hc : 0 ≤ c) (hd : 0 ≤ d) (hl : 1 ≤ l) (hx : 0 ≤ x ∧ x ≤ 1 ∧ (x = 1 → l ≤ c / 2)) (hy : 0 ≤ y ∧ y ≤ 1 ∧ (y = 1 → l ≤ d / 2)) (hn : max 0 (min (c / 2) (l - 1)) + x + (max 0 (min (d / 2) (l - 1)) + y) = n) :
    max 0 (n - d) + (n - max 0 (n - d) - max 0 (n - c)) / 2 ≤ max 0 (min (c / 2) (l - 1)) + x ∧ max 0 (min (c / 2) (l - 1)) + x ≤ max 0 (n - d) + (n - max 0 (n - d) - max 0 (n - c)) - (n - max 0 (n - d) - max 0 (n - c)) / 2 := by
  omega
theorem pair_l {c d l x y n : Int} (hc : 0 ≤ c) (hd : 0 ≤ d) (hl : 1 ≤ l) (hx : 0 ≤ x ∧ x ≤ 1 ∧ (x = 1 → l ≤ c - c / 2)) (hy : 0 ≤ y ∧ y ≤ 1 ∧ (y = 1 → l ≤ d - d / 2)) (hn : c / 2 + max 0 (c - c / 2 - l) + x + (d / 2 + max 0 (d - d / 2 - l) + y) = n) :
    max 0 (n - d) + (n - max 0 (n - d) - max 0 (n - c)) / 2 ≤ c / 2 + max 0 (c - c / 2 - l) + x ∧ c / 2 + max 0 (c - c / 2 - l) + x ≤ max 0 (n - d) + (n - max 0 (n - d) - max 0 (n - c)) - (n - max 0 (n - d) - max 0 (n - c)) / 2 := by
  omega
theorem ite01 {p : Prop} [Decidable p] {q : Prop} (h : p → q) : 0 ≤ (if p then (1 : Int) else 0) ∧ (if p then (1 : Int) else 0) ≤ 1 ∧ ((if p then (1 : Int) else 0) = 1 → q) := by
  by_cases k : p
  · rw [if_pos k]; exact ⟨by omega, by omega, fun _ => h k⟩
  · rw [if_neg k]; exact ⟨by omega, by omega, fun z => by omega⟩
theorem pair_in {E : Int → Prop} (hE : ∀ c, E c → 0 ≤ c) {f : Int → Int → Int} (h : Cut E f) {c d n i k : Int} (hc : E c) (hd : E d) (hn : f c i + f d k = n) : max 0 (n - d) + (n - max 0 (n - d) - max 0 (n - c)) / 2 ≤ f c i ∧ f c i ≤ max 0 (n - d) + (n - max 0 (n - d) - max 0 (n - c)) - (n - max 0 (n - d) - max 0 (n - c)) / 2 := by
  have h0 := hE c hc
  have h1 := hE d hd
  rcases h with h | ⟨b, l, e, m, hl, h⟩
  · rw [h c i hc, h d k hd] at *; omega
  · rw [h c i hc, h d k hd] at *
    cases b
    · rw [cut_f, cut_f] at *
      exact pair_e h0 h1 hl (ite01 fun q => q.1) (ite01 fun q => q.1) hn
    · rw [cut_t, cut_t] at *
      exact pair_l h0 h1 hl (ite01 fun q => q.1) (ite01 fun q => q.1) hn
instance decLeP (b : Bool) (x y : List DV) : Decidable (leP b x y) := by unfold leP; infer_instance
theorem line_ex {est : Int} {c : Nat → Int} {n : Nat} : ∃ T, LineP est c n (latF est c n) (lvF (latF est c n) est c n) T := by
  refine ⟨_, rfl, rfl, ((hasI (latF est c n) (lvF (latF est c n) est c n) c n).map (prD c)).mergeSort (fun x y => decide (leP (latF est c n) x y)), List.mergeSort_perm _ _, ?_, rfl⟩
  refine List.Pairwise.imp (fun {a b} h => by simpa using h) (List.pairwise_mergeSort (le := fun x y => decide (leP (latF est c n) x y)) (fun a b d h k => ?_) (fun a b => ?_) _)
  · simp only [decide_eq_true_eq] at *
    exact ah_trans h k
  · simp only [Bool.or_eq_true, decide_eq_true_eq]
    exact ah_total _ _ _ _ _
theorem thF_ex {est : Int} {p : DV} (h : chkF est p = 0) (k : est ≠ 0) : ∃ b l t, t < nn p ∧ 1 ≤ l ∧ l ≤ 1073741824 ∧ thF est p = ⟨b, l, el p t, t⟩ ∧ hasF b l (el p t) ∧ plF b l (el p) (nn p) t = est := by
  obtain ⟨T, hT⟩ := line_ex (est := est) (c := el p) (n := nn p)
  obtain ⟨t, ht⟩ := hT.last (chk_est h k)
  exact ⟨_, _, t, ht.tn, ht.isl.l1, ht.isl.l2, (thr_at h k rfl rfl).trans ht.thg, ht.has, ht.pl⟩
/-- What a claim at an index is awarded. -/
def vecF (est : Int) (p : DV) (c i : Int) : Int := ownF (thF est p) i c
theorem vec_zero {p : DV} {c i : Int} {est : Int} (h : chkF est p ≠ 0 ∨ est = 0) : vecF est p c i = 0 := by
  unfold vecF thF
  rw [if_pos h]
  unfold ownF; rw [if_pos rfl]
theorem vec_cut {est : Int} {p : DV} (h : chkF est p = 0) (E : Int → Prop) : Cut E (vecF est p) := by
  by_cases k : est = 0
  · exact .inl fun c i _ => vec_zero (.inr k)
  · obtain ⟨b, l, t, h1, h2, h3, h4, h5, h6⟩ := thF_ex h k
    refine .inr ⟨b, l, el p t, t, h2, fun c i hc => ?_⟩
    unfold vecF
    rw [h4, ownF_eq h2]; rfl
theorem vec_sum {est : Int} {p : DV} (h : chkF est p = 0) : sumN (fun i => vecF est p (el p i) i) (nn p) = est := by
  by_cases k : est = 0
  · rw [sumN_zero fun i _ => vec_zero (.inr k), k]
  · obtain ⟨b, l, t, h1, h2, h3, h4, h5, h6⟩ := thF_ex h k
    have e : sumN (fun i => vecF est p (el p i) i) (nn p) = sumN (fun i => tF b (prv b l) (el p i) + if hasF b l (el p i) ∧ ahF b (el p i) i (el p t) t then 1 else 0) (nn p) := sumN_congr fun i _ => by
      unfold vecF
      rw [h4, ownF_eq h2]; rfl
    rw [e, sumN_add]
    exact h6
theorem mk_valid {est : Int} {p : DV} (h : chkF est p = 0) : vMk (thF est p) := by
  by_cases k : est = 0
  · left; unfold thF; rw [if_pos (.inr k)]
  · obtain ⟨b, l, t, h1, h2, h3, h4, h5, h6⟩ := thF_ex h k
    have hc := (chk_est h k).cl t h1
    have hn := (chk_est h k).n1
    right
    rw [h4]
    refine ⟨hc.1, hc.2, by dsimp only; omega, by dsimp only; omega, h2, ?_, h5⟩
    dsimp only
    cases b
    · rw [has_f] at h5; omega
    · rw [has_t] at h5; omega
theorem aw_vec {est : Int} {p : DV} (h : chkF est p = 0) : awF est p = [.sl none 0 (gRows (fun i => vecF est p (el p i) i) (nn p)), .n 0] := aw_ok h fun i _ => rfl
end Go.Proofs.Ytcjdheaaddaagaa
