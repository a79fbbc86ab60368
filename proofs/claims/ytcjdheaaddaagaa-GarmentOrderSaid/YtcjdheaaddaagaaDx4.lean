/- DERIVED. A symbolic executor over data, proved sound; part 4. -/
import Derived.Test.YtcjdheaaddaagaaDx3
/- A symbolic executor: data that is made and turned. -/
namespace Go.Dx
open Go.RowKit
set_option linter.unusedVariables false
set_option linter.unusedSimpArgs false
/-! Shapes. -/
mutual
def shq : Sh → Sh → Bool
  | .int k a b, .int l c d => Nat.beq (kq k) (kq l) && (iq a c && iq b d)
  | .bool, .bool => true
  | .str m, .str n => Nat.beq m n
  | .sl m r, .sl n q => Nat.beq m n && shqs r q
  | _, _ => false
def shqs : List Sh → List Sh → Bool
  | [], [] => true
  | x :: l, y :: r => shq x y && shqs l r
  | _, _ => false
end
mutual
theorem shq_ok : ∀ {a b : Sh}, shq a b = true → a = b
  | .int k a b, .int l c d, h => by simp only [shq, Bool.and_eq_true] at h; rw [kq_ok h.1, iq_ok h.2.1, iq_ok h.2.2]
  | .bool, .bool, _ => rfl
  | .str m, .str n, h => by simp only [shq] at h; rw [Nat.eq_of_beq_eq_true h]
  | .sl m r, .sl n q, h => by simp only [shq, Bool.and_eq_true] at h; rw [Nat.eq_of_beq_eq_true h.1, shqs_ok h.2]
  | .int _ _ _, .bool, h => by simp [shq] at h
  | .int _ _ _, .str _, h => by simp [shq] at h
  | .int _ _ _, .sl _ _, h => by simp [shq] at h
  | .bool, .int _ _ _, h => by simp [shq] at h
  | .bool, .str _, h => by simp [shq] at h
  | .bool, .sl _ _, h => by simp [shq] at h
  | .str _, .int _ _ _, h => by simp [shq] at h
  | .str _, .bool, h => by simp [shq] at h
  | .str _, .sl _ _, h => by simp [shq] at h
  | .sl _ _, .int _ _ _, h => by simp [shq] at h
  | .sl _ _, .bool, h => by simp [shq] at h
  | .sl _ _, .str _, h => by simp [shq] at h
theorem shqs_ok : ∀ {a b : List Sh}, shqs a b = true → a = b
  | [], [], _ => rfl
  | x :: l, y :: r, h => by simp only [shqs, Bool.and_eq_true] at h; rw [shq_ok h.1, shqs_ok h.2]
  | [], _ :: _, h => by simp [shqs] at h
  | _ :: _, [], h => by simp [shqs] at h
end
mutual
def joinS : Sh → Sh → Option Sh
  | .int k a b, .int l c d => if Nat.beq (kq k) (kq l) then some (.int k (imin a c) (imax b d)) else none
  | .bool, .bool => some .bool
  | .str m, .str n => some (.str (Nat.max m n))
  | .sl m r, .sl n q => match joinR r q with
    | some z => some (.sl (Nat.max m n) z)
    | none => none
  | _, _ => none
def joinR : List Sh → List Sh → Option (List Sh)
  | [], [] => some []
  | a :: l, b :: r => match joinS a b, joinR l r with
    | some x, some y => some (x :: y)
    | _, _ => none
  | _, _ => none
end
theorem flatV_congr {l q : List Sh} (h : ∀ e, rowV q e = rowV l e) (els : List (List DV)) : flatV q els = flatV l els := by
  unfold flatV
  induction els with
  | nil => rfl
  | cons e r ih => rw [List.flatMap_cons, List.flatMap_cons, ih, h]
theorem laidAt_congr {l q : List Sh} (h : ∀ e, rowV q e = rowV l e) {w : World} {S : Nat → Prop} {v : Value} {els : List (List DV)} (k : LaidAt w S v l els) : LaidAt w S v q els := by
  unfold LaidAt at *
  rw [flatV_congr h]
  exact k
mutual
theorem joinS_ok : ∀ {a b c : Sh}, joinS a b = some c → (∀ d, HasSh a d → HasSh c d) ∧ (∀ d, HasSh b d → HasSh c d) ∧ (∀ d, cellV c d = cellV a d) ∧ (∀ d, cellV b d = cellV a d) ∧ (a.fine = true → b.fine = true → c.fine = true) ∧
    (∀ w S d, Laid w S a d → Laid w S c d) ∧ (∀ w S d, Laid w S b d → Laid w S c d)
  | .int k a1 b1, .int l c1 d1, c, h => by
    simp only [joinS] at h
    split at h
    · rename_i hk
      obtain rfl := kq_ok hk
      cases h
      have := imin_l a1 c1; have := imin_r a1 c1; have := imax_l b1 d1; have := imax_r b1 d1
      refine ⟨fun d hd => ?_, fun d hd => ?_, fun d => rfl, fun d => rfl, fun _ _ => rfl, fun _ _ _ _ => by simp only [Laid], fun _ _ _ _ => by simp only [Laid]⟩ <;>
      · simp only [HasSh] at hd ⊢
        obtain ⟨x, e, h1, h2⟩ := hd
        exact ⟨x, e, ⟨by omega, by omega⟩, h2⟩
    · cases h
  | .bool, .bool, c, h => by simp only [joinS, Option.some.injEq] at h; subst h; exact ⟨fun d hd => hd, fun d hd => hd, fun d => rfl, fun d => rfl, fun _ _ => rfl, fun _ _ _ h => h, fun _ _ _ h => h⟩
  | .str m, .str n, c, h => by
    simp only [joinS, Option.some.injEq] at h
    subst h
    have := Nat.le_max_left m n; have := Nat.le_max_right m n
    refine ⟨fun d hd => ?_, fun d hd => ?_, fun d => rfl, fun d => rfl, fun _ _ => rfl, fun _ _ _ _ => by simp only [Laid], fun _ _ _ _ => by simp only [Laid]⟩ <;>
    · simp only [HasSh] at hd ⊢
      have e : Nat.max m n = max m n := rfl
      omega
  | .sl m r, .sl n q, c, h => by
    simp only [joinS] at h
    split at h
    · rename_i z hr
      cases h
      obtain ⟨r1, r2, r3, r4, r5, r6, r7, r8⟩ := joinR_ok hr
      have := Nat.le_max_left m n; have := Nat.le_max_right m n
      have e : Nat.max m n = max m n := rfl
      refine ⟨fun d hd => ?_, fun d hd => ?_, fun d => rfl, fun d => rfl, fun h1 h2 => ?_, fun _ _ d hd => ?_, fun _ _ d hd => ?_⟩
      · simp only [HasSh] at hd ⊢; exact ⟨by omega, fun e he => r1 e (hd.2 e he)⟩
      · simp only [HasSh] at hd ⊢; exact ⟨by omega, fun e he => r2 e (hd.2 e he)⟩
      · simp only [Sh.fine, Bool.and_eq_true] at h1 h2 ⊢
        refine ⟨⟨by rw [r8]; exact h1.1.1, r5 h1.1.2 h2.1.2⟩, Nat.ble_eq_true_of_le ?_⟩
        have := Nat.le_of_ble_eq_true h1.2; have := Nat.le_of_ble_eq_true h2.2
        omega
      · simp only [Laid] at hd ⊢; exact ⟨laidAt_congr r3 hd.1, fun e he => r6 _ _ e (hd.2 e he)⟩
      · simp only [Laid] at hd ⊢; exact ⟨laidAt_congr (fun e => (r3 e).trans (r4 e).symm) hd.1, fun e he => r7 _ _ e (hd.2 e he)⟩
    · cases h
  | .int _ _ _, .bool, c, h => by simp [joinS] at h
  | .int _ _ _, .str _, c, h => by simp [joinS] at h
  | .int _ _ _, .sl _ _, c, h => by simp [joinS] at h
  | .bool, .int _ _ _, c, h => by simp [joinS] at h
  | .bool, .str _, c, h => by simp [joinS] at h
  | .bool, .sl _ _, c, h => by simp [joinS] at h
  | .str _, .int _ _ _, c, h => by simp [joinS] at h
  | .str _, .bool, c, h => by simp [joinS] at h
  | .str _, .sl _ _, c, h => by simp [joinS] at h
  | .sl _ _, .int _ _ _, c, h => by simp [joinS] at h
  | .sl _ _, .bool, c, h => by simp [joinS] at h
  | .sl _ _, .str _, c, h => by simp [joinS] at h
theorem joinR_ok : ∀ {l r q : List Sh}, joinR l r = some q → (∀ e, HasShs l e → HasShs q e) ∧ (∀ e, HasShs r e → HasShs q e) ∧ (∀ e, rowV q e = rowV l e) ∧ (∀ e, rowV r e = rowV l e) ∧ (Sh.fines l = true → Sh.fines r = true → Sh.fines q = true) ∧
    (∀ w S e, LaidL w S l e → LaidL w S q e) ∧ (∀ w S e, LaidL w S r e → LaidL w S q e) ∧ q.isEmpty = l.isEmpty
  | [], [], q, h => by simp only [joinR, Option.some.injEq] at h; subst h; exact ⟨fun e h => h, fun e h => h, fun e => rfl, fun e => rfl, fun _ _ => rfl, fun _ _ _ h => h, fun _ _ _ h => h, rfl⟩
  | a :: l, b :: r, q, h => by
    simp only [joinR] at h
    split at h
    · rename_i x y h1 h2
      cases h
      obtain ⟨a1, a2, a3, a4, a5, a6, a7⟩ := joinS_ok h1
      obtain ⟨r1, r2, r3, r4, r5, r6, r7, r8⟩ := joinR_ok h2
      refine ⟨fun e he => ?_, fun e he => ?_, fun e => ?_, fun e => ?_, fun h1 h2 => ?_, fun w S e he => ?_, fun w S e he => ?_, rfl⟩
      · cases e with
        | nil => simp [HasShs] at he
        | cons d e => simp only [HasShs] at he ⊢; exact ⟨a1 d he.1, r1 e he.2⟩
      · cases e with
        | nil => simp [HasShs] at he
        | cons d e => simp only [HasShs] at he ⊢; exact ⟨a2 d he.1, r2 e he.2⟩
      · cases e with
        | nil => rfl
        | cons d e => simp only [rowV, a3, r3]
      · cases e with
        | nil => rfl
        | cons d e => simp only [rowV, a4, r4]
      · simp only [Sh.fines, Bool.and_eq_true] at h1 h2 ⊢; exact ⟨a5 h1.1 h2.1, r5 h1.2 h2.2⟩
      · cases e with
        | nil => simp only [LaidL]
        | cons d e => simp only [LaidL] at he ⊢; exact ⟨a6 _ _ d he.1, r6 _ _ e he.2⟩
      · cases e with
        | nil => simp only [LaidL]
        | cons d e => simp only [LaidL] at he ⊢; exact ⟨a7 _ _ d he.1, r7 _ _ e he.2⟩
    · cases h
  | [], _ :: _, q, h => by simp [joinR] at h
  | _ :: _, [], q, h => by simp [joinR] at h
end
/-- A row, where some cells may hold other things. -/
def joinAt : List Sh → Nat → List Sh → Option (List Sh)
  | row, 0, [] => some row
  | t :: row, 0, s :: ss => match joinS t s, joinAt row 0 ss with
    | some a, some l => some (a :: l)
    | _, _ => none
  | t :: row, j + 1, ss => (joinAt row j ss).map (t :: ·)
  | _, _, _ => none
theorem layG_nil {α : Type} : ∀ (l : List α), layG l 0 [] = l
  | [] => rfl
  | _ :: _ => rfl
/-- Values of shapes. -/
def HasL : List Sh → List DV → Prop
  | [], [] => True
  | s :: l, d :: r => HasSh s d ∧ HasL l r
  | _, _ => False
def LaidLL (w : World) (S : Nat → Prop) : List Sh → List DV → Prop
  | s :: l, d :: r => Laid w S s d ∧ LaidLL w S l r
  | _, _ => True
def cellsL : List Sh → List DV → List Value
  | s :: l, d :: r => cellV s d :: cellsL l r
  | _, _ => []
theorem joinAt_len : ∀ {row : List Sh} {j : Nat} {ss row' : List Sh}, joinAt row j ss = some row' → row'.length = row.length
  | row, 0, [], row', h => by unfold joinAt at h; cases h; rfl
  | t :: row, 0, s :: ss, row', h => by
    unfold joinAt at h
    split at h
    · rename_i a l h1 h2; cases h; simp [joinAt_len h2]
    · cases h
  | t :: row, j + 1, ss, row', h => by
    unfold joinAt at h
    cases hc : joinAt row j ss with
    | none => rw [hc] at h; cases h
    | some l => rw [hc] at h; cases h; simp [joinAt_len hc]
  | [], 0, s :: ss, row', h => by unfold joinAt at h; cases h
  | [], j + 1, ss, row', h => by unfold joinAt at h; cases h
theorem joinAt_ok : ∀ {row : List Sh} {j : Nat} {ss row' : List Sh}, joinAt row j ss = some row' →
    (∀ e, HasShs row e → HasShs row' e ∧ rowV row' e = rowV row e) ∧
    (∀ e ds, HasShs row e → HasL ss ds → HasShs row' (layG e j ds) ∧ rowV row' (layG e j ds) = layG (rowV row e) j (cellsL ss ds) ∧ j + ds.length ≤ e.length) ∧
    (Sh.fines row = true → Sh.fines ss = true → Sh.fines row' = true) ∧
    (∀ w S e, LaidL w S row e → LaidL w S row' e) ∧
    (∀ w S e ds, HasShs row e → HasL ss ds → LaidL w S row e → LaidLL w S ss ds → LaidL w S row' (layG e j ds))
  | row, 0, [], row', h => by
    unfold joinAt at h
    cases h
    refine ⟨fun e he => ⟨he, rfl⟩, fun e ds he hd => ?_, fun h _ => h, fun _ _ _ h => h, fun w S e ds he hd hl _ => ?_⟩
    · cases ds with
      | nil => rw [layG_nil]; exact ⟨he, by simp [cellsL, layG_nil], by simp⟩
      | cons d ds => exact hd.elim
    · cases ds with
      | nil => rw [layG_nil]; exact hl
      | cons d ds => exact hd.elim
  | t :: row, 0, s :: ss, row', h => by
    unfold joinAt at h
    split at h
    · rename_i a l h1 h2
      cases h
      obtain ⟨k1, k2, k3, k4, k5, k6, k7⟩ := joinS_ok h1
      obtain ⟨i1, i2, i3, i4, i5⟩ := joinAt_ok h2
      refine ⟨fun e he => ?_, fun e ds he hd => ?_, fun f g => ?_, fun w S e hl => ?_, fun w S e ds he hd hl hls => ?_⟩
      · cases e with
        | nil => simp [HasShs] at he
        | cons x e =>
          simp only [HasShs] at he ⊢
          have := i1 e he.2
          exact ⟨⟨k1 x he.1, this.1⟩, by simp only [rowV, k3, this.2]⟩
      · cases e with
        | nil => simp [HasShs] at he
        | cons x e =>
          cases ds with
          | nil => exact hd.elim
          | cons d ds =>
            simp only [HasShs] at he
            obtain ⟨j1, j2, j3⟩ := i2 e ds he.2 hd.2
            simp only [layG, HasShs, rowV, cellsL]
            refine ⟨⟨k2 d hd.1, j1⟩, ?_, by simp only [List.length_cons]; omega⟩
            rw [j2, k3, k4]
      · simp only [Sh.fines, Bool.and_eq_true] at *
        exact ⟨k5 f.1 g.1, i3 f.2 g.2⟩
      · cases e with
        | nil => simp only [LaidL]
        | cons x e => simp only [LaidL] at hl ⊢; exact ⟨k6 _ _ _ hl.1, i4 _ _ _ hl.2⟩
      · cases e with
        | nil => simp [HasShs] at he
        | cons x e =>
          cases ds with
          | nil => exact hd.elim
          | cons d ds =>
            simp only [HasShs] at he
            simp only [LaidL] at hl
            simp only [layG, LaidL]
            exact ⟨k7 _ _ _ hls.1, i5 w S e ds he.2 hd.2 hl.2 hls.2⟩
    · cases h
  | t :: row, j + 1, ss, row', h => by
    unfold joinAt at h
    cases hc : joinAt row j ss with
    | none => rw [hc] at h; cases h
    | some l =>
      rw [hc] at h
      cases h
      obtain ⟨i1, i2, i3, i4, i5⟩ := joinAt_ok hc
      refine ⟨fun e he => ?_, fun e ds he hd => ?_, fun f g => ?_, fun w S e hl => ?_, fun w S e ds he hd hl hls => ?_⟩
      · cases e with
        | nil => simp [HasShs] at he
        | cons x e =>
          simp only [HasShs] at he ⊢
          have := i1 e he.2
          exact ⟨⟨he.1, this.1⟩, by simp only [rowV, this.2]⟩
      · cases e with
        | nil => simp [HasShs] at he
        | cons x e =>
          simp only [HasShs] at he
          obtain ⟨j1, j2, j3⟩ := i2 e ds he.2 hd
          simp only [layG, HasShs, rowV]
          exact ⟨⟨he.1, j1⟩, by rw [j2], by simp only [List.length_cons]; omega⟩
      · simp only [Sh.fines, Bool.and_eq_true] at *
        exact ⟨f.1, i3 f.2 g⟩
      · cases e with
        | nil => simp only [LaidL]
        | cons x e => simp only [LaidL] at hl ⊢; exact ⟨hl.1, i4 _ _ _ hl.2⟩
      · cases e with
        | nil => simp [HasShs] at he
        | cons x e =>
          simp only [HasShs] at he
          simp only [LaidL] at hl
          simp only [layG, LaidL]
          exact ⟨hl.1, i5 w S e ds he.2 hd hl.2 hls⟩
  | [], 0, s :: ss, row', h => by unfold joinAt at h; cases h
  | [], j + 1, ss, row', h => by unfold joinAt at h; cases h
theorem HasL.len : ∀ {ss : List Sh} {ds : List DV}, HasL ss ds → ds.length = ss.length
  | [], [], _ => rfl
  | s :: l, d :: r, h => by simp [HasL.len h.2]
  | [], _ :: _, h => h.elim
  | _ :: _, [], h => h.elim
theorem cellsL_len : ∀ {ss : List Sh} {ds : List DV}, HasL ss ds → (cellsL ss ds).length = ds.length
  | [], [], _ => rfl
  | s :: l, d :: r, h => by simp [cellsL, cellsL_len h.2]
  | [], _ :: _, h => h.elim
  | _ :: _, [], h => h.elim
/-! Laying. -/
theorem layG_len {α : Type} : ∀ (l : List α) (j : Nat) (v : List α), (layG l j v).length = l.length
  | l, 0, [] => by rw [layG_nil]
  | _ :: l, 0, d :: ds => by simp [layG, layG_len l 0 ds]
  | x :: l, j + 1, ds => by simp [layG, layG_len l j ds]
  | [], 0, _ :: _ => rfl
  | [], _ + 1, _ => rfl
theorem layG_left {α : Type} : ∀ (a b : List α) (j : Nat) (v : List α), j + v.length ≤ a.length → layG (a ++ b) j v = layG a j v ++ b
  | a, b, 0, [], _ => by rw [layG_nil, layG_nil]
  | x :: a, b, 0, d :: ds, h => by simp only [List.cons_append, layG]; rw [layG_left a b 0 ds (by simp only [List.length_cons] at h; omega)]
  | x :: a, b, j + 1, ds, h => by simp only [List.cons_append, layG]; rw [layG_left a b j ds (by simp only [List.length_cons] at h; omega)]
  | [], b, 0, _ :: _, h => by simp at h
  | [], b, _ + 1, _, h => by simp only [List.length_nil] at h; omega
theorem layG_right {α : Type} : ∀ (a b : List α) (j : Nat) (v : List α), layG (a ++ b) (a.length + j) v = a ++ layG b j v
  | [], b, j, v => by simp
  | x :: a, b, j, v => by
    rw [List.length_cons, show a.length + 1 + j = (a.length + j) + 1 by omega, List.cons_append]
    simp only [layG, layG_right a b j v, List.cons_append]
theorem layG_step {α : Type} : ∀ (l : List α) (j : Nat) (d : α) (ds : List α), j < l.length → layG l j (d :: ds) = layG (l.set j d) (j + 1) ds
  | [], _, _, _, h => by simp at h
  | x :: l, 0, d, ds, _ => by
    simp only [layG, List.set_cons_zero]
  | x :: l, j + 1, d, ds, h => by
    simp only [layG, List.set_cons_succ]
    rw [layG_step l j d ds (by simpa using h)]
theorem flatV_join {row row' : List Sh} {j : Nat} {ss : List Sh} (hj : joinAt row j ss = some row') : ∀ {els : List (List DV)}, (∀ e ∈ els, HasShs row e) → flatV row' els = flatV row els
  | [], _ => rfl
  | e :: l, h => by
    have ih := flatV_join hj (els := l) fun e he => h e (List.mem_cons_of_mem _ he)
    unfold flatV at *
    rw [List.flatMap_cons, List.flatMap_cons, ih, ((joinAt_ok hj).1 e (h e (List.mem_cons_self ..))).2]
theorem flatV_lay {row row' : List Sh} {j : Nat} {ss : List Sh} {ds : List DV} (hj : joinAt row j ss = some row') (hd : HasL ss ds) : ∀ {els : List (List DV)} {i : Nat}, (∀ e ∈ els, HasShs row e) → i < els.length →
    flatV row' (els.modify i fun e => layG e j ds) = layG (flatV row els) (i * row.length + j) (cellsL ss ds)
  | [], i, _, hi => by simp at hi
  | e :: l, i, h, hi => by
    have he := h e (List.mem_cons_self ..)
    have hl : ∀ x ∈ l, HasShs row x := fun x hx => h x (List.mem_cons_of_mem _ hx)
    obtain ⟨j1, j2, j3⟩ := (joinAt_ok hj).2.1 e ds he hd
    have hlen := rowV_len he
    cases i with
    | zero =>
      have ih := flatV_join hj hl
      rw [List.modify_zero_cons]
      unfold flatV at *
      rw [List.flatMap_cons, List.flatMap_cons, ih, j2, Nat.zero_mul, Nat.zero_add, layG_left]
      rw [hlen, cellsL_len hd, ← he.len]; omega
    | succ i =>
      have ih := flatV_lay hj hd (els := l) (i := i) hl (by simpa using hi)
      rw [List.modify_succ_cons]
      unfold flatV at *
      rw [List.flatMap_cons, List.flatMap_cons, ih, ((joinAt_ok hj).1 e he).2, Nat.succ_mul]
      rw [show i * row.length + row.length + j = (rowV row e).length + (i * row.length + j) by rw [hlen]; omega, layG_right]
theorem run_storeOwn {P : Program} {N : Nat} {ety : TypeId} {z g n cap : Nat} : ∀ (l xs : List Value) (o i : Nat) (w : World), w.ownsRow N ety z (.slice (some ⟨g, 0, none⟩) n cap) n xs → o + i + l.length ≤ xs.length → (∀ v ∈ l, isFlat v) →
    ∃ w', (storeCells ⟨g, o, none⟩ l i).run P w = .ok () w' ∧ At g w w' ∧ w'.ownsRow N ety z (.slice (some ⟨g, 0, none⟩) n cap) n (layG xs (o + i) l)
  | [], xs, o, i, w, h, hl, _ => ⟨w, rfl, At.refl g w, by
      have : ∀ (k : Nat) (xs : List Value), layG xs k [] = xs := by
        intro k; induction k with
        | zero => exact layG_nil
        | succ k ih => intro xs; cases xs with
          | nil => rfl
          | cons x xs => simp only [layG, ih]
      rw [this]; exact h⟩
  | v :: l, xs, o, i, w, h, hl, hf => by
    simp only [List.length_cons] at hl
    obtain ⟨h1, h2⟩ := h.stored (o + i) v
    obtain ⟨w', hr, hA, hO⟩ := run_storeOwn (P := P) l (xs.set (o + i) v) o (i + 1) _ h1 (by simp; omega) (fun u hu => hf u (List.mem_cons_of_mem _ hu))
    refine ⟨w', ?_, (set_at w g (o + i) v).trans hA, ?_⟩
    · have hlt : o + i < xs.length := by omega
      have hcell : w.cell? ⟨g, o + i, none⟩ = some xs[o + i] := by
        rw [h.cellAt (o + i) (by have := h.1; omega)]; exact List.getElem?_eq_getElem hlt
      simp only [storeCells, Sem.run_bind, addr_plus]
      rw [run_store P w _ _ _ (one_flat (hf v (List.mem_cons_self ..))), hcell]
      simp only [h.frozenAt, Bool.false_eq_true, if_false, Result.andThen_ok]
      exact hr
    · rw [layG_step _ _ _ _ (by omega)]
      exact hO
end Go.Dx

/- A symbolic executor: slices that are turned, new variables. -/
namespace Go.Dx
open Go.RowKit
set_option linter.unusedVariables false
set_option linter.unusedSimpArgs false
/-- More variables. -/
def cat (s : Bnd) (t : List VD) : Bnd := ⟨s.v ++ t, s.x.filter fun f => wfE s.v.length f.1, s.k.filter (wfB s.v.length)⟩
theorem cat_ok {r ys : List DV} {s : Bnd} {t : List VD} (h : BndOk r s) (k : BndOk ys ⟨t, [], []⟩) : BndOk (r ++ ys) (cat s t) := by
  refine ⟨by simp [cat, h.len, k.len], fun i => ?_, fun f hf => ?_, fun b hb => ?_⟩
  · by_cases hlt : i < r.length
    · have := h.vok i
      have hs : i < s.v.length := by rw [← h.len]; exact hlt
      simp only [cat, List.getD_eq_getElem?_getD] at *
      rw [List.getElem?_append_left hlt, List.getElem?_append_left hs]
      exact this
    · have := k.vok (i - r.length)
      have hs : s.v.length ≤ i := by rw [← h.len]; omega
      simp only [cat, List.getD_eq_getElem?_getD] at *
      rw [List.getElem?_append_right (show r.length ≤ i by omega), List.getElem?_append_right hs, ← h.len]
      exact this
  · simp only [cat, List.mem_filter] at hf
    have := h.fact f hf.1
    rw [wfE_den (List.prefix_append r ys) f.1 (by rw [h.len]; exact hf.2)]
    exact this
  · simp only [cat, List.mem_filter] at hb
    rw [wfB_den (List.prefix_append r ys) b (by rw [h.len]; exact hb.2)]
    exact h.kn b hb.1
theorem bnd_one {S : Sh} {d : DV} (h : HasSh S d) (ht : d.top S) : BndOk [d] ⟨[.d S], [], []⟩ := by
  refine ⟨rfl, fun i => ?_, fun f hf => (by cases hf), fun b hb => (by cases hb)⟩
  cases i with
  | zero => exact ⟨h, ht⟩
  | succ i => simp only [List.getD_cons_succ, List.getD_nil]; exact ⟨0, rfl, Int.le_refl _, Int.le_refl _⟩
/-- A new variable. -/
theorem Rep.letD {N : Nat} {w0 : World} {n : Env} {s : St} {a : Act} {w : World} (h : Rep N w0 n s a w) (hw : wfSt s = true) {d : DV} {S : Sh} (hs : HasSh S d) (ht : d.top S) (hf : S.fine = true) (hn : NestD w (fun g => ¬ Owned n s.ar g) S d) :
    Rep N w0 (n.moreZ [d]) { s with bnd := cat s.bnd [.d S] } a w := by
  have hx : Ext n (n.moreZ [d]) := Ext.more n [d] _ (by simp)
  simp only [wfSt, Bool.and_eq_true] at hw
  have hb := hw.1.2
  rw [← h.nz] at hb
  refine ⟨cat_ok h.bnd (bnd_one hs ht), h.mem.ext hb hx rfl, ?_, h.below, ?_⟩
  · refine h.dat.move h.bnd rfl (List.prefix_append _ _) (fun g hg => .inl hg) (fun _ _ _ => rfl) fun i T hT => ?_
    simp only [cat] at hT
    rw [List.getElem?_append] at hT
    split at hT
    · rename_i hlt; exact .inl ⟨by rw [h.lens.1]; exact hlt, hT⟩
    · rename_i hge
      have h0 : i - s.bnd.v.length = 0 := by
        cases hk : i - s.bnd.v.length with
        | zero => rfl
        | succ k => rw [hk] at hT; simp at hT
      rw [h0] at hT
      simp only [List.getElem?_cons_zero, Option.some.injEq, VD.d.injEq] at hT
      subst hT
      have hi : i = n.r.length := by rw [h.lens.1]; omega
      subst hi
      refine .inr ⟨hf, ?_⟩
      have e : (n.moreZ [d]).r.getD n.r.length (.n 0) = d := by simp [Env.moreZ, Env.more]
      rw [e]; exact hn
  · rw [h.act]
    have h1 := wfSs_den hx s.tmps (by rw [h.nz]; exact hw.1.1)
    simp only [h1]
    rfl
def letD {β : Type} (s : St) (f : DOp) (xs : List E) (S : Sh) (k : Nat → St → T β) : T β := .dat f xs (k s.bnd.v.length { s with bnd := cat s.bnd [.d S] })
theorem nestD_one {w : World} {Q : Nat → Prop} {S : Sh} {d : DV} (h : Laid w Q S d) : NestD w Q S d := h.nestD
theorem letD_ok {β : Type} {N : Nat} {w0 : World} {C : List Con} {Φ : List DV → β → Prop} {n : Env} {s : St} {a : Act} {w : World} {f : DOp} {xs : List E} {mx : Nat} {row : List Sh} {k : Nat → St → T β} (h : Rep N w0 n s a w) (hw : wfSt s = true)
    (hd : (letD s f xs (.sl mx row) k).den C Φ n.r) {l : List (List DV)} (he : f.fn (xs.map (E.val n.r)) = .sl none 0 l) (hl : l.length ≤ mx) (hmx : mx ≤ 9223372036854775807) (hr : row ≠ []) (hf : Sh.fines row = true) (hs : ∀ e ∈ l, HasShs row e) (hn : Nest w (fun g => ¬ Owned n s.ar g) row l) :
    ∃ m, Ext n m ∧ m.v = n.v ∧ m.b = n.b ∧ Rep N w0 m { s with bnd := cat s.bnd [.d (.sl mx row)] } a w ∧ (k s.bnd.v.length { s with bnd := cat s.bnd [.d (.sl mx row)] }).den C Φ m.r ∧ (E.var s.bnd.v.length).dat m.r = .sl none 0 l := by
  simp only [letD, T.den, he] at hd
  refine ⟨n.moreZ [.sl none 0 l], Ext.more n _ _ (by simp), rfl, rfl, ?_, hd, ?_⟩
  · refine h.letD hw ?_ ⟨l, rfl⟩ ?_ ?_
    · simp only [HasSh, DV.els]; exact ⟨hl, hs⟩
    · simp only [Sh.fine, Bool.and_eq_true, Bool.not_eq_true', List.isEmpty_eq_false_iff]
      exact ⟨⟨hr, hf⟩, Nat.ble_eq_true_of_le hmx⟩
    · simp only [NestD]; exact hn
  · simp only [E.dat, ← h.lens.1]
    simp [Env.moreZ, Env.more]
/-- What a value is as data, where a cell of some shape is wanted. -/
def eOf (s : Bnd) (t : Sh) (c : CV) : Option (E × Sh) :=
  match t, c with
  | .int k _ _, .k (.int l e) => let x := e.rng s; if Nat.beq (kq k) (kq l) && (decide (kmin k ≤ x.1) && decide (x.2 ≤ kmax k)) then some (.num e, .int k x.1 x.2) else none
  | .bool, .k (.bool (.lit true)) => some (.lit 1, .bool)
  | .bool, .k (.bool (.lit false)) => some (.lit 0, .bool)
  | .bool, .k (.bool (.not (.eq e (.lit 0)))) => let x := e.rng s; if decide (0 ≤ x.1) && decide (x.2 ≤ 1) then some (.num e, .bool) else none
  | .str _, .k (.str e) => match e.shp s with
    | some (.str m) => if e.isD then some (e, .str m) else none
    | _ => none
  | .sl _ row, .k .nils => some (.emp, .sl 0 row)
  | .sl _ _, .k (.nest e) => match e.shp s with
    | some (.sl m r) => if isEl e then some (e, .sl m r) else none
    | _ => none
  | _, _ => none
theorem eOf_ok {n : Env} {s : Bnd} (hs : BndOk n.r s) {w : World} {Q : Nat → Prop} (hp : PermQ Q n s w) {t : Sh} {c : CV} {e : E} {S : Sh} (h : eOf s t c = some (e, S)) (hf : t.fine = true) :
    HasSh S (e.val n.r) ∧ cellV S (e.val n.r) = c.den n ∧ S.fine = true ∧ Laid w Q S (e.val n.r) := by
  unfold eOf at h
  split at h
  · rename_i k a b l e'
    simp only at h
    split at h
    · rename_i hc
      simp only [Option.some.injEq, Prod.mk.injEq] at h
      obtain ⟨rfl, rfl⟩ := h
      simp only [Bool.and_eq_true, decide_eq_true_eq] at hc
      obtain rfl := kq_ok hc.1
      have hr := E.rng_ok hs e'
      have ev : E.val n.r (.num e') = .n (e'.den n.r) := by simp only [E.val, E.isD, E.den]
      rw [ev]
      refine ⟨?_, rfl, rfl, by simp only [Laid]⟩
      simp only [HasSh]
      exact ⟨_, rfl, hr, by omega, by omega⟩
    · cases h
  · simp only [Option.some.injEq, Prod.mk.injEq] at h
    obtain ⟨rfl, rfl⟩ := h
    have ev : E.val n.r (.lit 1) = .n 1 := by simp only [E.val, E.isD, E.den]
    rw [ev]
    exact ⟨by simp only [HasSh]; exact ⟨1, rfl, by decide, by decide⟩, rfl, rfl, by simp only [Laid]⟩
  · simp only [Option.some.injEq, Prod.mk.injEq] at h
    obtain ⟨rfl, rfl⟩ := h
    have ev : E.val n.r (.lit 0) = .n 0 := by simp only [E.val, E.isD, E.den]
    rw [ev]
    exact ⟨by simp only [HasSh]; exact ⟨0, rfl, by decide, by decide⟩, rfl, rfl, by simp only [Laid]⟩
  · rename_i e'
    simp only at h
    split at h
    · rename_i hc
      simp only [Option.some.injEq, Prod.mk.injEq] at h
      obtain ⟨rfl, rfl⟩ := h
      simp only [Bool.and_eq_true, decide_eq_true_eq] at hc
      have hr := E.rng_ok hs e'
      have ev : E.val n.r (.num e') = .n (e'.den n.r) := by simp only [E.val, E.isD, E.den]
      rw [ev]
      refine ⟨?_, rfl, rfl, by simp only [Laid]⟩
      simp only [HasSh]
      exact ⟨_, rfl, by omega, by omega⟩
    · cases h
  · rename_i mx e'
    split at h
    · rename_i m hsh
      split at h
      · rename_i hd
        simp only [Option.some.injEq, Prod.mk.injEq] at h
        obtain ⟨rfl, rfl⟩ := h
        have ev : E.val n.r e' = e'.dat n.r := by simp only [E.val, hd]
        rw [ev]
        exact ⟨E.shp_str hs hsh, rfl, rfl, by simp only [Laid]⟩
      · cases h
    · cases h
  · rename_i mx row
    simp only [Option.some.injEq, Prod.mk.injEq] at h
    obtain ⟨rfl, rfl⟩ := h
    have ev : E.val n.r .emp = .sl none 0 [] := by simp only [E.val, E.isD, E.dat]
    rw [ev]
    refine ⟨by simp [HasSh, DV.els], rfl, ?_, ?_⟩
    · simp only [Sh.fine, Bool.and_eq_true] at hf ⊢
      exact ⟨hf.1, by first | trivial | rfl⟩
    · simp only [Laid, DV.els]
      exact ⟨⟨none, 0, rfl, Nat.le_refl _, fun h => absurd rfl h⟩, fun e he => by cases he⟩
  · rename_i mx row e'
    split at h
    · rename_i m r hsh
      split at h
      · rename_i hd
        simp only [Option.some.injEq, Prod.mk.injEq] at h
        obtain ⟨rfl, rfl⟩ := h
        have ev : E.val n.r e' = e'.dat n.r := by
          cases e' <;> first | (simp [isEl] at hd; done) | simp only [E.val, E.isD]
        rw [ev]
        obtain ⟨f1, _, f3⟩ := path_laid hp e' _ hsh
        refine ⟨E.shp_sl hs hsh, rfl, f1, ?_⟩
        rcases f3 hd with f3 | f3
        · exact f3
        · rw [f3]
          simp only [Laid, DV.els]
          exact ⟨⟨none, 0, rfl, Nat.le_refl _, fun h => absurd rfl h⟩, fun e he => by cases he⟩
      · cases h
    · cases h
  · cases h
def esOf (s : Bnd) : List Sh → List CV → Option (List E × List Sh)
  | _, [] => some ([], [])
  | t :: l, c :: r => match eOf s t c, esOf s l r with
    | some (e, S), some (es, ss) => some (e :: es, S :: ss)
    | _, _ => none
  | _, _ => none
theorem esOf_ok {n : Env} {s : Bnd} (hs : BndOk n.r s) {w : World} {Q : Nat → Prop} (hp : PermQ Q n s w) : ∀ {ts : List Sh} {cs : List CV} {es : List E} {ss : List Sh}, esOf s ts cs = some (es, ss) → Sh.fines ts = true →
    HasL ss (es.map (E.val n.r)) ∧ cellsL ss (es.map (E.val n.r)) = cs.map (CV.den n) ∧ Sh.fines ss = true ∧ LaidLL w Q ss (es.map (E.val n.r))
  | ts, [], es, ss, h, _ => by
    unfold esOf at h
    cases h
    exact ⟨trivial, rfl, rfl, trivial⟩
  | [], c :: r, es, ss, h, _ => by unfold esOf at h; cases h
  | t :: l, c :: r, es, ss, h, hf => by
    unfold esOf at h
    simp only [Sh.fines, Bool.and_eq_true] at hf
    split at h
    · rename_i e S es' ss' h1 h2
      cases h
      obtain ⟨a1, a2, a3, a4⟩ := eOf_ok hs hp h1 hf.1
      obtain ⟨b1, b2, b3, b4⟩ := esOf_ok hs hp h2 hf.2
      simp only [List.map_cons, cellsL, a2, b2]
      refine ⟨⟨a1, b1⟩, trivial, ?_, a4, b4⟩
      simp only [Sh.fines, a3, b3, Bool.and_self]
    · cases h
/-! Slices that are turned. -/
def killV (p : Nat) (a : Ar) : Ar := match a.st with
  | .view q _ => if Nat.beq q p then { a with st := .dead } else a
  | _ => a
def turnAr (p : Nat) (x : Ar) (ar : List Ar) : List Ar := (ar.map (killV p)).set p x
theorem turn_len (p : Nat) (x : Ar) (ar : List Ar) : (turnAr p x ar).length = ar.length := by simp [turnAr]
theorem turn_same {p : Nat} {x : Ar} {ar : List Ar} (h : p < ar.length) : (turnAr p x ar)[p]? = some x := by simp [turnAr, h]
theorem turn_other {p i : Nat} {x : Ar} {ar : List Ar} (h : i ≠ p) : (turnAr p x ar)[i]? = (ar[i]?).map (killV p) := by
  simp [turnAr, List.getElem?_set_ne (Ne.symm h)]
theorem killV_own {p : Nat} {a : Ar} (h : a.st = .own) : killV p a = a := by unfold killV; rw [h]
theorem killV_st {p : Nat} {a : Ar} (h : (killV p a).st = .own) : a.st = .own ∧ killV p a = a := by
  have h0 := h
  unfold killV at h
  split at h
  · split at h
    · cases h
    · rename_i hst hq; rw [hst] at h; cases h
  · refine ⟨h, killV_own h⟩
theorem killV_eq {p : Nat} {a : Ar} : killV p a = a ∨ (killV p a).st = .dead := by
  unfold killV
  split
  · split
    · exact .inr rfl
    · exact .inl rfl
  · exact .inl rfl
theorem killV_view {p q : Nat} {pre : Nat} {a : Ar} (h : a.st = .view q pre) (hk : killV p a = a) : q ≠ p := by
  intro e
  subst e
  unfold killV at hk
  rw [h] at hk
  simp only [Nat.beq_refl, if_true] at hk
  rw [← hk] at h
  cases h
theorem killV_wf {r p : Nat} {a : Ar} (h : wfAr r a = true) : wfAr r (killV p a) = true := by
  unfold killV
  split
  · split
    · exact h
    · exact h
  · exact h
theorem turn_wf {r p : Nat} {x : Ar} {ar : List Ar} (h : ar.all (wfAr r) = true) (hx : wfAr r x = true) : (turnAr p x ar).all (wfAr r) = true := by
  refine List.all_eq_true.2 fun a ha => ?_
  obtain ⟨i, hi⟩ := List.mem_iff_getElem?.1 ha
  by_cases e : i = p
  · subst e
    have hlt : i < ar.length := by
      have := (List.getElem?_eq_some_iff.1 hi).1
      rwa [turn_len] at this
    rw [turn_same hlt] at hi
    cases hi; exact hx
  · rw [turn_other e] at hi
    cases hc : ar[i]? with
    | none => rw [hc] at hi; cases hi
    | some b => rw [hc] at hi; cases hi; exact killV_wf (List.all_eq_true.1 h b (List.mem_of_getElem? hc))
/-- A slice that is owned is turned (or dies); what shares its cells dies; new slices come. -/
theorem DatOk.turn {N : Nat} {n m : Env} {bnd bnd' : Bnd} {ar new : List Ar} {w w' : World} {p : Nat} {a0 x : Ar} (h : DatOk N n bnd ar w) (hB : BndOk n.r bnd) (hpa : ar[p]? = some a0) (hst : a0.st = .own)
    (hv : n.v <+: m.v) (hr : n.r <+: m.r) (hmb : m.b = n.b) (hlen : m.v.length = (turnAr p x ar ++ new).length) (hwx : wfAr m.r.length x = true) (hnwf : new.all (wfAr m.r.length) = true)
    (hw : ∀ g, g < w.heap.size → (n.sv p).ownBlock ≠ some g → w'.heap[g]? = w.heap[g]?)
    (ho : ∀ g, Owned m (turnAr p x ar ++ new) g → Owned n ar g ∨ w.heap.size ≤ g)
    (hx : EntOk N m (turnAr p x ar ++ new) w' p x)
    (hnew : ∀ i a, new[i]? = some a → EntOk N m (turnAr p x ar ++ new) w' (ar.length + i) a)
    (hfresh : ∀ i a g, new[i]? = some a → a.st = .own → (m.sv (ar.length + i)).ownBlock = some g → (w.heap.size ≤ g ∨ (x.st ≠ .own ∧ (n.sv p).ownBlock = some g)) ∧ g ∉ m.b)
    (hdis : ∀ i j a c g, new[i]? = some a → new[j]? = some c → a.st = .own → c.st = .own → (m.sv (ar.length + i)).ownBlock = some g → (m.sv (ar.length + j)).ownBlock = some g → i = j)
    (hp : ∀ i S, bnd'.v[i]? = some (.d S) → (i < n.r.length ∧ bnd.v[i]? = some (.d S)) ∨ (S.fine = true ∧ NestD w' (fun g => ¬ Owned m (turnAr p x ar ++ new) g) S (m.r.getD i (.n 0)))) (hf : m.f = n.f := by rfl) : DatOk N m bnd' (turnAr p x ar ++ new) w' := by
  have hplt : p < ar.length := (List.getElem?_eq_some_iff.1 hpa).1
  have hsv : ∀ i, i < ar.length → m.sv i = n.sv i := fun i hi => Env.sv_pre hv (by rw [h.len]; exact hi)
  have hown : ∀ (i : Nat) (a : Ar) (g : Nat), ar[i]? = some a → a.st = .own → (n.sv i).ownBlock = some g → g < w.heap.size := fun i a g hi ha hg => by
    have he := h.ent i a hi
    unfold EntOk at he
    rw [ha] at he
    exact (he.2.lt g hg).2
  have hkS : ∀ b, ¬ Owned n ar b → b < w.heap.size → w'.heap[b]? = w.heap[b]? ∧ ¬ Owned m (turnAr p x ar ++ new) b := fun b hb hlt => ⟨hw b hlt fun hm => hb (.inr ⟨p, a0, hpa, hst, hm⟩), fun ho' => by
    rcases ho b ho' with h1 | h1
    · exact hb h1
    · omega⟩
  have hels : ∀ (i : Nat) (a : Ar), ar[i]? = some a → a.ct.els m.r = a.ct.els n.r := fun i a hi => by
    have hwa := List.all_eq_true.1 h.wf a (List.mem_of_getElem? hi)
    simp only [wfAr, Bool.and_eq_true] at hwa
    exact wfCt_den hr a.ct hwa.1
  have hEnt : ∀ (i : Nat) (a : Ar), ar[i]? = some a → Ent n ar w a → Ent m (turnAr p x ar ++ new) w' a := fun i a hi he => by
    have hwa := List.all_eq_true.1 h.wf a (List.mem_of_getElem? hi)
    simp only [wfAr, Bool.and_eq_true] at hwa
    have e1 := wfCt_den hr a.ct hwa.1
    have e2 := wfE_den hr a.len hwa.2
    exact ⟨he.fine, by rw [e1]; exact he.shp, by rw [e1, e2]; exact he.len, by rw [e1]; exact he.nest.keep he.fine he.shp.2 hkS⟩
  -- the entries of the turned list
  have hget : ∀ (i : Nat) (a : Ar), i < ar.length → (turnAr p x ar ++ new)[i]? = some a → (i = p ∧ a = x) ∨ (i ≠ p ∧ ∃ c, ar[i]? = some c ∧ a = killV p c) := fun i a hi ha => by
    rw [List.getElem?_append_left (by rw [turn_len]; exact hi)] at ha
    by_cases e : i = p
    · subst e; rw [turn_same hi] at ha; cases ha; exact .inl ⟨rfl, rfl⟩
    · rw [turn_other e] at ha
      cases hc : ar[i]? with
      | none => rw [hc] at ha; cases ha
      | some c => rw [hc] at ha; cases ha; exact .inr ⟨e, c, rfl, rfl⟩
  have hge : ∀ (i : Nat) (a : Ar), ar.length ≤ i → (turnAr p x ar ++ new)[i]? = some a → new[i - ar.length]? = some a := fun i a hi ha => by
    rw [List.getElem?_append_right (by rw [turn_len]; exact hi), turn_len] at ha; exact ha
  refine ⟨hlen, ?_, fun i a hi => ?_, fun i j a c g hi hj h1 h2 h3 h4 => ?_, fun i a g hi h1 h2 => ?_, fun i S hS => ?_, by rw [hf]; exact h.fb⟩
  · rw [List.all_append, Bool.and_eq_true]
    exact ⟨turn_wf (List.all_eq_true.2 fun a ha => wfAr_mono hr.length_le a (List.all_eq_true.1 h.wf a ha)) hwx, hnwf⟩
  · rcases Nat.lt_or_ge i ar.length with hlt | hlt
    · rcases hget i a hlt hi with ⟨rfl, rfl⟩ | ⟨hne, c, hc, rfl⟩
      · exact hx
      · rcases killV_eq (p := p) (a := c) with hk | hk
        · have he := h.ent i c hc
          unfold EntOk at he ⊢
          rw [hk, hsv i hlt, hels i c hc]
          cases hcs : c.st with
          | dead => trivial
          | frz =>
            rw [hcs] at he
            exact ⟨hEnt i c hc he.1, he.2.keep he.1.shp hkS⟩
          | full =>
            rw [hcs] at he
            exact ⟨hEnt i c hc he.1, he.2.1.keep he.1.shp hkS, he.2.2⟩
          | told e =>
            rw [hcs] at he
            exact ⟨hEnt i c hc he.1, he.2.1.keep he.1.shp hkS, wfE_mono hr.length_le e he.2.2.1, by rw [wfE_dat hr e he.2.2.1]; exact he.2.2.2⟩
          | own =>
            rw [hcs] at he
            refine ⟨hEnt i c hc he.1, ownsRow_block he.2 fun g hg => ?_⟩
            exact hw g (hown i c g hc hcs hg) fun hg' => hne (h.dis i p c a0 g hc hpa hcs hst hg hg')
          | view q pre =>
            rw [hcs] at he
            obtain ⟨e1, e2, qa, e3, e4, e5⟩ := he
            have hqp := killV_view hcs hk
            have hq : q < ar.length := (List.getElem?_eq_some_iff.1 e3).1
            refine ⟨hEnt i c hc e1, ?_, qa, ?_, e4, ?_⟩
            · rw [hsv q hq]
              refine e2.keep e1.shp fun b hb hlt => ?_
              rcases hb with hb | hb
              · exact ⟨(hkS b hb hlt).1, .inl (hkS b hb hlt).2⟩
              · exact ⟨hw b hlt fun hg' => hqp (h.dis q p qa a0 b e3 hpa e4 hst hb hg'), .inr hb⟩
            · rw [List.getElem?_append_left (by rw [turn_len]; exact hq), turn_other hqp, e3]
              simp only [Option.map_some, killV_own e4]
            · rw [hsv q hq, hels q qa e3]; exact e5
        · unfold EntOk; rw [hk]; trivial
    · have := hnew (i - ar.length) a (hge i a hlt hi)
      rwa [show ar.length + (i - ar.length) = i by omega] at this
  · -- owned blocks are apart
    have old : ∀ (i : Nat) (a : Ar), i < ar.length → (turnAr p x ar ++ new)[i]? = some a → a.st = .own → ∃ c, ar[i]? = some c ∧ c.st = .own := fun i a hi ha hs => by
      rcases hget i a hi ha with ⟨rfl, rfl⟩ | ⟨hne, c, hc, rfl⟩
      · exact ⟨a0, hpa, hst⟩
      · exact ⟨c, hc, (killV_st hs).1⟩
    have cross : ∀ (i j : Nat) (a c : Ar), i < ar.length → ar.length ≤ j → (turnAr p x ar ++ new)[i]? = some a → (turnAr p x ar ++ new)[j]? = some c → a.st = .own → c.st = .own → (m.sv i).ownBlock = some g → (m.sv j).ownBlock = some g → False := fun i' j' a' c' hi' hj' ha' hc' h1' h2' h3' h4' => by
      obtain ⟨b, hb, hbs⟩ := old i' a' hi' ha' h1'
      rw [hsv i' hi'] at h3'
      have k1 := hown i' b g hb hbs h3'
      have k2 := (hfresh (j' - ar.length) c' g (hge j' c' hj' hc') h2' (by rwa [show ar.length + (j' - ar.length) = j' by omega])).1
      rcases k2 with k2 | ⟨k2, k3⟩
      · omega
      · have e := h.dis i' p b a0 g hb hpa hbs hst h3' k3
        rcases hget i' a' hi' ha' with ⟨_, e2⟩ | ⟨hne, _⟩
        · exact k2 (e2 ▸ h1')
        · exact hne e
    rcases Nat.lt_or_ge i ar.length with l1 | l1 <;> rcases Nat.lt_or_ge j ar.length with l2 | l2
    · obtain ⟨b, hb, hbs⟩ := old i a l1 hi h1
      obtain ⟨d, hd, hds⟩ := old j c l2 hj h2
      rw [hsv i l1] at h3; rw [hsv j l2] at h4
      exact h.dis i j b d g hb hd hbs hds h3 h4
    · exact (cross i j a c l1 l2 hi hj h1 h2 h3 h4).elim
    · exact (cross j i c a l2 l1 hj hi h2 h1 h4 h3).elim
    · have := hdis (i - ar.length) (j - ar.length) a c g (hge i a l1 hi) (hge j c l2 hj) h1 h2 (by rwa [show ar.length + (i - ar.length) = i by omega]) (by rwa [show ar.length + (j - ar.length) = j by omega])
      omega
  · rcases Nat.lt_or_ge i ar.length with l1 | l1
    · rw [hsv i l1] at h2
      rw [hmb]
      rcases hget i a l1 hi with ⟨rfl, rfl⟩ | ⟨hne, c, hc, rfl⟩
      · exact h.disb i a0 g hpa hst h2
      · exact h.disb i c g hc (killV_st h1).1 h2
    · exact (hfresh (i - ar.length) a g (hge i a l1 hi) h1 (by rwa [show ar.length + (i - ar.length) = i by omega])).2
  · rcases hp i S hS with ⟨k1, k2⟩ | k
    · obtain ⟨f1, f2⟩ := h.perm i S k2
      refine ⟨f1, ?_⟩
      rw [getD_prefix hr k1]
      have hs := hB.vok i
      rw [List.getD_eq_getElem?_getD, k2] at hs
      have hs := hs.1
      cases S with
      | sl mx row =>
        simp only [NestD] at f2 ⊢
        simp only [Sh.fine, Bool.and_eq_true, Bool.not_eq_true', List.isEmpty_eq_false_iff] at f1
        exact f2.keep f1.1.2 (DV.els_shape hs f1.1.1).2 hkS
      | _ => simp only [NestD]
    · exact k
end Go.Dx

/- A symbolic executor: stores into slices. -/
namespace Go.Dx
open Go.RowKit
set_option linter.unusedVariables false
set_option linter.unusedSimpArgs false
theorem wfSt_cat {s : St} (h : wfSt s = true) (t : List VD) : wfSt { s with bnd := cat s.bnd t } = true := by
  simp only [wfSt, Bool.and_eq_true] at *
  have hr : (sz s).r ≤ (sz { s with bnd := cat s.bnd t }).r := by simp [sz, cat]
  refine ⟨⟨?_, ?_⟩, h.2⟩
  · exact List.all_eq_true.2 fun x hx => wfS_mono hr (Nat.le_refl _) (Nat.le_refl _) x (List.all_eq_true.1 h.1.1 x hx)
  · exact List.all_eq_true.2 fun x hx => wfBlk_mono hr (Nat.le_refl _) (Nat.le_refl _) x (List.all_eq_true.1 h.1.2 x hx)
theorem chunk_flat {z : Nat} (hz : 0 < z) : ∀ (l : List (List DV)) (f : Nat), (∀ e ∈ l, e.length = z) → l.flatten.length ≤ f → chunk z f l.flatten = l
  | [], 0, _, _ => rfl
  | [], f + 1, _, _ => rfl
  | e :: l, f, h, hf => by
    have he := h e (List.mem_cons_self ..)
    rw [List.flatten_cons] at hf ⊢
    rw [List.length_append] at hf
    cases f with
    | zero => omega
    | succ f =>
      have ih := chunk_flat hz l f (fun x hx => h x (List.mem_cons_of_mem _ hx)) (by omega)
      cases e with
      | nil => simp at he; omega
      | cons x e =>
        have h1 : (x :: e ++ l.flatten).take z = x :: e := by rw [← he]; exact List.take_left
        have h2 : (x :: e ++ l.flatten).drop z = l.flatten := by rw [← he]; exact List.drop_left
        simp only [chunk, List.cons_append] at *
        rw [h1, h2, ih]
theorem Rep.perm {N : Nat} {w0 : World} {n : Env} {s : St} {a : Act} {w : World} (h : Rep N w0 n s a w) : PermQ (fun g => ¬ Owned n s.ar g) n s.bnd w := h.dat.perm
/-- What a slice holds, as data. -/
def toVar {β : Type} (s : St) (row : List Sh) (ct : Ct) (k : E → Nat → St → T β) : T β :=
  match ct with
  | .e x => match x.shp s.bnd with
    | some (.sl mx r) => if shqs r row && Nat.ble mx 9223372036854775807 then k x mx s else .fail
    | _ => .fail
  | .rows l => if Nat.ble l.length 9223372036854775807 then letD s (.rows row.length) l.flatten (.sl l.length row) fun v s => k (.var v) l.length s else .fail
theorem toVar_ok {β : Type} {N : Nat} {w0 : World} {C : List Con} {Φ : List DV → β → Prop} {n : Env} {s : St} {a : Act} {w : World} {row : List Sh} {ct : Ct} {k : E → Nat → St → T β} (h : Rep N w0 n s a w) (hw : wfSt s = true)
    (hd : (toVar s row ct k).den C Φ n.r) (hwc : wfCt n.r.length ct = true) (hf : Sh.fines row = true) (hs : Shaped row (ct.els n.r)) (hn : Nest w (fun g => ¬ Owned n s.ar g) row (ct.els n.r)) :
    ∃ m x mx s', Ext n m ∧ m.v = n.v ∧ m.b = n.b ∧ Rep N w0 m s' a w ∧ wfSt s' = true ∧ s'.ar = s.ar ∧ s'.tmps = s.tmps ∧ s.bnd.v.length ≤ s'.bnd.v.length ∧ (k x mx s').den C Φ m.r ∧ wfE m.r.length x = true ∧ (x.dat m.r).els = ct.els n.r ∧ (ct.els n.r).length ≤ mx ∧ mx ≤ 9223372036854775807 ∧ x.isD = true ∧ x.shp s'.bnd = some (.sl mx row) := by
  unfold toVar at hd
  split at hd
  · rename_i x
    split at hd
    · rename_i mx r hsh
      split at hd
      · rename_i hr
        simp only [Bool.and_eq_true] at hr
        obtain rfl := shqs_ok hr.1
        have hsh' := E.shp_sl h.bnd hsh
        simp only [HasSh] at hsh'
        refine ⟨n, x, mx, s, Ext.refl n, rfl, rfl, h, hw, rfl, rfl, Nat.le_refl _, hd, hwc, rfl, hsh'.1, Nat.le_of_ble_eq_true hr.2, ?_, hsh⟩
        cases x <;> first | rfl | (simp [E.shp] at hsh)
      · exact hd.elim
    · exact hd.elim
  · rename_i l
    split at hd
    case isFalse => exact hd.elim
    rename_i hlen
    have hlen := Nat.le_of_ble_eq_true hlen
    have hz : 0 < row.length := List.length_pos_iff.2 hs.1
    simp only [Ct.els] at hs hn
    have hfl : l.flatten.map (E.val n.r) = (l.map fun e => e.map (E.val n.r)).flatten := by rw [List.map_flatten]
    have hrows : ∀ e ∈ (l.map fun e => e.map (E.val n.r)), e.length = row.length := fun e he => (hs.2 e he).len
    have hch := chunk_flat hz _ _ hrows (Nat.le_refl _)
    obtain ⟨m, h1, h2, h3, h4, h5, h6⟩ := letD_ok (l := l.map fun e => e.map (E.val n.r)) h hw hd (by
      simp only [DOp.fn, hfl, hch]) (by simp) hlen hs.1 hf hs.2 hn
    refine ⟨m, _, _, _, h1, h2, h3, h4, wfSt_cat hw _, rfl, rfl, by simp [cat], h5, ?_, ?_, by simp [Ct.els], hlen, rfl, ?_⟩
    · rw [h4.lens.1]; simp only [wfE, cat]; simp [Nat.blt]
    · rw [h6]; rfl
    · simp only [E.shp, cat]; simp
theorem layG_map {α β : Type} (f : α → β) : ∀ (l : List α) (j : Nat) (v : List α), (layG l j v).map f = layG (l.map f) j (v.map f)
  | l, 0, [] => by simp [layG_nil]
  | _ :: l, 0, d :: ds => by simp [layG, layG_map f l 0 ds]
  | x :: l, j + 1, ds => by simp [layG, layG_map f l j ds]
  | [], 0, _ :: _ => rfl
  | [], _ + 1, _ => rfl
theorem modify_mem {α : Type} {f : α → α} : ∀ {l : List α} {i : Nat} {e : α}, e ∈ l.modify i f → e ∈ l ∨ ∃ x ∈ l, e = f x
  | [], i, e, h => by cases i <;> simp at h
  | x :: l, 0, e, h => by
    rw [List.modify_zero_cons] at h
    rcases List.mem_cons.1 h with h | h
    · exact .inr ⟨x, List.mem_cons_self .., h⟩
    · exact .inl (List.mem_cons_of_mem _ h)
  | x :: l, i + 1, e, h => by
    rw [List.modify_succ_cons] at h
    rcases List.mem_cons.1 h with h | h
    · exact .inl (h ▸ List.mem_cons_self ..)
    · rcases modify_mem h with k | ⟨y, k1, k2⟩
      · exact .inl (List.mem_cons_of_mem _ k)
      · exact .inr ⟨y, List.mem_cons_of_mem _ k1, k2⟩
/-- The rows behind a store. -/
theorem set_rows {row row' : List Sh} {j : Nat} {ss : List Sh} {ds : List DV} (hj : joinAt row j ss = some row') (hd : HasL ss ds) {els : List (List DV)} {i : Nat} (hs : ∀ e ∈ els, HasShs row e) : ∀ e ∈ els.modify i (fun e => layG e j ds), HasShs row' e := fun e he => by
  obtain ⟨k1, k2, _⟩ := joinAt_ok hj
  rcases modify_mem he with h | ⟨x, h, rfl⟩
  · exact (k1 e (hs e h)).1
  · exact (k2 x ds (hs x h) hd).1
theorem set_nest {w : World} {Q : Nat → Prop} {row row' : List Sh} {j : Nat} {ss : List Sh} {ds : List DV} (hj : joinAt row j ss = some row') (hd : HasL ss ds) (hl : LaidLL w Q ss ds) {els : List (List DV)} {i : Nat} (hs : ∀ e ∈ els, HasShs row e) (hn : Nest w Q row els) : Nest w Q row' (els.modify i (fun e => layG e j ds)) := fun e he => by
  obtain ⟨_, _, _, k4, k5⟩ := joinAt_ok hj
  rcases modify_mem he with h | ⟨x, h, rfl⟩
  · exact k4 w Q e (hn e h)
  · exact k5 w Q x ds (hs x h) hd (hn x h) hl
theorem flat_cells (n : Env) (l : List CV) : ∀ v ∈ l.map (CV.den n), isFlat v := fun v hv => by
  obtain ⟨c, _, rfl⟩ := List.mem_map.1 hv
  exact c.flat n
theorem ownsRow_some {w : World} {N : Nat} {e : TypeId} {z : Nat} {v : Value} {k : Nat} {xs : List Value} (h : w.ownsRow N e z v k xs) (hk : 0 < k) : ∃ g cap, v = .slice (some ⟨g, 0, none⟩) k cap ∧ N ≤ g := by
  rcases h.2 with ⟨_, h2⟩ | ⟨g, cap, cur, hv, hb, _⟩
  · omega
  · exact ⟨g, cap, hv, hb⟩
/-- A store into a slice that is owned. -/
theorem turnStore {P : Program} {tb : Tb} [TbOk P tb] {N : Nat} {w0 : World} {n : Env} {s : St} {a : Act} {w : World} {k : Nat} {row row' : List Sh} {ct ct' : Ct} {len : E} {ety t : TypeId} {i : E} {j m : Nat} {ss : List Sh} {ds : List DV} {v : PV}
    (h : Rep N w0 n s a w) (hk : s.ar[k]? = some ⟨row, ct, len, .own, ety⟩) (hm : tb.size t = some m) (hvm : v.cells.length = m) (hi0 : 0 ≤ i.den n.r) (hi1 : i.den n.r < len.den n.r)
    (hj : joinAt row j ss = some row') (hd : HasL ss ds) (hc : cellsL ss ds = v.cells.map (CV.den n)) (hfs : Sh.fines ss = true) (hl : LaidLL w (fun g => ¬ Owned n s.ar g) ss ds)
    (hwc : wfCt n.r.length ct' = true) (he : ct'.els n.r = (ct.els n.r).modify (i.den n.r).toNat fun e => layG e j ds) :
    ∃ w', (Instr.storeAt t ((K.ptr (.ar k) row.length i j).den n) (v.den n)).run P w = .ok () w' ∧ Rep N w0 n { s with ar := turnAr k ⟨row', ct', len, .own, ety⟩ s.ar } a w' := by
  have hent := h.dat.ent k _ hk
  unfold EntOk at hent
  simp only at hent
  obtain ⟨e1, e2⟩ := hent
  have hlen := e1.len
  simp only at hlen
  have hsh := e1.shp
  simp only at hsh
  have hilt : (i.den n.r).toNat < (ct.els n.r).length := by omega
  obtain ⟨g, cap, hv, hNg⟩ := ownsRow_some e2 (by omega)
  have hfl := flatV_len hsh.2
  obtain ⟨k1, k2, k3⟩ := (joinAt_ok hj).2.1 ((ct.els n.r)[(i.den n.r).toNat]) ds (hsh.2 _ (List.getElem_mem hilt)) hd
  have hrl := (hsh.2 _ (List.getElem_mem hilt)).len
  have hbound : 0 + ((i.den n.r).toNat * row.length + j) + (cellsL ss ds).length ≤ (flatV row (ct.els n.r)).length := by
    rw [hfl, cellsL_len hd]
    have : (i.den n.r).toNat * row.length + row.length ≤ (ct.els n.r).length * row.length := by
      rw [← Nat.succ_mul]; exact Nat.mul_le_mul_right _ hilt
    omega
  rw [hv] at e2
  obtain ⟨w', hr, hA, hO⟩ := run_storeOwn (P := P) (cellsL ss ds) _ ((i.den n.r).toNat * row.length + j) 0 w e2 (by omega) (by rw [hc]; exact flat_cells n _)
  have hwar := List.all_eq_true.1 h.dat.wf _ (List.mem_of_getElem? hk)
  simp only [wfAr, Bool.and_eq_true] at hwar
  have hEl : (ct'.els n.r).length = (ct.els n.r).length := by rw [he, List.length_modify]
  have hown0 : ∀ b, Owned n (turnAr k ⟨row', ct', len, .own, ety⟩ s.ar ++ []) b ↔ Owned n s.ar b := fun b => by
    rw [List.append_nil]
    have hklt : k < s.ar.length := (List.getElem?_eq_some_iff.1 hk).1
    constructor
    · rintro (hb | ⟨q, c, hq, hc1, hc2⟩)
      · exact .inl hb
      · by_cases e : q = k
        · subst e; exact .inr ⟨q, _, hk, rfl, hc2⟩
        · rw [turn_other e] at hq
          cases hcc : s.ar[q]? with
          | none => rw [hcc] at hq; cases hq
          | some c' => rw [hcc] at hq; cases hq; exact .inr ⟨q, c', hcc, (killV_st hc1).1, hc2⟩
    · rintro (hb | ⟨q, c, hq, hc1, hc2⟩)
      · exact .inl hb
      · by_cases e : q = k
        · subst e; exact .inr ⟨q, _, turn_same hklt, rfl, hc2⟩
        · exact .inr ⟨q, c, by rw [turn_other e, hq]; simp only [Option.map_some, killV_own hc1], hc1, hc2⟩
  refine ⟨w', ?_, h.bnd, ?_, ?_, h.below.trans (hA.below hNg), h.act⟩
  · have ep : (K.ptr (.ar k) row.length i j).den n = .pointer (some ⟨g, (i.den n.r).toNat * row.length + j, none⟩) := by
      have e3 : (Src.ar k).val n = .slice (some ⟨g, 0, none⟩) (ct.els n.r).length cap := hv
      simp only [K.den, e3, baseOf, adr, Option.map_some, Nat.zero_add]
    rw [ep]
    simp only [Instr.storeAt, Instr.sureAddr, Sem.run_bind, Sem.run_pure, Result.andThen_ok, storeVar, run_size hm, PV.cells_den]
    rw [if_neg (by simp; exact hvm)]
    rw [hc] at hr
    simpa using hr
  · refine ⟨h.mem.1, h.mem.2.1, fun i b hi => ?_⟩
    have h1 := h.mem.2.2 i b hi
    refine ⟨h1.1, ?_⟩
    have hne : n.b.getD i 0 ≠ g := fun e => by
      have hlt : i < n.b.length := by rw [h.lens.2]; exact (List.getElem?_eq_some_iff.1 hi).1
      refine h.dat.disb k _ g hk rfl (by rw [hv]; rfl) ?_
      rw [← e, List.getD_eq_getElem?_getD, List.getElem?_eq_getElem hlt]
      exact List.getElem_mem hlt
    rw [hA.block _ hne]
    exact h1.2
  · have hd' := DatOk.turn (new := []) (m := n) (w' := w') (bnd' := s.bnd) (x := ⟨row', ct', len, .own, ety⟩) h.dat h.bnd hk rfl (List.prefix_refl _) (List.prefix_refl _) rfl (by rw [List.append_nil, turn_len]; exact h.dat.len) (by simp only [wfAr, hwc, hwar.2, Bool.and_self]) rfl
      (fun b hb hne => hA.block b fun e => hne (by rw [hv, e]; rfl)) (fun b hb => .inl ((hown0 b).1 hb)) ?_ (fun i a hi => by simp at hi) (fun i a g hi => by simp at hi) (fun i j a c g hi => by simp at hi) (fun i S hS => .inl ⟨by rw [h.lens.1]; exact (List.getElem?_eq_some_iff.1 hS).1, hS⟩)
    · rw [List.append_nil] at hd'; exact hd'
    · unfold EntOk
      simp only
      refine ⟨⟨(joinAt_ok hj).2.2.1 e1.fine hfs, ⟨?_, ?_⟩, ?_, ?_⟩, ?_⟩
      · intro hn
        have := joinAt_len hj
        simp only at hn
        rw [hn] at this
        exact hsh.1 (List.eq_nil_of_length_eq_zero (by simpa using this.symm))
      · simp only [he]; exact set_rows hj hd hsh.2
      · simp only [hEl]; exact hlen
      · simp only [he]
        have hkeep : ∀ b, ¬ Owned n s.ar b → b < w.heap.size → w'.heap[b]? = w.heap[b]? ∧ ¬ Owned n (turnAr k ⟨row', ct', len, .own, ety⟩ s.ar ++ []) b := fun b hb _ => ⟨hA.block b fun e => hb (.inr ⟨k, _, hk, rfl, by rw [hv, e]; rfl⟩), fun hb' => hb ((hown0 b).1 hb')⟩
        exact Nest.keep (set_nest hj hd hl hsh.2 e1.nest) ((joinAt_ok hj).2.2.1 e1.fine hfs) (set_rows hj hd hsh.2) hkeep
      · simp only [he, List.length_modify]
        rw [hv, flatV_lay hj hd hsh.2 hilt, joinAt_len hj]
        rw [Nat.add_zero] at hO
        exact hO
def rowsLit : Ct → E → Option (List (List E) × Nat)
  | .rows l, .lit q => some (l, q.toNat)
  | _, _ => none
/-- A store into an element of a slice. -/
def storeAr (tb : Tb) (s : St) (t : TypeId) (k z : Nat) (i : E) (j : Nat) (v : PV) : T (SV × St) :=
  match tb.size t, s.ar[k]? with
  | some m, some ⟨row, ct, len, .own, ety⟩ =>
    if (Nat.beq v.cells.length m && Nat.beq z row.length) && (inR s.bnd i len && (wfSt s && (v.cells.all (wfC (sz s)) && wfE s.bnd.v.length i))) then
      match esOf s.bnd (row.drop j) v.cells with
      | some (es, ss) => match joinAt row j ss with
        | some row' => if es.all (wfE s.bnd.v.length) then
            match rowsLit ct i with
            | some (l, q) => match l[q]? with
              | some e => .ret (undefS, { s with ar := turnAr k ⟨row', .rows (l.set q (layG e j es)), len, .own, ety⟩ s.ar })
              | none => .fail
            | none => toVar s row ct fun x mx s1 => letD s1 (.set j) (x :: .num i :: es) (.sl mx row') fun y s2 => .ret (undefS, { s2 with ar := turnAr k ⟨row', .e (.var y), len, .own, ety⟩ s2.ar })
          else .fail
        | none => .fail
      | none => .fail
    else .fail
  | _, _ => .fail
theorem fines_drop : ∀ {l : List Sh} {j : Nat}, Sh.fines l = true → Sh.fines (l.drop j) = true
  | [], j, h => by simp [Sh.fines]
  | t :: l, 0, h => h
  | t :: l, j + 1, h => by
    simp only [Sh.fines, Bool.and_eq_true] at h
    rw [List.drop_succ_cons]; exact fines_drop h.2
theorem storeAr_ok {P : Program} {tb : Tb} [TbOk P tb] {N : Nat} {w0 : World} {C : List Con} {Φ : List DV → SV × St → Prop} {n : Env} {s : St} {a : Act} {w : World} {t : TypeId} {k z : Nat} {i : E} {j : Nat} {v : PV}
    (h : Rep N w0 n s a w) (hd : (storeAr tb s t k z i j v).den C Φ n.r) :
    ∃ m s' w', (Instr.storeAt t ((K.ptr (.ar k) z i j).den n) (v.den n)).run P w = .ok () w' ∧ Ext n m ∧ Rep N w0 m s' a w' ∧ Φ m.r (undefS, s') := by
  unfold storeAr at hd
  split at hd
  case h_2 => exact hd.elim
  rename_i m row ct len ety hm hk
  split at hd
  case isFalse => exact hd.elim
  rename_i hc
  simp only [Bool.and_eq_true] at hc
  obtain ⟨⟨hc1, hc2⟩, hc3, hc4, hc5, hc6⟩ := hc
  obtain rfl := Nat.eq_of_beq_eq_true hc2
  have hvm := Nat.eq_of_beq_eq_true hc1
  obtain ⟨hi0, hi1⟩ := inR_ok h.bnd hc3
  have hent := h.dat.ent k _ hk
  unfold EntOk at hent
  simp only at hent
  obtain ⟨e1, e2⟩ := hent
  have hwar := List.all_eq_true.1 h.dat.wf _ (List.mem_of_getElem? hk)
  simp only [wfAr, Bool.and_eq_true] at hwar
  split at hd
  case h_2 => exact hd.elim
  rename_i es ss hes
  obtain ⟨d1, d2, d3, d4⟩ := esOf_ok h.bnd h.perm hes (fines_drop e1.fine)
  split at hd
  case h_2 => exact hd.elim
  rename_i row' hj
  split at hd
  case isFalse => exact hd.elim
  rename_i hwes
  have hwes' : ∀ e ∈ es, wfE n.r.length e = true := fun e he => by rw [h.lens.1]; exact List.all_eq_true.1 hwes e he
  split at hd
  · rename_i l q hrl
    unfold rowsLit at hrl
    split at hrl
    case h_2 => cases hrl
    rename_i l' q'
    cases hrl
    split at hd
    case h_2 => exact hd.elim
    rename_i e he
    have hwl := hwar.1
    simp only [wfCt] at hwl
    obtain ⟨w', hr, hrep⟩ := turnStore (P := P) (t := t) (i := .lit q') (ct' := .rows (l.set q'.toNat (layG e j es))) h hk hm hvm hi0 hi1 hj d1 d2 d3 d4 (by
      simp only [wfCt]
      refine List.all_eq_true.2 fun x hx => ?_
      rcases List.mem_or_eq_of_mem_set hx with hx | rfl
      · exact List.all_eq_true.1 hwl x hx
      · refine List.all_eq_true.2 fun y hy => ?_
        have : ∀ (a b : List E) (j : Nat), y ∈ layG a j b → y ∈ a ∨ y ∈ b := by
          intro a
          induction a with
          | nil => intro b j hy; cases j <;> cases b <;> simp [layG] at hy
          | cons x a ih =>
            intro b j hy
            cases j with
            | zero =>
              cases b with
              | nil => rw [layG_nil] at hy; exact .inl hy
              | cons z b =>
                simp only [layG, List.mem_cons] at hy
                rcases hy with rfl | hy
                · exact .inr (List.mem_cons_self ..)
                · rcases ih b 0 hy with k | k
                  · exact .inl (List.mem_cons_of_mem _ k)
                  · exact .inr (List.mem_cons_of_mem _ k)
            | succ j =>
              simp only [layG, List.mem_cons] at hy
              rcases hy with rfl | hy
              · exact .inl (List.mem_cons_self ..)
              · rcases ih b j hy with k | k
                · exact .inl (List.mem_cons_of_mem _ k)
                · exact .inr k
        rcases this e es j hy with k | k
        · exact List.all_eq_true.1 (List.all_eq_true.1 hwl e (List.mem_of_getElem? he)) y k
        · exact hwes' y k) (by
      have hlt : q'.toNat < l.length := (List.getElem?_eq_some_iff.1 he).1
      simp only [Ct.els, E.den]
      apply List.ext_getElem?
      intro p
      rw [List.getElem?_map, List.getElem?_set, List.getElem?_modify, List.getElem?_map]
      by_cases hp : q'.toNat = p
      · subst hp
        simp only [hlt, if_true, he, Option.map_some, layG_map]
        rfl
      · simp only [hp, if_false]
        cases l[p]? <;> rfl)
    exact ⟨n, _, w', hr, Ext.refl n, hrep, hd⟩
  · rename_i hrl
    obtain ⟨m1, x, mx, s1, x1, x2, x3, x4, x5, x6, x7, x8, x9, x10, x11, x12, x13, x14, x15⟩ := toVar_ok h hc4 hd (by simpa using hwar.1) e1.fine e1.shp e1.nest
    have hk1 : s1.ar[k]? = some ⟨row, ct, len, .own, ety⟩ := by rw [x6]; exact hk
    have hval : ∀ e ∈ es, E.val m1.r e = E.val n.r e := fun e he => wfE_val x1.r e (hwes' e he)
    have hes1 : es.map (E.val m1.r) = es.map (E.val n.r) := List.map_congr_left hval
    have hib : i.den m1.r = i.den n.r := wfE_den x1.r i (by rw [h.lens.1]; exact hc6)
    have hlb : len.den m1.r = len.den n.r := wfE_den x1.r len (by simpa using hwar.2)
    have hct : ct.els m1.r = ct.els n.r := wfCt_den x1.r ct (by simpa using hwar.1)
    have hOw : ∀ g, Owned m1 s1.ar g ↔ Owned n s.ar g := fun g => by
      unfold Owned Env.sv
      rw [x6, x2, x3, x1.f]
    have hfx : (DOp.set j).fn ((x :: .num i :: es).map (E.val m1.r)) = .sl none 0 ((ct.els n.r).modify (i.den n.r).toNat fun e => layG e j (es.map (E.val n.r))) := by
      have e3 : E.val m1.r x = x.dat m1.r := by simp only [E.val, x14]
      have e4 : E.val m1.r (.num i) = .n (i.den m1.r) := by simp only [E.val, E.isD, E.den]
      simp only [List.map_cons, DOp.fn, e3, e4, hes1, x11, DV.int, hib]
    have hrow' : row' ≠ [] := by
      intro hn
      have := joinAt_len hj
      rw [hn] at this
      exact e1.shp.1 (List.eq_nil_of_length_eq_zero (by simpa using this.symm))
    have hn1 : Nest w (fun g => ¬ Owned m1 s1.ar g) row' ((ct.els n.r).modify (i.den n.r).toNat fun e => layG e j (es.map (E.val n.r))) := by
      simp only [hOw]
      exact set_nest hj d1 d4 e1.shp.2 e1.nest
    obtain ⟨m2, y1, y2, y3, y4, y5, y6⟩ := letD_ok x4 x5 x9 hfx (by rw [List.length_modify]; exact x12) x13 hrow' ((joinAt_ok hj).2.2.1 e1.fine d3) (set_rows hj d1 e1.shp.2) hn1
    have hval2 : ∀ e ∈ es, E.val m2.r e = E.val n.r e := fun e he => wfE_val (x1.trans y1).r e (hwes' e he)
    have hes2 : es.map (E.val m2.r) = es.map (E.val n.r) := List.map_congr_left hval2
    have hib2 : i.den m2.r = i.den n.r := wfE_den (x1.trans y1).r i (by rw [h.lens.1]; exact hc6)
    have hlb2 : len.den m2.r = len.den n.r := wfE_den (x1.trans y1).r len (by simpa using hwar.2)
    have hct2 : ct.els m2.r = ct.els n.r := wfCt_den (x1.trans y1).r ct (by simpa using hwar.1)
    have hvd : v.cells.map (CV.den m2) = v.cells.map (CV.den n) := wfCs_den (x1.trans y1) v.cells (by rw [h.nz]; exact hc5)
    have hOw2 : ∀ g, Owned m2 s1.ar g ↔ Owned n s.ar g := fun g => by
      unfold Owned Env.sv
      rw [x6, y2, y3, x2, x3, y1.f, x1.f]
    obtain ⟨w', hr, hrep⟩ := turnStore (P := P) (t := t) (i := i) (j := j) (v := v) (ct' := .e (.var s1.bnd.v.length)) (ds := es.map (E.val n.r)) y4 hk1 hm hvm (by rw [hib2]; exact hi0) (by rw [hib2, hlb2]; exact hi1) hj d1 (by rw [d2, hvd]) d3 (by simp only [hOw2]; exact d4) (by
      rw [y4.lens.1]; simp only [wfCt, wfE, cat]; simp [Nat.blt]) (by
      show ((E.var s1.bnd.v.length).dat m2.r).els = _
      rw [y6, hct2, hib2]
      rfl)
    refine ⟨m2, _, w', ?_, x1.trans y1, hrep, y5⟩
    have ep : (K.ptr (.ar k) row.length i j).den m2 = (K.ptr (.ar k) row.length i j).den n := wfK_den (x1.trans y1) _ (by
      rw [h.nz]; simp only [wfK, wfSrc, hc6, sz, Bool.and_true]
      exact Nat.ble_eq_true_of_le (List.getElem?_eq_some_iff.1 hk).1)
    have ev : v.den m2 = v.den n := by
      cases v with
      | c x => simpa [PV.cells, PV.den] using hvd
      | agg l => simp only [PV.cells] at hvd; simp only [PV.den, hvd]
    rw [ep, ev] at hr
    exact hr
end Go.Dx

/- A symbolic executor: slices that are made, grown, cut. -/
namespace Go.Dx
open Go.RowKit
set_option linter.unusedVariables false
set_option linter.unusedSimpArgs false
def alive (a : Ar) : Option Ar := match a.st with
  | .dead => none
  | _ => some a
def lenA (a : Ar) : Option (Nat × E) := match a.st with
  | .dead => none
  | _ => some (a.row.length, a.len)
def cellsB (b : Blk) : List CV := match b.kd with
  | none => b.cells
  | some _ => []
def memOf (s : St) : Mm := ⟨s.bs.map fun b => (cellsB b).map some, s.ar.map alive, s.bnd, s.ar.map lenA⟩
theorem Rep.entR {N : Nat} {w0 : World} {n : Env} {s : St} {act : Act} {w : World} (h : Rep N w0 n s act w) {k : Nat} {a : Ar} (hk : s.ar[k]? = some a) (ha : a.st ≠ .dead) : EntR n w k a ∧ Ent n s.ar w a := by
  have he := h.dat.ent k a hk
  unfold EntOk at he
  cases hst : a.st with
  | dead => exact absurd hst ha
  | frz => rw [hst] at he; exact ⟨⟨he.1.shp, he.1.len, he.2.mono fun _ _ => trivial, fun e h => by rw [hst] at h; cases h⟩, he.1⟩
  | full => rw [hst] at he; exact ⟨⟨he.1.shp, he.1.len, he.2.1.mono fun _ _ => trivial, fun e h => by rw [hst] at h; cases h⟩, he.1⟩
  | told e => rw [hst] at he; exact ⟨⟨he.1.shp, he.1.len, he.2.1.mono fun _ _ => trivial, fun f h => by rw [hst] at h; cases h; exact he.2.2.2⟩, he.1⟩
  | own => rw [hst] at he; exact ⟨⟨he.1.shp, he.1.len, (own_laid he.2).mono fun _ _ => trivial, fun e h => by rw [hst] at h; cases h⟩, he.1⟩
  | view p pre => rw [hst] at he; exact ⟨⟨he.1.shp, he.1.len, he.2.1.mono fun _ _ => trivial, fun e h => by rw [hst] at h; cases h⟩, he.1⟩
theorem Mem.cellB {N : Nat} {n : Env} {bs : List Blk} {w : World} (h : Mem N n bs w) {i j : Nat} {b : Blk} {c : CV} (hb : bs[i]? = some b) (hj : (cellsB b)[j]? = some c) : w.cell? ⟨n.b.getD i 0, j, none⟩ = some (c.den n) := by
  have h1 := (h.2.2 i b hb).2
  obtain ⟨cells, ty, kd⟩ := b
  cases kd with
  | some q => simp [cellsB] at hj
  | none =>
    simp only [cellsB] at hj
    have h2 : w.heap[n.b.getD i 0]? = some (Blk.obj n ⟨cells, ty, none⟩) := h1
    rw [cell_at h2]
    simp only [hj, Option.map_some]
theorem cellM_map {bs : List Blk} {i j : Nat} {c : CV} (h : cellM (bs.map fun b => (cellsB b).map some) i j = some c) : ∃ b, bs[i]? = some b ∧ (cellsB b)[j]? = some c := by
  unfold cellM at h
  rw [List.getElem?_map] at h
  cases hb : bs[i]? with
  | none => rw [hb] at h; cases h
  | some b =>
    rw [hb] at h
    simp only [Option.map_some, List.getElem?_map] at h
    cases hc : (cellsB b)[j]? with
    | none => rw [hc] at h; cases h
    | some x => rw [hc] at h; cases h; exact ⟨b, rfl, hc⟩
theorem Mem.blkR {N : Nat} {n : Env} {bs : List Blk} {w : World} (h : Mem N n bs w) (i j : Nat) (c : CV) (hi : cellM (bs.map fun b => (cellsB b).map some) i j = some c) : w.cell? ⟨n.b.getD i 0, j, none⟩ = some (c.den n) := by
  obtain ⟨b, hb, hc⟩ := cellM_map hi
  exact h.cellB hb hc
mutual
theorem Laid.true {w : World} {Q : Nat → Prop} : ∀ {s : Sh} {d : DV}, Laid w Q s d → Laid w (fun _ => True) s d
  | .int _ _ _, d, _ => by simp only [Laid]
  | .bool, d, _ => by simp only [Laid]
  | .str _, d, _ => by simp only [Laid]
  | .sl mx row, d, h => by simp only [Laid] at h ⊢; exact ⟨h.1.mono fun _ _ => trivial, fun e he => LaidL.true (h.2 e he)⟩
theorem LaidL.true {w : World} {Q : Nat → Prop} : ∀ {l : List Sh} {r : List DV}, LaidL w Q l r → LaidL w (fun _ => True) l r
  | [], r, _ => by simp only [LaidL]
  | s :: l, [], h => by simp only [LaidL]
  | s :: l, x :: r, h => by simp only [LaidL] at h ⊢; exact ⟨h.1.true, h.2.true⟩
end
theorem NestD.true {w : World} {Q : Nat → Prop} {S : Sh} {d : DV} (h : NestD w Q S d) : NestD w (fun _ => True) S d := by
  cases S <;> simp only [NestD] at h ⊢
  exact fun e he => (h e he).true
theorem Rep.permR {N : Nat} {w0 : World} {n : Env} {s : St} {a : Act} {w : World} (h : Rep N w0 n s a w) : PermR n s.bnd w := ⟨h.bnd, fun i S hS => ⟨(h.dat.perm i S hS).1, (h.dat.perm i S hS).2.true⟩⟩
theorem Rep.reads {tb : Tb} {N : Nat} {w0 : World} [GlbOk tb N w0] {n : Env} {s : St} {a : Act} {w : World} (h : Rep N w0 n s a w) : Reads tb n (memOf s) w := by
  refine ⟨h.mem.blkR, fun i a hi => ?_, ⟨n, List.prefix_refl _, h.permR⟩, fun i z e hi => ?_, Glb.below h.below⟩
  · simp only [memOf, List.getElem?_map] at hi
    cases hc : s.ar[i]? with
    | none => rw [hc] at hi; cases hi
    | some c =>
      rw [hc] at hi
      simp only [Option.map_some, Option.some.injEq] at hi
      unfold alive at hi
      split at hi
      · cases hi
      · rename_i hne
        cases hi
        exact (h.entR hc hne).1
  · simp only [memOf, List.getElem?_map] at hi
    cases hc : s.ar[i]? with
    | none => rw [hc] at hi; cases hi
    | some c =>
      rw [hc] at hi
      simp only [Option.map_some, Option.some.injEq] at hi
      unfold lenA at hi
      split at hi
      · cases hi
      · rename_i hne
        cases hi
        exact (h.entR hc hne).1.lenR
/-- What a slice that is read holds: its row, what it holds, its length, is it nobody's. -/
structure Rd where
  row : List Sh
  ct : Ct
  len : E
/-- Cells that are numbers of one kind, as rows. -/
def numCells (s : Bnd) (k : IntKind) : List CV → Option (List (List E))
  | [] => some []
  | .k (.int l e) :: r => let x := e.rng s
    if (Nat.beq (kq k) (kq l) && (decide (kmin k ≤ x.1) && decide (x.2 ≤ kmax k))) && wfE s.v.length e then
      match numCells s k r with
      | some es => some ([.num e] :: es)
      | none => none
    else none
  | _ => none
theorem numCells_ok {n : Env} {s : Bnd} (hs : BndOk n.r s) {k : IntKind} : ∀ {cs : List CV} {es : List (List E)}, numCells s k cs = some es →
    es.length = cs.length ∧ (es.all fun e => e.all (wfE n.r.length)) = true ∧ (∀ e ∈ es.map (·.map (E.val n.r)), HasShs [.int k (kmin k) (kmax k)] e) ∧ flatV [.int k (kmin k) (kmax k)] (es.map (·.map (E.val n.r))) = cs.map (CV.den n)
  | [], es, h => by
    simp only [numCells, Option.some.injEq] at h
    subst h
    exact ⟨rfl, rfl, fun e he => by simp at he, rfl⟩
  | .k x :: r, es, h => by
    cases x with
    | int l e =>
      simp only [numCells] at h
      split at h
      · rename_i hc
        simp only [Bool.and_eq_true, decide_eq_true_eq] at hc
        obtain ⟨⟨c1, c2, c3⟩, c4⟩ := hc
        obtain rfl := kq_ok c1
        split at h
        · rename_i es' hr
          cases h
          obtain ⟨i1, i2, i3, i4⟩ := numCells_ok hs hr
          have hrg := E.rng_ok hs e
          refine ⟨by simp [i1], ?_, ?_, ?_⟩
          · simp only [List.all_cons, List.all_nil, Bool.and_true, i2, wfE]
            rw [hs.len]; exact c4
          · intro x hx
            rcases List.mem_cons.1 hx with hx | hx
            · rw [hx]
              simp only [List.map_cons, List.map_nil, HasShs, and_true, HasSh]
              exact ⟨e.den n.r, by simp only [E.val, E.isD, E.den], ⟨by omega, by omega⟩, by omega, by omega⟩
            · exact i3 x hx
          · simp only [List.map_cons, List.map_nil, flatV, List.flatMap_cons] at i4 ⊢
            rw [i4]
            simp only [rowV, cellV, E.val, E.isD, E.den, DV.int, CV.den, K.den, List.cons_append, List.nil_append]
        · cases h
      · cases h
    | _ => simp only [numCells] at h; cases h
  | .clo _ _ _ :: r, es, h => by simp only [numCells] at h; cases h
def rdOf (s : St) (row : List Sh) : K → Option Rd
  | .sl b o l c => match s.bs[b]? with
    | some blk => match ((cellsB blk).drop o).take l with
      | .k (.int k e) :: r => match numCells s.bnd k (.k (.int k e) :: r) with
        | some es => if Nat.beq es.length l && Nat.ble l c then some ⟨[.int k (kmin k) (kmax k)], .rows es, .lit l⟩ else none
        | none => none
      | _ => none
    | none => none
  | .nils => some ⟨row, .rows [], .lit 0⟩
  | .ar k => match s.ar[k]? with
    | some ⟨r, ct, len, st, _⟩ => match st with
      | .dead => none
      | _ => some ⟨r, ct, len⟩
    | none => none
  | .nest e => match e.shp s.bnd with
    | some (.sl mx r) => if isEl e && wfE s.bnd.v.length e then some ⟨r, .e e, .len e⟩ else none
    | _ => none
  | _ => none
structure RdOk (n : Env) (ar : List Ar) (w : World) (v : Value) (r : Rd) : Prop where
  wf : wfCt n.r.length r.ct = true ∧ wfE n.r.length r.len = true
  fine : Sh.fines r.row = true
  shp : Shaped r.row (r.ct.els n.r)
  len : r.len.den n.r = (r.ct.els n.r).length
  nest : Nest w (fun g => ¬ Owned n ar g) r.row (r.ct.els n.r)
  laid : LaidAt w (fun _ => True) v r.row (r.ct.els n.r)
theorem rdOf_ok {N : Nat} {w0 : World} {n : Env} {s : St} {a : Act} {w : World} (h : Rep N w0 n s a w) {row : List Sh} (hr : row ≠ []) (hf : Sh.fines row = true) {x : K} {r : Rd} (hx : rdOf s row x = some r) : RdOk n s.ar w (x.den n) r := by
  unfold rdOf at hx
  split at hx
  · rename_i b o l c
    split at hx
    · rename_i blk hb
      split at hx
      · rename_i k e r' hcs
        split at hx
        · rename_i es hes
          split at hx
          · rename_i hc
            cases hx
            simp only [Bool.and_eq_true] at hc
            have c1 := Nat.eq_of_beq_eq_true hc.1
            have c2 := Nat.le_of_ble_eq_true hc.2
            rw [← hcs] at hes
            obtain ⟨i1, i2, i3, i4⟩ := numCells_ok h.bnd hes
            refine ⟨⟨i2, rfl⟩, rfl, ⟨by simp, i3⟩, ?_, fun e he => ?_, ?_⟩
            · simp only [E.den, Ct.els, List.length_map, c1]
            · simp only [LaidL, Laid, and_true]
              have := i3 e he
              match e, this with
              | [x], _ => simp only [LaidL, Laid, and_true]
              | [], _ => simp only [LaidL]
              | _ :: _ :: _, q => simp [HasShs] at q
            · refine ⟨some ⟨n.b.getD b 0, o, none⟩, c, by simp only [K.den, Ct.els, List.length_map, c1], by simp only [Ct.els, List.length_map, c1]; exact c2, fun _ => ⟨_, _, rfl, trivial, fun j x hj => ?_⟩⟩
              simp only [Ct.els] at hj
              rw [i4, List.getElem?_map, List.getElem?_take] at hj
              split at hj
              · rw [List.getElem?_drop] at hj
                cases hq : (cellsB blk)[o + j]? with
                | none => rw [hq] at hj; cases hj
                | some q =>
                  rw [hq] at hj
                  cases hj
                  exact h.mem.cellB hb hq
              · cases hj
          · cases hx
        · cases hx
      · cases hx
    · cases hx
  · cases hx
    exact ⟨⟨rfl, rfl⟩, hf, ⟨hr, fun e he => by simp [Ct.els] at he⟩, rfl, fun e he => by simp [Ct.els] at he, ⟨none, 0, rfl, Nat.le_refl _, fun hn => absurd rfl hn⟩⟩
  · rename_i k
    split at hx
    · rename_i r' ct len st ety hk
      have hw := List.all_eq_true.1 h.dat.wf _ (List.mem_of_getElem? hk)
      simp only [wfAr, Bool.and_eq_true] at hw
      split at hx
      · cases hx
      · rename_i hne
        cases hx
        obtain ⟨e1, e2⟩ := h.entR hk hne
        exact ⟨hw, e2.fine, e1.1, e1.2.1, e2.nest, e1.2.2.1⟩
    · cases hx
  · rename_i e
    split at hx
    · rename_i mx r' hsh
      split at hx
      · rename_i hc
        cases hx
        simp only [Bool.and_eq_true] at hc
        obtain ⟨f1, _, f3⟩ := path_laid h.perm e _ hsh
        have f2 := E.shp_sl h.bnd hsh
        simp only [Sh.fine, Bool.and_eq_true, Bool.not_eq_true', List.isEmpty_eq_false_iff] at f1
        have hwe : wfE n.r.length e = true := by rw [h.lens.1]; exact hc.2
        have f4 : Laid w (fun g => ¬ Owned n s.ar g) (.sl mx r') (e.dat n.r) := by
          rcases f3 hc.1 with f3 | f3
          · exact f3
          · rw [f3]
            simp only [Laid, DV.els]
            exact ⟨⟨none, 0, rfl, Nat.le_refl _, fun h => absurd rfl h⟩, fun e he => by cases he⟩
        simp only [Laid] at f4
        have f5 := f2
        simp only [HasSh] at f5
        refine ⟨⟨hwe, hwe⟩, f1.1.2, DV.els_shape f2 f1.1.1, ?_, f4.2, f4.1.mono fun _ _ => trivial⟩
        exact clampL_eq (Nat.le_trans f5.1 (Nat.le_of_ble_eq_true f1.2))
      · cases hx
    · cases hx
  · cases hx
/-! Rows joined. -/
theorem joinAll_ok : ∀ {row ss row' : List Sh}, joinAt row 0 ss = some row' → row.length = ss.length →
    (∀ e, HasShs ss e → HasShs row' e ∧ rowV row' e = rowV ss e) ∧ (∀ w Q e, LaidL w Q ss e → LaidL w Q row' e)
  | [], [], row', h, _ => by unfold joinAt at h; cases h; exact ⟨fun e he => ⟨he, rfl⟩, fun w Q e h => h⟩
  | t :: row, s :: ss, row', h, hl => by
    unfold joinAt at h
    split at h
    · rename_i a l h1 h2
      cases h
      obtain ⟨k1, k2, k3, k4, k5, k6, k7⟩ := joinS_ok h1
      obtain ⟨i1, i2⟩ := joinAll_ok h2 (by simpa using hl)
      refine ⟨fun e he => ?_, fun w Q e hl => ?_⟩
      · cases e with
        | nil => simp [HasShs] at he
        | cons x e =>
          simp only [HasShs] at he ⊢
          have := i1 e he.2
          exact ⟨⟨k2 x he.1, this.1⟩, by simp only [rowV, k3, k4, this.2]⟩
      · cases e with
        | nil => simp only [LaidL]
        | cons x e => simp only [LaidL] at hl ⊢; exact ⟨k7 _ _ _ hl.1, i2 _ _ _ hl.2⟩
    · cases h
  | [], _ :: _, row', h, hl => by simp at hl
  | _ :: _, [], row', h, hl => by simp at hl
theorem flatV_joinAll {row ss row' : List Sh} (hj : joinAt row 0 ss = some row') (hl : row.length = ss.length) : ∀ {els : List (List DV)}, (∀ e ∈ els, HasShs ss e) → flatV row' els = flatV ss els
  | [], _ => rfl
  | e :: l, h => by
    have ih := flatV_joinAll hj hl (els := l) fun e he => h e (List.mem_cons_of_mem _ he)
    unfold flatV at *
    rw [List.flatMap_cons, List.flatMap_cons, ih, ((joinAll_ok hj hl).1 e (h e (List.mem_cons_self ..))).2]
theorem flatV_take {row : List Sh} : ∀ {els : List (List DV)} {k : Nat}, (∀ e ∈ els, HasShs row e) → flatV row (els.take k) = (flatV row els).take (k * row.length)
  | [], k, _ => by simp [flatV]
  | e :: l, 0, _ => by simp [flatV]
  | e :: l, k + 1, h => by
    have ih := flatV_take (els := l) (k := k) fun e he => h e (List.mem_cons_of_mem _ he)
    have hlen := rowV_len (h e (List.mem_cons_self ..))
    unfold flatV at *
    rw [List.take_succ_cons, List.flatMap_cons, List.flatMap_cons, ih, Nat.succ_mul, List.take_append]
    have h1 : (rowV row e).take (k * row.length + row.length) = rowV row e := List.take_of_length_le (by omega)
    rw [h1, hlen, show k * row.length + row.length - row.length = k * row.length by omega]
theorem flat_of (row : List Sh) (els : List (List DV)) : ∀ u ∈ flatV row els, isFlat u := by
  intro u hu
  unfold flatV at hu
  obtain ⟨e, _, h⟩ := List.mem_flatMap.1 hu
  have : ∀ (row : List Sh) (e : List DV), u ∈ rowV row e → isFlat u := by
    intro row
    induction row with
    | nil => intro e h; simp [rowV] at h
    | cons s l ih =>
      intro e h
      cases e with
      | nil => simp [rowV] at h
      | cons x r =>
        simp only [rowV, List.mem_cons] at h
        rcases h with rfl | h
        · cases s with
          | sl m r => exact sv_flat x
          | _ => intro l; simp [cellV]
        · exact ih r h
  exact this row e h
theorem ownsRow_take {w : World} {N : Nat} {e : TypeId} {z : Nat} {x : Option Addr} {m k c : Nat} {xs : List Value} (h : w.ownsRow N e z (.slice x m c) m xs) (hk : k ≤ m) : w.ownsRow N e z (.slice x k c) k (xs.take (k * z)) := by
  have hz : k * z ≤ m * z := Nat.mul_le_mul_right _ hk
  refine ⟨by rw [List.length_take, h.1]; omega, ?_⟩
  rcases h.2 with ⟨hv, h2⟩ | ⟨g, cap, cur, hv, hb, hg, h3, h4, h5, h6⟩
  · simp only [Value.slice.injEq] at hv
    obtain ⟨rfl, rfl, rfl⟩ := hv
    have : k = 0 := by omega
    subst this
    exact .inl ⟨rfl, rfl⟩
  · simp only [Value.slice.injEq] at hv
    obtain ⟨rfl, -, rfl⟩ := hv
    exact .inr ⟨g, c, cur, rfl, hb, hg, by omega, h4, h5, by rw [← h6, List.take_take, Nat.min_eq_left hz]⟩
theorem run_append_none' {P : Program} {w : World} {t ty e : TypeId} {i : TypeInfo} (base size : Nat) (ht : P.underlying t = some (.slice e)) (hi : P.info? e = some i) (v : Value) (n c : Nat) (xs : List Value) (hown : w.ownsRow base e size v n xs) :
    (Builtin.append_ #[t, t] ty #[v, .slice none 0 c]).run P w = .ok v w := by
  rcases hown.2 with ⟨rfl, rfl⟩ | ⟨g, cap, cur, rfl, _, _, hnc, _⟩
  · simp [Builtin.append_, run_underlying ht, sizeOf, typeInfo, hi, Builtin.lenOf, Builtin.firstCells]
  · simp [Builtin.append_, run_underlying ht, sizeOf, typeInfo, hi, Builtin.lenOf, Builtin.firstCells, hnc, storeCells]
/-- What is behind an append. -/
theorem run_append_any {P : Program} {tb : Tb} [TbOk P tb] {w : World} {t ty e : TypeId} {N bytes : Nat} {row row' : List Sh} {z : PV} (hu : tb.und t = some (.slice e)) (hi : tb.size e = some row.length) (hb : tb.bytes e = some bytes) (hz : tb.zero e = some z) (hzl : z.cells.length = row.length) (hr : row ≠ [])
    {v u : Value} {els els' : List (List DV)} (hown : w.ownsRow N e row.length v els.length (flatV row els)) {srow : List Sh} (hsl : srow.length = row.length) (hs : ∀ x ∈ els', HasShs srow x) (hl : LaidAt w (fun _ => True) u srow els')
    (h63 : els.length + els'.length ≤ maxLen) (hbytes : (els.length + els'.length) * bytes ≤ 140737488355328) (hN : N ≤ w.heap.size) :
    ∃ v' w', (Builtin.append_ #[t, t] ty #[v, u]).run P w = .ok v' w' ∧ w'.ownsRow N e row.length v' (els.length + els'.length) (flatV row els ++ flatV srow els') ∧ w.grownBy w' v.ownBlock ∧
      (∀ g, v'.ownBlock = some g → v.ownBlock = some g ∨ w.heap.size ≤ g) := by
  have hu' := und_slice (P := P) hu
  obtain ⟨i, hi1, hi2⟩ := size_ok (P := P) hi
  obtain ⟨ib, hb1, hb2⟩ := bytes_ok (P := P) hb
  rw [hi1] at hb1
  cases hb1
  obtain ⟨iz, zv, hz1, hz2, hz3⟩ := zero_ok (P := P) hz
  rw [hi1] at hz1
  cases hz1
  obtain ⟨a, c, rfl, hlc, hcell⟩ := hl
  have n0 : Env := ⟨[], [], [], [], fun _ => False, rfl⟩
  have hzc : zv.cells.size = row.length := by
    have := ofPV_den n0 hz3
    rw [← this, PV.cells_den]; simpa using hzl
  cases a with
  | none =>
    have he : els' = [] := Classical.byContradiction fun hne => by obtain ⟨b, o, h, _⟩ := hcell hne; cases h
    subst he
    refine ⟨v, w, run_append_none' N row.length hu' hi1 v _ c _ hown, ?_, ⟨rfl, rfl, rfl, Nat.le_refl _, fun _ _ _ => rfl⟩, fun g hg => .inl hg⟩
    simpa [flatV] using hown
  | some ad =>
    have hnews : ∀ j x, (flatV srow els')[j]? = some x → w.cell? (ad.add j) = some x := fun j x hj => by
      have hne : els' ≠ [] := by intro e; subst e; simp [flatV] at hj
      obtain ⟨b, o, h1, _, h2⟩ := hcell hne
      cases h1
      rw [addr_plus]; exact h2 j x hj
    obtain ⟨v', w', h1, h2, h3, h4⟩ := run_append_own (P := P) w N t ty e i zv row.length bytes hu' hi1 hz2 hi2 hb2 hzc (List.length_pos_iff.2 hr) v els.length _ hown ad els'.length c (flatV srow els') (by rw [flatV_len hs, hsl]) hnews (fun u hu => one_flat (flat_of _ _ u hu)) h63 hbytes hN
    refine ⟨v', w', h1, h2, h3, fun g hg => ?_⟩
    rcases Nat.lt_or_ge g w.heap.size with hlt | hge
    · left
      -- a block of its own that was there before must be the old one
      rcases hown.2 with ⟨rfl, hn0⟩ | ⟨g0, cap, cur, rfl, hbg, hg0, hnc, hcm, hcs, htake⟩
      · exfalso
        by_cases hm : els'.length = 0
        · have := h4.2 ⟨rfl, hm⟩
          rw [this] at hg; cases hg
        · have hfn : flatV row els = [] := List.eq_nil_of_length_eq_zero (by rw [hown.1, hn0]; simp)
          have hr := run_append_nil (P := P) w t ty e i zv hu' hi1 hz2 ad els'.length c (flatV srow els') (by rw [flatV_len hs, hsl, hi2]) hnews (by omega) (by simp only [maxLen] at h63; omega) (by rw [hb2]; have hb := hbytes; rw [hn0] at hb; simp only [Nat.zero_add] at hb; omega)
          rw [hr] at h1
          cases h1
          simp [Value.ownBlock] at hg
          omega
      · by_cases hroom : els.length + els'.length ≤ cap
        · have hfit : els.length * i.size + (flatV srow els').length ≤ cur.size := by rw [flatV_len hs, hcs, hsl, hi2, ← Nat.add_mul]; exact Nat.mul_le_mul_right _ hroom
          have hr := run_append_room (P := P) w t ty e i hu' hi1 g0 els.length cap cur hg0 ad els'.length c (flatV srow els') (by rw [flatV_len hs, hsl, hi2]) hnews (fun u hu => one_flat (flat_of _ _ u hu)) hroom hfit
          rw [hr] at h1
          cases h1
          exact hg
        · have holds : ∀ j u, (flatV row els)[j]? = some u → w.cell? ((⟨g0, 0, none⟩ : Addr).add j) = some u := hown.cells (g := g0) rfl
          have hr := run_append_grow (P := P) w t ty e i zv hu' hi1 hz2 ⟨g0, 0, none⟩ els.length cap (flatV row els) (by rw [hown.1, hi2]) holds ad els'.length c (flatV srow els') (by rw [flatV_len hs, hsl, hi2]) hnews (by omega) (by simp only [maxLen] at h63; omega) (growslice_fits (by omega) (by rw [hb2]; exact hbytes))
          rw [hr] at h1
          cases h1
          simp [Value.ownBlock] at hg
          omega
    · exact .inr hge
end Go.Dx

/- A symbolic executor: slices that are made, grown, cut: the operations. -/
namespace Go.Dx
open Go.RowKit
set_option linter.unusedVariables false
set_option linter.unusedSimpArgs false
def newV (n : Env) (v : Value) : Env := { n with v := n.v ++ [v] }
theorem newV_ext (n : Env) (v : Value) : Ext n (newV n v) := ⟨List.prefix_append _ _, List.prefix_refl _, List.prefix_refl _, List.prefix_refl _, rfl⟩
theorem newV_last {n : Env} {v : Value} : (newV n v).sv n.v.length = svOf v := by
  unfold Env.sv newV; simp
theorem newV_old {n : Env} {v : Value} {i : Nat} (h : i < n.v.length) : (newV n v).sv i = n.sv i := Env.sv_pre (newV_ext n v).v h
/-- A new slice; nothing that was there is turned. -/
theorem Rep.addEnt {N : Nat} {w0 : World} {n : Env} {s : St} {act : Act} {w w' : World} {a : Ar} {v : Value} (h : Rep N w0 n s act w) (hw : wfSt s = true) (hB : Below N w0 w') (hk : ∀ g, g < w.heap.size → w'.heap[g]? = w.heap[g]?) (hwa : wfAr n.r.length a = true)
    (hfr : ∀ g, a.st = .own → (svOf v).ownBlock = some g → w.heap.size ≤ g) (hent : (∀ g, Owned (newV n v) (s.ar ++ [a]) g → Owned n s.ar g ∨ w.heap.size ≤ g) → EntOk N (newV n v) (s.ar ++ [a]) w' s.ar.length a) :
    Rep N w0 (newV n v) { s with ar := s.ar ++ [a] } act w' := by
  have hx := newV_ext n v
  simp only [wfSt, Bool.and_eq_true] at hw
  have hnz := h.nz
  have hlast : (newV n v).sv s.ar.length = svOf v := by rw [← h.dat.len]; exact newV_last
  have ho : ∀ g, Owned (newV n v) (s.ar ++ [a]) g → Owned n s.ar g ∨ w.heap.size ≤ g := fun g hg => by
    rcases hg with hg | ⟨i, c, hi, hc, hg⟩
    · exact .inl (.inl hg)
    · rw [List.getElem?_append] at hi
      split at hi
      · rename_i hlt
        rw [newV_old (by rw [h.dat.len]; exact hlt)] at hg
        exact .inl (.inr ⟨i, c, hi, hc, hg⟩)
      · rename_i hge
        have h0 : i - s.ar.length = 0 := by
          cases hk : i - s.ar.length with
          | zero => rfl
          | succ k => rw [hk] at hi; simp at hi
        have hi' : i = s.ar.length := by omega
        subst hi'
        rw [h0] at hi
        simp only [List.getElem?_cons_zero, Option.some.injEq] at hi
        subst hi
        rw [hlast] at hg
        exact .inr (hfr g hc hg)
  have one : ∀ (i : Nat) (c : Ar), [a][i]? = some c → i = 0 ∧ c = a := fun i c hi => by
    cases i with
    | zero => simp only [List.getElem?_cons_zero, Option.some.injEq] at hi; exact ⟨rfl, hi.symm⟩
    | succ i => simp at hi
  refine ⟨h.bnd, ⟨h.mem.1, h.mem.2.1, fun i b hi => ?_⟩, ?_, hB, ?_⟩
  · have h1 := h.mem.2.2 i b hi
    refine ⟨h1.1, ?_⟩
    rw [show (newV n v).b = n.b from rfl]
    have hlt : n.b.getD i 0 < w.heap.size := by
      refine h.mem.lt (i := i) ?_
      have hl : i < n.b.length := by rw [h.lens.2]; exact (List.getElem?_eq_some_iff.1 hi).1
      simp [List.getD_eq_getElem?_getD, List.getElem?_eq_getElem hl]
    rw [hk _ hlt, wfBlk_at hx b _ (by rw [hnz]; exact List.all_eq_true.1 hw.1.2 b (List.mem_of_getElem? hi))]
    exact h1.2
  · refine h.dat.grow h.bnd hx.v hx.r (by simp only [List.all_cons, List.all_nil, Bool.and_true]; exact hwa) (by simp [newV, h.dat.len]) ho (fun g hg => .inl hg) (fun g hg _ => hk g hg) (fun i c hi => ?_) (fun i c g hi hc hg => ?_) (fun i j c d g hi hj _ _ _ _ => ?_) (fun i S hS => .inl ⟨by rw [h.lens.1]; exact (List.getElem?_eq_some_iff.1 hS).1, hS⟩)
    · obtain ⟨rfl, rfl⟩ := one i c hi
      exact hent ho
    · obtain ⟨rfl, rfl⟩ := one i c hi
      rw [Nat.add_zero, hlast] at hg
      have hge := hfr g hc hg
      refine ⟨hge, fun hm => ?_⟩
      obtain ⟨q, hq⟩ := List.mem_iff_getElem?.1 hm
      have := h.mem.lt hq
      omega
    · rw [(one i c hi).1, (one j d hj).1]
  · rw [h.act]
    have h1 := wfSs_den hx s.tmps (by rw [hnz]; exact hw.1.1)
    simp only [h1]
    rfl
/-- A new slice that is owned; a slice that was owned dies. -/
theorem Rep.turnEnt {N : Nat} {w0 : World} {n : Env} {s : St} {act : Act} {w w' : World} {a a0 : Ar} {p : Nat} {v : Value} {els : List (List DV)} (h : Rep N w0 n s act w) (hw : wfSt s = true) (hpa : s.ar[p]? = some a0) (hst : a0.st = .own) (hg : w.grownBy w' (n.sv p).ownBlock) (hB : Below N w0 w')
    (hwa : wfAr n.r.length a = true) (hast : a.st = .own) (hfr : ∀ g, (svOf v).ownBlock = some g → (n.sv p).ownBlock = some g ∨ w.heap.size ≤ g)
    (hfi : Sh.fines a.row = true) (hsh : Shaped a.row (a.ct.els n.r)) (hlen : a.len.den n.r = (a.ct.els n.r).length) (hn : Nest w (fun g => ¬ Owned n s.ar g) a.row (a.ct.els n.r))
    (hown : w'.ownsRow N a.ety a.row.length (svOf v) (a.ct.els n.r).length (flatV a.row (a.ct.els n.r))) :
    Rep N w0 (newV n v) { s with ar := turnAr p { a0 with st := .dead } s.ar ++ [a] } act w' := by
  have hx := newV_ext n v
  simp only [wfSt, Bool.and_eq_true] at hw
  have hnz := h.nz
  have hplt : p < s.ar.length := (List.getElem?_eq_some_iff.1 hpa).1
  have hlast : (newV n v).sv s.ar.length = svOf v := by rw [← h.dat.len]; exact newV_last
  have one : ∀ (i : Nat) (c : Ar), [a][i]? = some c → i = 0 ∧ c = a := fun i c hi => by
    cases i with
    | zero => simp only [List.getElem?_cons_zero, Option.some.injEq] at hi; exact ⟨rfl, hi.symm⟩
    | succ i => simp at hi
  have ho : ∀ g, Owned (newV n v) (turnAr p { a0 with st := .dead } s.ar ++ [a]) g → Owned n s.ar g ∨ w.heap.size ≤ g := fun g hg' => by
    rcases hg' with hg' | ⟨i, c, hi, hc, hg'⟩
    · exact .inl (.inl hg')
    · rw [List.getElem?_append, turn_len] at hi
      split at hi
      · rename_i hlt
        rw [newV_old (by rw [h.dat.len]; exact hlt)] at hg'
        by_cases e : i = p
        · subst e; rw [turn_same hlt] at hi; cases hi; cases hc
        · rw [turn_other e] at hi
          cases hcc : s.ar[i]? with
          | none => rw [hcc] at hi; cases hi
          | some b => rw [hcc] at hi; cases hi; exact .inl (.inr ⟨i, b, hcc, (killV_st hc).1, hg'⟩)
      · rename_i hge
        obtain ⟨h0, rfl⟩ := one _ _ hi
        have hi' : i = s.ar.length := by omega
        subst hi'
        rw [hlast] at hg'
        rcases hfr g hg' with k | k
        · exact .inl (.inr ⟨p, a0, hpa, hst, k⟩)
        · exact .inr k
  have hkS : ∀ b, ¬ Owned n s.ar b → b < w.heap.size → w'.heap[b]? = w.heap[b]? ∧ ¬ Owned (newV n v) (turnAr p { a0 with st := .dead } s.ar ++ [a]) b := fun b hb hlt => ⟨hg.block b hlt fun e => hb (.inr ⟨p, a0, hpa, hst, e.symm⟩), fun hb' => by
    rcases ho b hb' with k | k
    · exact hb k
    · omega⟩
  refine ⟨h.bnd, ⟨h.mem.1, h.mem.2.1, fun i b hi => ?_⟩, ?_, hB, ?_⟩
  · have h1 := h.mem.2.2 i b hi
    refine ⟨h1.1, ?_⟩
    rw [show (newV n v).b = n.b from rfl]
    have hl : i < n.b.length := by rw [h.lens.2]; exact (List.getElem?_eq_some_iff.1 hi).1
    have hgi : n.b[i]? = some (n.b.getD i 0) := by simp [List.getD_eq_getElem?_getD, List.getElem?_eq_getElem hl]
    have hlt : n.b.getD i 0 < w.heap.size := h.mem.lt hgi
    rw [hg.block _ hlt fun e => h.dat.disb p a0 _ hpa hst e.symm (List.mem_of_getElem? hgi), wfBlk_at hx b _ (by rw [hnz]; exact List.all_eq_true.1 hw.1.2 b (List.mem_of_getElem? hi))]
    exact h1.2
  · refine h.dat.turn h.bnd hpa hst hx.v hx.r rfl (by simp [newV, h.dat.len, turn_len]) ?_ (by simp only [List.all_cons, List.all_nil, Bool.and_true]; exact hwa) (fun g hlt hne => hg.block g hlt fun e => hne e.symm) ho (by unfold EntOk; trivial) (fun i c hi => ?_) (fun i c g hi hc hg' => ?_) (fun i j c d g hi hj _ _ _ _ => ?_) (fun i S hS => .inl ⟨by rw [h.lens.1]; exact (List.getElem?_eq_some_iff.1 hS).1, hS⟩)
    · exact List.all_eq_true.1 h.dat.wf a0 (List.mem_of_getElem? hpa)
    · obtain ⟨rfl, rfl⟩ := one i c hi
      unfold EntOk
      rw [hast, Nat.add_zero, hlast]
      exact ⟨⟨hfi, hsh, hlen, hn.keep hfi hsh.2 hkS⟩, hown⟩
    · obtain ⟨rfl, rfl⟩ := one i c hi
      rw [Nat.add_zero, hlast] at hg'
      rcases hfr g hg' with k | k
      · exact ⟨.inr ⟨by simp, k⟩, h.dat.disb p a0 g hpa hst k⟩
      · refine ⟨.inl k, fun hm => ?_⟩
        obtain ⟨q, hq⟩ := List.mem_iff_getElem?.1 hm
        have := h.mem.lt hq
        omega
    · rw [(one i c hi).1, (one j d hj).1]
  · rw [h.act]
    have h1 := wfSs_den hx s.tmps (by rw [hnz]; exact hw.1.1)
    simp only [h1]
    rfl
theorem svOf_own {w : World} {N : Nat} {e : TypeId} {z : Nat} {v : Value} {k : Nat} {xs : List Value} (h : w.ownsRow N e z v k xs) : svOf v = v := by
  rcases h.2 with ⟨rfl, _⟩ | ⟨g, cap, cur, rfl, _⟩ <;> rfl
/-- A slice that may be appended to: who dies, and what it holds. -/
def baseK (s : St) (e : TypeId) (row : List Sh) : K → Option (Option Nat × Rd)
  | .nils => some (none, ⟨row, .rows [], .lit 0⟩)
  | .ar k => match s.ar[k]? with
    | some ⟨r, ct, len, st, t⟩ => match st with
      | .own => if Nat.beq t e then some (some k, ⟨r, ct, len⟩) else none
      | .view p 1 => if Nat.beq t e then some (some p, ⟨r, ct, len⟩) else none
      | _ => none
    | none => none
  | _ => none
def baseP (n : Env) (s : St) (v : Value) : Option Nat → Prop
  | none => v = .slice none 0 0
  | some p => ∃ a0, s.ar[p]? = some a0 ∧ a0.st = .own ∧ v.ownBlock = (n.sv p).ownBlock
theorem baseK_ok {N : Nat} {w0 : World} {n : Env} {s : St} {a : Act} {w : World} (h : Rep N w0 n s a w) {e : TypeId} {row : List Sh} (hr : row ≠ []) (hf : Sh.fines row = true) {x : K} {po : Option Nat} {r : Rd} (hx : baseK s e row x = some (po, r)) :
    RdOk n s.ar w (x.den n) r ∧ w.ownsRow N e r.row.length (x.den n) (r.ct.els n.r).length (flatV r.row (r.ct.els n.r)) ∧
    baseP n s (x.den n) po := by
  unfold baseK at hx
  split at hx
  · cases hx
    refine ⟨rdOf_ok h hr hf (x := .nils) rfl, ?_, rfl⟩
    exact World.ownsRow_nil w N e row.length
  · rename_i k
    split at hx
    · rename_i r' ct len st t hk
      split at hx
      · split at hx
        · rename_i ht
          obtain rfl := Nat.eq_of_beq_eq_true ht
          cases hx
          have he := h.dat.ent k _ hk
          unfold EntOk at he
          exact ⟨rdOf_ok h hr hf (x := .ar k) (by simp only [rdOf, hk]), he.2, _, hk, rfl, rfl⟩
        · cases hx
      · rename_i p
        split at hx
        · rename_i ht
          obtain rfl := Nat.eq_of_beq_eq_true ht
          cases hx
          have he := h.dat.ent k _ hk
          unfold EntOk at he
          obtain ⟨e1, e2, q, e3, e4, e5⟩ := he
          obtain ⟨e6, e7, y, m, kk, c, e8, e9, e10, e11⟩ := e5.1 rfl
          have hq := h.dat.ent p q e3
          unfold EntOk at hq
          rw [e4] at hq
          obtain ⟨q1, q2⟩ := hq
          simp only at e6 e7 e11
          rw [e6, e7, e8] at q2
          have hm : (q.ct.els n.r).length = m := by
            have := q1.shp
            rcases q2.2 with ⟨hv, h0⟩ | ⟨g, cap, cur, hv, _⟩
            · simp only [Value.slice.injEq] at hv; omega
            · simp only [Value.slice.injEq] at hv; exact hv.2.1.symm
          rw [hm] at q2
          have := ownsRow_take q2 e10
          have hkk : (ct.els n.r).length = kk := by rw [e11, List.length_take]; omega
          refine ⟨rdOf_ok h hr hf (x := .ar k) (by simp only [rdOf, hk]), ?_, q, e3, e4, ?_⟩
          · show w.ownsRow N t r'.length (n.sv k) (ct.els n.r).length (flatV r' (ct.els n.r))
            rw [e9, hkk, e11, flatV_take (by rw [← e7]; exact q1.shp.2)]
            exact this
          · show (n.sv k).ownBlock = _
            rw [e8, e9]
            cases y <;> rfl
        · cases hx
      · cases hx
    · cases hx
  · cases hx
def pushAr (s : St) (po : Option Nat) (a : Ar) : St := match po with
  | none => { s with ar := s.ar ++ [a] }
  | some p => match s.ar[p]? with
    | some a0 => { s with ar := turnAr p { a0 with st := .dead } s.ar ++ [a] }
    | none => s
/-- What both hold, one behind the other. -/
def catCt {β : Type} (s : St) (R : Nat) (row' : List Sh) (x y : Rd) (k : Ct → St → T β) : T β :=
  match x.ct, y.ct with
  | .rows a, .rows b => k (.rows (a ++ b)) s
  | .rows [], b => k b s
  | a, b => toVar s x.row a fun e _ s1 => toVar s1 y.row b fun f _ s2 => letD s2 .cat [e, f] (.sl R row') fun v s3 => k (.e (.var v)) s3
def appendS (tb : Tb) (s : St) (t : TypeId) (x y : K) : T (SV × St) :=
  match tb.und t with
  | some (.slice e) => match tb.size e, tb.bytes e, tb.zero e, rdOf s [] y with
    | some z, some by', some zv, some ry => match baseK s e ry.row x with
      | some (po, rx) => match joinAt rx.row 0 ry.row with
        | some row' =>
          if (Nat.beq rx.row.length z && Nat.beq ry.row.length z) && (Nat.beq zv.cells.length z && wfSt s) && !ry.row.isEmpty then
            let tot := mkAdd rx.len ry.len
            let go (R : Nat) : T (SV × St) := catCt s R row' rx ry fun ct s1 => .ret (.p (.c (.k (.ar s1.ar.length))), pushAr s1 po ⟨row', ct, tot, .own, e⟩)
            let R := (tot.rng s.bnd).2.toNat
            if Nat.ble (R * by') 140737488355328 && Nat.ble R 9223372036854775807 then go R
            else .ite (.le tot (.lit (140737488355328 / (by' + 1) : Nat))) (go (140737488355328 / (by' + 1))) .fail
          else .fail
        | none => .fail
      | none => .fail
    | _, _, _, _ => .fail
  | _ => .fail
end Go.Dx

/- A symbolic executor: appends. -/
namespace Go.Dx
open Go.RowKit
set_option linter.unusedVariables false
set_option linter.unusedSimpArgs false
theorem RdOk.shift {n m : Env} {ar : List Ar} {w : World} {v : Value} {r : Rd} (h : RdOk n ar w v r) (hx : Ext n m) (hv : m.v = n.v) (hb : m.b = n.b) : RdOk m ar w v r ∧ r.ct.els m.r = r.ct.els n.r ∧ r.len.den m.r = r.len.den n.r := by
  have e1 := wfCt_den hx.r r.ct h.wf.1
  have e2 := wfE_den hx.r r.len h.wf.2
  have e3 : ∀ g, Owned m ar g ↔ Owned n ar g := fun g => by unfold Owned Env.sv; rw [hv, hb, hx.f]
  have hle := hx.r.length_le
  have w1 : wfCt m.r.length r.ct = true ∧ wfE m.r.length r.len = true := by
    have := wfAr_mono hle ⟨[], r.ct, r.len, .dead, 0⟩ (by simp only [wfAr, h.wf.1, h.wf.2, Bool.and_self])
    simpa only [wfAr, Bool.and_eq_true] using this
  refine ⟨⟨w1, h.fine, by rw [e1]; exact h.shp, by rw [e1, e2]; exact h.len, ?_, by rw [e1]; exact h.laid⟩, e1, e2⟩
  rw [e1]
  intro e he
  have := h.nest e he
  simp only [e3]
  exact this
theorem shaped_join {row row' srow : List Sh} {a b : List (List DV)} (hj : joinAt row 0 srow = some row') (hl : row.length = srow.length) (ha : Shaped row a) (hb : ∀ e ∈ b, HasShs srow e) : Shaped row' (a ++ b) := by
  refine ⟨fun hn => ?_, fun e he => ?_⟩
  · have := joinAt_len hj
    rw [hn] at this
    exact ha.1 (List.eq_nil_of_length_eq_zero (by simpa using this.symm))
  · rcases List.mem_append.1 he with h | h
    · exact ((joinAt_ok hj).1 e (ha.2 e h)).1
    · exact ((joinAll_ok hj hl).1 e (hb e h)).1
theorem nest_join {w : World} {Q : Nat → Prop} {row row' srow : List Sh} {a b : List (List DV)} (hj : joinAt row 0 srow = some row') (hl : row.length = srow.length) (ha : Nest w Q row a) (hb : Nest w Q srow b) : Nest w Q row' (a ++ b) := fun e he => by
  rcases List.mem_append.1 he with h | h
  · exact (joinAt_ok hj).2.2.2.1 w Q e (ha e h)
  · exact (joinAll_ok hj hl).2 w Q e (hb e h)
theorem flatV_cat {row row' srow : List Sh} {a b : List (List DV)} (hj : joinAt row 0 srow = some row') (hl : row.length = srow.length) (ha : ∀ e ∈ a, HasShs row e) (hb : ∀ e ∈ b, HasShs srow e) : flatV row' (a ++ b) = flatV row a ++ flatV srow b := by
  rw [flatV_app, flatV_join hj ha, flatV_joinAll hj hl hb]
theorem catCt_ok {β : Type} {N : Nat} {w0 : World} {C : List Con} {Φ : List DV → β → Prop} {n : Env} {s : St} {a : Act} {w : World} {R : Nat} {row' : List Sh} {x y : Rd} {vx vy : Value} {k : Ct → St → T β} (h : Rep N w0 n s a w) (hw : wfSt s = true)
    (hd : (catCt s R row' x y k).den C Φ n.r) (hx : RdOk n s.ar w vx x) (hy : RdOk n s.ar w vy y) (hj : joinAt x.row 0 y.row = some row') (hl : x.row.length = y.row.length) (hR : (x.ct.els n.r).length + (y.ct.els n.r).length ≤ R) (hR2 : R ≤ 9223372036854775807) :
    ∃ m ct s1, Ext n m ∧ m.v = n.v ∧ m.b = n.b ∧ Rep N w0 m s1 a w ∧ wfSt s1 = true ∧ s1.ar = s.ar ∧ s1.tmps = s.tmps ∧ (k ct s1).den C Φ m.r ∧ wfCt m.r.length ct = true ∧ ct.els m.r = x.ct.els n.r ++ y.ct.els n.r := by
  have hf' : Sh.fines row' = true := (joinAt_ok hj).2.2.1 hx.fine hy.fine
  have general : (toVar s x.row x.ct fun e _ s1 => toVar s1 y.row y.ct fun f _ s2 => letD s2 .cat [e, f] (.sl R row') fun v s3 => k (.e (.var v)) s3).den C Φ n.r → ∃ m ct s1, Ext n m ∧ m.v = n.v ∧ m.b = n.b ∧ Rep N w0 m s1 a w ∧ wfSt s1 = true ∧ s1.ar = s.ar ∧ s1.tmps = s.tmps ∧ (k ct s1).den C Φ m.r ∧ wfCt m.r.length ct = true ∧ ct.els m.r = x.ct.els n.r ++ y.ct.els n.r := fun hd => by
    obtain ⟨m1, e, mx1, s1, a1, a2, a3, a4, a5, a6, a7, a8, a9, a10, a11, a12, a13, a14, a15⟩ := toVar_ok h hw hd hx.wf.1 hx.fine hx.shp hx.nest
    obtain ⟨y1, y2, y3⟩ := hy.shift a1 a2 a3
    obtain ⟨m2, f, mx2, s2, b1, b2, b3, b4, b5, b6, b7, b8, b9, b10, b11, b12, b13, b14, b15⟩ := toVar_ok a4 a5 a9 y1.wf.1 y1.fine y1.shp (by rw [a6]; exact y1.nest)
    have hes : e.dat m2.r = e.dat m1.r := wfE_dat b1.r e a10
    have hcat : (DOp.cat).fn ([e, f].map (E.val m2.r)) = .sl none 0 (x.ct.els n.r ++ y.ct.els n.r) := by
      have e1 : E.val m2.r e = e.dat m2.r := by simp only [E.val, a14]
      have e2 : E.val m2.r f = f.dat m2.r := by simp only [E.val, b14]
      simp only [List.map_cons, List.map_nil, DOp.fn, e1, e2, hes, a11, b11, y2]
    have hO : ∀ g, Owned m2 s2.ar g ↔ Owned n s.ar g := fun g => by unfold Owned Env.sv; rw [b6, a6, b2, b3, a2, a3, b1.f, a1.f]
    have hsh := shaped_join hj hl hx.shp hy.shp.2
    obtain ⟨m3, c1, c2, c3, c4, c5, c6⟩ := letD_ok b4 b5 b9 hcat (by rw [List.length_append]; exact hR) hR2 hsh.1 hf' hsh.2 (by simp only [hO]; exact nest_join hj hl hx.nest hy.nest)
    refine ⟨m3, _, _, (a1.trans b1).trans c1, by rw [c2, b2, a2], by rw [c3, b3, a3], c4, wfSt_cat b5 _, by simp only [b6, a6], by simp only [b7, a7], c5, ?_, ?_⟩
    · rw [c4.lens.1]; simp only [wfCt, wfE, cat]; simp [Nat.blt]
    · show ((E.var s2.bnd.v.length).dat m3.r).els = _
      rw [c6]; rfl
  unfold catCt at hd
  split at hd
  · rename_i la lb ha hb
    refine ⟨n, _, s, Ext.refl n, rfl, rfl, h, hw, rfl, rfl, hd, ?_, ?_⟩
    · have h1 := hx.wf.1; have h2 := hy.wf.1
      rw [ha] at h1; rw [hb] at h2
      simp only [wfCt] at *
      rw [List.all_append, h1, h2]; rfl
    · simp only [Ct.els, List.map_append, ha, hb]
  · rename_i b ha hne
    refine ⟨n, y.ct, s, Ext.refl n, rfl, rfl, h, hw, rfl, rfl, hd, hy.wf.1, ?_⟩
    rw [ha]; simp [Ct.els]
  · exact general hd
theorem appendS_ok {P : Program} {tb : Tb} [TbOk P tb] {N : Nat} {w0 : World} {C : List Con} {Φ : List DV → SV × St → Prop} {n : Env} {s : St} {a : Act} {w : World} {t ty : TypeId} {x y : K} (hN : N ≤ w0.heap.size) (h : Rep N w0 n s a w) (hd : (appendS tb s t x y).den C Φ n.r) :
    ∃ m v s' w', (Builtin.append_ #[t, t] ty #[x.den n, y.den n]).run P w = .ok (SV.den m v) w' ∧ Ext n m ∧ Rep N w0 m s' a w' ∧ Φ m.r (v, s') := by
  unfold appendS at hd
  split at hd
  case h_2 => exact hd.elim
  rename_i e hu
  split at hd
  case h_2 => exact hd.elim
  rename_i z by' zv ry hz hb hzv hry
  split at hd
  case h_2 => exact hd.elim
  rename_i po rx hbase
  split at hd
  case h_2 => exact hd.elim
  rename_i row' hj
  split at hd
  case isFalse => exact hd.elim
  rename_i hc
  simp only [Bool.and_eq_true, Bool.not_eq_true', List.isEmpty_eq_false_iff] at hc
  obtain ⟨⟨⟨c1, c2⟩, c3, hw⟩, c4⟩ := hc
  have c1 := Nat.eq_of_beq_eq_true c1
  have c2 := Nat.eq_of_beq_eq_true c2
  have c3 := Nat.eq_of_beq_eq_true c3
  have hN' : N ≤ w.heap.size := Nat.le_trans hN h.below.size
  have hyne : y = .nils → ry = ⟨[], .rows [], .lit 0⟩ := fun hy => by subst hy; simp only [rdOf, Option.some.injEq] at hry; exact hry.symm
  have hry' : rdOf s ry.row y = some ry := by
    cases y <;> first | exact hry | (have := hyne rfl; subst this; exact hry)
  have hyf : Sh.fines ry.row = true := by
    by_cases hy : y = .nils
    · have := hyne hy; subst this; exact absurd rfl c4
    · have : ∀ row, rdOf s row y = some ry := fun row => by cases y <;> first | exact hry | exact absurd rfl hy
      exact (rdOf_ok h (row := [.bool]) (by simp) rfl (this _)).fine
  have hy := rdOf_ok h c4 hyf hry'
  obtain ⟨hx, hown, hp⟩ := baseK_ok h c4 hyf hbase
  have hl : rx.row.length = ry.row.length := by rw [c1, c2]
  have htot : (mkAdd rx.len ry.len).den n.r = ((rx.ct.els n.r).length + (ry.ct.els n.r).length : Nat) := by
    rw [mkAdd_den, hx.len, hy.len]; omega
  have go : ∀ R, (rx.ct.els n.r).length + (ry.ct.els n.r).length ≤ R → R * by' ≤ 140737488355328 → R ≤ 9223372036854775807 → (catCt s R row' rx ry fun ct s1 => .ret (.p (.c (.k (.ar s1.ar.length))), pushAr s1 po ⟨row', ct, mkAdd rx.len ry.len, .own, e⟩) : T (SV × St)).den C Φ n.r →
      ∃ m v s' w', (Builtin.append_ #[t, t] ty #[x.den n, y.den n]).run P w = .ok (SV.den m v) w' ∧ Ext n m ∧ Rep N w0 m s' a w' ∧ Φ m.r (v, s') := fun R hR r1 r2 hd => by
    obtain ⟨m, ct, s1, a1, a2, a3, a4, a5, a6, a7, a8, a9, a10⟩ := catCt_ok h hw hd hx hy hj hl hR r2
    have hsh := shaped_join hj hl hx.shp hy.shp.2
    have hnst := nest_join hj hl hx.nest hy.nest
    have hmul : ((rx.ct.els n.r).length + (ry.ct.els n.r).length) * by' ≤ 140737488355328 := Nat.le_trans (Nat.mul_le_mul_right _ hR) r1
    obtain ⟨v', w', h1, h2, h3, h4⟩ := run_append_any (P := P) (tb := tb) (ty := ty) (row' := row') hu (by rw [c1]; exact hz) hb hzv (by rw [c1, c3]) hx.shp.1 hown (by rw [c1, c2]) hy.shp.2 hy.laid (by simp only [maxLen]; omega) hmul hN'
    have hsv := svOf_own h2
    have hfl := flatV_cat hj hl hx.shp.2 hy.shp.2
    have hrl : row'.length = rx.row.length := joinAt_len hj
    have hO : ∀ g, Owned m s1.ar g ↔ Owned n s.ar g := fun g => by unfold Owned Env.sv; rw [a6, a2, a3, a1.f]
    have htot' : (mkAdd rx.len ry.len).den m.r = (ct.els m.r).length := by
      obtain ⟨_, _, b1⟩ := hx.shift a1 a2 a3
      obtain ⟨_, _, b2⟩ := hy.shift a1 a2 a3
      rw [a10, List.length_append, mkAdd_den, b1, b2, hx.len, hy.len]; omega
    have hwtot : wfE m.r.length (mkAdd rx.len ry.len) = true := by
      have q1 := wfE_mono a1.r.length_le _ hx.wf.2
      have q2 := wfE_mono a1.r.length_le _ hy.wf.2
      unfold mkAdd
      split <;> simp_all [wfE]
    have hwa : wfAr m.r.length ⟨row', ct, mkAdd rx.len ry.len, .own, e⟩ = true := by simp only [wfAr, a9, hwtot, Bool.and_self]
    have hown' : w'.ownsRow N e row'.length (svOf v') (ct.els m.r).length (flatV row' (ct.els m.r)) := by
      rw [hsv, a10, hfl, hrl, List.length_append]; exact h2
    have hf' : Sh.fines row' = true := (joinAt_ok hj).2.2.1 hx.fine hy.fine
    have hB : Below N w0 w' := h.below.grown h3 hN' fun k hk => (hown.lt k hk).1
    have hvd : ∀ m', m'.sv s1.ar.length = svOf v' → (SV.den m' (.p (.c (.k (.ar s1.ar.length))))) = v' := fun m' hm => by
      show m'.sv s1.ar.length = v'
      rw [hm, hsv]
    have hlen1 : m.v.length = s1.ar.length := a4.dat.len
    cases po with
    | none =>
      have hv0 : x.den n = .slice none 0 0 := hp
      rw [hv0] at h3 h4
      have hrep := a4.addEnt (a := ⟨row', ct, mkAdd rx.len ry.len, .own, e⟩) (v := v') a5 hB (fun g hg => h3.block g hg (by simp [Value.ownBlock])) hwa (fun g _ hg => by
        rw [hsv] at hg
        rcases h4 g hg with k | k
        · cases k
        · exact k) (fun ho => by
        unfold EntOk
        simp only
        refine ⟨⟨hf', by show Shaped row' (ct.els m.r); rw [a10]; exact hsh, htot', ?_⟩, ?_⟩
        · show Nest w' _ row' (ct.els m.r)
          rw [a10]
          refine hnst.keep hf' hsh.2 fun b hb hlt => ⟨h3.block b hlt (by simp [Value.ownBlock]), fun hb' => ?_⟩
          rcases ho b hb' with k | k
          · exact hb ((hO b).1 k)
          · omega
        · rw [← hlen1, newV_last]; exact hown')
      refine ⟨newV m v', _, _, w', ?_, a1.trans (newV_ext m v'), hrep, a8⟩
      rw [hvd _ (by rw [← hlen1]; exact newV_last)]
      exact h1
    | some p =>
      obtain ⟨a0, hpa, hst, hob⟩ := hp
      have hpa1 : s1.ar[p]? = some a0 := by rw [a6]; exact hpa
      have hsvp : m.sv p = n.sv p := by unfold Env.sv; rw [a2]
      rw [hob, ← hsvp] at h3
      rw [hob, ← hsvp] at h4
      have hrep := a4.turnEnt (a := ⟨row', ct, mkAdd rx.len ry.len, .own, e⟩) (v := v') (els := ct.els m.r) a5 hpa1 hst h3 hB hwa rfl (fun g hg => by rw [hsv] at hg; exact h4 g hg) hf' (by rw [a10]; exact hsh) htot' (by simp only [a10, hO]; exact hnst) hown'
      refine ⟨newV m v', _, _, w', ?_, a1.trans (newV_ext m v'), ?_, a8⟩
      · rw [hvd _ (by rw [← hlen1]; exact newV_last)]
        exact h1
      · simp only [pushAr, hpa1]
        exact hrep
  have hrng := E.rng_ok h.bnd (mkAdd rx.len ry.len)
  rw [htot] at hrng
  simp only at hd
  split at hd
  · rename_i hcc
    simp only [Bool.and_eq_true] at hcc
    exact go _ (by omega) (Nat.le_of_ble_eq_true hcc.1) (Nat.le_of_ble_eq_true hcc.2) hd
  · simp only [T.den, B.prop, E.den] at hd
    by_cases hle : (mkAdd rx.len ry.len).den n.r ≤ ((140737488355328 / (by' + 1) : Nat) : Int)
    · refine go _ ?_ ?_ ?_ (hd.1 hle)
      · rw [htot] at hle
        omega
      · have := Nat.div_mul_le_self 140737488355328 (by' + 1)
        rw [Nat.mul_succ] at this
        omega
      · have := Nat.div_le_self 140737488355328 (by' + 1)
        omega
    · exact (hd.2 hle).elim
/-! Slices without room. -/
def fullOf (s : St) : K → Option Rd
  | .ar k => match s.ar[k]? with
    | some ⟨r, ct, len, .full, _⟩ => some ⟨r, ct, len⟩
    | _ => none
  | _ => none
theorem fullOf_ok {N : Nat} {w0 : World} {n : Env} {s : St} {a : Act} {w : World} (h : Rep N w0 n s a w) {x : K} {r : Rd} (hx : fullOf s x = some r) : RdOk n s.ar w (x.den n) r ∧ ∃ y l, x.den n = .slice y l l := by
  unfold fullOf at hx
  split at hx
  case h_2 => cases hx
  rename_i k
  split at hx
  case h_2 => cases hx
  rename_i r' ct len ty hk
  cases hx
  have he := h.dat.ent k _ hk
  unfold EntOk at he
  simp only at he
  obtain ⟨e1, e2, y, l, e3⟩ := he
  refine ⟨rdOf_ok h (row := [.bool]) (by simp) rfl (x := .ar k) (by simp only [rdOf, hk]), y, l, ?_⟩
  exact e3
/-- What is behind an append to a slice without room: a new block. -/
theorem run_append_full {P : Program} {tb : Tb} [TbOk P tb] {w : World} {t ty e : TypeId} {N bytes : Nat} {row : List Sh} {z : PV} (hu : tb.und t = some (.slice e)) (hi : tb.size e = some row.length) (hb : tb.bytes e = some bytes) (hz : tb.zero e = some z) (hzl : z.cells.length = row.length)
    {v u : Value} {els els' : List (List DV)} {y : Option Addr} {l : Nat} (hv : v = .slice y l l) (hlv : LaidAt w (fun _ => True) v row els) (hrs : ∀ x ∈ els, HasShs row x) {srow : List Sh} (hsl : srow.length = row.length) (hs : ∀ x ∈ els', HasShs srow x) (hl : LaidAt w (fun _ => True) u srow els') (hne : els' ≠ [])
    (h63 : els.length + els'.length ≤ maxLen) (hbytes : (els.length + els'.length) * bytes ≤ 140737488355328) (hN : N ≤ w.heap.size) :
    ∃ v' w', (Builtin.append_ #[t, t] ty #[v, u]).run P w = .ok v' w' ∧ w'.ownsRow N e row.length v' (els.length + els'.length) (flatV row els ++ flatV srow els') ∧ w.grownBy w' none ∧
      (∀ g, v'.ownBlock = some g → w.heap.size ≤ g) := by
  have hu' := und_slice (P := P) hu
  obtain ⟨i, hi1, hi2⟩ := size_ok (P := P) hi
  obtain ⟨ib, hb1, hb2⟩ := bytes_ok (P := P) hb
  rw [hi1] at hb1
  cases hb1
  obtain ⟨iz, zv, hz1, hz2, hz3⟩ := zero_ok (P := P) hz
  rw [hi1] at hz1
  cases hz1
  have n0 : Env := ⟨[], [], [], [], fun _ => False, rfl⟩
  have hzc : zv.cells.size = row.length := by
    have := ofPV_den n0 hz3
    rw [← this, PV.cells_den]; simpa using hzl
  obtain ⟨a, c, rfl, hlc, hcell⟩ := hl
  obtain ⟨b, o, rfl, _, hcell⟩ := hcell hne
  have hnews : ∀ j x, (flatV srow els')[j]? = some x → w.cell? ((⟨b, o, none⟩ : Addr).add j) = some x := fun j x hj => by
    rw [addr_plus]; exact hcell j x hj
  have hnl : (flatV srow els').length = els'.length * i.size := by rw [flatV_len hs, hsl, hi2]
  have hpos : 0 < els'.length := List.length_pos_iff.2 hne
  obtain ⟨a2, c2, e2, hlc2, hcell2⟩ := hlv
  rw [hv] at e2
  simp only [Value.slice.injEq] at e2
  obtain ⟨rfl, rfl, rfl⟩ := e2
  have hol : (flatV row els).length = els.length * i.size := by rw [flatV_len hrs, hi2]
  have fin : ∀ (old : Nat) (v' : Value) (w' : World), old < els.length + els'.length → v' = .slice (some ⟨w.heap.size, 0, none⟩) (els.length + els'.length) (grownCap w (els.length + els'.length) old e) →
      w' = w.drew.alloc (.cells ((flatV row els).toArray ++ (flatV srow els').toArray ++ Builtin.zeroCells zv.cells (grownCap w (els.length + els'.length) old e - (els.length + els'.length))) e) →
      w'.ownsRow N e row.length v' (els.length + els'.length) (flatV row els ++ flatV srow els') ∧ w.grownBy w' none ∧ (∀ g, v'.ownBlock = some g → w.heap.size ≤ g) := fun old v' w' hlt hv' hw' => by
    subst hv'; subst hw'
    have hge := grownCap_ge w (els.length + els'.length) old e
    have hcm : grownCap w (els.length + els'.length) old e ≤ maxLen := grownCap_le_maxLen w (els.length + els'.length) old e h63
    refine ⟨⟨?_, .inr ⟨w.heap.size, _, _, rfl, hN, heap_alloc_new w.drew _, hge, hcm, ?_, ?_⟩⟩, ⟨rfl, rfl, rfl, by simp, fun k hk _ => heap_alloc_old w.drew _ hk⟩, fun g hg => ?_⟩
    · rw [List.length_append, hol, hnl, ← hi2, Nat.add_mul]
    · simp only [Array.size_append, List.size_toArray, size_zeroCells, hzc, hol, hnl, ← Nat.add_mul, hi2]
      congr 1
      omega
    · simp only [Array.toList_append, List.append_assoc]
      rw [← List.append_assoc, ← hi2, show (els.length + els'.length) * i.size = (flatV row els ++ flatV srow els').length by rw [List.length_append, hol, hnl, Nat.add_mul]]
      exact List.take_left
    · simp only [Value.ownBlock, Option.some.injEq] at hg
      omega
  subst hv
  by_cases hel : els = []
  · subst hel
    cases y with
    | none =>
      have hr := run_append_nil (P := P) w t ty e i zv hu' hi1 hz2 ⟨b, o, none⟩ els'.length c (flatV srow els') hnl hnews hpos (by simp only [maxLen, List.length_nil] at h63; omega) (by rw [hb2]; simp only [List.length_nil, Nat.zero_add] at hbytes; omega)
      refine ⟨_, _, hr, ?_⟩
      refine fin 0 _ _ (by omega) ?_ ?_
      · simp
      · simp [flatV]
    | some ad =>
      have hr := run_append_grow (P := P) w t ty e i zv hu' hi1 hz2 ad 0 0 [] (by simp) (by simp) ⟨b, o, none⟩ els'.length c (flatV srow els') hnl hnews (by omega) (by simp only [maxLen, List.length_nil] at h63; omega) (growslice_fits (by omega) (by rw [hb2]; simpa using hbytes))
      refine ⟨_, _, hr, ?_⟩
      refine fin 0 _ _ (by omega) ?_ ?_
      · simp
      · simp [flatV]
  · obtain ⟨b2, o2, rfl, _, hcell2⟩ := hcell2 hel
    have hr := run_append_grow (P := P) w t ty e i zv hu' hi1 hz2 ⟨b2, o2, none⟩ els.length els.length (flatV row els) hol (fun j x hj => by rw [addr_plus]; exact hcell2 j x hj) ⟨b, o, none⟩ els'.length c (flatV srow els') hnl hnews (by omega) (by simp only [maxLen] at h63; omega) (growslice_fits (by omega) (by rw [hb2]; exact hbytes))
    exact ⟨_, _, hr, fin els.length _ _ (by omega) rfl rfl⟩
/-- An append of something to a slice without room. -/
def appendF (tb : Tb) (s : St) (t : TypeId) (x y : K) : T (SV × St) :=
  match tb.und t with
  | some (.slice e) => match tb.size e, tb.bytes e, tb.zero e, rdOf s [] y with
    | some z, some by', some zv, some ry => match fullOf s x with
      | some rx => match joinAt rx.row 0 ry.row with
        | some row' =>
          if (Nat.beq rx.row.length z && Nat.beq ry.row.length z) && (Nat.beq zv.cells.length z && wfSt s) && !ry.row.isEmpty then
            let tot := mkAdd rx.len ry.len
            let go (R : Nat) : T (SV × St) := catCt s R row' rx ry fun ct s1 => .ret (.p (.c (.k (.ar s1.ar.length))), pushAr s1 none ⟨row', ct, tot, .own, e⟩)
            let R := (tot.rng s.bnd).2.toNat
            if Nat.ble (R * by') 140737488355328 && Nat.ble R 9223372036854775807 then go R
            else .ite (.le tot (.lit (140737488355328 / (by' + 1) : Nat))) (go (140737488355328 / (by' + 1))) .fail
          else .fail
        | none => .fail
      | none => .fail
    | _, _, _, _ => .fail
  | _ => .fail
theorem appendF_ok {P : Program} {tb : Tb} [TbOk P tb] {N : Nat} {w0 : World} {C : List Con} {Φ : List DV → SV × St → Prop} {n : Env} {s : St} {a : Act} {w : World} {t ty : TypeId} {x y : K} (hN : N ≤ w0.heap.size) (h : Rep N w0 n s a w) (hd : (appendF tb s t x y).den C Φ n.r) (hsome : ∀ r, rdOf s [] y = some r → r.len.den n.r ≠ 0) :
    ∃ m v s' w', (Builtin.append_ #[t, t] ty #[x.den n, y.den n]).run P w = .ok (SV.den m v) w' ∧ Ext n m ∧ Rep N w0 m s' a w' ∧ Φ m.r (v, s') := by
  unfold appendF at hd
  split at hd
  case h_2 => exact hd.elim
  rename_i e hu
  split at hd
  case h_2 => exact hd.elim
  rename_i z by' zv ry hz hb hzv hry
  split at hd
  case h_2 => exact hd.elim
  rename_i rx hbase
  split at hd
  case h_2 => exact hd.elim
  rename_i row' hj
  split at hd
  case isFalse => exact hd.elim
  rename_i hc
  simp only [Bool.and_eq_true, Bool.not_eq_true', List.isEmpty_eq_false_iff] at hc
  obtain ⟨⟨⟨c1, c2⟩, c3, hw⟩, c4⟩ := hc
  have c1 := Nat.eq_of_beq_eq_true c1
  have c2 := Nat.eq_of_beq_eq_true c2
  have c3 := Nat.eq_of_beq_eq_true c3
  have hN' : N ≤ w.heap.size := Nat.le_trans hN h.below.size
  have hyne : y = .nils → ry = ⟨[], .rows [], .lit 0⟩ := fun hy => by subst hy; simp only [rdOf, Option.some.injEq] at hry; exact hry.symm
  have hry' : rdOf s ry.row y = some ry := by
    cases y <;> first | exact hry | (have := hyne rfl; subst this; exact hry)
  have hyf : Sh.fines ry.row = true := by
    by_cases hy : y = .nils
    · have := hyne hy; subst this; exact absurd rfl c4
    · have : ∀ row, rdOf s row y = some ry := fun row => by cases y <;> first | exact hry | exact absurd rfl hy
      exact (rdOf_ok h (row := [.bool]) (by simp) rfl (this _)).fine
  have hy := rdOf_ok h c4 hyf hry'
  obtain ⟨hx, yv, lv, hfull⟩ := fullOf_ok h hbase
  have hl : rx.row.length = ry.row.length := by rw [c1, c2]
  have hyn : ry.ct.els n.r ≠ [] := fun hn => by
    have h1 := hsome _ hry
    rw [hy.len, hn] at h1
    exact h1 rfl
  have htot : (mkAdd rx.len ry.len).den n.r = ((rx.ct.els n.r).length + (ry.ct.els n.r).length : Nat) := by
    rw [mkAdd_den, hx.len, hy.len]; omega
  have go : ∀ R, (rx.ct.els n.r).length + (ry.ct.els n.r).length ≤ R → R * by' ≤ 140737488355328 → R ≤ 9223372036854775807 → (catCt s R row' rx ry fun ct s1 => .ret (.p (.c (.k (.ar s1.ar.length))), pushAr s1 none ⟨row', ct, mkAdd rx.len ry.len, .own, e⟩) : T (SV × St)).den C Φ n.r →
      ∃ m v s' w', (Builtin.append_ #[t, t] ty #[x.den n, y.den n]).run P w = .ok (SV.den m v) w' ∧ Ext n m ∧ Rep N w0 m s' a w' ∧ Φ m.r (v, s') := fun R hR r1 r2 hd => by
    obtain ⟨m, ct, s1, a1, a2, a3, a4, a5, a6, a7, a8, a9, a10⟩ := catCt_ok h hw hd hx hy hj hl hR r2
    have hsh := shaped_join hj hl hx.shp hy.shp.2
    have hnst := nest_join hj hl hx.nest hy.nest
    have hmul : ((rx.ct.els n.r).length + (ry.ct.els n.r).length) * by' ≤ 140737488355328 := Nat.le_trans (Nat.mul_le_mul_right _ hR) r1
    obtain ⟨v', w', h1, h2, h3, h4⟩ := run_append_full (P := P) (tb := tb) (ty := ty) (N := N) hu (by rw [c1]; exact hz) hb hzv (by rw [c1, c3]) hfull hx.laid hx.shp.2 (by rw [c1, c2]) hy.shp.2 hy.laid hyn (by simp only [maxLen]; omega) hmul hN'
    have hsv := svOf_own h2
    have hfl := flatV_cat hj hl hx.shp.2 hy.shp.2
    have hrl : row'.length = rx.row.length := joinAt_len hj
    have hO : ∀ g, Owned m s1.ar g ↔ Owned n s.ar g := fun g => by unfold Owned Env.sv; rw [a6, a2, a3, a1.f]
    have htot' : (mkAdd rx.len ry.len).den m.r = (ct.els m.r).length := by
      obtain ⟨_, _, b1⟩ := hx.shift a1 a2 a3
      obtain ⟨_, _, b2⟩ := hy.shift a1 a2 a3
      rw [a10, List.length_append, mkAdd_den, b1, b2, hx.len, hy.len]; omega
    have hwtot : wfE m.r.length (mkAdd rx.len ry.len) = true := by
      have q1 := wfE_mono a1.r.length_le _ hx.wf.2
      have q2 := wfE_mono a1.r.length_le _ hy.wf.2
      unfold mkAdd
      split <;> simp_all [wfE]
    have hwa : wfAr m.r.length ⟨row', ct, mkAdd rx.len ry.len, .own, e⟩ = true := by simp only [wfAr, a9, hwtot, Bool.and_self]
    have hown' : w'.ownsRow N e row'.length (svOf v') (ct.els m.r).length (flatV row' (ct.els m.r)) := by
      rw [hsv, a10, hfl, hrl, List.length_append]; exact h2
    have hf' : Sh.fines row' = true := (joinAt_ok hj).2.2.1 hx.fine hy.fine
    have hB : Below N w0 w' := h.below.grown h3 hN' fun k hk => by cases hk
    have hvd : ∀ m', m'.sv s1.ar.length = svOf v' → (SV.den m' (.p (.c (.k (.ar s1.ar.length))))) = v' := fun m' hm => by
      show m'.sv s1.ar.length = v'
      rw [hm, hsv]
    have hlen1 : m.v.length = s1.ar.length := a4.dat.len
    have hrep := a4.addEnt (a := ⟨row', ct, mkAdd rx.len ry.len, .own, e⟩) (v := v') a5 hB (fun g hg => h3.block g hg (by simp)) hwa (fun g _ hg => by
      rw [hsv] at hg
      exact h4 g hg) (fun ho => by
      unfold EntOk
      simp only
      refine ⟨⟨hf', by show Shaped row' (ct.els m.r); rw [a10]; exact hsh, htot', ?_⟩, ?_⟩
      · show Nest w' _ row' (ct.els m.r)
        rw [a10]
        refine hnst.keep hf' hsh.2 fun b hb hlt => ⟨h3.block b hlt (by simp), fun hb' => ?_⟩
        rcases ho b hb' with k | k
        · exact hb ((hO b).1 k)
        · omega
      · rw [← hlen1, newV_last]; exact hown')
    refine ⟨newV m v', _, _, w', ?_, a1.trans (newV_ext m v'), hrep, a8⟩
    rw [hvd _ (by rw [← hlen1]; exact newV_last)]
    exact h1
  have hrng := E.rng_ok h.bnd (mkAdd rx.len ry.len)
  rw [htot] at hrng
  simp only at hd
  split at hd
  · rename_i hcc
    simp only [Bool.and_eq_true] at hcc
    exact go _ (by omega) (Nat.le_of_ble_eq_true hcc.1) (Nat.le_of_ble_eq_true hcc.2) hd
  · simp only [T.den, B.prop, E.den] at hd
    by_cases hle : (mkAdd rx.len ry.len).den n.r ≤ ((140737488355328 / (by' + 1) : Nat) : Int)
    · refine go _ ?_ ?_ ?_ (hd.1 hle)
      · rw [htot] at hle
        omega
      · have := Nat.div_mul_le_self 140737488355328 (by' + 1)
        rw [Nat.mul_succ] at this
        omega
      · have := Nat.div_le_self 140737488355328 (by' + 1)
        omega
    · exact (hd.2 hle).elim
end Go.Dx
