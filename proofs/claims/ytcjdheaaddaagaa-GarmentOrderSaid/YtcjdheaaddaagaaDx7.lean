/- DERIVED. A symbolic executor over data, proved sound; part 7. -/
import Derived.Test.YtcjdheaaddaagaaDx6
/- A symbolic executor: loops with an invariant: what is turned. -/
namespace Go.Dx
open Go.RowKit
set_option linter.unusedVariables false
set_option linter.unusedSimpArgs false
/-- The number of the first region. -/
def firstId : Code → Option Nat
  | .region id _ _ => some id
  | .seq a b => match firstId a with
    | some i => some i
    | none => firstId b
  | .cond _ a b => match firstId a with
    | some i => some i
    | none => firstId b
  | .block _ b => firstId b
  | .loop b => firstId b
  | .scope b => firstId b
  | .rangeFunc _ _ a b => match firstId a with
    | some i => some i
    | none => firstId b
  | _ => none
/-- The slots that are written. -/
def dstL : Code → List Nat
  | .region _ ops _ => ops.toList.filterMap (·.dst)
  | .seq a b => dstL a ++ dstL b
  | .cond _ a b => dstL a ++ dstL b
  | .block _ b => dstL b
  | .loop b => dstL b
  | .scope b => dstL b
  | _ => []
abbrev LL := List (Loc × Tn)
def tmpIx : LL → Nat → Nat → Option Nat
  | [], _, _ => none
  | (.tmp j, _) :: l, i, k => if Nat.beq i j then some k else tmpIx l i (k + 1)
  | (.tc j _ _, _) :: l, i, k => if Nat.beq i j then some k else tmpIx l i (k + 1)
  | _ :: l, i, k => tmpIx l i (k + 1)
def celIx : LL → Nat → Nat → Nat → Option Nat
  | [], _, _, _ => none
  | (.cell c i, _) :: l, b, j, k => if Nat.beq b c && Nat.beq j i then some k else celIx l b j (k + 1)
  | (.tc _ c i, _) :: l, b, j, k => if Nat.beq b c && Nat.beq j i then some k else celIx l b j (k + 1)
  | _ :: l, b, j, k => celIx l b j (k + 1)
def atT : Loc → Nat → Prop
  | .tmp j, i => i = j
  | .tc j _ _, i => i = j
  | _, _ => False
def atC : Loc → Nat → Nat → Prop
  | .cell c i, b, j => b = c ∧ j = i
  | .tc _ c i, b, j => b = c ∧ j = i
  | _, _, _ => False
theorem tmpIx_get : ∀ {L : LL} {i k0 k : Nat}, tmpIx L i k0 = some k → k0 ≤ k ∧ ∃ l tn, L[k - k0]? = some (l, tn) ∧ atT l i
  | [], _, _, _, h => by cases h
  | (x, tn) :: L, i, k0, k, h => by
    have next : tmpIx L i (k0 + 1) = some k → k0 ≤ k ∧ ∃ l tn', ((x, tn) :: L)[k - k0]? = some (l, tn') ∧ atT l i := fun h => by
      obtain ⟨h1, l, tn', h2, h3⟩ := tmpIx_get h
      refine ⟨by omega, l, tn', ?_, h3⟩
      rw [show k - k0 = (k - (k0 + 1)) + 1 by omega]; simpa using h2
    cases x with
    | tmp j =>
      simp only [tmpIx] at h
      split at h
      · rename_i hb
        cases h
        exact ⟨Nat.le_refl _, .tmp j, tn, by simp, (show i = j from Nat.eq_of_beq_eq_true hb)⟩
      · exact next h
    | tc j b c =>
      simp only [tmpIx] at h
      split at h
      · rename_i hb
        cases h
        exact ⟨Nat.le_refl _, .tc j b c, tn, by simp, (show i = j from Nat.eq_of_beq_eq_true hb)⟩
      · exact next h
    | cell b j => exact next (by simpa only [tmpIx] using h)
    | rc b j => exact next (by simpa only [tmpIx] using h)
theorem celIx_get : ∀ {L : LL} {b i k0 k : Nat}, celIx L b i k0 = some k → k0 ≤ k ∧ ∃ l tn, L[k - k0]? = some (l, tn) ∧ atC l b i
  | [], _, _, _, _, h => by cases h
  | (x, tn) :: L, b, i, k0, k, h => by
    have next : celIx L b i (k0 + 1) = some k → k0 ≤ k ∧ ∃ l tn', ((x, tn) :: L)[k - k0]? = some (l, tn') ∧ atC l b i := fun h => by
      obtain ⟨h1, l, tn', h2, h3⟩ := celIx_get h
      refine ⟨by omega, l, tn', ?_, h3⟩
      rw [show k - k0 = (k - (k0 + 1)) + 1 by omega]; simpa using h2
    cases x with
    | cell c j =>
      simp only [celIx] at h
      split at h
      · rename_i hb
        cases h
        simp only [Bool.and_eq_true] at hb
        exact ⟨Nat.le_refl _, .cell c j, tn, by simp, (show b = c ∧ i = j from ⟨Nat.eq_of_beq_eq_true hb.1, Nat.eq_of_beq_eq_true hb.2⟩)⟩
      · exact next h
    | tc m c j =>
      simp only [celIx] at h
      split at h
      · rename_i hb
        cases h
        simp only [Bool.and_eq_true] at hb
        exact ⟨Nat.le_refl _, .tc m c j, tn, by simp, (show b = c ∧ i = j from ⟨Nat.eq_of_beq_eq_true hb.1, Nat.eq_of_beq_eq_true hb.2⟩)⟩
      · exact next h
    | tmp j => exact next (by simpa only [celIx] using h)
    | rc c j => exact next (by simpa only [celIx] using h)
/-- What lies at a place. -/
def locK (s : St) : Loc → Option K
  | .tmp i => match s.tmps[i]? with
    | some (.p (.c (.k x))) => some x
    | _ => none
  | .cell b j => match s.bs[b]? with
    | some ⟨cs, _, none⟩ => match cs[j]? with
      | some (.k x) => some x
      | _ => none
    | _ => none
  | .rc _ _ => none
  | .tc i b j => match s.tmps[i]?, s.bs[b]? with
    | some (.p (.c (.k x))), some ⟨cs, _, none⟩ => match cs[j]? with
      | some (.k y) => if x.eqb y then some x else none
      | _ => none
    | _, _ => none
theorem locT {s : St} {l : Loc} {i : Nat} {z : K} (h : atT l i) (hz : locK s l = some z) : s.tmps[i]? = some (.p (.c (.k z))) := by
  cases l with
  | tmp j =>
    obtain rfl : i = j := h
    simp only [locK] at hz
    split at hz
    · rename_i x hx; cases hz; exact hx
    · cases hz
  | tc j b c =>
    obtain rfl : i = j := h
    simp only [locK] at hz
    split at hz
    · rename_i x cs t hx hb
      split at hz
      · split at hz
        · cases hz; exact hx
        · cases hz
      · cases hz
    · cases hz
  | cell b c => exact h.elim
  | rc b c => exact h.elim
theorem locC {s : St} {l : Loc} {b j : Nat} {z : K} (h : atC l b j) (hz : locK s l = some z) : ∃ cs t, s.bs[b]? = some ⟨cs, t, none⟩ ∧ cs[j]? = some (.k z) := by
  cases l with
  | cell c i =>
    obtain ⟨rfl, rfl⟩ : b = c ∧ j = i := h
    simp only [locK] at hz
    split at hz
    · rename_i cs t hb
      split at hz
      · rename_i x hx; cases hz; exact ⟨cs, t, hb, hx⟩
      · cases hz
    · cases hz
  | tc m c i =>
    obtain ⟨rfl, rfl⟩ : b = c ∧ j = i := h
    simp only [locK] at hz
    split at hz
    · rename_i x cs t hx hb
      split at hz
      · rename_i y hy
        split at hz
        · rename_i he; cases hz; rw [← K.eqb_ok he] at hy; exact ⟨cs, t, hb, hy⟩
        · cases hz
      · cases hz
    · cases hz
  | tmp c => exact h.elim
  | rc b c => exact h.elim
/-- How many slices come before the k-th place. -/
def slN : LL → Nat → Nat
  | _, 0 => 0
  | [], _ => 0
  | (_, .int) :: l, k + 1 => slN l k
  | (_, .sl _ _) :: l, k + 1 => slN l k + 1
def headK (h : St) (L : LL) (k : Nat) : K := match L[k]? with
  | some (l, .int) => match locK h l with
    | some (.int kk _) => .int kk (.var (h.bnd.v.length + k))
    | some (.bool _) => .bool (.not (.eq (.var (h.bnd.v.length + k)) (.lit 0)))
    | _ => .nilp
  | some (_, .sl _ _) => .ar (h.ar.length + slN L k)
  | none => .nilp
def genT (h : St) (L : LL) (ds : List Nat) : Nat → List SV → List SV
  | _, [] => []
  | i, x :: l => (match tmpIx L i 0 with
    | some k => .p (.c (.k (headK h L k)))
    | none => if has ds i then .u (h.bnd.v.length + (L.length + i)) else x) :: genT h L ds (i + 1) l
def genC (h : St) (L : LL) (b : Nat) : Nat → List CV → List CV
  | _, [] => []
  | j, x :: l => (match celIx L b j 0 with
    | some k => .k (headK h L k)
    | none => x) :: genC h L b (j + 1) l
def genB (h : St) (L : LL) : Nat → List Blk → List Blk
  | _, [] => []
  | b, ⟨cs, t, none⟩ :: l => ⟨genC h L b 0 cs, t, none⟩ :: genB h L (b + 1) l
  | b, x :: l => x :: genB h L (b + 1) l
def killAll : List Nat → List Ar → List Ar
  | [], ar => ar
  | p :: l, ar => match ar[p]? with
    | some a => killAll l (turnAr p { a with st := .dead } ar)
    | none => killAll l ar
/-- Who owns what lies at the places. -/
def ownL (s : St) : LL → List VD → List (Option Nat)
  | (l, .sl true ety) :: L, .d (.sl _ row) :: B => (match locK s l with
    | some z => match baseK s ety row z with
      | some (po, _) => po
      | none => none
    | none => none) :: ownL s L B
  | _ :: L, _ :: B => none :: ownL s L B
  | _, _ => []
def headAr (h : St) (L : LL) (B : List VD) : List Ar := killAll ((ownL h L B).filterMap id) h.ar
def newA : LL → List VD → Nat → List Ar
  | (_, .int) :: L, _ :: B, v => newA L B (v + 1)
  | (_, .sl own ety) :: L, .d (.sl _ row) :: B, v => ⟨row, .e (.var v), .len (.var v), (match own with | true => .own | false => .frz), ety⟩ :: newA L B (v + 1)
  | (_, .sl _ _) :: L, _ :: B, v => ⟨[], .rows [], .lit 0, .dead, 0⟩ :: newA L B (v + 1)
  | _, _, _ => []
def genS (L : LL) (ds : List Nat) (B : List VD) (h : St) : St :=
  ⟨genT h L ds 0 h.tmps, genB h L 0 h.bs, cat h.bnd (B ++ List.replicate h.tmps.length (.i 0 0)), h.df, headAr h L B ++ newA L B h.bnd.v.length⟩
/-- A bool that has become known. -/
def bsm (sb : Bnd) : SV → SV → Bool
  | .p (.c (.k (.bool b))), .p (.c (.k (.bool (.lit t)))) => (reB sb b).eqb (.lit t)
  | _, _ => false
theorem bsm_ok {n : Env} {sb : Bnd} (hb : BndOk n.r sb) {x y : SV} (h : bsm sb x y = true) : x.den n = y.den n := by
  unfold bsm at h
  split at h
  · rename_i b t
    have e := B.eqb_ok h
    have := reB_den hb b
    rw [e] at this
    simp only [SV.den, PV.den, CV.den, K.den]
    rw [← this]
  · cases h
def chkT (sb : Bnd) (L : LL) (ds : List Nat) : Nat → List SV → List SV → Bool
  | _, [], [] => true
  | i, x :: l, y :: r => (match tmpIx L i 0 with
    | some _ => true
    | none => has ds i || (eqSV x y || bsm sb x y)) && chkT sb L ds (i + 1) l r
  | _, _, _ => false
def chkC (L : LL) (b : Nat) : Nat → List CV → List CV → Bool
  | _, [], [] => true
  | j, x :: l, y :: r => (match celIx L b j 0 with
    | some _ => true
    | none => eqC x y) && chkC L b (j + 1) l r
  | _, _, _ => false
def chkB (L : LL) : Nat → List Blk → List Blk → Bool
  | _, [], _ => true
  | b, ⟨cs, t, none⟩ :: l, ⟨cs', t', none⟩ :: r => Nat.beq t t' && chkC L b 0 cs cs' && chkB L (b + 1) l r
  | b, ⟨_, _, some .gone⟩ :: l, _ :: r => chkB L (b + 1) l r
  | b, ⟨_, _, some (.dfr o)⟩ :: l, ⟨_, _, some (.dfr o')⟩ :: r => (o == o') && chkB L (b + 1) l r
  | b, ⟨_, _, some (.loop st none _ _ _ _ _)⟩ :: l, ⟨_, _, some (.loop st' none _ _ _ _ _)⟩ :: r => Nat.beq st st' && chkB L (b + 1) l r
  | _, _, _ => false
def isDead (a : Ar) : Bool := match a.st with
  | .dead => true
  | _ => false
def keepsH : List Ar → List Ar → Bool
  | [], _ => true
  | a :: l, b :: r => (isDead a || eqAr a b) && keepsH l r
  | _ :: _, [] => false
def nodupO : List (Option Nat) → Bool
  | [] => true
  | none :: l => nodupO l
  | some p :: l => !(l.any fun q => match q with | some q => Nat.beq p q | none => false) && nodupO l
def deadAt (l : List Ar) (p : Nat) : Bool := match l[p]? with
  | some a => isDead a
  | none => true
def chkO (hd : List Ar) (os : List (Option Nat)) : Bool := nodupO os && os.all fun o => match o with
  | some p => deadAt hd p
  | none => true
def chkS (L : LL) (ds : List Nat) (B : List VD) (h s : St) : Bool :=
  ((chkT s.bnd L ds 0 h.tmps s.tmps && chkB L 0 h.bs s.bs) && (eqNs s.df h.df && Nat.beq L.length B.length)) && ((keepsH (headAr h L B) s.ar && keepsV h.bnd.v s.bnd.v) && chkO (headAr h L B) (ownL s L B))
theorem nodupO_ok : ∀ {l : List (Option Nat)} {i j p : Nat}, nodupO l = true → l[i]? = some (some p) → l[j]? = some (some p) → i = j
  | [], i, j, p, h, hi, _ => by simp at hi
  | none :: l, i, j, p, h, hi, hj => by
    simp only [nodupO] at h
    cases i with
    | zero => simp at hi
    | succ i => cases j with
      | zero => simp at hj
      | succ j => simp only [List.getElem?_cons_succ] at hi hj; rw [nodupO_ok h hi hj]
  | some q :: l, i, j, p, h, hi, hj => by
    simp only [nodupO, Bool.and_eq_true, Bool.not_eq_true'] at h
    have key : ∀ k, l[k]? = some (some q) → False := fun k hk => by
      have := List.any_eq_false.1 h.1 (some q) (List.mem_of_getElem? hk)
      simp only [Nat.beq_refl, not_true_eq_false] at this
    cases i with
    | zero =>
      simp only [List.getElem?_cons_zero, Option.some.injEq] at hi
      subst hi
      cases j with
      | zero => rfl
      | succ j => simp only [List.getElem?_cons_succ] at hj; exact (key j hj).elim
    | succ i =>
      cases j with
      | zero =>
        simp only [List.getElem?_cons_zero, Option.some.injEq] at hj
        subst hj
        simp only [List.getElem?_cons_succ] at hi
        exact (key i hi).elim
      | succ j => simp only [List.getElem?_cons_succ] at hi hj; rw [nodupO_ok h.2 hi hj]
theorem isDead_st {a : Ar} (h : isDead a = false) : a.st ≠ .dead := fun e => by unfold isDead at h; rw [e] at h; cases h
theorem isDead_of {a : Ar} (h : a.st ≠ .dead) : isDead a = false := by
  unfold isDead; cases hs : a.st <;> first | rfl | exact absurd hs h
theorem keepsH_ok : ∀ {x y : List Ar}, keepsH x y = true → ∀ {i : Nat} {a : Ar}, x[i]? = some a → a.st ≠ .dead → y[i]? = some a
  | [], y, _, i, a, hi, _ => by simp at hi
  | a :: l, b :: r, h, i, c, hi, hd => by
    simp only [keepsH, Bool.and_eq_true] at h
    cases i with
    | zero =>
      simp only [List.getElem?_cons_zero, Option.some.injEq] at hi ⊢
      subst hi
      have h1 := h.1
      rw [isDead_of hd, Bool.false_or] at h1
      exact (eqAr_ok h1).symm
    | succ i => simp only [List.getElem?_cons_succ] at *; exact keepsH_ok h.2 hi hd
  | _ :: _, [], h, i, a, hi, _ => by cases h
theorem killAll_len : ∀ (ps : List Nat) (ar : List Ar), (killAll ps ar).length = ar.length
  | [], ar => rfl
  | p :: l, ar => by
    simp only [killAll]
    split
    · rw [killAll_len, turn_len]
    · rw [killAll_len]
theorem killAll_ok : ∀ {ps : List Nat} {ar : List Ar} {i : Nat} {a : Ar}, (killAll ps ar)[i]? = some a → a.st ≠ .dead → ar[i]? = some a ∧ (∀ p, (∃ pre, a.st = .view p pre) → p ∈ ps → ar[p]? = none)
  | [], ar, i, a, h, hd => ⟨h, fun p _ hp => by cases hp⟩
  | p :: l, ar, i, a, h, hd => by
    simp only [killAll] at h
    split at h
    · rename_i b hb
      obtain ⟨h1, h2⟩ := killAll_ok h hd
      have hpl : p < ar.length := (List.getElem?_eq_some_iff.1 hb).1
      have hip : i ≠ p := fun e => by
        subst e
        rw [turn_same hpl] at h1
        cases h1
        exact hd rfl
      rw [turn_other hip] at h1
      cases hc : ar[i]? with
      | none => rw [hc] at h1; cases h1
      | some c =>
        rw [hc] at h1
        simp only [Option.map_some, Option.some.injEq] at h1
        rcases killV_eq (p := p) (a := c) with e | e
        · rw [e] at h1
          subst h1
          refine ⟨rfl, fun q hq hm => ?_⟩
          rcases List.mem_cons.1 hm with e2 | e2
          · exfalso
            obtain ⟨_, hq⟩ := hq
            exact killV_view hq e e2
          · have := h2 q hq e2
            have hl : (turnAr p { b with st := .dead } ar).length ≤ q := List.getElem?_eq_none_iff.1 this
            rw [turn_len] at hl
            exact List.getElem?_eq_none_iff.2 hl
        · rw [h1] at e; exact absurd e hd
    · rename_i hb
      obtain ⟨h1, h2⟩ := killAll_ok h hd
      refine ⟨h1, fun q hq hm => ?_⟩
      rcases List.mem_cons.1 hm with e2 | e2
      · rw [e2]; exact hb
      · exact h2 q hq e2
theorem killAll_own : ∀ {ps : List Nat} {ar : List Ar} {i : Nat} {a : Ar}, ar[i]? = some a → a.st = .own → i ∉ ps → (killAll ps ar)[i]? = some a
  | [], ar, i, a, h, hs, hn => h
  | p :: l, ar, i, a, h, hs, hn => by
    simp only [List.mem_cons, not_or] at hn
    simp only [killAll]
    split
    · refine killAll_own ?_ hs hn.2
      rw [turn_other hn.1, h, Option.map_some, killV_own hs]
    · exact killAll_own h hs hn.2
theorem killAll_wf {r : Nat} : ∀ {ps : List Nat} {ar : List Ar}, ar.all (wfAr r) = true → (killAll ps ar).all (wfAr r) = true
  | [], ar, h => h
  | p :: l, ar, h => by
    simp only [killAll]
    split
    · rename_i b hb
      refine killAll_wf (turn_wf h ?_)
      have := List.all_eq_true.1 h b (List.mem_of_getElem? hb)
      exact this
    · exact killAll_wf h
end Go.Dx

/- A symbolic executor: loops with an invariant: what lies at the places. -/
namespace Go.Dx
open Go.RowKit
set_option linter.unusedVariables false
set_option linter.unusedSimpArgs false
def locSh (h : St) (l : Loc) (tn : Tn) (b : VD) : Option Sh := match tn, b with
  | .int, .i lo hi => match locK h l with
    | some (.int k _) => some (.int k lo hi)
    | some (.bool _) => if decide (lo ≤ 0) && decide (1 ≤ hi) then some .bool else none
    | _ => none
  | .sl _ _, .d (.sl mx row) => some (.sl mx row)
  | _, _ => none
def slQ (s : St) (tn : Tn) (t : Sh) (z : K) : Bool := match tn, t with
  | .int, _ => true
  | .sl own ety, .sl mx row => (Sh.sl mx row).fine && match own with
    | true => match baseK s ety row z with
      | some (_, r) => shLes r.row row
      | none => false
    | false => frzK s z
  | _, _ => false
def valsT {α : Type} (h s0 : St) : St → LL → List VD → (List E → St → T α) → T α
  | s, [], [], k => k [] s
  | s, (l, tn) :: L, b :: B, k => match locK s0 l, locSh h l tn b with
    | some z, some t => if slQ s0 tn t z && wfK (sz s0) z then argC s t (.k z) fun e s1 => valsT h s0 s1 L B fun es s2 => k (e :: es) s2 else .fail
    | _, _ => .fail
  | _, _, _, _ => .fail
/-- What lies at a place. -/
def LocOne (N : Nat) (n : Env) (s : St) (w : World) (h : St) (l : Loc) (tn : Tn) (b : VD) (y : DV) : Prop := ∃ z, locK s l = some z ∧ b.ok y ∧ match tn with
  | .int => (∃ lo hi, b = .i lo hi) ∧ ((∃ k e, locK h l = some (.int k e) ∧ z.den n = .int k y.int) ∨ ∃ q, locK h l = some (.bool q) ∧ z.den n = .bool !(decide (y.int = 0)))
  | .sl own ety => ∃ mx row, b = .d (.sl mx row) ∧ (Sh.sl mx row).fine = true ∧ svOf (z.den n) = z.den n ∧ Nest w (fun g => ¬ Owned n s.ar g) row y.els ∧ match own with
    | true => (∃ po r, baseK s ety row z = some (po, r) ∧ baseP n s (z.den n) po) ∧ w.ownsRow N ety row.length (z.den n) y.els.length (flatV row y.els)
    | false => LaidAt w (fun g => ¬ Owned n s.ar g) (z.den n) row y.els
def LocsOk (N : Nat) (n : Env) (s : St) (w : World) (h : St) : LL → List VD → List DV → Prop
  | [], [], [] => True
  | (l, tn) :: L, b :: B, y :: ys => LocOne N n s w h l tn b y ∧ LocsOk N n s w h L B ys
  | _, _, _ => False
theorem LocsOk.len {N : Nat} {n : Env} {s : St} {w : World} {h : St} : ∀ {L : LL} {B : List VD} {ys : List DV}, LocsOk N n s w h L B ys → ys.length = L.length ∧ B.length = L.length ∧ inB ys B
  | [], [], [], _ => ⟨rfl, rfl, by simp only [inB]⟩
  | (l, tn) :: L, b :: B, y :: ys, hk => by
    simp only [LocsOk] at hk
    obtain ⟨h1, h2, h3⟩ := LocsOk.len hk.2
    obtain ⟨z, _, h4, _⟩ := hk.1
    exact ⟨by simp [h1], by simp [h2], by simp only [inB]; exact ⟨h4, h3⟩⟩
  | [], _ :: _, _, hk => by simp only [LocsOk] at hk
  | [], [], _ :: _, hk => by simp only [LocsOk] at hk
  | _ :: _, [], _, hk => by simp only [LocsOk] at hk
  | _ :: _, _ :: _, [], hk => by simp only [LocsOk] at hk
theorem LocsOk.get {N : Nat} {n : Env} {s : St} {w : World} {h : St} : ∀ {L : LL} {B : List VD} {ys : List DV} {k : Nat} {l : Loc} {tn : Tn}, LocsOk N n s w h L B ys → L[k]? = some (l, tn) → ∃ b y, B[k]? = some b ∧ ys[k]? = some y ∧ LocOne N n s w h l tn b y
  | (l, tn) :: L, b :: B, y :: ys, k, l', tn', hk, hi => by
    simp only [LocsOk] at hk
    cases k with
    | zero => simp only [List.getElem?_cons_zero, Option.some.injEq, Prod.mk.injEq] at hi ⊢; obtain ⟨rfl, rfl⟩ := hi; exact ⟨b, y, rfl, rfl, hk.1⟩
    | succ k => simp only [List.getElem?_cons_succ] at hi ⊢; exact LocsOk.get hk.2 hi
  | [], _, _, k, _, _, _, hi => by simp at hi
  | _ :: _, [], _, _, _, _, hk, _ => by simp only [LocsOk] at hk
  | _ :: _, _ :: _, [], _, _, _, hk, _ => by simp only [LocsOk] at hk
theorem baseK_ar {s s' : St} (h : s'.ar = s.ar) (e : TypeId) (row : List Sh) (x : K) : baseK s' e row x = baseK s e row x := by unfold baseK; rw [h]
theorem valsT_den {α : Type} {C : List Con} {Φ : List DV → α → Prop} {N : Nat} {w0 : World} {n : Env} {h s0 : St} {a : Act} {w : World} (h0 : Rep N w0 n s0 a w) : ∀ (L : LL) (B : List VD) {n1 : Env} {s : St} {k : List E → St → T α}, Ext n n1 → n1.v = n.v → n1.b = n.b → Rep N w0 n1 s a w → wfSt s = true → s.ar = s0.ar → (valsT h s0 s L B k).den C Φ n1.r →
    ∃ m xs s1, Ext n1 m ∧ m.v = n.v ∧ m.b = n.b ∧ Rep N w0 m s1 a w ∧ s1.ar = s0.ar ∧ (k xs s1).den C Φ m.r ∧ xs.all (wfE m.r.length) = true ∧ LocsOk N m s0 w h L B (xs.map (E.top m.r))
  | [], [], n1, s, k, hx, hv, hb, hr, hw, har, hd => ⟨n1, [], s, Ext.refl n1, hv, hb, hr, har, hd, rfl, by simp only [List.map_nil, LocsOk]⟩
  | (l, tn) :: L, b :: B, n1, s, k, hx, hv, hb, hr, hw, har, hd => by
    simp only [valsT] at hd
    split at hd
    case h_2 => exact hd.elim
    rename_i z t hz ht
    split at hd
    case isFalse => exact hd.elim
    rename_i hc
    simp only [Bool.and_eq_true] at hc
    obtain ⟨hq, hwz⟩ := hc
    have hwz' : wfK (nz n) z = true := by rw [h0.nz]; exact hwz
    obtain ⟨m, e, s1, a1, a2, a3, a4, a5, a6, a7, a8, a9, a10, a11⟩ := argC_full hr hw hd
    obtain ⟨m2, es, s2, b1, b2, b3, b4, b5, b6, b7, b8⟩ := valsT_den h0 L B (hx.trans a1) (a2.trans hv) (a3.trans hb) a4 a5 (a6.trans har) a8
    have hxm : Ext n m2 := (hx.trans a1).trans b1
    have e1 : z.den n1 = z.den n := wfK_den hx z hwz'
    have e2 : z.den m2 = z.den n := wfK_den hxm z hwz'
    have hO : ∀ g, Owned m2 s0.ar g ↔ Owned n s0.ar g := fun g => by unfold Owned Env.sv; rw [b2, b3, hxm.f]
    refine ⟨m2, e :: es, s2, a1.trans b1, b2, b3, b4, b5, b6, ?_, ?_⟩
    · simp only [List.all_cons, b7, Bool.and_true]
      exact wfE_mono b1.r.length_le e a9
    · simp only [List.map_cons, LocsOk]
      refine ⟨?_, b8⟩
      rw [wfE_top b1.r e a9]
      have hcz : (CV.k z).den n1 = z.den n := e1
      rw [hcz] at a10
      unfold locSh at ht
      split at ht
      · rename_i lo hi
        have key : ∀ (kk : IntKind), t = .int kk lo hi → cellA w t (e.top m.r) (z.den n) → VD.ok (.i lo hi) (e.top m.r) ∧ z.den n = .int kk (e.top m.r).int := fun kk e hh => by
          subst e
          obtain ⟨b1, b2⟩ := hh
          simp only [HasSh] at b1
          obtain ⟨x, e1, e2, _⟩ := b1
          exact ⟨⟨x, e1, e2⟩, b2⟩
        split at ht
        · rename_i kk ee hk
          cases ht
          obtain ⟨p1, p2⟩ := key kk rfl a10
          exact ⟨z, hz, p1, ⟨lo, hi, rfl⟩, .inl ⟨kk, ee, hk, by rw [e2]; exact p2⟩⟩
        · rename_i qq hk
          split at ht
          · rename_i hlh
            cases ht
            simp only [Bool.and_eq_true, decide_eq_true_eq] at hlh
            obtain ⟨p1, p2⟩ := a10
            have p1' := p1
            simp only [HasSh] at p1'
            obtain ⟨x, e3, e4, e5⟩ := p1'
            exact ⟨z, hz, ⟨x, e3, by omega, by omega⟩, ⟨lo, hi, rfl⟩, .inr ⟨qq, hk, by rw [e2]; exact p2⟩⟩
          · cases ht
        · cases ht
      · rename_i own ety mx row
        cases ht
        obtain ⟨p1, p2⟩ := a10
        simp only at p2
        obtain ⟨r, r1, r2, r3⟩ := a11 mx row z rfl rfl
        have hq' := hq
        simp only [slQ, Bool.and_eq_true] at hq'
        obtain ⟨hfi, hq2⟩ := hq'
        have hfi' := hfi
        simp only [Sh.fine, Bool.and_eq_true, Bool.not_eq_true', List.isEmpty_eq_false_iff] at hfi'
        have hrd := rdOf_ok hr hfi'.1.1 hfi'.1.2 r1
        obtain ⟨f1, f2, f3, f4⟩ := shLes_flat r2 hrd.shp.2
        have hnest : Nest w (fun g => ¬ Owned m2 s0.ar g) row (e.top m.r).els := by
          rw [r3]
          have := f3 _ _ hrd.nest
          rw [har] at this
          have hO1 : ∀ g, Owned n1 s0.ar g ↔ Owned n s0.ar g := fun g => by unfold Owned Env.sv; rw [hv, hb, hx.f]
          intro y hy
          have := this y hy
          simp only [hO]
          simp only [hO1] at this
          exact this
        refine ⟨z, hz, ⟨p1, p2.1⟩, mx, row, rfl, hfi, by rw [e2]; exact p2.2.1, hnest, ?_⟩
        cases own with
        | true =>
          simp only at hq2 ⊢
          split at hq2
          · rename_i po r' hbase
            have hrr : r' = r := by
              unfold baseK at hbase
              split at hbase
              · cases hbase
                simp only [rdOf, Option.some.injEq] at r1
                exact r1
              · split at hbase
                · rename_i hk
                  simp only [rdOf, har, hk] at r1
                  split at hbase
                  · split at hbase
                    · cases hbase; simp only [Option.some.injEq] at r1; exact r1
                    · cases hbase
                  · split at hbase
                    · cases hbase; simp only [Option.some.injEq] at r1; exact r1
                    · cases hbase
                  · cases hbase
                · cases hbase
              · cases hbase
            subst hrr
            obtain ⟨k1, k2, k3⟩ := baseK_ok h0 hfi'.1.1 hfi'.1.2 hbase
            refine ⟨⟨po, r', hbase, ?_⟩, ?_⟩
            · rw [e2]
              cases po with
              | none => exact k3
              | some p =>
                obtain ⟨a0, q1, q2, q3⟩ := k3
                exact ⟨a0, q1, q2, by rw [q3]; unfold Env.sv; rw [b2]⟩
            · have hels : (e.top m.r).els = r'.ct.els n.r := by rw [r3, wfCt_den hx.r r'.ct k1.wf.1]
              obtain ⟨_, g2, _, _⟩ := shLes_flat r2 k1.shp.2
              rw [hels, g2, e2, shLes_len r2]
              exact k2
          · cases hq2
        | false =>
          simp only at hq2 ⊢
          have hq3 : frzK s z = true := by
            unfold frzK at hq2 ⊢
            rw [har]; exact hq2
          have := f4 _ _ _ (frz_laid hr r1 hq3)
          rw [e1, har] at this
          have hO1 : ∀ g, Owned n1 s0.ar g ↔ Owned n s0.ar g := fun g => by unfold Owned Env.sv; rw [hv, hb, hx.f]
          simp only [hO1] at this
          simp only [hO]
          rw [r3, e2]
          exact this
      · cases ht
  | [], _ :: _, n1, s, k, _, _, _, _, _, _, hd => by simp only [valsT] at hd; exact hd.elim
  | _ :: _, [], n1, s, k, _, _, _, _, _, _, hd => by simp only [valsT] at hd; exact hd.elim
theorem valsT_all {α : Type} {p : α → Prop} {h s0 : St} : ∀ (L : LL) (B : List VD) (s : St) (k : List E → St → T α), (∀ xs s', s'.bs = s.bs → (k xs s').All p) → (valsT h s0 s L B k).All p
  | [], [], s, k, hk => hk [] s rfl
  | (l, tn) :: L, b :: B, s, k, hk => by
    simp only [valsT]
    split
    · split
      · exact argC_all _ _ _ _ fun e s1 h1 => valsT_all L B s1 _ fun xs s2 h2 => hk _ _ (h2.trans h1)
      · trivial
    · trivial
  | [], _ :: _, s, k, _ => by simp only [valsT]; trivial
  | _ :: _, [], s, k, _ => by simp only [valsT]; trivial
/-- Other bounds, the same state. -/
theorem Rep.rebnd {N : Nat} {w0 : World} {n m : Env} {s s1 : St} {a : Act} {w : World} (h : Rep N w0 n s a w) (hw : wfSt s = true) (hx : Ext n m) (hv : m.v = n.v) (hb : m.b = n.b) (h1 : Rep N w0 m s1 a w) (har : s1.ar = s.ar) : Rep N w0 m { s with bnd := s1.bnd } a w := by
  simp only [wfSt, Bool.and_eq_true] at hw
  rw [← h.nz] at hw
  have hdf : (s.df.all fun d => Nat.blt d n.b.length) = true := by rw [h.lens.2]; exact hw.2
  refine ⟨h1.bnd, h.mem.ext hw.1.2 hx hb, ?_, h.below, ?_⟩
  · have := h1.dat; rw [har] at this; exact this
  · rw [h.act]
    simp only [wfSs_den hx s.tmps hw.1.1, wfDf hx s.df hdf]
end Go.Dx

/- A symbolic executor: loops with an invariant: the head, again. -/
namespace Go.Dx
open Go.RowKit
set_option linter.unusedVariables false
set_option linter.unusedSimpArgs false
/-- The slices among what lies at the places. -/
def hsOf (n : Env) (s : St) : LL → List Value
  | [] => []
  | (_, .int) :: L => hsOf n s L
  | (l, .sl _ _) :: L => (match locK s l with
    | some z => z.den n
    | none => .slice none 0 0) :: hsOf n s L
theorem hsOf_get {n : Env} {s : St} : ∀ {L : LL} {k : Nat} {l : Loc} {own : Bool} {ety : TypeId} {z : K}, L[k]? = some (l, .sl own ety) → locK s l = some z → (hsOf n s L)[slN L k]? = some (z.den n)
  | (l, tn) :: L, k, l', own, ety, z, h, hz => by
    cases k with
    | zero =>
      simp only [List.getElem?_cons_zero, Option.some.injEq, Prod.mk.injEq] at h
      obtain ⟨rfl, rfl⟩ := h
      simp only [hsOf, hz, slN, List.getElem?_cons_zero]
    | succ k =>
      simp only [List.getElem?_cons_succ] at h
      have ih := hsOf_get (n := n) h hz
      cases tn with
      | int => simp only [hsOf, slN]; exact ih
      | sl o e => simp only [hsOf, slN, List.getElem?_cons_succ]; exact ih
  | [], k, _, _, _, _, h, _ => by simp at h
theorem newA_get : ∀ {L : LL} {B : List VD} {v i : Nat} {a : Ar}, L.length = B.length → (newA L B v)[i]? = some a → a.st ≠ .dead → ∃ k l own ety mx row, L[k]? = some (l, .sl own ety) ∧ B[k]? = some (.d (.sl mx row)) ∧ slN L k = i ∧ a = ⟨row, .e (.var (v + k)), .len (.var (v + k)), (match own with | true => .own | false => .frz), ety⟩
  | [], B, v, i, a, hl, h, hd => by simp [newA] at h
  | (l, tn) :: L, [], v, i, a, hl, h, hd => by simp at hl
  | (l, .int) :: L, b :: B, v, i, a, hl, h, hd => by
    simp only [newA] at h
    obtain ⟨k, l', own, ety, mx, row, h1, h2, h3, h4⟩ := newA_get (by simpa using hl) h hd
    exact ⟨k + 1, l', own, ety, mx, row, h1, h2, by simp only [slN]; exact h3, by rw [h4]; simp only [show v + 1 + k = v + (k + 1) by omega]⟩
  | (l, .sl own ety) :: L, b :: B, v, i, a, hl, h, hd => by
    have rest : ∀ j, (newA L B (v + 1))[j]? = some a → ∃ k l' own' ety' mx row, ((l, Tn.sl own ety) :: L)[k]? = some (l', .sl own' ety') ∧ (b :: B)[k]? = some (.d (.sl mx row)) ∧ slN ((l, .sl own ety) :: L) k = j + 1 ∧ a = ⟨row, .e (.var (v + k)), .len (.var (v + k)), (match own' with | true => .own | false => .frz), ety'⟩ := fun j hj => by
      obtain ⟨k, l', own', ety', mx, row, h1, h2, h3, h4⟩ := newA_get (by simpa using hl) hj hd
      exact ⟨k + 1, l', own', ety', mx, row, h1, h2, by simp only [slN, h3], by rw [h4]; simp only [show v + 1 + k = v + (k + 1) by omega]⟩
    have deadC : ∀ x : Ar, x.st = .dead → (x :: newA L B (v + 1))[i]? = some a → ∃ k l' own' ety' mx row, ((l, Tn.sl own ety) :: L)[k]? = some (l', .sl own' ety') ∧ (b :: B)[k]? = some (.d (.sl mx row)) ∧ slN ((l, .sl own ety) :: L) k = i ∧ a = ⟨row, .e (.var (v + k)), .len (.var (v + k)), (match own' with | true => .own | false => .frz), ety'⟩ := fun x hx h => by
      cases i with
      | zero => simp only [List.getElem?_cons_zero, Option.some.injEq] at h; rw [← h] at hd; exact absurd hx hd
      | succ i => simp only [List.getElem?_cons_succ] at h; exact rest i h
    cases b with
    | i lo hi => exact deadC _ rfl h
    | d S => cases S with
      | sl mx row =>
        simp only [newA] at h
        cases i with
        | zero => simp only [List.getElem?_cons_zero, Option.some.injEq] at h; exact ⟨0, l, own, ety, mx, row, rfl, rfl, rfl, h.symm⟩
        | succ i => simp only [List.getElem?_cons_succ] at h; exact rest i h
      | _ => exact deadC _ rfl h
theorem newA_len {n : Env} {s : St} : ∀ {L : LL} {B : List VD} {v : Nat}, L.length = B.length → (newA L B v).length = (hsOf n s L).length
  | [], B, v, h => by simp [newA, hsOf]
  | (l, tn) :: L, [], v, h => by simp at h
  | (l, .int) :: L, b :: B, v, h => by simp only [newA, hsOf]; exact newA_len (by simpa using h)
  | (l, .sl own ety) :: L, b :: B, v, h => by
    have ih := newA_len (n := n) (s := s) (L := L) (B := B) (v := v + 1) (by simpa using h)
    cases b with
    | i lo hi => simp only [newA, hsOf, List.length_cons, ih]
    | d S => cases S <;> simp only [newA, hsOf, List.length_cons, ih]
theorem ownL_get {s : St} : ∀ {L : LL} {B : List VD} {k : Nat} {l : Loc} {ety : TypeId} {mx : Nat} {row : List Sh} {z : K} {po : Option Nat} {r : Rd}, L[k]? = some (l, .sl true ety) → B[k]? = some (.d (.sl mx row)) → locK s l = some z → baseK s ety row z = some (po, r) → (ownL s L B)[k]? = some po
  | (l, tn) :: L, b :: B, k, l', ety, mx, row, z, po, r, h1, h2, h3, h4 => by
    cases k with
    | zero =>
      simp only [List.getElem?_cons_zero, Option.some.injEq, Prod.mk.injEq] at h1 h2
      obtain ⟨rfl, rfl⟩ := h1
      subst h2
      simp only [ownL, h3, h4, List.getElem?_cons_zero]
    | succ k =>
      simp only [List.getElem?_cons_succ] at h1 h2
      have ih := ownL_get h1 h2 h3 h4
      unfold ownL
      split
      · simp only [List.getElem?_cons_succ]; rename_i e1 e2; cases e1; cases e2; exact ih
      · simp only [List.getElem?_cons_succ]; rename_i e1 e2; cases e1; cases e2; exact ih
      · rename_i hne; exact (hne _ _ _ _ rfl rfl).elim
  | [], _, k, _, _, _, _, _, _, _, h, _, _, _ => by simp at h
  | _ :: _, [], k, _, _, _, _, _, _, _, _, h, _, _ => by simp at h
theorem slN_inj : ∀ {L : LL} {j k : Nat} {l l' : Loc} {o o' : Bool} {e e' : TypeId}, L[j]? = some (l, .sl o e) → L[k]? = some (l', .sl o' e') → slN L j = slN L k → j = k
  | (x, tn) :: L, j, k, l, l', o, o', e, e', hj, hk, h => by
    cases j with
    | zero => cases k with
      | zero => rfl
      | succ k =>
        simp only [List.getElem?_cons_zero, Option.some.injEq, Prod.mk.injEq] at hj
        obtain ⟨rfl, rfl⟩ := hj
        simp only [slN] at h
        omega
    | succ j => cases k with
      | zero =>
        simp only [List.getElem?_cons_zero, Option.some.injEq, Prod.mk.injEq] at hk
        obtain ⟨rfl, rfl⟩ := hk
        simp only [slN] at h
        omega
      | succ k =>
        simp only [List.getElem?_cons_succ] at hj hk
        have : slN L j = slN L k := by
          cases tn <;> simp only [slN] at h <;> omega
        rw [slN_inj hj hk this]
  | [], j, k, _, _, _, _, _, _, h, _, _ => by simp at h
/-- What the head says at a place. -/
def HeadV (n n1 : Env) (h s : St) (L : LL) : Prop := ∀ (k : Nat) (l : Loc) (tn : Tn), L[k]? = some (l, tn) → ∃ z, locK s l = some z ∧ (headK h L k).den n1 = z.den n
theorem genT_den {n0 n n1 : Env} (h0 : Ext n0 n) (h1 : Ext n0 n1) {h s : St} {L : LL} {ds : List Nat} (hsb : BndOk n.r s.bnd) (hv : HeadV n n1 h s L) : ∀ (xs ys : List SV) (i : Nat), chkT s.bnd L ds i xs ys = true → xs.all (wfS (nz n0)) = true → (∀ j, s.tmps[i + j]? = ys[j]?) →
    (∀ j y, ys[j]? = some y → n1.u.getD (h.bnd.v.length + (L.length + (i + j))) undef = y.den n) →
    (genT h L ds i xs).map (SV.den n1) = ys.map (SV.den n)
  | [], [], i, hc, hw, hs, hu => rfl
  | [], _ :: _, i, hc, hw, hs, hu => by cases hc
  | _ :: _, [], i, hc, hw, hs, hu => by cases hc
  | x :: xs, y :: ys, i, hc, hw, hs, hu => by
    simp only [chkT, Bool.and_eq_true] at hc
    simp only [List.all_cons, Bool.and_eq_true] at hw
    have ih := genT_den h0 h1 hsb hv xs ys (i + 1) hc.2 hw.2 (fun j => by
      have := hs (j + 1)
      rw [show i + 1 + j = i + (j + 1) by omega, this]; simp) (fun j y hj => by
      have := hu (j + 1) y (by simpa using hj)
      rw [show i + 1 + j = i + (j + 1) by omega]; exact this)
    simp only [genT, List.map_cons, ih]
    congr 1
    have h2 := hc.1
    split
    · rename_i k hk
      obtain ⟨_, l, tn, hL, hT⟩ := tmpIx_get hk
      rw [Nat.sub_zero] at hL
      obtain ⟨z, hz, hd⟩ := hv k _ _ hL
      simp only [SV.den, PV.den, CV.den, hd]
      have hs0 := hs 0
      simp only [Nat.add_zero, List.getElem?_cons_zero] at hs0
      rw [locT hT hz] at hs0
      cases hs0
      rfl
    · rename_i hk
      rw [hk] at h2
      simp only [Bool.or_eq_true] at h2
      split
      · exact hu 0 y rfl
      · rename_i hds
        rcases h2 with h2 | h2
        · exact absurd h2 hds
        · rw [wfS_den h1 x hw.1, ← wfS_den h0 x hw.1]
          rcases h2 with h2 | h2
          · rw [eqSV_ok h2]
          · exact bsm_ok hsb h2
theorem genC_den {n0 n n1 : Env} (h0 : Ext n0 n) (h1 : Ext n0 n1) {h s : St} {L : LL} {b : Nat} (hv : HeadV n n1 h s L) {t : TypeId} {cs' : List CV} (hb : s.bs[b]? = some ⟨cs', t, none⟩) : ∀ (xs ys : List CV) (i : Nat), chkC L b i xs ys = true → xs.all (wfC (nz n0)) = true → (∀ j, cs'[i + j]? = ys[j]?) →
    (genC h L b i xs).map (CV.den n1) = ys.map (CV.den n)
  | [], [], i, hc, hw, hl => rfl
  | [], _ :: _, i, hc, hw, hl => by cases hc
  | _ :: _, [], i, hc, hw, hl => by cases hc
  | x :: xs, y :: ys, i, hc, hw, hl => by
    simp only [chkC, Bool.and_eq_true] at hc
    simp only [List.all_cons, Bool.and_eq_true] at hw
    have ih := genC_den h0 h1 hv hb xs ys (i + 1) hc.2 hw.2 (fun j => by
      have := hl (j + 1)
      rw [show i + 1 + j = i + (j + 1) by omega, this]; simp)
    simp only [genC, List.map_cons, ih]
    congr 1
    have h2 := hc.1
    split
    · rename_i k hk
      obtain ⟨_, l, tn, hL, hT⟩ := celIx_get hk
      rw [Nat.sub_zero] at hL
      obtain ⟨z, hz, hd⟩ := hv k _ _ hL
      simp only [CV.den, hd]
      have hs0 := hl 0
      simp only [Nat.add_zero, List.getElem?_cons_zero] at hs0
      obtain ⟨cs2, t2, hb2, hc2⟩ := locC hT hz
      rw [hb] at hb2
      cases hb2
      rw [hc2] at hs0
      cases hs0
      rfl
    · rename_i hk
      rw [hk] at h2
      simp only at h2
      rw [← eqC_ok h2, wfC_den h1 x hw.1, wfC_den h0 x hw.1]
theorem genB_len (h : St) (L : LL) : ∀ (b : Nat) (l : List Blk), (genB h L b l).length = l.length
  | _, [] => rfl
  | b, ⟨cs, t, none⟩ :: l => by simp [genB, genB_len h L (b + 1) l]
  | b, ⟨cs, t, some q⟩ :: l => by simp [genB, genB_len h L (b + 1) l]
/-- A block, as it is laid anew. -/
theorem genB_at {n0 n n1 : Env} (h0 : Ext n0 n) (h1 : Ext n0 n1) {h s : St} {L : LL} (hv : HeadV n n1 h s L) {o : Nat → Option Obj} : ∀ (xs ys : List Blk) (b : Nat), chkB L b xs ys = true → xs.all (wfBlk (nz n0)) = true →
    Stat xs ys → (∀ j, s.bs[b + j]? = ys[j]?) → (∀ (j : Nat) (y : Blk), ys[j]? = some y → y.at n (o j)) →
    ∀ (j : Nat) (y : Blk), (genB h L b xs)[j]? = some y → y.at n1 (o j)
  | [], ys, b, hc, hw, hst, hs, ho, j, y, hj => by simp [genB] at hj
  | x :: xs, [], b, hc, hw, hst, hs, ho, j, y, hj => by
    obtain ⟨cs, t, kd⟩ := x
    rcases kd with _ | (_ | _ | _) <;> simp [chkB] at hc
  | x :: xs, y' :: ys, b, hc, hw, hst, hs, ho, j, y, hj => by
    simp only [List.all_cons, Bool.and_eq_true] at hw
    have hst' : Stat xs ys := fun j c t st pe tm ps a b d hj => hst (j + 1) c t st pe tm ps a b d (by simpa using hj)
    have tail : chkB L (b + 1) xs ys = true → ∀ (j : Nat) (y : Blk), (genB h L (b + 1) xs)[j]? = some y → y.at n1 (o (j + 1)) := fun h2 =>
      genB_at h0 h1 hv (o := fun j => o (j + 1)) xs ys (b + 1) h2 hw.2 hst' (fun j => by
        have := hs (j + 1)
        rw [show b + 1 + j = b + (j + 1) by omega, this]; simp) (fun j y hj => ho (j + 1) y (by simpa using hj))
    obtain ⟨cs, t, kd⟩ := x
    obtain ⟨cs', t', kd'⟩ := y'
    cases kd with
    | none =>
      cases kd' with
      | some q => simp [chkB] at hc
      | none =>
        simp only [chkB, Bool.and_eq_true] at hc
        simp only [genB] at hj
        cases j with
        | succ j => simp only [List.getElem?_cons_succ] at hj; exact tail hc.2 j y hj
        | zero =>
          simp only [List.getElem?_cons_zero, Option.some.injEq] at hj
          subst hj
          have h3 := ho 0 _ rfl
          simp only [Blk.at, Blk.obj] at h3 ⊢
          rw [h3, Nat.eq_of_beq_eq_true hc.1.1]
          have hwc := hw.1
          simp only [wfBlk, Bool.and_true] at hwc
          have hsb := hs 0
          simp only [Nat.add_zero, List.getElem?_cons_zero] at hsb
          rw [genC_den h0 h1 hv hsb cs cs' 0 hc.1.2 hwc fun j => by rw [Nat.zero_add]]
    | some q =>
      have hj' : (⟨cs, t, some q⟩ :: genB h L (b + 1) xs)[j]? = some y := by simpa [genB] using hj
      have fin : chkB L (b + 1) xs ys = true → (⟨cs, t, some q⟩ : Blk).at n1 (o 0) → y.at n1 (o j) := fun h2 h3 => by
        cases j with
        | succ j => simp only [List.getElem?_cons_succ] at hj'; exact tail h2 j y hj'
        | zero => simp only [List.getElem?_cons_zero, Option.some.injEq] at hj'; subst hj'; exact h3
      have hwq : wfBlk (nz n0) ⟨cs, t, some q⟩ = true := hw.1
      cases q with
      | gone =>
        refine fin (by simpa only [chkB] using hc) ?_
        exact Blk.at_some (ho 0 _ rfl)
      | dfr d =>
        cases kd' with
        | none => simp [chkB] at hc
        | some q' =>
          cases q' with
          | loop => simp [chkB] at hc
          | gone => simp [chkB] at hc
          | dfr d' =>
            simp only [chkB, Bool.and_eq_true, beq_iff_eq] at hc
            refine fin hc.2 ?_
            have h3 := ho 0 _ rfl
            rw [← hc.1] at h3
            obtain ⟨fn, h4⟩ := h3
            refine ⟨fn, ?_⟩
            rw [h4]
            cases d <;> rfl
      | loop st pe tm ps a bd d =>
        cases kd' with
        | none => cases pe <;> simp [chkB] at hc
        | some q' =>
          cases q' with
          | dfr => cases pe <;> simp [chkB] at hc
          | gone => cases pe <;> simp [chkB] at hc
          | loop st' pe' tm' ps' a' bd' d' =>
            cases pe with
            | some c => simp [chkB] at hc
            | none =>
              cases pe' with
              | some c => simp [chkB] at hc
              | none =>
                simp only [chkB, Bool.and_eq_true] at hc
                refine fin hc.2 ?_
                have h3 := ho 0 _ rfl
                obtain ⟨c2, t2, st2, pe2, h4⟩ := hst 0 cs t st none tm ps a bd d rfl
                simp only [List.getElem?_cons_zero, Option.some.injEq] at h4
                injection h4 with e1 e2 e3
                injection e3 with e3
                injection e3 with f1 f2 f3 f4 f5 f6 f7
                subst f3 f4 f5 f6 f7
                rw [(wfBlk_at h1 _ _ hwq), ← wfBlk_at h0 _ _ hwq]
                rw [← Nat.eq_of_beq_eq_true hc.1] at h3
                exact h3
def findLp : List Con → Option Nat → Nat → Nat → Option (Nat × Con × Lp)
  | [], _, _, _ => none
  | c :: l, id, nt, k => match c.lp, id with
    | some p, some i => if Nat.beq p.id i && Nat.beq p.nt nt then some (k, c, p) else findLp l id nt (k + 1)
    | _, _ => findLp l id nt (k + 1)
theorem findLp_ok : ∀ {C : List Con} {id : Option Nat} {nt k i : Nat} {c : Con} {p : Lp}, findLp C id nt k = some (i, c, p) → k ≤ i ∧ C[i - k]? = some c
  | [], _, _, _, _, _, _, h => by cases h
  | x :: l, id, nt, k, i, c, p, h => by
    have next : findLp l id nt (k + 1) = some (i, c, p) → k ≤ i ∧ (x :: l)[i - k]? = some c := fun h => by
      have ⟨h1, h2⟩ := findLp_ok h
      refine ⟨by omega, ?_⟩
      rw [show i - k = (i - (k + 1)) + 1 by omega]; simpa using h2
    simp only [findLp] at h
    split at h
    · split at h
      · cases h; exact ⟨Nat.le_refl _, by simp⟩
      · exact next h
    · exact next h
end Go.Dx

/- A symbolic executor: loops with an invariant: a round's end is as the head is. -/
namespace Go.Dx
open Go.RowKit
set_option linter.unusedVariables false
set_option linter.unusedSimpArgs false
theorem nestD_mono {w : World} {S S' : Nat → Prop} (h : ∀ b, S b → S' b) {T : Sh} {d : DV} (hf : T.fine = true) (hs : HasSh T d) (k : NestD w S T d) : NestD w S' T d := by
  cases T with
  | sl mx row =>
    simp only [NestD, HasSh, Sh.fine, Bool.and_eq_true] at *
    exact Nest.keep k hf.1.2 hs.2 fun b hb _ => ⟨rfl, h b hb⟩
  | _ => simp only [NestD]
/-- The slices of the head. -/
theorem DatOk.inst {N : Nat} {w0 wh w : World} {n0 n n1 : Env} {h s : St} {a0 a : Act} {L : LL} {B : List VD} {ys : List DV} {ds : List Nat} (h0 : Rep N w0 n0 h a0 wh) (hr : Rep N w0 n s a w) (he : Ext n0 n) (hc : chkS L ds B h s = true) (hv : LocsOk N n s w h L B ys)
    (hr1 : n1.r = n0.r ++ (ys ++ List.replicate h.tmps.length (.n 0))) (hv1 : n1.v = n0.v ++ hsOf n s L) (hb1 : n1.b = n0.b) (hf1 : n1.f = n0.f) :
    DatOk N n1 (cat h.bnd (B ++ List.replicate h.tmps.length (.i 0 0))) (headAr h L B ++ newA L B h.bnd.v.length) w := by
  simp only [chkS, Bool.and_eq_true] at hc
  obtain ⟨⟨⟨_, _⟩, _, hLB⟩, ⟨hkH, hkV⟩, hkO⟩ := hc
  have hLB := Nat.eq_of_beq_eq_true hLB
  obtain ⟨yl, bl, hin⟩ := hv.len
  have hlr : n0.r.length = h.bnd.v.length := h0.lens.1
  have hlv : n0.v.length = h.ar.length := h0.dat.len
  have hhl : (headAr h L B).length = h.ar.length := killAll_len _ _
  have hp1 : n0.r <+: n1.r := by rw [hr1]; exact List.prefix_append _ _
  have hpv : n0.v <+: n1.v := by rw [hv1]; exact List.prefix_append _ _
  have hyget : ∀ k y, ys[k]? = some y → n1.r.getD (h.bnd.v.length + k) (.n 0) = y := fun k y hk => by
    rw [hr1, ← hlr, List.getD_eq_getElem?_getD, List.getElem?_append_right (by omega), Nat.add_sub_cancel_left, List.getElem?_append_left (List.getElem?_eq_some_iff.1 hk).1, hk]; rfl
  have hsold : ∀ i, i < h.ar.length → n1.sv i = n0.sv i := fun i hi => Env.sv_pre hpv (by rw [hlv]; exact hi)
  have hsold' : ∀ i, i < h.ar.length → n.sv i = n0.sv i := fun i hi => Env.sv_pre he.v (by rw [hlv]; exact hi)
  have hsnew : ∀ i v, (hsOf n s L)[i]? = some v → n1.sv (h.ar.length + i) = svOf v := fun i v hi => by
    unfold Env.sv
    rw [hv1, ← hlv, List.getD_eq_getElem?_getD, List.getElem?_append_right (by omega), Nat.add_sub_cancel_left, hi]; rfl
  -- old slices that live
  have old : ∀ (i : Nat) (b : Ar), (headAr h L B)[i]? = some b → b.st ≠ .dead → h.ar[i]? = some b ∧ s.ar[i]? = some b ∧ i < h.ar.length ∧ b.ct.els n1.r = b.ct.els n.r ∧ b.len.den n1.r = b.len.den n.r := fun i b hi hd => by
    obtain ⟨h1, _⟩ := killAll_ok hi hd
    have hw := List.all_eq_true.1 h0.dat.wf b (List.mem_of_getElem? h1)
    simp only [wfAr, Bool.and_eq_true] at hw
    refine ⟨h1, keepsH_ok hkH hi hd, (List.getElem?_eq_some_iff.1 h1).1, ?_, ?_⟩
    · rw [wfCt_den hp1 b.ct hw.1, wfCt_den he.r b.ct hw.1]
    · rw [wfE_den hp1 b.len hw.2, wfE_den he.r b.len hw.2]
  -- new slices
  have new : ∀ (i : Nat) (b : Ar), (newA L B h.bnd.v.length)[i]? = some b → b.st ≠ .dead → ∃ k l own ety mx y z, L[k]? = some (l, .sl own ety) ∧ slN L k = i ∧ b.st = (match own with | true => .own | false => .frz) ∧ b.ety = ety ∧ locK s l = some z ∧ svOf (z.den n) = z.den n ∧ n1.sv (h.ar.length + i) = z.den n ∧ (Sh.sl mx b.row).fine = true ∧ HasSh (.sl mx b.row) y ∧ b.ct.els n1.r = y.els ∧ b.len.den n1.r = (y.els.length : Int) ∧
      B[k]? = some (.d (.sl mx b.row)) ∧ Nest w (fun g => ¬ Owned n s.ar g) b.row y.els ∧ (own = true → (∃ po r, baseK s ety b.row z = some (po, r) ∧ baseP n s (z.den n) po) ∧ w.ownsRow N ety b.row.length (z.den n) y.els.length (flatV b.row y.els)) ∧ (own = false → LaidAt w (fun g => ¬ Owned n s.ar g) (z.den n) b.row y.els) ∧ wfAr n1.r.length b = true := fun i b hi hd => by
    obtain ⟨k, l, own, ety, mx, row, h1, h2, h3, h4⟩ := newA_get hLB hi hd
    subst h4
    obtain ⟨bb, y, g1, g2, z, g3, g4, mx', row', g5, g6, g7, g8, g9⟩ := hv.get h1
    rw [h2] at g1
    simp only [Option.some.injEq] at g1
    subst g1
    simp only [VD.d.injEq, Sh.sl.injEq] at g5
    obtain ⟨rfl, rfl⟩ := g5
    have hd' : (E.var (h.bnd.v.length + k)).dat n1.r = y := hyget k y g2
    have hs := g4.1
    simp only [HasSh] at hs
    have hfi := g6
    simp only [Sh.fine, Bool.and_eq_true] at hfi
    have hkl : k < ys.length := (List.getElem?_eq_some_iff.1 g2).1
    have hwf : Nat.blt (h.bnd.v.length + k) n1.r.length = true := by
      rw [hr1, List.length_append, List.length_append, hlr]
      exact Nat.ble_eq_true_of_le (by omega)
    refine ⟨k, l, own, ety, mx, y, z, h1, h3, rfl, rfl, g3, g7, ?_, g6, g4.1, ?_, ?_, h2, g8, fun ho => ?_, fun ho => ?_, ?_⟩
    · rw [← h3, hsnew _ _ (hsOf_get h1 g3), g7]
    · show ((E.var (h.bnd.v.length + k)).dat n1.r).els = _
      rw [hd']
    · simp only [E.den, hd', DV.len]
      exact clampL_eq (Nat.le_trans hs.1 (Nat.le_of_ble_eq_true hfi.2))
    · subst ho; exact g9
    · subst ho; exact g9
    · simp only [wfAr, wfCt, wfE, hwf, Bool.and_self]
  have split : ∀ (i : Nat) (b : Ar), (headAr h L B ++ newA L B h.bnd.v.length)[i]? = some b → ((headAr h L B)[i]? = some b) ∨ (∃ j, i = h.ar.length + j ∧ (newA L B h.bnd.v.length)[j]? = some b) := fun i b hi => by
    rw [List.getElem?_append] at hi
    split at hi
    · exact .inl hi
    · rename_i hge; rw [hhl] at hge hi; exact .inr ⟨i - h.ar.length, by omega, hi⟩
  have hO : ∀ g, Owned n1 (headAr h L B ++ newA L B h.bnd.v.length) g → Owned n s.ar g := fun g hg => by
    rcases hg with hg | ⟨i, b, hi, hb, hg⟩
    · rw [hb1, hf1, ← he.f] at hg
      exact .inl (hg.imp (fun hg => he.b.subset hg) id)
    · rcases split i b hi with hi' | ⟨j, rfl, hi'⟩
      · obtain ⟨_, o2, o3, _, _⟩ := old i b hi' (by rw [hb]; simp)
        rw [hsold i o3, ← hsold' i o3] at hg
        exact .inr ⟨i, b, o2, hb, hg⟩
      · obtain ⟨k, l, own, ety, mx, y, z, q1, q2, q3, q4, q5, q6, q7, q8, q9, q10, q11, q12, q13, q14, q15, q16⟩ := new j b hi' (by rw [hb]; simp)
        rw [q7] at hg
        cases own with
        | false => rw [q3] at hb; cases hb
        | true =>
          obtain ⟨⟨po, r, t1, t2⟩, _⟩ := q14 rfl
          cases po with
          | none => rw [show z.den n = .slice none 0 0 from t2] at hg; cases hg
          | some p => obtain ⟨c, u1, u2, u3⟩ := t2; exact .inr ⟨p, c, u1, u2, by rw [← u3]; exact hg⟩
  have hS : ∀ b, ¬ Owned n s.ar b → ¬ Owned n1 (headAr h L B ++ newA L B h.bnd.v.length) b := fun b hb hb' => hb (hO b hb')
  have ownNew : ∀ (j : Nat) (b : Ar) (g : Nat), (newA L B h.bnd.v.length)[j]? = some b → b.st = .own → (n1.sv (h.ar.length + j)).ownBlock = some g → ∃ k l ety mx row z p c r, L[k]? = some (l, .sl true ety) ∧ slN L k = j ∧ B[k]? = some (.d (.sl mx row)) ∧ locK s l = some z ∧ baseK s ety row z = some (some p, r) ∧ s.ar[p]? = some c ∧ c.st = .own ∧ (n.sv p).ownBlock = some g := fun j b g hi hb hg => by
    obtain ⟨k, l, own, ety, mx, y, z, q1, q2, q3, q4, q5, q6, q7, q8, q9, q10, q11, q12, q13, q14, q15, q16⟩ := new j b hi (by rw [hb]; simp)
    rw [q7] at hg
    cases own with
    | false => rw [q3] at hb; cases hb
    | true =>
      obtain ⟨⟨po, r, t1, t2⟩, _⟩ := q14 rfl
      cases po with
      | none => rw [show z.den n = .slice none 0 0 from t2] at hg; cases hg
      | some p => obtain ⟨c, u1, u2, u3⟩ := t2; exact ⟨k, l, ety, mx, b.row, z, p, c, r, q1, q2, q12, q5, t1, u1, u2, by rw [← u3]; exact hg⟩
  simp only [chkO, Bool.and_eq_true] at hkO
  refine ⟨?_, ?_, fun i b hi => ?_, fun i j b c g hi hj hb hcs hg1 hg2 => ?_, fun i b g hi hb hg => ?_, fun i S hSh => ?_, by rw [hf1]; exact h0.dat.fb⟩
  · rw [hv1, List.length_append, List.length_append, hhl, hlv, newA_len hLB]
  · rw [List.all_append, Bool.and_eq_true]
    refine ⟨List.all_eq_true.2 fun b hb => wfAr_mono hp1.length_le b (List.all_eq_true.1 (killAll_wf h0.dat.wf) b hb), List.all_eq_true.2 fun b hb => ?_⟩
    obtain ⟨i, hi⟩ := List.mem_iff_getElem?.1 hb
    by_cases hd : b.st = .dead
    · -- a dead one names nothing
      have gen : ∀ (L : LL) (B : List VD) (v : Nat), L.length = B.length → v + L.length ≤ n1.r.length → (newA L B v).all (wfAr n1.r.length) = true := by
        intro L
        induction L with
        | nil => intro B v _ _; simp [newA]
        | cons x L ih =>
          intro B v hl hv
          cases B with
          | nil => simp at hl
          | cons c B =>
            obtain ⟨lo, tn⟩ := x
            simp only [List.length_cons] at hl hv
            have ih' := ih B (v + 1) (by omega) (by omega)
            cases tn with
            | int => simp only [newA]; exact ih'
            | sl o e =>
              cases c with
              | i p q => simp only [newA, List.all_cons, ih', Bool.and_true]; rfl
              | d S => cases S with
                | sl mx row =>
                  simp only [newA, List.all_cons, ih', Bool.and_true, wfAr, wfCt, wfE]
                  have : Nat.blt v n1.r.length = true := Nat.ble_eq_true_of_le (by omega)
                  simp only [this, Bool.and_self]
                | _ => simp only [newA, List.all_cons, ih', Bool.and_true]; rfl
      refine List.all_eq_true.1 (gen L B h.bnd.v.length hLB ?_) b hb
      rw [hr1, List.length_append, List.length_append, hlr, yl]
      omega
    · obtain ⟨k, l, own, ety, mx, y, z, q1, q2, q3, q4, q5, q6, q7, q8, q9, q10, q11, q12, q13, q14, q15, q16⟩ := new i b hi hd
      exact q16
  · by_cases hd : b.st = .dead
    · unfold EntOk; rw [hd]; trivial
    rcases split i b hi with hi' | ⟨j, rfl, hi'⟩
    · obtain ⟨o1, o2, o3, o4, o5⟩ := old i b hi' hd
      have hes := hr.dat.ent i b o2
      have heh := h0.dat.ent i b o1
      have hsi : n1.sv i = n.sv i := by rw [hsold i o3, hsold' i o3]
      have hent : Ent n s.ar w b → Ent n1 (headAr h L B ++ newA L B h.bnd.v.length) w b := fun hE =>
        ⟨hE.fine, by rw [o4]; exact hE.shp, by rw [o4, o5]; exact hE.len, by rw [o4]; exact hE.nest.keep hE.fine hE.shp.2 fun b hb _ => ⟨rfl, hS b hb⟩⟩
      unfold EntOk at hes heh ⊢
      cases hst : b.st with
      | dead => exact absurd hst hd
      | frz =>
        rw [hst] at hes
        simp only at hes ⊢
        exact ⟨hent hes.1, by rw [hsi, o4]; exact hes.2.mono hS⟩
      | full =>
        rw [hst] at hes
        simp only at hes ⊢
        exact ⟨hent hes.1, by rw [hsi, o4]; exact hes.2.1.mono hS, by rw [hsi]; exact hes.2.2⟩
      | told e =>
        rw [hst] at hes heh
        simp only at hes heh ⊢
        refine ⟨hent hes.1, by rw [hsi, o4]; exact hes.2.1.mono hS, wfE_mono hp1.length_le e heh.2.2.1, ?_⟩
        rw [wfE_dat hp1 e heh.2.2.1, hsold i o3]
        exact heh.2.2.2
      | own =>
        rw [hst] at hes
        simp only at hes ⊢
        exact ⟨hent hes.1, by rw [hsi, o4]; exact hes.2⟩
      | view p pre =>
        rw [hst] at hes heh
        simp only at hes heh ⊢
        obtain ⟨e1, e2, q, e3, e4, e5⟩ := hes
        obtain ⟨_, _, q0, f3, f4, _⟩ := heh
        have hpl : p < h.ar.length := (List.getElem?_eq_some_iff.1 f3).1
        obtain ⟨_, hk2⟩ := killAll_ok hi' hd
        have hpn : p ∉ (ownL h L B).filterMap id := fun hm => by
          have := hk2 p ⟨pre, hst⟩ hm
          rw [this] at f3; cases f3
        have hq0 : (headAr h L B)[p]? = some q0 := killAll_own f3 f4 hpn
        obtain ⟨_, p2, _, p4, _⟩ := old p q0 hq0 (by rw [f4]; simp)
        rw [e3] at p2
        cases p2
        have hsp : n1.sv p = n.sv p := by rw [hsold p hpl, hsold' p hpl]
        refine ⟨hent e1, ?_, q, by rw [List.getElem?_append_left (by rw [hhl]; exact hpl)]; exact hq0, e4, ?_⟩
        · rw [hsi, hsp, o4]
          refine e2.mono fun b hb => ?_
          rcases hb with hb | hb
          · exact .inl (hS b hb)
          · exact .inr hb
        · rw [hsi, hsp, o4, p4]; exact e5
    · obtain ⟨k, l, own, ety, mx, y, z, q1, q2, q3, q4, q5, q6, q7, q8, q9, q10, q11, q12, q13, q14, q15, q16⟩ := new j b hi' hd
      have hfi := q8
      simp only [Sh.fine, Bool.and_eq_true, Bool.not_eq_true', List.isEmpty_eq_false_iff] at hfi
      have hs := q9
      simp only [HasSh] at hs
      have hent : Ent n1 (headAr h L B ++ newA L B h.bnd.v.length) w b :=
        ⟨hfi.1.2, by rw [q10]; exact ⟨hfi.1.1, hs.2⟩, by rw [q10, q11], by rw [q10]; exact q13.keep hfi.1.2 hs.2 fun b hb _ => ⟨rfl, hS b hb⟩⟩
      unfold EntOk
      rw [q3, q7, q10]
      cases own with
      | true => simp only; exact ⟨hent, by rw [q4]; exact (q14 rfl).2⟩
      | false => simp only; exact ⟨hent, (q15 rfl).mono hS⟩
  · have hbd : b.st ≠ .dead := by rw [hb]; simp
    have hcd : c.st ≠ .dead := by rw [hcs]; simp
    have cross : ∀ (i : Nat) (b : Ar) (j : Nat) (c : Ar) (g : Nat), (headAr h L B)[i]? = some b → b.st = .own → (newA L B h.bnd.v.length)[j]? = some c → c.st = .own → (n1.sv i).ownBlock = some g → (n1.sv (h.ar.length + j)).ownBlock = some g → False := fun i b j c g hi hb hj hcs hg1 hg2 => by
      obtain ⟨_, o2, o3, _, _⟩ := old i b hi (by rw [hb]; simp)
      rw [hsold i o3, ← hsold' i o3] at hg1
      obtain ⟨k, l, ety, mx, row, z, p, d, r, t1, t2, t3, t4, t5, t6, t7, t8⟩ := ownNew j c g hj hcs hg2
      have := hr.dat.dis i p b d g o2 t6 hb t7 hg1 t8
      subst this
      have hget := ownL_get t1 t3 t4 t5
      have := List.all_eq_true.1 hkO.2 _ (List.mem_of_getElem? hget)
      simp only [deadAt, hi] at this
      have h2 := isDead_of (a := b) (by rw [hb]; simp)
      rw [h2] at this
      cases this
    rcases split i b hi with hi' | ⟨i', rfl, hi'⟩ <;> rcases split j c hj with hj' | ⟨j', rfl, hj'⟩
    · obtain ⟨_, o2, o3, _, _⟩ := old i b hi' hbd
      obtain ⟨_, p2, p3, _, _⟩ := old j c hj' hcd
      rw [hsold i o3, ← hsold' i o3] at hg1
      rw [hsold j p3, ← hsold' j p3] at hg2
      exact hr.dat.dis i j b c g o2 p2 hb hcs hg1 hg2
    · exact (cross i b j' c g hi' hb hj' hcs hg1 hg2).elim
    · exact (cross j c i' b g hj' hcs hi' hb hg2 hg1).elim
    · obtain ⟨k, l, ety, mx, row, z, p, d, r, t1, t2, t3, t4, t5, t6, t7, t8⟩ := ownNew i' b g hi' hb hg1
      obtain ⟨k', l', ety', mx', row', z', p', d', r', u1, u2, u3, u4, u5, u6, u7, u8⟩ := ownNew j' c g hj' hcs hg2
      have := hr.dat.dis p p' d d' g t6 u6 t7 u7 t8 u8
      subst this
      have e := nodupO_ok hkO.1 (ownL_get t1 t3 t4 t5) (ownL_get u1 u3 u4 u5)
      subst e
      rw [← t2, ← u2]
  · rw [hb1]
    intro hm
    rcases split i b hi with hi' | ⟨j, rfl, hi'⟩
    · obtain ⟨_, o2, o3, _, _⟩ := old i b hi' (by rw [hb]; simp)
      rw [hsold i o3, ← hsold' i o3] at hg
      exact hr.dat.disb i b g o2 hb hg (he.b.subset hm)
    · obtain ⟨k, l, ety, mx, row, z, p, d, r, t1, t2, t3, t4, t5, t6, t7, t8⟩ := ownNew j b g hi' hb hg
      exact hr.dat.disb p d g t6 t7 t8 (he.b.subset hm)
  · simp only [cat] at hSh
    rw [List.getElem?_append] at hSh
    split at hSh
    · rename_i hlt
      have hsb := keepsV_ok hkV i S hSh
      obtain ⟨p1, p2⟩ := hr.dat.perm i S hsb
      have hlt0 : i < n0.r.length := by rw [hlr]; exact hlt
      have e1 : n1.r.getD i (.n 0) = n.r.getD i (.n 0) := by rw [getD_prefix hp1 hlt0, getD_prefix he.r hlt0]
      refine ⟨p1, ?_⟩
      rw [e1]
      have hvok := hr.bnd.vok i
      rw [List.getD_eq_getElem?_getD, hsb] at hvok
      exact nestD_mono hS p1 hvok.1 p2
    · rename_i hge
      rw [List.getElem?_append] at hSh
      split at hSh
      · rename_i hlt
        have hkL : i - h.bnd.v.length < L.length := by rw [hLB]; exact hlt
        obtain ⟨bb, y, g1, g2, z, g3, g4, g5⟩ := hv.get (List.getElem?_eq_getElem hkL)
        rw [hSh] at g1
        cases g1
        have hy := hyget _ _ g2
        rw [show h.bnd.v.length + (i - h.bnd.v.length) = i by omega] at hy
        rw [hy]
        revert g5
        cases (L[i - h.bnd.v.length]'hkL).2 with
        | int => intro g5; obtain ⟨⟨_, _, g6⟩, _⟩ := g5; cases g6
        | sl own ety =>
          intro g5
          obtain ⟨mx, row, g6, g7, _, g8, _⟩ := g5
          cases g6
          exact ⟨g7, nestD_mono hS g7 g4.1 (by simp only [NestD]; exact g8)⟩
      · rename_i hge2
        rw [List.getElem?_replicate] at hSh
        split at hSh
        · cases hSh
        · cases hSh
end Go.Dx

/- A symbolic executor: loops; code. -/
namespace Go.Dx
open Go.RowKit
set_option linter.unusedVariables false
set_option linter.unusedSimpArgs false
theorem inB_app : ∀ {ys zs : List DV} {a b : List VD}, inB ys a → inB zs b → inB (ys ++ zs) (a ++ b)
  | [], zs, [], b, _, h => h
  | y :: ys, zs, x :: a, b, h, k => by simp only [inB, List.cons_append] at *; exact ⟨h.1, inB_app h.2 k⟩
  | [], _, _ :: _, _, h, _ => by simp only [inB] at h
  | _ :: _, _, [], _, h, _ => by simp only [inB] at h
theorem inB_zero : ∀ (m : Nat), inB (List.replicate m (.n 0)) (List.replicate m (.i 0 0))
  | 0 => by simp only [List.replicate_zero, inB]
  | m + 1 => by simp only [List.replicate_succ, inB]; exact ⟨⟨0, rfl, Int.le_refl _, Int.le_refl _⟩, inB_zero m⟩
theorem inB_len : ∀ {ys : List DV} {a : List VD}, inB ys a → ys.length = a.length
  | [], [], _ => rfl
  | y :: ys, x :: a, h => by simp only [inB] at h; simp [inB_len h.2]
  | [], _ :: _, h => by simp only [inB] at h
  | _ :: _, [], h => by simp only [inB] at h
theorem chkT_len {sb : Bnd} {L : LL} {ds : List Nat} : ∀ (xs ys : List SV) (i : Nat), chkT sb L ds i xs ys = true → xs.length = ys.length
  | [], [], _, _ => rfl
  | [], _ :: _, _, h => by cases h
  | _ :: _, [], _, h => by cases h
  | x :: xs, y :: ys, i, h => by
    simp only [chkT, Bool.and_eq_true] at h
    simp [chkT_len xs ys (i + 1) h.2]
/-- A state that is as the head of the loop is, with other data. -/
theorem Rep.inst {N : Nat} {w0 : World} {n0 n : Env} {h s : St} {a0 a : Act} {wh w : World} {L : LL} {ds : List Nat} {ys : List DV} {B : List VD} (h0 : Rep N w0 n0 h a0 wh) (hw : wfSt h = true) (hr : Rep N w0 n s a w) (he : Ext n0 n)
    (hc : chkS L ds B h s = true) (hst : Stat h.bs s.bs) (hv : LocsOk N n s w h L B ys) :
    ∃ n1, Ext n0 n1 ∧ n1.r = n0.r ++ (ys ++ List.replicate h.tmps.length (.n 0)) ∧ n1.b = n0.b ∧ Rep N w0 n1 (genS L ds B h) a w := by
  have hc' := hc
  simp only [wfSt, Bool.and_eq_true] at hw
  rw [← h0.nz] at hw
  have hdf : (h.df.all fun d => Nat.blt d n0.b.length) = true := by rw [h0.lens.2]; exact hw.2
  simp only [chkS, Bool.and_eq_true] at hc
  obtain ⟨⟨⟨hcT, hcB⟩, hcD, hLB⟩, _⟩ := hc
  have hLB := Nat.eq_of_beq_eq_true hLB
  have hlt := chkT_len _ _ _ hcT
  obtain ⟨yl, bl, hin⟩ := hv.len
  have hat : a.tmps.toList.length = h.tmps.length := by rw [hr.tmps]; simp [hlt]
  have hus : (n0.u ++ (List.replicate ys.length undef ++ a.tmps.toList)).length = (n0.r ++ (ys ++ List.replicate h.tmps.length (DV.n 0))).length := by
    simp only [List.length_append, List.length_replicate, hat, n0.hu]
  have hex : ∃ n1 : Env, n1.r = n0.r ++ (ys ++ List.replicate h.tmps.length (.n 0)) ∧ n1.v = n0.v ++ hsOf n s L ∧ n1.b = n0.b ∧ n1.u = n0.u ++ (List.replicate ys.length undef ++ a.tmps.toList) ∧ n1.f = n0.f := ⟨⟨n0.r ++ (ys ++ List.replicate h.tmps.length (.n 0)), n0.v ++ hsOf n s L, n0.b, n0.u ++ (List.replicate ys.length undef ++ a.tmps.toList), n0.f, hus⟩, rfl, rfl, rfl, rfl, rfl⟩
  obtain ⟨n1, er, ev, eb, eu, ef⟩ := hex
  have hx : Ext n0 n1 := ⟨by rw [ev]; exact List.prefix_append _ _, by rw [er]; exact List.prefix_append _ _, by rw [eb]; exact List.prefix_refl _, by rw [eu]; exact List.prefix_append _ _, ef⟩
  have hdat := DatOk.inst (n1 := n1) h0 hr he hc' hv er ev eb ef
  have hlr : n0.r.length = h.bnd.v.length := h0.lens.1
  have hyget : ∀ k y, ys[k]? = some y → n1.r.getD (h.bnd.v.length + k) (.n 0) = y := fun k y hk => by
    rw [er, ← hlr, List.getD_eq_getElem?_getD, List.getElem?_append_right (by omega), Nat.add_sub_cancel_left, List.getElem?_append_left (List.getElem?_eq_some_iff.1 hk).1, hk]; rfl
  have hhead : HeadV n n1 h s L := fun k l tn hL => by
    obtain ⟨b, y, g1, g2, z, g3, g4, g5⟩ := hv.get hL
    refine ⟨z, g3, ?_⟩
    cases tn with
    | int =>
      obtain ⟨_, g6⟩ := g5
      rcases g6 with ⟨kk, e, g6, g7⟩ | ⟨q, g6, g7⟩
      · rw [show headK h L k = .int kk (.var (h.bnd.v.length + k)) from by simp only [headK, hL, g6], g7]
        show Value.int kk (n1.r.getD (h.bnd.v.length + k) (.n 0)).int = _
        rw [hyget k y g2]
      · rw [show headK h L k = .bool (.not (.eq (.var (h.bnd.v.length + k)) (.lit 0))) from by simp only [headK, hL, g6], g7]
        show Value.bool (!(decide ((n1.r.getD (h.bnd.v.length + k) (.n 0)).int = 0))) = _
        rw [hyget k y g2]
    | sl own ety =>
      obtain ⟨mx, row, _, _, g7, _⟩ := g5
      simp only [headK, hL]
      show n1.sv (h.ar.length + slN L k) = _
      unfold Env.sv
      rw [ev, ← h0.dat.len, List.getD_eq_getElem?_getD, List.getElem?_append_right (by omega), Nat.add_sub_cancel_left, hsOf_get hL g3]
      exact g7
  refine ⟨n1, hx, er, eb, ?_, ?_, hdat, hr.below, ?_⟩
  · rw [er]; exact cat_ok h0.bnd (inB_bnd (inB_app hin (inB_zero _)))
  · have pre : ∀ i x, n1.b[i]? = some x → n.b[i]? = some x := fun i x hi => by
      rw [eb] at hi
      obtain ⟨t, ht⟩ := he.b
      rw [← ht, List.getElem?_append_left (List.getElem?_eq_some_iff.1 hi).1]; exact hi
    have key := genB_at he hx hhead (o := fun j => w.heap[n.b.getD j 0]?) h.bs s.bs 0 hcB hw.1.2 hst (fun j => by rw [Nat.zero_add]) (fun j y hj => (hr.mem.2.2 j y hj).2)
    refine ⟨by rw [show (genS L ds B h).bs = genB h L 0 h.bs from rfl, genB_len, eb, h0.lens.2], fun i j x hi hj => hr.mem.2.1 i j x (pre i x hi) (pre j x hj), fun i b hi => ?_⟩
    have hi : (genB h L 0 h.bs)[i]? = some b := hi
    have hlt : i < h.bs.length := by rw [← genB_len h L 0]; exact (List.getElem?_eq_some_iff.1 hi).1
    have hlt0 : i < n0.b.length := by rw [h0.lens.2]; exact hlt
    have e : n.b.getD i 0 = n1.b.getD i 0 := by rw [eb]; exact getD_prefix he.b hlt0 0
    rw [← e]
    refine ⟨?_, key i b hi⟩
    have hls : s.bs[i]? ≠ none := fun hn => by
      have h2 := hr.mem.1
      have h3 := he.b.length_le
      have := List.getElem?_eq_none_iff.1 hn
      omega
    cases hq : s.bs[i]? with
    | none => exact absurd hq hls
    | some y => exact (hr.mem.2.2 i y hq).1
  · have ea : a.tmps = ((genT h L ds 0 h.tmps).map (SV.den n1)).toArray := by
      refine hr.tmps.trans ?_
      congr 1
      refine (genT_den he hx hr.bnd hhead h.tmps s.tmps 0 hcT hw.1.1 (fun j => by rw [Nat.zero_add]) (fun j y hj => ?_)).symm
      have e1 : (a.tmps.toList)[j]? = some (y.den n) := by rw [hr.tmps]; simp [hj]
      rw [eu, ← hlr, ← n0.hu, List.getD_eq_getElem?_getD, List.getElem?_append_right (by omega), List.getElem?_append_right (by simp; omega)]
      simp only [List.length_replicate]
      rw [show n0.u.length + (L.length + (0 + j)) - n0.u.length - ys.length = j by omega, e1]
      rfl
    have ed : a.defers = (h.df.map fun b => ({ target := .collected (n1.b.getD b 0), args := #[] } : Deferred)) := by
      have h2 : a.defers = s.df.map fun b => ({ target := .collected (n.b.getD b 0), args := #[] } : Deferred) := by rw [hr.act]
      rw [h2, eqNs_ok hcD, wfDf he h.df hdf, wfDf hx h.df hdf]
    simp only [genS]
    rw [← ea, ← ed]
def loopI (ex : Ex) (ro : Option Nat) (body : Code) (s : St) (i : Nat) (c : Con) (p : Lp) (ds : List Nat) : T (X × St) :=
  if wfSt s then
    valsT s s s p.locs c.bnd fun xs s1 => fSt { s with bnd := s1.bnd } fun h =>
      if wfSt h && chkS p.locs ds c.bnd h h then
        .lop i xs h.tmps.length ((fSt (genS p.locs ds c.bnd h) (ex ro body)).bind fun q => match q.1 with
          | .nrm => if wfSt q.2 then valsT h q.2 q.2 p.locs c.bnd fun xs s2 => if chkS p.locs ds c.bnd h { q.2 with bnd := s2.bnd } then .chk i h.bnd.v.length xs else .fail else .fail
          | _ => .ret q)
      else .fail
  else .fail
/-- Places that are told by slots: of the frame that the innermost range over a function belongs to (slot i), of the frame itself (slot i + 1000). -/
def lastTm : List Blk → Option (List SV) → Option (List SV)
  | [], o => o
  | ⟨_, _, some (.loop _ _ tm _ _ _ _)⟩ :: l, _ => lastTm l (some tm)
  | _ :: l, o => lastTm l o
/-- The frame of a range over a function: how many stand further within. -/
def recTm : List Blk → List (List SV) → List (List SV)
  | [], o => o
  | ⟨_, _, some (.loop _ _ tm _ _ _ _)⟩ :: l, o => recTm l (tm :: o)
  | _ :: l, o => recTm l o
def findC (x : K) : List CV → Nat → Option Nat
  | [], _ => none
  | .k y :: l, j => if x.eqb y then some j else findC x l (j + 1)
  | _ :: l, j => findC x l (j + 1)
def findB (x : K) : List Blk → Nat → Option (Nat × Nat)
  | [], _ => none
  | ⟨cs, _, none⟩ :: l, b => match findC x cs 0 with
    | some j => some (b, j)
    | none => findB x l (b + 1)
  | _ :: l, b => findB x l (b + 1)
def resLoc (s : St) : Loc → Loc
  | .rc i j => match (if Nat.ble 2000 i then (recTm s.bs [])[(i - 1000) / 1000]? else if Nat.ble 1000 i then some s.tmps else lastTm s.bs none) with
    | some tm => match tm[i % 1000]? with
      | some (.p (.c (.k (.addr b o)))) => .cell b (o + j)
      | _ => .rc i j
    | none => .rc i j
  | .tc i b j => if Nat.ble 1000 b then (match s.tmps[i]? with
    | some (.p (.c (.k x))) => match findB x s.bs 0 with
      | some (b', j') => .tc i b' j'
      | none => .tmp i
    | _ => .tmp i) else .tc i b j
  | x => x
def resLp (s : St) (p : Lp) : Lp := { p with locs := p.locs.map fun x => (resLoc s x.1, x.2) }
def loopC (ex : Ex) (C : List Con) (ro : Option Nat) (body : Code) (s : St) : T (X × St) :=
  match findLp C (firstId body) s.tmps.length 0 with
  | none => loopS ex ro body 100000 s
  | some (i, c, p) => fL fNat (dstL body) fun ds => loopI ex ro body s i c (resLp s p) ds
theorem genB_stat (h : St) (L : LL) : ∀ (l : List Blk) (b0 : Nat), Stat l (genB h L b0 l)
  | [], b0 => Stat.refl _
  | ⟨cs, ty, kd⟩ :: l, b0 => by
    intro j c t st pe tm ps a b d hj
    cases j with
    | zero =>
      simp only [List.getElem?_cons_zero, Option.some.injEq] at hj
      injection hj with e1 e2 e3
      subst e1 e2 e3
      exact ⟨_, _, _, _, rfl⟩
    | succ j =>
      simp only [List.getElem?_cons_succ] at hj
      obtain ⟨c', t', st', pe', h2⟩ := genB_stat h L l (b0 + 1) j c t st pe tm ps a b d hj
      refine ⟨c', t', st', pe', ?_⟩
      cases kd <;> simpa only [genB, List.getElem?_cons_succ] using h2
theorem loopC_st {ex : Ex} (hex : StEx ex) (C : List Con) (ro : Option Nat) (body : Code) (s : St) : (loopC ex C ro body s).All fun p => Stat s.bs p.2.bs := by
  unfold loopC
  split
  · exact loopS_st hex ro body _ s
  · rename_i i c p _
    rw [fL_eq fNat_eq]
    generalize resLp s p = p
    unfold loopI
    split
    · refine valsT_all _ _ _ _ fun xs s1 h1 => ?_
      rw [fSt_eq]
      split
      · simp only [T.All, fSt_eq]
        rw [T.All_bind]
        refine T.All_mono (fun q hq => ?_) _ (hex ro body (genS p.locs (dstL body) c.bnd { s with bnd := s1.bnd }))
        have hq' := (genB_stat { s with bnd := s1.bnd } p.locs s.bs 0).trans hq
        split
        · split
          · refine valsT_all _ _ _ _ fun xs s2 h2 => ?_
            split <;> trivial
          · trivial
        · exact hq'
      · trivial
    · trivial
section
variable {P : Program} {tb : Tb} {C : List Con} {N : Nat} {w0 : World}
theorem LocsOk.same {N : Nat} {n : Env} {s s' : St} {w : World} {h h' : St} (h1 : ∀ l, locK s' l = locK s l) (h2 : s'.ar = s.ar) (h3 : ∀ l, locK h' l = locK h l) : ∀ {L : LL} {B : List VD} {ys : List DV}, LocsOk N n s w h L B ys → LocsOk N n s' w h' L B ys
  | [], [], [], hk => by simp only [LocsOk]
  | (l, tn) :: L, b :: B, y :: ys, hk => by
    simp only [LocsOk] at hk ⊢
    refine ⟨?_, LocsOk.same h1 h2 h3 hk.2⟩
    obtain ⟨z, g1, g2, g3⟩ := hk.1
    refine ⟨z, by rw [h1]; exact g1, g2, ?_⟩
    cases tn with
    | int => simp only [h3] at *; exact g3
    | sl own ety =>
      simp only at g3 ⊢
      obtain ⟨mx, row, g4, g5, g6, g7, g8⟩ := g3
      refine ⟨mx, row, g4, g5, g6, by rw [h2]; exact g7, ?_⟩
      cases own with
      | true =>
        simp only at g8 ⊢
        obtain ⟨⟨po, r, t1, t2⟩, t3⟩ := g8
        refine ⟨⟨po, r, by rw [baseK_ar h2]; exact t1, ?_⟩, t3⟩
        cases po with
        | none => exact t2
        | some p => obtain ⟨a0, u1, u2, u3⟩ := t2; exact ⟨a0, by rw [h2]; exact u1, u2, u3⟩
      | false => simp only at g8 ⊢; rw [h2]; exact g8
  | [], _ :: _, _, hk => by simp only [LocsOk] at hk
  | [], [], _ :: _, hk => by simp only [LocsOk] at hk
  | _ :: _, [], _, hk => by simp only [LocsOk] at hk
  | _ :: _, _ :: _, [], hk => by simp only [LocsOk] at hk
theorem loopI_ok {ex : Ex} (hex : Snd P C N w0 ex) (hsx : StEx ex) {ro : Option Nat} {body : Code} {A : Option Nat} {h : St} {n0 : Env} {a0 : Act} {wh : World} {i : Nat} {c : Con} {p : Lp} {ds : List Nat} {Q : Exit → Act → World → Prop} {Φ : List DV → X × St → Prop}
    (hro : ∀ l, ro = some l → l < n0.b.length) (hA : A = ro.map fun l => n0.b.getD l 0) (h0 : Rep N w0 n0 h a0 wh) (hw : wfSt h = true) (hci : C[i]? = some c)
    (hd : ∀ ys : List DV, inB ys c.bnd → c.pre (n0.r ++ ys) → ((ex ro body (genS p.locs ds c.bnd h)).bind fun q => match q.1 with
      | .nrm => if wfSt q.2 then valsT h q.2 q.2 p.locs c.bnd fun xs s2 => if chkS p.locs ds c.bnd h { q.2 with bnd := s2.bnd } then .chk i h.bnd.v.length xs else .fail else .fail
      | _ => .ret q).den C Φ (n0.r ++ (ys ++ List.replicate h.tmps.length (.n 0))))
    (hK : ∀ n' x s' a' w', Ext n0 n' → Rep N w0 n' s' a' w' → Φ n'.r (x, s') → Q x.exit a' w') :
    ∀ (f : Nat) (n1 : Env) (ys : List DV) (a : Act) (w : World), inB ys c.bnd → Ext n0 n1 → n1.r = n0.r ++ (ys ++ List.replicate h.tmps.length (.n 0)) → n1.b = n0.b → Rep N w0 n1 (genS p.locs ds c.bnd h) a w → c.pre (n0.r ++ ys) → c.mea (n0.r ++ ys) < f →
    Code.roundsIn (Wd A) 0 P body Q f a w
  | 0, n1, ys, a, w, _, _, _, _, _, _, hm => by omega
  | f + 1, n1, ys, a, w, hin, he1, hr1, hb1, hr, hpre, hm => by
    rw [roundsIn_succ]
    have hd1 := hd ys hin hpre
    rw [← hr1, T.den_bind] at hd1
    have hd2 := T.All_den _ _ (hsx ro body (genS p.locs ds c.bnd h)) hd1
    have eA : A = ro.map fun l => n1.b.getD l 0 := by rw [hb1]; exact hA
    rw [eA]
    refine hex ro body _ n1 a w _ _ (ro_lt he1 hro) hr hd2 fun n' x s' a' w' he hr' hφ => ?_
    have he' := he1.trans he
    obtain ⟨hφ, hst⟩ := hφ
    cases x with
    | nrm =>
      simp only at hφ hst
      split at hφ
      case isFalse => exact hφ.elim
      rename_i hws
      obtain ⟨m, xs, s2, v1, v2, v3, v4, v5, v6, v7, v8⟩ := valsT_den hr' p.locs c.bnd (Ext.refl n') rfl rfl hr' hws rfl hφ
      split at v6
      case isFalse => exact v6.elim
      rename_i hck
      simp only [T.den, hci] at v6
      obtain ⟨q1, q3⟩ := v6
      have hem := he'.trans v1
      have hl := v8.len
      have t1 : m.r.take h.bnd.v.length = n0.r := by
        obtain ⟨t, ht⟩ := hem.r
        rw [← ht, ← h0.lens.1, List.take_left]
      have t2 : m.r.take (h.bnd.v.length + xs.length) = n0.r ++ ys := by
        obtain ⟨t, ht⟩ := (he.trans v1).r
        rw [← ht, hr1]
        have e1 : h.bnd.v.length + xs.length = (n0.r ++ ys).length := by
          have e2 := hl.1
          have e3 := hl.2.1
          simp only [List.length_map] at e2
          rw [List.length_append, inB_len hin, e3, e2, h0.lens.1]
        rw [e1, ← List.append_assoc, List.append_assoc, List.take_left]
      rw [t1] at q1 q3
      rw [t2] at q3
      have hst' : Stat h.bs s'.bs := (genB_stat h p.locs h.bs 0).trans hst
      have hrb := hr'.rebnd hws v1 v2 v3 v4 v5
      have hlk : ∀ l, locK { s' with bnd := s2.bnd } l = locK s' l := fun l => by cases l <;> rfl
      obtain ⟨n2, e1, e2, e3, e4⟩ := Rep.inst h0 hw hrb hem hck hst' (v8.same hlk rfl fun l => rfl)
      have ih := loopI_ok hex hsx hro hA h0 hw hci hd hK f n2 _ a' w' hl.2.2 e1 e2 e3 e4 q1 (by omega)
      rw [← eA]
      exact ih
    | ext id => exact hK n' (.ext id) s' a' w' he' hr' hφ
    | ret => exact hK n' .ret s' a' w' he' hr' hφ
theorem loopC_ok {ex : Ex} (hex : Snd P C N w0 ex) (hsx : StEx ex) {ro : Option Nat} {body : Code} {Q : Exit → Act → World → Prop} {s : St} {n : Env} {a : Act} {w : World} {Φ : List DV → X × St → Prop}
    (hro : ∀ l, ro = some l → l < n.b.length) (h : Rep N w0 n s a w) (hd : (loopC ex C ro body s).den C Φ n.r)
    (hK : ∀ n' x s' a' w', Ext n n' → Rep N w0 n' s' a' w' → Φ n'.r (x, s') → Q x.exit a' w') : (Code.loop body).wpIn (Wd (ro.map fun l => n.b.getD l 0)) 0 P Q a w := by
  unfold loopC at hd
  split at hd
  · exact wpIn_loop_rounds 100000 (loopS_ok hex 100000 s n a w Φ hro rfl h hd hK)
  · rename_i i c p hf
    have hci := (findLp_ok hf).2
    rw [Nat.sub_zero] at hci
    rw [fL_eq fNat_eq] at hd
    generalize resLp s p = p at hd
    unfold loopI at hd
    split at hd
    case isFalse => exact hd.elim
    rename_i hws
    obtain ⟨m, xs, s1, v1, v2, v3, v4, v5, v6, v7, v8⟩ := valsT_den h p.locs c.bnd (Ext.refl n) rfl rfl h hws rfl hd
    rw [fSt_eq] at v6
    split at v6
    case isFalse => exact v6.elim
    rename_i hc
    simp only [Bool.and_eq_true] at hc
    simp only [T.den, hci, fSt_eq] at v6
    obtain ⟨q1, q3⟩ := v6
    have hrb := h.rebnd hws v1 v2 v3 v4 v5
    have hlk : ∀ l, locK { s with bnd := s1.bnd } l = locK s l := fun l => by cases l <;> rfl
    have hl := v8.len
    obtain ⟨n1, e1, e2, e3, e4⟩ := Rep.inst hrb hc.1 hrb (Ext.refl m) hc.2 (Stat.refl _) (v8.same hlk rfl hlk)
    rw [← ro_ext v1 hro]
    refine wpIn_loop_rounds (c.mea (m.r ++ xs.map (E.top m.r)) + 1) ?_
    exact loopI_ok hex hsx (ro_lt v1 hro) rfl hrb hc.1 hci (fun ys h1 h2 => q3 ys h1 h2) (fun n' x s' a' w' he hr hφ => hK n' x s' a' w' (v1.trans he) hr hφ) _ n1 _ a w hl.2.2 e1 e2 e3 e4 q1 (Nat.lt_succ_self _)
end
def stepC (ex : Ex) (tb : Tb) (C : List Con) (ro : Option Nat) (c : Code) (s : St) : T (X × St) :=
  match c with
  | .skip => .ret (.nrm, s)
  | .label _ => .ret (.nrm, s)
  | .ret => .ret (.ret, s)
  | .exit id => .ret (.ext id, s)
  | .seq a b => (ex ro a s).bind fun p => match p.1 with
    | .nrm => ex ro b p.2
    | _ => .ret p
  | .cond c x y => match opB s.tmps [] c with
    | some g => fB (reB s.bnd g) fun g => match g with
      | .lit true => ex ro x s
      | .lit false => ex ro y s
      | g => .ite g (assumeK s g true (ex ro x)) (assumeK s g false (ex ro y))
    | none => .fail
  | .block id body => (ex ro body s).bind fun p => match p.1 with
    | .ext id' => .ret (if id' = id then (.nrm, p.2) else p)
    | _ => .ret p
  | .loop body => loopC ex C ro body s
  | .region _ ops draw => (regS (ex) tb C ops draw s).bind fun s' => .ret (.nrm, s')
  | .rangeFunc f ps assign body => rangeS ex tb C ro s f ps assign body
  | .scope body => ex ro body s
  | _ => .fail
def exec (tb : Tb) (C : List Con) (f : Nat) : Ex := Nat.rec (motive := fun _ => Ex) (fun _ _ _ => .fail) (fun _ ih => stepC ih tb C) f
theorem stepC_st {ex : Ex} (hex : StEx ex) (tb : Tb) (C : List Con) (ro : Option Nat) (c : Code) (s : St) : (stepC ex tb C ro c s).All fun p => Stat s.bs p.2.bs := by
  cases c with
  | skip => exact Stat.refl _
  | label l => exact Stat.refl _
  | ret => exact Stat.refl _
  | exit id => exact Stat.refl _
  | seq x y =>
    simp only [stepC]
    rw [T.All_bind]
    refine T.All_mono (fun p hp => ?_) _ (hex ro x s)
    split
    · exact T.All_mono (fun q hq => hp.trans hq) _ (hex ro y p.2)
    · exact hp
  | cond c x y =>
    simp only [stepC]
    split
    · rw [fB_eq]
      split
      · exact hex ro x s
      · exact hex ro y s
      · rw [assumeK_eq, assumeK_eq]
        exact ⟨hex ro x (assume s _ true), hex ro y (assume s _ false)⟩
    · trivial
  | block id body =>
    simp only [stepC]
    rw [T.All_bind]
    refine T.All_mono (fun p hp => ?_) _ (hex ro body s)
    split
    · simp only [T.All]; split <;> exact hp
    · exact hp
  | loop body => exact loopC_st hex C ro body s
  | region id ops draw =>
    simp only [stepC]
    rw [T.All_bind]
    exact T.All_mono (fun p hp => hp) _ (regS_st hex tb C ops draw s)
  | rangeFunc f p x y => exact rangeS_st hex tb C ro s f p x y
  | scope b => exact hex ro b s
  | goto l => trivial
  | refuse r => trivial
theorem exec_st (tb : Tb) (C : List Con) : ∀ f, StEx (exec tb C f)
  | 0 => fun ro c s => trivial
  | f + 1 => fun ro c s => stepC_st (exec_st tb C f) tb C ro c s
end Go.Dx

/- A symbolic executor: ranges over functions, code, whole calls. -/
namespace Go.Dx
open Go.RowKit
set_option linter.unusedVariables false
set_option linter.unusedSimpArgs false
section
variable {P : Program} {tb : Tb} {C : List Con} {N : Nat} {w0 : World}
theorem rangeS_ok [TbOk P tb] [GlbOk tb N w0] {ex : Ex} (hex : Snd P C N w0 ex) (hC : ∀ c ∈ C, ConOk P tb N w0 c) (hN : N ≤ w0.heap.size) (hP : Fine P) {ro : Option Nat} {s : St} {f : Operand} {ps : Array Tmp} {assign body : Code} {n : Env} {a : Act} {w : World} {Φ : List DV → X × St → Prop} {Q : Exit → Act → World → Prop}
    (hro : ∀ l, ro = some l → l < n.b.length) (h : Rep N w0 n s a w) (hd : (rangeS ex tb C ro s f ps assign body).den C Φ n.r)
    (hK : ∀ n' x s' a' w', Ext n n' → Rep N w0 n' s' a' w' → Φ n'.r (x, s') → Q x.exit a' w') : (Code.rangeFunc f ps assign body).wpIn (Wd (ro.map fun l => n.b.getD l 0)) 0 P Q a w := by
  unfold rangeS at hd
  split at hd
  case isFalse => exact hd.elim
  rename_i hw
  split at hd
  case h_2 => exact hd.elim
  rename_i g cap hf
  split at hd
  case isFalse => exact hd.elim
  rename_i hany
  split at hd
  case h_2 => exact hd.elim
  rename_i l s1 hent
  have hd := squashX_den hd
  rw [fMem_eq, T.den_bind] at hd
  have e1 := opP_den h.tmps (asm := []) (fun g hg => by cases hg) hf
  have hfn : ∃ fn, P.funcs[g]? = some fn ∧ fn.body.isSome = true := by
    cases hq : tb.func g with
    | none => rw [hq] at hany; cases hany
    | some fn => rw [hq] at hany; exact ⟨fn, func_ok hq, hany⟩
  obtain ⟨fn0, hfn, hbody⟩ := hfn
  have hname := hP.name g fn0 hfn hbody
  have hb2 : fn0.body.isNone = false := by cases hb : fn0.body <;> simp_all
  have hw' := hw
  simp only [wfSt, Bool.and_eq_true] at hw'
  have hwt : s.tmps.all (wfS (nz n)) = true := by rw [h.nz]; exact hw'.1.1
  have hN' : N ≤ w.heap.size := Nat.le_trans hN h.below.size
  have hlaid := fun fn => enterS_ok (P := P) hN h hw hro hent fn
  refine wpIn_rangeFunc fun fn _ => ?_
  obtain ⟨mark, w1, m, henter, hext, hlm, hrep⟩ := hlaid fn
  have hd' : (callS ex tb C s1 g (.c (.k (.yld l)) :: cap.map (fun k => .c (.k k)))).den C (fun r p => (afterS ex ro l p).den C Φ r) m.r := by
    have e : m.r = n.r := by
      have h1 := hrep.lens.1
      have h2 := h.lens.1
      have h3 : s1.bnd = s.bnd := by
        unfold enterS at hent
        obtain ⟨st, sb, sn, sd, sr⟩ := s
        simp only at hent
        split at hent
        · simp only [Option.some.injEq, Prod.mk.injEq] at hent; rw [← hent.2]
        · split at hent
          · simp only [Option.some.injEq, Prod.mk.injEq] at hent; rw [← hent.2]
          · cases hent
      exact (hext.r.eq_of_length (by rw [h1, h2, h3])).symm
    rw [e]; exact hd
  have hcall := callS_ok (P := P) hex hC hN hrep hd'
  have hev : a.eval f = .func (.func g) #[] (cap.map (K.den n)).toArray := by rw [e1]; rfl
  have hcap : cap.map (K.den m) = cap.map (K.den n) := by
    exact wfKs_den hext cap (opd_wf hwt hf)
  refine ⟨m.b.getD l 0, mark, w1, { target := .fn (.func g) (cap.map (K.den n)).toArray, args := #[.func (.yield (m.b.getD l 0)) #[] #[]] }, w1, g,
    #[.func (.yield (m.b.getD l 0)) #[] #[]] ++ (cap.map (K.den n)).toArray, w1, henter, ?_, fun _ _ => trivial, ?_, fun hx => by simp [Wd] at hx, ?_⟩
  · simp only [resolve, hev]
    simp [Deferred.ofValue, Act.eval]
  · simp only [invoke, callFunc, Sem.run_bind, run_program, Result.andThen_ok, hfn, hname, hb2, Bool.false_eq_true, if_false, Sem.run_pure]
  · have hargs : #[.func (.yield (m.b.getD l 0)) #[] #[]] ++ (cap.map (K.den n)).toArray = ((PV.c (.k (.yld l)) :: cap.map (fun k => PV.c (.k k))).map (PV.den m)).toArray := by
      rw [← hcap]
      have e5 : (cap.map (fun k => PV.c (.k k))).map (PV.den m) = cap.map (K.den m) := by rw [List.map_map]; rfl
      rw [List.map_cons, e5]
      apply Array.toList_inj.1
      rw [Array.toList_append]
      rfl
    rw [hargs]
    refine CallsIn.mono (F := Wd (ro.map fun l => n.b.getD l 0)) (n := 0 - 1) hcall fun e w3 ⟨m3, v, s3, he3, hr3, _, hφ, he⟩ => ?_
    rw [he]
    simp only [afterS, fMem_eq] at hφ
    split at hφ
    · exact hφ.elim
    · rename_i cc tt stt pe q1 q2 q3 q4 q5 hne hrec
      split at hφ
      · rename_i s4 hl4
        obtain ⟨fn4, st4, p4, tm4, ps4, as4, bo4, d4, hx4, hrep4⟩ := loopAt_ok hr3 hl4
        have e4 : m3.b.getD l 0 = m.b.getD l 0 := getD_prefix he3.b hlm 0
        have hq := (hr3.mem.2.2 l _ hrec).2
        obtain ⟨fq, hq⟩ := hq
        rw [hx4] at hq
        have hpe : p4 = pe ∧ stOf st4 = stOf stt := by
          have := Option.some.inj hq
          injection this with this
          injection this with i1 i2
          exact ⟨i2, i1⟩
        have hnb : stOf st4 ≠ .busy := by
          rw [hpe.2]
          intro hbusy
          match stt, hne, hbusy with
          | 0, _, hb => cases hb
          | 1, hne, _ => exact hne rfl
          | 2, _, hb => cases hb
          | k + 3, _, hb => cases hb
        rw [e4] at hx4 hrep4
        refine ⟨_, _, run_endLoop hx4 hnb, ?_⟩
        simp only
        rw [hpe.1]
        have hrep5 : Rep N w0 m3 s4 { a with defers := mark ++ a.defers } (w3.putObj (m.b.getD l 0) (.loop { state := .exhausted, pending := p4, fn := fn4, tmps := (tm4.map (SV.den m3)).toArray, params := ps4, assign := as4, body := bo4, defers := m3.b.getD d4 0 })) := hrep4
        rw [hpe.1] at hrep5
        cases pe with
        | none => exact hK m3 .nrm _ _ _ (hext.trans he3) (hrep5.gone l) hφ
        | some c =>
          simp only at hφ ⊢
          rw [← ro_ext (hext.trans he3) hro]
          exact hex ro c _ m3 _ _ Φ Q (ro_lt (hext.trans he3) hro) (hrep5.gone l) hφ fun n2 x2 s2 a2 w2 he2 hr2 hφ2 => hK n2 x2 s2 a2 w2 ((hext.trans he3).trans he2) hr2 hφ2
      · exact hφ.elim
    · exact hφ.elim
theorem stepR_scope {P : Program} {b : Frame} {a : Act} {k : List Item} {cs : List Frame} {w : World} {c : Code} : step P (lone (b.atR a (.code (.scope c) :: k)) cs w) = .next (lone (b.atR a (.code c :: .inScope c :: k)) cs w) :=
  step_lone_go (by simp [stepG, stepG.exec, Frame.atR])
theorem stepR_inScope {P : Program} {b : Frame} {a : Act} {k : List Item} {cs : List Frame} {w : World} {c : Code} : step P (lone (b.atR a (.inScope c :: k)) cs w) = .next (lone (b.atR a k) cs w) :=
  step_lone_go (by simp [stepG, stepG.exec, Frame.atR])
/-- A scope through which the run goes without a goto. -/
theorem wpIn_scope {F : Fence} {n : Nat} {P : Program} {Q : Exit → Act → World → Prop} {a : Act} {w : World} {c : Code} (h : c.wpIn F n P (fun e a w => match e with | .goto _ => False | e => Q e a w) a w) : (Code.scope c).wpIn F n P Q a w := by
  intro b k cs hro hb hr
  have h0 : (lone (b.atR a (.code (.scope c) :: k)) cs w).fenced P F := fenced_calm hb hr rfl
  obtain ⟨e, a₁, w₁, hq, harr⟩ := h b (.inScope c :: k) cs hro hb hr
  cases e with
  | normal => exact ⟨.normal, a₁, w₁, hq, .head h0 stepR_scope (StepsIn.trans harr (.one (fenced_calm hb hr rfl) stepR_inScope))⟩
  | exit id' =>
    have hx : exitTo id' (.inScope c :: k) = exitTo id' k := by simp [exitTo]
    exact ⟨.exit id', a₁, w₁, hq, fun k' hk => .head h0 stepR_scope (harr.1 k' (by rw [hx]; exact hk)),
      fun hr' hk => let ⟨k₁, h1, h2⟩ := harr.2 hr' (by rw [hx]; exact hk); ⟨k₁, h1, .head h0 stepR_scope h2⟩⟩
  | goto l => exact hq.elim
  | ret => exact ⟨_, a₁, w₁, hq, .of_steps (.one h0 stepR_scope) harr⟩
  | panic ch => exact ⟨_, a₁, w₁, hq, .of_steps (.one h0 stepR_scope) harr⟩
  | outgrown => exact ⟨_, a₁, w₁, hq, .of_steps (.one h0 stepR_scope) harr⟩
theorem stepC_ok [TbOk P tb] [GlbOk tb N w0] {ex : Ex} (hex : Snd P C N w0 ex) (hsx : StEx ex) (hC : ∀ c ∈ C, ConOk P tb N w0 c) (hN : N ≤ w0.heap.size) (hP : Fine P) : Snd P C N w0 (stepC ex tb C) := by
  intro ro c s n a w Φ Q hro h hd hK
  cases c with
  | skip => exact wpIn_skip (hK n .nrm s a w (Ext.refl n) h hd)
  | label l => exact wpIn_label (hK n .nrm s a w (Ext.refl n) h hd)
  | ret => exact wpIn_ret (hK n .ret s a w (Ext.refl n) h hd)
  | exit id => exact wpIn_exit (hK n (.ext id) s a w (Ext.refl n) h hd)
  | seq x y =>
    simp only [stepC] at hd
    rw [T.den_bind] at hd
    refine wpIn_seq (hex ro x s n a w _ _ hro h hd fun n' x' s' a' w' he hr hφ => ?_)
    cases x' with
    | nrm =>
      have := hex ro y s' n' a' w' Φ Q (ro_lt he hro) hr hφ fun n2 x2 s2 a2 w2 he2 hr2 hφ2 => hK n2 x2 s2 a2 w2 (he.trans he2) hr2 hφ2
      rw [ro_ext he hro] at this
      exact this
    | ext id => exact hK n' (.ext id) s' a' w' he hr hφ
    | ret => exact hK n' .ret s' a' w' he hr hφ
  | cond c x y =>
    have ha : Asm n.r [] := fun g hg => by cases hg
    simp only [stepC] at hd
    split at hd
    case h_2 => exact hd.elim
    rename_i g hg
    rw [fB_eq] at hd
    have hev : a.eval c = .bool ((reB s.bnd g).den n.r) := by rw [opB_den h.tmps ha hg, reB_den h.bnd]
    generalize reB s.bnd g = q at *
    split at hd
    · exact wpIn_cond_true hev (hex ro x s n a w Φ Q hro h hd hK)
    · exact wpIn_cond_false hev (hex ro y s n a w Φ Q hro h hd hK)
    · rename_i g' _ _
      rw [assumeK_eq, assumeK_eq] at hd
      simp only [T.den, B.prop_iff] at hd
      refine wpIn_cond_split hev (fun hb => ?_) (fun hb => ?_)
      · exact hex ro x _ n a w Φ Q hro (h.assume hb) (hd.1 hb) hK
      · exact hex ro y _ n a w Φ Q hro (h.assume hb) (hd.2 (by simp [hb])) hK
  | block id body =>
    simp only [stepC] at hd
    rw [T.den_bind] at hd
    refine wpIn_block (hex ro body s n a w _ _ hro h hd fun n' x' s' a' w' he hr hφ => ?_)
    cases x' with
    | nrm => exact hK n' .nrm s' a' w' he hr hφ
    | ext id' =>
      simp only [T.den] at hφ
      show (if id' = id then Q .normal a' w' else Q (.exit id') a' w')
      split
      · rename_i e; rw [if_pos e] at hφ; exact hK n' .nrm s' a' w' he hr hφ
      · rename_i e; rw [if_neg e] at hφ; exact hK n' (.ext id') s' a' w' he hr hφ
    | ret => exact hK n' .ret s' a' w' he hr hφ
  | loop body =>
    simp only [stepC] at hd
    exact loopC_ok hex hsx hro h hd hK
  | region id ops draw =>
    simp only [stepC] at hd
    rw [T.den_bind] at hd
    exact regS_ok hex hC hN hP h hd fun n' s' a' w' he hr hφ => hK n' .nrm s' a' w' he hr hφ
  | rangeFunc f p x y => exact rangeS_ok hex hC hN hP hro h hd hK
  | scope b => exact wpIn_scope (hex ro b s n a w Φ _ hro h hd fun n' x s' a' w' he hr hφ => by
    have := hK n' x s' a' w' he hr hφ
    cases x <;> exact this)
  | goto l => exact hd.elim
  | refuse r => exact hd.elim
theorem exec_ok [TbOk P tb] [GlbOk tb N w0] (hC : ∀ c ∈ C, ConOk P tb N w0 c) (hN : N ≤ w0.heap.size) (hP : Fine P) : ∀ f, Snd P C N w0 (exec tb C f)
  | 0 => fun ro c s n a w Φ Q _ _ hd _ => hd.elim
  | f + 1 => stepC_ok (tb := tb) (exec_ok hC hN hP f) (exec_st tb C f) hC hN hP
end
/-- The table of a program. -/
def teOf (P : Program) (t : Nat) : Option TE := match P.underlying t, P.info? t with
  | some d, some i => some ⟨t, red d, i.size, i.bytes, match i.zero with | some v => ofPV v | none => none, !P.stoodInHeld t && !P.eqGuardType P.depth t⟩
  | _, _ => none
theorem teOf_ok {P : Program} {t : Nat} {e : TE} (h : teOf P t = some e) : TEOk P e := by
  unfold teOf at h
  split at h
  · rename_i d i hd hi
    cases h
    refine ⟨⟨d, hd, rfl⟩, ⟨i, hi, rfl⟩, ⟨i, hi, rfl⟩, fun z hz => ?_, fun hq => ?_⟩
    · simp only at hz
      split at hz
      · rename_i v hv; exact ⟨i, v, hi, hv, hz⟩
      · cases hz
    · simpa using hq
  · cases h
theorem tb_ok {P : Program} {ty : List TE} {fn : List (Nat × Func)} {gl : List (Nat × List Value)} (h1 : ty.map (fun e => teOf P e.t) = ty.map some) (h2 : fn.map (fun e => P.funcs[e.1]?) = fn.map fun e => some e.2) : TbOk P ⟨ty, fn, gl⟩ := by
  constructor
  · intro e he
    have : ∀ (l : List TE), l.map (fun e => teOf P e.t) = l.map some → ∀ e ∈ l, teOf P e.t = some e := fun l hl e he => by
      induction l with
      | nil => cases he
      | cons x r ih =>
        simp only [List.map_cons, List.cons.injEq] at hl
        rcases List.mem_cons.1 he with h | h
        · rw [h]; exact hl.1
        · exact ih hl.2 h
    exact teOf_ok (this ty h1 e he)
  · intro e he
    have : ∀ (l : List (Nat × Func)), l.map (fun e => P.funcs[e.1]?) = l.map (fun e => some e.2) → ∀ e ∈ l, P.funcs[e.1]? = some e.2 := fun l hl e he => by
      induction l with
      | nil => cases he
      | cons x r ih =>
        simp only [List.map_cons, List.cons.injEq] at hl
        rcases List.mem_cons.1 he with h | h
        · rw [h]; exact hl.1
        · exact ih hl.2 h
    exact this fn h2 e he
theorem fine_ok {P : Program} (h1 : (P.funcs.toList.all fun fn => fn.body.isNone || !(fn.name == "runtime.NumGoroutine")) = true) (h2 : P.follows .mixedOrders = true) : Fine P := by
  refine ⟨fun g fn hf hb => ?_, h2⟩
  have := List.all_eq_true.1 h1 fn (by have := Array.mem_of_getElem? hf; simpa using this)
  cases hc : fn.body with
  | none => rw [hc] at hb; cases hb
  | some c => rw [hc] at this; simpa using this
/-- Values that are known. -/
def noU : SV → Bool
  | .u _ => false
  | _ => true
/-- Values that name no block. -/
def bK : K → Bool
  | .addr _ _ => false
  | .sl _ _ _ _ => false
  | .yld _ => false
  | _ => true
/-- A whole call whose result names no block: what comes out, and the slices. -/
def runP (tb : Tb) (C : List Con) (fuel : Nat) (f : FuncId) (args : List PV) (bnd : Bnd) (ar : List Ar) : T (SV × St) :=
  (callS (exec tb C fuel) tb C ⟨[], [], bnd, [], ar⟩ f args).bind fun p => if wfS ⟨p.2.bnd.v.length, 0, p.2.ar.length⟩ p.1 && noU p.1 then .ret p else .fail
def env (f : Nat → Prop) (r : List DV) (v : List Value) : Env := ⟨r, v, [], r.map fun _ => undef, f, by simp⟩
/-- Arguments: data that lies in memory. -/
structure Begin (n : Env) (bnd : Bnd) (ar : List Ar) (w : World) : Prop where
  ok : BndOk n.r bnd
  len : n.v.length = ar.length
  wf : ar.all (wfAr n.r.length) = true
  b : n.b = []
  frz : ∀ a ∈ ar, a.st = .frz
  ent : ∀ (i : Nat) (a : Ar), ar[i]? = some a → Sh.fines a.row = true ∧ Shaped a.row (a.ct.els n.r) ∧ a.len.den n.r = (a.ct.els n.r).length ∧ Nest w (fun g => ¬ n.f g) a.row (a.ct.els n.r) ∧ LaidAt w (fun g => ¬ n.f g) (n.sv i) a.row (a.ct.els n.r)
  perm : ∀ (i : Nat) (S : Sh), bnd.v[i]? = some (.d S) → S.fine = true ∧ NestD w (fun g => ¬ n.f g) S (n.r.getD i (.n 0))
  fb : ∀ g, n.f g → g < w.heap.size
theorem laidL_monoS {w : World} {S S' : Nat → Prop} (h : ∀ b, S b → S' b) {l : List Sh} {r : List DV} (hl : Sh.fines l = true) (hr : HasShs l r) (k : LaidL w S l r) : LaidL w S' l r := LaidL.keep (fun b hb _ => ⟨rfl, h b hb⟩) l r hl hr k
theorem Begin.rep {n : Env} {bnd : Bnd} {ar : List Ar} {w : World} (h : Begin n bnd ar w) : Rep w.heap.size w n ⟨[], [], bnd, [], ar⟩ ⟨#[], []⟩ w := by
  have all : ∀ b, ¬ n.f b → ¬ Owned n ar b := fun g hf hg => by
    rcases hg with (hg | hg) | ⟨i, a, hi, ha, _⟩
    · rw [h.b] at hg; cases hg
    · exact hf hg
    · have := h.frz a (List.mem_of_getElem? hi)
      rw [this] at ha; cases ha
  refine ⟨h.ok, ⟨by rw [h.b]; rfl, fun i j x hi => (by rw [h.b] at hi; simp at hi), fun i b hi => (by simp at hi)⟩, ?_, Below.refl _ _, rfl⟩
  refine ⟨h.len, h.wf, fun i a hi => ?_, fun i j a c g hi hj ha => ?_, fun i a g hi ha => ?_, fun i S hS => ?_, h.fb⟩
  · obtain ⟨h1, h2, h3, h4, h5⟩ := h.ent i a hi
    unfold EntOk
    rw [h.frz a (List.mem_of_getElem? hi)]
    exact ⟨⟨h1, h2, h3, fun e he => laidL_monoS all h1 (h2.2 e he) (h4 e he)⟩, h5.mono all⟩
  · have := h.frz a (List.mem_of_getElem? hi); rw [this] at ha; cases ha
  · have := h.frz a (List.mem_of_getElem? hi); rw [this] at ha; cases ha
  · obtain ⟨h1, h2⟩ := h.perm i S hS
    refine ⟨h1, ?_⟩
    have hv := h.ok.vok i
    rw [List.getD_eq_getElem?_getD, hS] at hv
    cases S with
    | sl mx row =>
      simp only [NestD] at h2 ⊢
      have hs := hv.1
      simp only [HasSh] at hs
      simp only [Sh.fine, Bool.and_eq_true] at h1
      exact fun e he => laidL_monoS all h1.1.2 (hs.2 e he) (h2 e he)
    | _ => simp only [NestD]
theorem sx {P : Program} {tb : Tb} [TbOk P tb] (hP : Fine P) {C : List Con} {w : World} (hG : Glb tb w) (hC : ∀ c ∈ C, ConOk P tb w.heap.size w c) (fuel : Nat) (f : FuncId) (args : List PV) (bnd : Bnd) (ar : List Ar) {n : Env} (hb : Begin n bnd ar w)
    (R : Value → World → Prop) (hd : (runP tb C fuel f args bnd ar).den C (fun r p => ∀ m a w', Ext n m → m.r = r → wfS ⟨p.2.bnd.v.length, 0, p.2.ar.length⟩ p.1 = true → noU p.1 = true → Rep w.heap.size w m p.2 a w' → R (p.1.den m) w') n.r) :
    Calls P f (args.map (PV.den n)).toArray w fun e w' => ∃ v, e = .returned v ∧ R v w' ∧ Below w.heap.size w w' := by
  unfold runP at hd
  rw [T.den_bind] at hd
  have := hG.ok
  refine ((callsIn_wide (n := 0)).1 (callS_ok (P := P) (args := args) (exec_ok hC (Nat.le_refl _) hP fuel) hC (Nat.le_refl _) hb.rep hd)).mono fun e w' ⟨m, v, s', hm1, hm2, hm3, hφ, he⟩ => ?_
  simp only at hφ
  split at hφ
  · rename_i hw
    simp only [Bool.and_eq_true] at hw
    exact ⟨_, he, hφ m _ w' hm1 rfl hw.1 hw.2 hm2, hm2.below⟩
  · exact hφ.elim
end Go.Dx

/- A symbolic executor: where a function begins, and what it gives. -/
namespace Go.Dx
open Go.RowKit
set_option linter.unusedVariables false
set_option linter.unusedSimpArgs false
/-! Arguments, laid as results are. -/
def toR : ASh → RSh
  | .c s => .one ⟨s, none⟩
  | .agg l => .agg (l.map fun s => ⟨s, none⟩)
def shsOf (l : List ASh) : List Sh := (resL' (l.map toR)).map RC.s
def argFine (l : List ASh) : Bool := Sh.fines (shsOf l)
def argB (l : List ASh) : List VD := resB (l.map toR)
def argsOf (l : List ASh) : List PV := resAt (l.map toR) 0 0
def argAr (l : List ASh) : List Ar := arsAt (resL' (l.map toR)) 0
theorem cellsA_app {w : World} {Z : Nat → Prop} : ∀ {a b : List Sh} {ys zs : List DV} {cs ds : List Value}, cellsS w Z a ys cs → cellsS w Z b zs ds → cellsS w Z (a ++ b) (ys ++ zs) (cs ++ ds)
  | [], b, [], zs, [], ds, _, h => h
  | s :: a, b, y :: ys, zs, c :: cs, ds, h, k => by simp only [cellsS, List.cons_append] at *; exact ⟨h.1, cellsA_app h.2 k⟩
  | [], _, _ :: _, _, cs, _, h, _ => by cases cs <;> simp only [cellsS] at h
  | [], _, [], _, _ :: _, _, h, _ => by simp only [cellsS] at h
  | _ :: _, _, [], _, cs, _, h, _ => by cases cs <;> simp only [cellsS] at h
  | _ :: _, _, _ :: _, _, [], _, h, _ => by simp only [cellsS] at h
theorem cellsA_len {w : World} {Z : Nat → Prop} : ∀ {a : List Sh} {ys : List DV} {cs : List Value}, cellsS w Z a ys cs → cs.length = a.length
  | [], [], [], _ => rfl
  | s :: a, y :: ys, c :: cs, h => by simp only [cellsS] at h; simp [cellsA_len h.2]
  | [], _ :: _, cs, h => by cases cs <;> simp only [cellsS] at h
  | [], [], _ :: _, h => by simp only [cellsS] at h
  | _ :: _, [], cs, h => by cases cs <;> simp only [cellsS] at h
  | _ :: _, _ :: _, [], h => by simp only [cellsS] at h
theorem map_s (l : List Sh) : (l.map fun s => (⟨s, none⟩ : RC)).map RC.s = l := by
  rw [List.map_map]; exact List.map_id _
theorem argsV_flat {w : World} {Z : Nat → Prop} : ∀ {l : List ASh} {xs : List DV} {vs : List Value}, ArgsS w Z l xs vs → ∃ cs, vs = packs (l.map toR) cs ∧ cellsS w Z (shsOf l) xs cs
  | [], [], [], _ => ⟨[], rfl, by simp [shsOf, resL', cellsS]⟩
  | .c s :: l, x :: xs, v :: vs, h => by
    simp only [ArgsS] at h
    obtain ⟨cs, h1, h2⟩ := argsV_flat h.2
    refine ⟨v :: cs, by simp only [List.map_cons, toR, packs, h1], ?_⟩
    have : shsOf (.c s :: l) = s :: shsOf l := by simp [shsOf, resL', toR, RSh.l]
    rw [this]
    simp only [cellsS]
    exact ⟨h.1, h2⟩
  | .agg ss :: l, xs, v :: vs, h => by
    simp only [ArgsS] at h
    obtain ⟨ys, r, cs, rfl, rfl, h1, h2⟩ := h
    obtain ⟨ds, h3, h4⟩ := argsV_flat h2
    have hl := cellsA_len h1
    refine ⟨cs ++ ds, ?_, ?_⟩
    · simp only [List.map_cons, toR, packs, h3, List.length_map]
      rw [← hl, List.take_left, List.drop_left]
    · have : shsOf (.agg ss :: l) = ss ++ shsOf l := by
        simp only [shsOf, resL', toR, List.map_cons, List.flatMap_cons, RSh.l, List.map_append, map_s]
      rw [this]
      exact cellsA_app h1 h4
  | [], _ :: _, vs, h => by cases vs <;> simp only [ArgsS] at h
  | [], [], _ :: _, h => by simp only [ArgsS] at h
  | .c _ :: _, [], vs, h => by cases vs <;> simp only [ArgsS] at h
  | .c _ :: _, _ :: _, [], h => by simp only [ArgsS] at h
  | .agg _ :: _, xs, [], h => by simp only [ArgsS] at h
theorem toR_none : ∀ (l : List ASh) (x : RC), x ∈ resL' (l.map toR) → x.own = none := fun l x hx => by
  simp only [resL', List.mem_flatMap, List.mem_map] at hx
  obtain ⟨r, ⟨a, _, rfl⟩, hx⟩ := hx
  cases a with
  | c s => simp only [toR, RSh.l, List.mem_singleton] at hx; rw [hx]
  | agg l => simp only [toR, RSh.l, List.mem_map] at hx; obtain ⟨s, _, rfl⟩ := hx; rfl
/-- What the cells of arguments say. -/
theorem cells_facts {w : World} {Z : Nat → Prop} : ∀ {L : List RC} {xs : List DV} {cs : List Value}, cellsS w Z (L.map RC.s) xs cs → inB xs (L.map RC.vd) ∧ CellA L xs cs ∧ (∀ v, (arsAt L v).length = (slsV L cs).length)
  | [], [], [], _ => ⟨by simp only [List.map_nil, inB], by simp only [CellA], fun v => rfl⟩
  | x :: l, y :: ys, c :: cs, h => by
    simp only [List.map_cons, cellsS] at h
    obtain ⟨i1, i2, i3⟩ := cells_facts h.2
    obtain ⟨h1, h2⟩ := h.1
    simp only [List.map_cons, inB, CellA]
    refine ⟨⟨?_, i1⟩, ⟨fun hn => ?_, i2⟩, fun v => ?_⟩
    · unfold RC.vd
      cases hs : x.s with
      | int k a b =>
        rw [hs] at h1; simp only [HasSh] at h1
        obtain ⟨z, e, h3, _⟩ := h1
        exact ⟨z, e, h3⟩
      | bool => rw [hs] at h1; simp only [HasSh] at h1; exact h1
      | str m => rw [hs] at h1 h2; exact ⟨h1, h2.1⟩
      | sl m r => rw [hs] at h1 h2; exact ⟨h1, h2.1⟩
    · cases hs : x.s with
      | sl m r => exact absurd hs (hn m r)
      | str m => rw [hs] at h2; exact h2.2
      | _ => rw [hs] at h2; exact h2
    · simp only [arsAt, arAt, slsV]
      cases hs : x.s <;> simp [i3 (v + 1), Nat.add_comm]
  | [], _ :: _, cs, h => by cases cs <;> simp only [List.map_nil, cellsS] at h
  | [], [], _ :: _, h => by simp only [List.map_nil, cellsS] at h
  | _ :: _, [], cs, h => by cases cs <;> simp only [List.map_cons, cellsS] at h
  | _ :: _, _ :: _, [], h => by simp only [List.map_cons, cellsS] at h
theorem arsAt_getA {w : World} {Z : Nat → Prop} : ∀ {L : List RC} {xs : List DV} {cs : List Value} {v i : Nat} {a : Ar}, cellsS w Z (L.map RC.s) xs cs → (∀ x ∈ L, x.own = none) → (arsAt L v)[i]? = some a →
    ∃ j x y c mx row, L[j]? = some x ∧ x.s = .sl mx row ∧ xs[j]? = some y ∧ (slsV L cs)[i]? = some c ∧ a = ⟨row, .e (.var (v + j)), .len (.var (v + j)), .frz, 0⟩ ∧ cellS w Z x.s y c
  | [], xs, cs, v, i, a, h, _, hi => by simp [arsAt] at hi
  | x :: l, [], cs, v, i, a, h, _, hi => by cases cs <;> simp only [List.map_cons, cellsS] at h
  | x :: l, y :: ys, [], v, i, a, h, _, hi => by simp only [List.map_cons, cellsS] at h
  | x :: l, y :: ys, c :: cs, v, i, a, h, ho, hi => by
    simp only [List.map_cons, cellsS] at h
    have rest : ∀ k, (arsAt l (v + 1))[k]? = some a → ∃ j x y c mx row, l[j]? = some x ∧ x.s = .sl mx row ∧ ys[j]? = some y ∧ (slsV l cs)[k]? = some c ∧ a = ⟨row, .e (.var (v + 1 + j)), .len (.var (v + 1 + j)), .frz, 0⟩ ∧ cellS w Z x.s y c := fun k hk => arsAt_getA h.2 (fun x hx => ho x (List.mem_cons_of_mem _ hx)) hk
    have he := ho x (List.mem_cons_self ..)
    cases hs : x.s with
    | sl mx row =>
      simp only [arsAt, arAt, hs, he, List.cons_append, List.nil_append, Option.getD_none] at hi
      cases i with
      | zero =>
        simp only [List.getElem?_cons_zero, Option.some.injEq] at hi
        exact ⟨0, x, y, c, mx, row, rfl, hs, rfl, by simp [slsV, hs], hi.symm, h.1⟩
      | succ i =>
        simp only [List.getElem?_cons_succ] at hi
        obtain ⟨j, x', y', c', mx', row', q1, q2, q4, q5, q6, q7⟩ := rest i hi
        exact ⟨j + 1, x', y', c', mx', row', q1, q2, q4, by simp only [slsV, hs]; exact q5, by rw [q6]; simp only [show v + 1 + j = v + (j + 1) by omega], q7⟩
    | _ =>
      simp only [arsAt, arAt, hs, List.nil_append] at hi
      obtain ⟨j, x', y', c', mx', row', q1, q2, q4, q5, q6, q7⟩ := rest i hi
      exact ⟨j + 1, x', y', c', mx', row', q1, q2, q4, by simp only [slsV, hs]; exact q5, by rw [q6]; simp only [show v + 1 + j = v + (j + 1) by omega], q7⟩
theorem fines_mem : ∀ {l : List Sh} {s : Sh}, Sh.fines l = true → s ∈ l → s.fine = true
  | x :: l, s, h, hs => by
    simp only [Sh.fines, Bool.and_eq_true] at h
    rcases List.mem_cons.1 hs with e | e
    · rw [e]; exact h.1
    · exact fines_mem h.2 e
theorem cells_get {w : World} {Z : Nat → Prop} : ∀ {L : List RC} {xs : List DV} {cs : List Value} {i : Nat} {S : Sh}, cellsS w Z (L.map RC.s) xs cs → (L.map RC.vd)[i]? = some (.d S) → ∃ y c, S ∈ L.map RC.s ∧ xs[i]? = some y ∧ cellS w Z S y c
  | [], xs, cs, i, S, h, hi => by simp at hi
  | x :: l, [], cs, i, S, h, hi => by cases cs <;> simp only [List.map_cons, cellsS] at h
  | x :: l, y :: ys, [], i, S, h, hi => by simp only [List.map_cons, cellsS] at h
  | x :: l, y :: ys, c :: cs, i, S, h, hi => by
    simp only [List.map_cons, cellsS] at h
    cases i with
    | zero =>
      simp only [List.map_cons, List.getElem?_cons_zero, Option.some.injEq] at hi
      have : x.s = S := by
        unfold RC.vd at hi
        cases hs : x.s <;> rw [hs] at hi <;> simp only [VD.d.injEq] at hi <;> first | exact hi | cases hi
      exact ⟨y, c, by rw [← this]; exact List.mem_cons_self .., rfl, by rw [← this]; exact h.1⟩
    | succ i =>
      simp only [List.map_cons, List.getElem?_cons_succ] at hi ⊢
      obtain ⟨y', c', h1, h2, h3⟩ := cells_get h.2 hi
      exact ⟨y', c', List.mem_cons_of_mem _ h1, h2, h3⟩
/-- Where a function begins. -/
theorem begin_ok {w : World} {F : Nat → Prop} {l : List ASh} {xs : List DV} {vs : List Value} (hF : ∀ g, F g → g < w.heap.size) (h : ArgsS w (fun g => ¬ F g) l xs vs) (hf : argFine l = true) :
    ∃ n : Env, n.r = xs ∧ n.f = F ∧ Begin n ⟨argB l, [], []⟩ (argAr l) w ∧ (argsOf l).map (PV.den n) = vs ∧ inB xs (argB l) := by
  obtain ⟨cs, hp, hc⟩ := argsV_flat h
  unfold shsOf at hc
  obtain ⟨f1, f2, f3⟩ := cells_facts hc
  have hB := inB_bnd f1
  have hown := toR_none l
  have hsv : ∀ i, (env F xs (slsV (resL' (l.map toR)) cs)).sv i = svOf ((slsV (resL' (l.map toR)) cs).getD i (.slice none 0 0)) := fun i => rfl
  refine ⟨env F xs (slsV (resL' (l.map toR)) cs), rfl, rfl, ⟨hB, (f3 0).symm, ?_, rfl, fun a ha => ?_, fun i a hi => ?_, fun i S hS => ?_, hF⟩, ?_, f1⟩
  · refine List.all_eq_true.2 fun a ha => ?_
    obtain ⟨i, hi⟩ := List.mem_iff_getElem?.1 ha
    obtain ⟨j, x, y, c, mx, row, q1, q2, q4, q5, q6, q7⟩ := arsAt_getA hc hown hi
    have hj : j < xs.length := (List.getElem?_eq_some_iff.1 q4).1
    rw [q6]
    have : Nat.blt (0 + j) xs.length = true := by simp [Nat.blt]; omega
    simp only [wfAr, wfCt, wfE, env, this, Bool.and_self]
  · obtain ⟨i, hi⟩ := List.mem_iff_getElem?.1 ha
    obtain ⟨j, x, y, c, mx, row, q1, q2, q4, q5, q6, q7⟩ := arsAt_getA hc hown hi
    rw [q6]
  · obtain ⟨j, x, y, c, mx, row, q1, q2, q4, q5, q6, q7⟩ := arsAt_getA hc hown hi
    subst q6
    have hfi : x.s.fine = true := fines_mem hf (List.mem_map.2 ⟨x, List.mem_of_getElem? q1, rfl⟩)
    rw [q2] at q7 hfi
    obtain ⟨h1, h2, h3, h4, h5⟩ := q7
    simp only [Sh.fine, Bool.and_eq_true, Bool.not_eq_true', List.isEmpty_eq_false_iff] at hfi
    have hd : (E.var (0 + j)).dat xs = y := by
      simp only [E.dat, Nat.zero_add, List.getD_eq_getElem?_getD, q4, Option.getD_some]
    have hs := h1
    simp only [HasSh] at hs
    have hct : (Ct.e (E.var (0 + j))).els xs = y.els := by show ((E.var (0 + j)).dat xs).els = _; rw [hd]
    refine ⟨hfi.1.2, ?_, ?_, ?_, ?_⟩
    · show Shaped row ((Ct.e (E.var (0 + j))).els xs)
      rw [hct]; exact ⟨hfi.1.1, hs.2⟩
    · show (E.len (.var (0 + j))).den xs = ((Ct.e (E.var (0 + j))).els xs).length
      rw [hct]
      simp only [E.den, hd, DV.len]
      exact clampL_eq (Nat.le_trans hs.1 (Nat.le_of_ble_eq_true hfi.2))
    · show Nest w _ row ((Ct.e (E.var (0 + j))).els xs)
      rw [hct]; exact h5
    · show LaidAt w _ _ row ((Ct.e (E.var (0 + j))).els xs)
      rw [hct, hsv, List.getD_eq_getElem?_getD, q5, Option.getD_some, h3]
      exact h4
  · obtain ⟨y, c, h1, h2, h3⟩ := cells_get hc hS
    refine ⟨fines_mem hf h1, ?_⟩
    show NestD w _ S (xs.getD i (.n 0))
    rw [List.getD_eq_getElem?_getD, h2, Option.getD_some]
    obtain ⟨_, h4⟩ := h3
    cases S with
    | sl mx row => simp only [NestD]; exact h4.2.2.2
    | _ => simp only [NestD]
  · rw [hp]
    refine resAt_den (l.map toR) xs cs 0 0 f2 (fun i y hi => ?_) (fun i u hi => ?_)
    · show xs.getD (0 + i) (.n 0) = y
      rw [Nat.zero_add, List.getD_eq_getElem?_getD, hi, Option.getD_some]
    · rw [Nat.zero_add, hsv, List.getD_eq_getElem?_getD, hi, Option.getD_some]
      have hlt : i < (arsAt (resL' (l.map toR)) 0).length := by rw [f3 0]; exact (List.getElem?_eq_some_iff.1 hi).1
      obtain ⟨j, x, y, c, mx, row, q1, q2, q4, q5, q6, q7⟩ := arsAt_getA hc hown (List.getElem?_eq_getElem hlt)
      rw [hi] at q5
      cases q5
      rw [q2] at q7
      exact q7.2.2.1
/-! Results. -/
def resCell {β : Type} (s0 s : St) (x : RC) (c : CV) (k : E → List (Option Nat) → St → T β) : T β :=
  match x.s with
  | .sl mx row => match x.own with
    | some ety => (match c with
      | .k z => (match baseK s0 ety row z with
        | some (po, r) => if (x.s.fine && Sh.fines row) && (shLes r.row row && !row.isEmpty) then argC s x.s c fun e s1 => k e [po] s1 else .fail
        | none => .fail)
      | _ => .fail)
    | none => if (frzC s0 c && frzC s c) && (x.s.fine && !row.isEmpty) then argC s x.s c fun e s1 => k e [none] s1 else .fail
  | _ => argC s x.s c fun e s1 => k e [] s1
def resCells {β : Type} (s0 : St) : St → List RC → List CV → (List E → List (Option Nat) → St → T β) → T β
  | s, [], [], k => k [] [] s
  | s, x :: l, c :: r, k => resCell s0 s x c fun e os s => resCells s0 s l r fun es qs s => k (e :: es) (os ++ qs) s
  | _, _, _, _ => .fail
def OsOk (n : Env) (s : St) : List Value → List (Option Nat) → Prop
  | [], [] => True
  | v :: vs, o :: os => baseP n s v o ∧ OsOk n s vs os
  | _, _ => False
theorem OsOk.get {n : Env} {s : St} : ∀ {vs : List Value} {os : List (Option Nat)} {i : Nat} {v : Value}, OsOk n s vs os → vs[i]? = some v → ∃ o, os[i]? = some o ∧ baseP n s v o
  | [], os, i, v, h, hi => by simp at hi
  | v :: vs, [], i, u, h, hi => by simp only [OsOk] at h
  | v :: vs, o :: os, i, u, h, hi => by
    simp only [OsOk] at h
    cases i with
    | zero => simp only [List.getElem?_cons_zero, Option.some.injEq] at hi ⊢; subst hi; exact ⟨o, rfl, h.1⟩
    | succ i => simp only [List.getElem?_cons_succ] at hi ⊢; exact OsOk.get h.2 hi
theorem apart_ok {N : Nat} {w0 : World} {n : Env} {s : St} {a : Act} {w : World} (h : Rep N w0 n s a w) {vs : List Value} {os : List (Option Nat)} (ho : OsOk n s vs os) (hn : nodupO os = true) : Apart vs := fun i j u v g hi hj hu hv => by
  obtain ⟨o, p1, p2⟩ := ho.get hi
  obtain ⟨q, q1, q2⟩ := ho.get hj
  cases o with
  | none => rw [show u = .slice none 0 0 from p2] at hu; cases hu
  | some p => cases q with
    | none => rw [show v = .slice none 0 0 from q2] at hv; cases hv
    | some q =>
      obtain ⟨a0, r1, r2, r3⟩ := p2
      obtain ⟨b0, t1, t2, t3⟩ := q2
      have := h.dat.dis p q a0 b0 g r1 t1 r2 t2 (by rw [← r3]; exact hu) (by rw [← t3]; exact hv)
      subst this
      exact nodupO_ok hn p1 q1
theorem resCell_ok {β : Type} {N : Nat} {w0 : World} {C : List Con} {Φ : List DV → β → Prop} {a : Act} {w : World} {n n1 : Env} {s0 s : St} {x : RC} {c : CV} {k : E → List (Option Nat) → St → T β} (h0 : Rep N w0 n s0 a w) (hx : Ext n n1) (hv : n1.v = n.v) (hb : n1.b = n.b) (h : Rep N w0 n1 s a w) (hw : wfSt s = true) (har : s.ar = s0.ar) (hc : wfC (nz n) c = true) (hd : (resCell s0 s x c k).den C Φ n1.r) :
    ∃ m e os s1, Ext n1 m ∧ m.v = n1.v ∧ m.b = n1.b ∧ Rep N w0 m s1 a w ∧ wfSt s1 = true ∧ s1.ar = s.ar ∧ (k e os s1).den C Φ m.r ∧ wfE m.r.length e = true ∧ ResC N w (fun g => ¬ Owned n s0.ar g) x (e.top m.r) (c.den n) ∧ OsOk n s0 (ownV [x] [c.den n]) os := by
  have hcd : c.den n1 = c.den n := wfC_den hx c hc
  unfold resCell at hd
  have plain : (∀ mx row, x.s ≠ .sl mx row) → (argC s x.s c fun e s1 => k e [] s1).den C Φ n1.r → ∃ m e os s1, Ext n1 m ∧ m.v = n1.v ∧ m.b = n1.b ∧ Rep N w0 m s1 a w ∧ wfSt s1 = true ∧ s1.ar = s.ar ∧ (k e os s1).den C Φ m.r ∧ wfE m.r.length e = true ∧ ResC N w (fun g => ¬ Owned n s0.ar g) x (e.top m.r) (c.den n) ∧ OsOk n s0 (ownV [x] [c.den n]) os := fun hn hd => by
    obtain ⟨m, e, s1, a1, a2, a3, a4, a5, a6, a7, a8, a9, a10⟩ := argC_ok h hw hd
    rw [hcd] at a10
    refine ⟨m, e, [], s1, a1, a2, a3, a4, a5, a6, a8, a9, ?_, ?_⟩
    · obtain ⟨b1, b2⟩ := a10
      unfold ResC RC.vd
      cases hs : x.s with
      | int kk p q =>
        rw [hs] at b1 b2
        have b1' := b1
        simp only [HasSh] at b1'
        obtain ⟨z, e1, e2, _⟩ := b1'
        exact ⟨⟨z, e1, e2⟩, b2⟩
      | bool => rw [hs] at b1 b2; have b1' := b1; simp only [HasSh] at b1'; exact ⟨b1', b2⟩
      | str m => rw [hs] at b1 b2; exact ⟨⟨b1, b2.1⟩, b2.2⟩
      | sl m r => exact absurd hs (hn m r)
    · cases hs : x.s with
      | sl m r => exact absurd hs (hn m r)
      | _ => simp only [ownV, hs, OsOk]
  split at hd
  · rename_i mx row hs
    split at hd
    case h_2 =>
      rename_i hown
      split at hd
      case isFalse => exact hd.elim
      rename_i hcc
      simp only [Bool.and_eq_true, Bool.not_eq_true', List.isEmpty_eq_false_iff] at hcc
      obtain ⟨⟨_, hfz⟩, hfi, hne⟩ := hcc
      obtain ⟨m, e, s1, a1, a2, a3, a4, a5, a6, a7, a8, a9, a10⟩ := argC_S h hw hfz hd
      rw [hcd] at a10
      have hOe : (fun g => ¬ Owned n1 s.ar g) = fun g => ¬ Owned n s0.ar g := by funext g; rw [owned_same hx hv hb har]
      rw [hOe] at a10
      obtain ⟨b1, b2⟩ := a10
      refine ⟨m, e, [none], s1, a1, a2, a3, a4, a5, a6, a8, a9, ?_, ?_⟩
      · unfold ResC RC.vd
        rw [hs] at b1 b2 hfi ⊢
        simp only at b2 ⊢
        rw [hown]
        exact ⟨⟨b1, b2.1⟩, ⟨hne, hfi⟩, b2.2.1, b2.2.2.2, b2.2.2.1⟩
      · simp only [ownV, hs, hown, OsOk]
        exact ⟨rfl, trivial⟩
    rename_i ety hown
    split at hd
    case h_2 => exact hd.elim
    rename_i z
    split at hd
    case h_2 => exact hd.elim
    rename_i po r hbase
    split at hd
    case isFalse => exact hd.elim
    rename_i hcc
    simp only [Bool.and_eq_true, Bool.not_eq_true', List.isEmpty_eq_false_iff] at hcc
    obtain ⟨⟨hfi, hfs⟩, hle, hne⟩ := hcc
    obtain ⟨k1, k2, k3⟩ := baseK_ok h0 hne hfs hbase
    obtain ⟨m, e, s1, a1, a2, a3, a4, a5, a6, a7, a8, a9, a10, a11⟩ := argC_full h hw hd
    rw [hcd] at a10
    obtain ⟨r', r1, r2, r3⟩ := a11 mx row z hs rfl
    have hrr : r' = r := by
      unfold baseK at hbase
      split at hbase
      · cases hbase
        simp only [rdOf, Option.some.injEq] at r1
        exact r1.symm
      · split at hbase
        · rename_i hk
          simp only [rdOf, har, hk] at r1
          split at hbase
          · split at hbase
            · cases hbase; simp only [Option.some.injEq] at r1; exact r1.symm
            · cases hbase
          · split at hbase
            · cases hbase; simp only [Option.some.injEq] at r1; exact r1.symm
            · cases hbase
          · cases hbase
        · cases hbase
      · cases hbase
    subst hrr
    obtain ⟨t1, _, _⟩ := k1.shift hx hv hb
    have hels : (e.top m.r).els = r'.ct.els n.r := by rw [r3, wfCt_den hx.r r'.ct k1.wf.1]
    obtain ⟨f1, f2, f3, _⟩ := shLes_flat hle k1.shp.2
    obtain ⟨b1, b2⟩ := a10
    refine ⟨m, e, [po], s1, a1, a2, a3, a4, a5, a6, a8, a9, ?_, ?_⟩
    · unfold ResC RC.vd
      rw [hs] at b1 b2 hfi ⊢
      simp only at b2 ⊢
      rw [hown]
      refine ⟨⟨b1, b2.1⟩, ⟨hne, hfi⟩, b2.2.1, ?_, ?_⟩
      · rw [hels]; exact f3 _ _ k1.nest
      · simp only
        rw [hels, f2, shLes_len hle]
        exact k2
    · simp only [ownV, hs, hown, OsOk]
      exact ⟨k3, trivial⟩
  · rename_i hs
    exact plain (fun mx row e => hs mx row e) hd
theorem ownV_app : ∀ {a b : List RC} {cs ds : List Value}, cs.length = a.length → ownV (a ++ b) (cs ++ ds) = ownV a cs ++ ownV b ds
  | [], b, [], ds, _ => by simp [ownV]
  | [], b, _ :: _, ds, h => by simp at h
  | x :: a, b, [], ds, h => by simp at h
  | x :: a, b, c :: cs, ds, h => by
    have ih := ownV_app (a := a) (b := b) (cs := cs) (ds := ds) (by simpa using h)
    simp only [List.cons_append, ownV]
    cases x.s <;> simp [ih]
theorem OsOk.app {n : Env} {s : St} : ∀ {vs us : List Value} {os qs : List (Option Nat)}, OsOk n s vs os → OsOk n s us qs → OsOk n s (vs ++ us) (os ++ qs)
  | [], us, [], qs, _, h => h
  | [], _, _ :: _, _, h, _ => by simp only [OsOk] at h
  | _ :: _, _, [], _, h, _ => by simp only [OsOk] at h
  | v :: vs, us, o :: os, qs, h, k => by simp only [OsOk, List.cons_append] at *; exact ⟨h.1, h.2.app k⟩
theorem resCells_ok {β : Type} {N : Nat} {w0 : World} {C : List Con} {Φ : List DV → β → Prop} {a : Act} {w : World} {n : Env} {s0 : St} (h0 : Rep N w0 n s0 a w) : ∀ (L : List RC) (cs : List CV) {n1 : Env} {s : St} {k : List E → List (Option Nat) → St → T β}, Ext n n1 → n1.v = n.v → n1.b = n.b → Rep N w0 n1 s a w → wfSt s = true → s.ar = s0.ar → cs.all (wfC (nz n)) = true → (resCells s0 s L cs k).den C Φ n1.r →
    ∃ m es os s1, Ext n1 m ∧ (k es os s1).den C Φ m.r ∧ es.all (wfE m.r.length) = true ∧ ResA N w (fun g => ¬ Owned n s0.ar g) L (es.map (E.top m.r)) (cs.map (CV.den n)) ∧ OsOk n s0 (ownV L (cs.map (CV.den n))) os
  | [], [], n1, s, k, hx, hv, hb, h, hw, har, hc, hd => ⟨n1, [], [], s, Ext.refl n1, hd, rfl, by simp [ResA], by simp [ownV, OsOk]⟩
  | x :: l, c :: r, n1, s, k, hx, hv, hb, h, hw, har, hc, hd => by
    simp only [List.all_cons, Bool.and_eq_true] at hc
    simp only [resCells] at hd
    obtain ⟨m, e, os, s1, a1, a2, a3, a4, a5, a6, a7, a8, a9, a10⟩ := resCell_ok h0 hx hv hb h hw har hc.1 hd
    obtain ⟨m2, es, qs, s2, b1, b2, b3, b4, b5⟩ := resCells_ok h0 l r (hx.trans a1) (a2.trans hv) (a3.trans hb) a4 a5 (a6.trans har) hc.2 a7
    refine ⟨m2, e :: es, os ++ qs, s2, a1.trans b1, b2, ?_, ?_, ?_⟩
    · simp only [List.all_cons, b3, Bool.and_true]
      exact wfE_mono b1.r.length_le e a8
    · simp only [List.map_cons, ResA]
      rw [wfE_top b1.r e a8]
      exact ⟨a9, b4⟩
    · have : ownV (x :: l) ((c :: r).map (CV.den n)) = ownV [x] [c.den n] ++ ownV l (r.map (CV.den n)) := ownV_app (a := [x]) (cs := [c.den n]) rfl
      rw [this]
      exact a10.app b5
  | [], _ :: _, n1, s, k, _, _, _, _, _, _, _, hd => by simp only [resCells] at hd; exact hd.elim
  | _ :: _, [], n1, s, k, _, _, _, _, _, _, _, hd => by simp only [resCells] at hd; exact hd.elim
def shapeQ : List RSh → List PV → Bool
  | [], [] => true
  | .one _ :: l, .c _ :: r => shapeQ l r
  | .agg a :: l, .agg cs :: r => Nat.beq a.length cs.length && shapeQ l r
  | _, _ => false
theorem shapeQ_ok {n : Env} : ∀ {l : List RSh} {xs : List PV}, shapeQ l xs = true → xs.map (PV.den n) = packs l ((xs.flatMap PV.cells).map (CV.den n))
  | [], [], _ => rfl
  | .one _ :: l, .c c :: r, h => by
    simp only [shapeQ] at h
    simp only [List.map_cons, List.flatMap_cons, PV.cells, List.map_append, List.map_nil, List.singleton_append, packs, PV.den, shapeQ_ok h]
  | .agg a :: l, .agg cs :: r, h => by
    simp only [shapeQ, Bool.and_eq_true] at h
    have hl := Nat.eq_of_beq_eq_true h.1
    simp only [List.map_cons, List.flatMap_cons, PV.cells, List.map_append, packs, PV.den]
    have e : a.length = (cs.map (CV.den n)).length := by simp [hl]
    rw [e, List.take_left, List.drop_left, shapeQ_ok h.2]
  | [], _ :: _, h => by simp [shapeQ] at h
  | .one _ :: _, [], h => by simp [shapeQ] at h
  | .agg _ :: _, [], h => by simp [shapeQ] at h
  | .one _ :: _, .agg _ :: _, h => by simp [shapeQ] at h
  | .agg _ :: _, .c _ :: _, h => by simp [shapeQ] at h
def pvsOf (res : List RSh) (v : SV) : Option (List PV) := match res, v with
  | [_], .p x => some [x]
  | [_], _ => none
  | _, .tup l => some l
  | _, _ => none
theorem packR_den {n : Env} {res : List RSh} {v : SV} {xs : List PV} (h : pvsOf res v = some xs) (hq : shapeQ res xs = true) : v.den n = packR res ((xs.flatMap PV.cells).map (CV.den n)) := by
  have hp := shapeQ_ok (n := n) hq
  unfold packR
  rw [← hp]
  unfold pvsOf at h
  split at h
  · cases h; rfl
  · cases h
  · rename_i l hne
    cases h
    simp only [SV.den]
    split
    · rename_i x hx
      exfalso
      cases res with
      | nil => cases xs with
        | nil => simp at hx
        | cons y l => simp [shapeQ] at hq
      | cons a t => cases t with
        | nil => exact hne a rfl
        | cons b t => cases xs with
          | nil => simp at hx
          | cons y l => cases l with
            | nil => cases a <;> cases y <;> simp [shapeQ] at hq
            | cons z l => simp at hx
    · rfl
  · cases h
/-- Slices that are results and not owned: nobody writes to them any more. -/
def frzN (x : RC) (c : CV) (ar : List Ar) : List Ar := match c with
  | .k z => match x.s with
    | .sl _ _ => match x.own with
      | none => frzK3 z ar
      | some _ => ar
    | _ => ar
  | _ => ar
def frzNone : List RC → List CV → List Ar → List Ar
  | x :: l, c :: r, ar => frzNone l r (frzN x c ar)
  | _, _, ar => ar
theorem Rep.frzN {N : Nat} {w0 : World} {n : Env} {s : St} {a : Act} {w : World} (h : Rep N w0 n s a w) (x : RC) (c : CV) : Rep N w0 n { s with ar := Dx.frzN x c s.ar } a w := by
  unfold Dx.frzN
  split
  · rename_i z
    split
    · split
      · cases z <;> first | exact h | exact h.frzAr _
      · exact h
    · exact h
  · exact h
theorem Rep.frzNone {N : Nat} {w0 : World} {n : Env} {a : Act} {w : World} : ∀ (L : List RC) (cs : List CV) {s : St}, Rep N w0 n s a w → Rep N w0 n { s with ar := Dx.frzNone L cs s.ar } a w
  | [], cs, s, h => by cases cs <;> exact h
  | x :: l, [], s, h => h
  | x :: l, c :: r, s, h => Rep.frzNone l r (h.frzN x c)
/-- What is left of a function at its end. -/
def endS (s : St) (res : List RSh) (xs : List PV) : St := { s with tmps := [], bs := [], df := [], ar := frzNone (resL' res) (xs.flatMap PV.cells) s.ar }
/-! Ways that give the same: each one once. -/
def leafB {α : Type} : T α → List (T α)
  | .both t u => leafB t ++ leafB u
  | t => [t]
def dedupT {α : Type} (q : α → α → Bool) : List (T α) → List (T α) → List (T α)
  | [], acc => acc
  | x :: l, acc => if acc.any (eqTr q x) then dedupT q l acc else dedupT q l (acc ++ [x])
def bothL {α : Type} : List (T α) → T α
  | [] => .fail
  | [t] => t
  | t :: l => .both t (bothL l)
def once {α : Type} (q : α → α → Bool) : T α → T α
  | .both t u => bothL (dedupT q (leafB (once q t) ++ leafB (once q u)) [])
  | .ite b t e => .ite b (once q t) (once q e)
  | .con c xs k => .con c xs (once q k)
  | .lop c xs m k => .lop c xs m (once q k)
  | .dat g xs k => .dat g xs (once q k)
  | .adr x k => .adr x (once q k)
  | t => t
theorem leafB_den {α : Type} {C : List Con} {Φ : List DV → α → Prop} {r : List DV} : ∀ (t : T α), (∀ x ∈ leafB t, x.den C Φ r) → t.den C Φ r
  | .both t u, h => ⟨leafB_den t fun x hx => h x (List.mem_append_left _ hx), leafB_den u fun x hx => h x (List.mem_append_right _ hx)⟩
  | .ret a, h => h _ (List.mem_singleton_self _)
  | .ite b t e, h => h _ (List.mem_singleton_self _)
  | .con c xs k, h => h _ (List.mem_singleton_self _)
  | .lop c xs m k, h => h _ (List.mem_singleton_self _)
  | .chk c o xs, h => h _ (List.mem_singleton_self _)
  | .dat g xs k, h => h _ (List.mem_singleton_self _)
  | .adr x k, h => h _ (List.mem_singleton_self _)
  | .fail, h => h _ (List.mem_singleton_self _)
theorem dedupT_den {α : Type} {q : α → α → Bool} (hq : ∀ x y, q x y = true → x = y) {C : List Con} {Φ : List DV → α → Prop} {r : List DV} : ∀ (l acc : List (T α)), (∀ x ∈ dedupT q l acc, x.den C Φ r) → (∀ x ∈ acc, x.den C Φ r) ∧ ∀ x ∈ l, x.den C Φ r
  | [], acc, h => ⟨h, fun x hx => by cases hx⟩
  | y :: l, acc, h => by
    simp only [dedupT] at h
    split at h
    · rename_i hc
      obtain ⟨h1, h2⟩ := dedupT_den hq l acc h
      refine ⟨h1, fun x hx => ?_⟩
      rcases List.mem_cons.1 hx with e | e
      · obtain ⟨z, hz, he⟩ := List.any_eq_true.1 hc
        rw [e, eqTr_ok hq he]; exact h1 z hz
      · exact h2 x e
    · obtain ⟨h1, h2⟩ := dedupT_den hq l (acc ++ [y]) h
      refine ⟨fun x hx => h1 x (List.mem_append_left _ hx), fun x hx => ?_⟩
      rcases List.mem_cons.1 hx with e | e
      · rw [e]; exact h1 y (List.mem_append_right _ (List.mem_singleton_self _))
      · exact h2 x e
theorem bothL_den {α : Type} {C : List Con} {Φ : List DV → α → Prop} {r : List DV} : ∀ (l : List (T α)), (bothL l).den C Φ r → ∀ x ∈ l, x.den C Φ r
  | [], h, x, hx => by cases hx
  | [t], h, x, hx => by rw [List.mem_singleton.1 hx]; exact h
  | t :: u :: l, h, x, hx => by
    rcases List.mem_cons.1 hx with e | e
    · rw [e]; exact h.1
    · exact bothL_den (u :: l) h.2 x e
theorem once_den {α : Type} {q : α → α → Bool} (hq : ∀ x y, q x y = true → x = y) {C : List Con} {Φ : List DV → α → Prop} (t : T α) : ∀ r, (once q t).den C Φ r → t.den C Φ r := by
  induction t with
  | ret a => exact fun r h => h
  | ite b t e ht he => exact fun r h => ⟨fun hb => ht r (h.1 hb), fun hb => he r (h.2 hb)⟩
  | both t e ht he =>
    intro r h
    simp only [once] at h
    have h2 := (dedupT_den hq _ _ (bothL_den _ h)).2
    exact ⟨ht r (leafB_den _ fun x hx => h2 x (List.mem_append_left _ hx)), he r (leafB_den _ fun x hx => h2 x (List.mem_append_right _ hx))⟩
  | con c xs k hk =>
    intro r h
    simp only [once, T.den] at h ⊢
    split
    · rename_i hc; rw [hc] at h; exact h.elim
    · rename_i c' hc; rw [hc] at h; exact ⟨h.1, fun ys h1 h2 => hk _ (h.2 ys h1 h2)⟩
  | lop c xs m k hk =>
    intro r h
    simp only [once, T.den] at h ⊢
    split
    · rename_i hc; rw [hc] at h; exact h.elim
    · rename_i c' hc; rw [hc] at h; exact ⟨h.1, fun ys h1 h2 => hk _ (h.2 ys h1 h2)⟩
  | chk c o xs => exact fun r h => h
  | dat f xs k hk => exact fun r h => hk _ h
  | adr x k hk => exact fun r h a cap => hk _ (h a cap)
  | fail => exact fun r h => h
/-- What a function gives, as data. -/
def runC0 (tb : Tb) (C : List Con) (fuel : Nat) (c : Con) : T (List E) :=
  (runP tb C fuel c.f (argsOf c.args) ⟨argB c.args, [], []⟩ (argAr c.args)).bind fun p => match pvsOf c.res p.1 with
    | some xs => if (shapeQ c.res xs && wfSt (endS p.2 c.res xs)) && (xs.all (wfP (sz (endS p.2 c.res xs)))) then resCells (endS p.2 c.res xs) (endS p.2 c.res xs) (resL' c.res) (xs.flatMap PV.cells) fun es os _ => if nodupO os then .ret es else .fail else .fail
    | none => .fail
def runC (tb : Tb) (C : List Con) (fuel : Nat) (c : Con) : T (List E) := once eqEs (runC0 tb C fuel c)
theorem runC_den {tb : Tb} {C : List Con} {fuel : Nat} {c : Con} {Φ : List DV → List E → Prop} {r : List DV} (h : (runC tb C fuel c).den C Φ r) : (runC0 tb C fuel c).den C Φ r := once_den (fun x y h => eqEs_ok h) _ r h
end Go.Dx
