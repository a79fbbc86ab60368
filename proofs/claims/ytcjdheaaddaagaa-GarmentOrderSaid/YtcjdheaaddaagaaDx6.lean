/- DERIVED. A symbolic executor over data, proved sound; part 6. -/
import Derived.Test.YtcjdheaaddaagaaDx5
/- A symbolic executor: states that are equal. -/
namespace Go.Dx
open Go.RowKit
set_option linter.unusedVariables false
set_option linter.unusedSimpArgs false
/-! Equality of what lies in blocks. -/
def eqC : CV → CV → Bool
  | .k x, .k y => x.eqb y
  | .clo (.func f) a b, .clo (.func g) c d => Nat.beq f g && eqKs a c && eqKs b d
  | _, _ => false
theorem eqC_ok {x y : CV} (h : eqC x y = true) : x = y := by
  unfold eqC at h
  split at h
  · rw [K.eqb_ok h]
  · simp only [Bool.and_eq_true] at h; rw [Nat.eq_of_beq_eq_true h.1.1, eqKs_ok h.1.2, eqKs_ok h.2]
  · cases h
def eqCs : List CV → List CV → Bool
  | [], [] => true
  | x :: l, y :: r => eqC x y && eqCs l r
  | _, _ => false
theorem eqCs_ok : ∀ {x y : List CV}, eqCs x y = true → x = y
  | [], [], _ => rfl
  | x :: l, y :: r, h => by simp only [eqCs, Bool.and_eq_true] at h; rw [eqC_ok h.1, eqCs_ok h.2]
  | [], _ :: _, h => by cases h
  | _ :: _, [], h => by cases h
def eqKd : Option Lq → Option Lq → Bool
  | none, none => true
  | some .gone, some .gone => true
  | some (.dfr a), some (.dfr b) => a == b
  | _, _ => false
theorem eqKd_ok {x y : Option Lq} (h : eqKd x y = true) : x = y := by
  unfold eqKd at h
  split at h
  · rfl
  · rfl
  · rw [beq_iff_eq] at h; rw [h]
  · cases h
def eqBlk (x y : Blk) : Bool := eqKd x.kd y.kd && Nat.beq x.ty y.ty && eqCs x.cells y.cells
theorem eqBlk_ok {x y : Blk} (h : eqBlk x y = true) : x = y := by
  simp only [eqBlk, Bool.and_eq_true] at h
  obtain ⟨a, b, p⟩ := x; obtain ⟨c, d, q⟩ := y
  have h1 := eqKd_ok h.1.1
  have h2 := Nat.eq_of_beq_eq_true h.1.2
  have h3 := eqCs_ok h.2
  simp only at h1 h2 h3
  rw [h1, h2, h3]
def eqEs : List E → List E → Bool
  | [], [] => true
  | x :: l, y :: r => x.eqb y && eqEs l r
  | _, _ => false
theorem eqEs_ok : ∀ {x y : List E}, eqEs x y = true → x = y
  | [], [], _ => rfl
  | x :: l, y :: r, h => by simp only [eqEs, Bool.and_eq_true] at h; rw [E.eqb_ok h.1, eqEs_ok h.2]
  | [], _ :: _, h => by cases h
  | _ :: _, [], h => by cases h
def eqEss : List (List E) → List (List E) → Bool
  | [], [] => true
  | x :: l, y :: r => eqEs x y && eqEss l r
  | _, _ => false
theorem eqEss_ok : ∀ {x y : List (List E)}, eqEss x y = true → x = y
  | [], [], _ => rfl
  | x :: l, y :: r, h => by simp only [eqEss, Bool.and_eq_true] at h; rw [eqEs_ok h.1, eqEss_ok h.2]
  | [], _ :: _, h => by cases h
  | _ :: _, [], h => by cases h
def eqCt : Ct → Ct → Bool
  | .e x, .e y => x.eqb y
  | .rows x, .rows y => eqEss x y
  | _, _ => false
theorem eqCt_ok {x y : Ct} (h : eqCt x y = true) : x = y := by
  unfold eqCt at h
  split at h
  · rw [E.eqb_ok h]
  · rw [eqEss_ok h]
  · cases h
def eqSta : Sta → Sta → Bool
  | .dead, .dead => true
  | .frz, .frz => true
  | .full, .full => true
  | .told e, .told f => e.eqb f
  | .own, .own => true
  | .view p a, .view q b => Nat.beq p q && Nat.beq a b
  | _, _ => false
theorem eqSta_ok {x y : Sta} (h : eqSta x y = true) : x = y := by
  unfold eqSta at h
  split at h <;> first | rfl | (cases h; done) | (rw [E.eqb_ok h]; done) | skip
  simp only [Bool.and_eq_true] at h
  rw [Nat.eq_of_beq_eq_true h.1, Nat.eq_of_beq_eq_true h.2]
def eqAr (x y : Ar) : Bool := (shqs x.row y.row && eqCt x.ct y.ct) && (x.len.eqb y.len && (eqSta x.st y.st && Nat.beq x.ety y.ety))
theorem eqAr_ok {x y : Ar} (h : eqAr x y = true) : x = y := by
  simp only [eqAr, Bool.and_eq_true] at h
  obtain ⟨a, b, c, d, e⟩ := x; obtain ⟨a', b', c', d', e'⟩ := y
  have h1 := shqs_ok h.1.1; have h2 := eqCt_ok h.1.2; have h3 := E.eqb_ok h.2.1; have h4 := eqSta_ok h.2.2.1; have h5 := Nat.eq_of_beq_eq_true h.2.2.2
  simp only at h1 h2 h3 h4 h5
  rw [h1, h2, h3, h4, h5]
def eqArs : List Ar → List Ar → Bool
  | [], [] => true
  | x :: l, y :: r => eqAr x y && eqArs l r
  | _, _ => false
theorem eqArs_ok : ∀ {x y : List Ar}, eqArs x y = true → x = y
  | [], [], _ => rfl
  | x :: l, y :: r, h => by simp only [eqArs, Bool.and_eq_true] at h; rw [eqAr_ok h.1, eqArs_ok h.2]
  | [], _ :: _, h => by cases h
  | _ :: _, [], h => by cases h
/-- Does a slice hold what it held? -/
def eqBlks : List Blk → List Blk → Bool
  | [], [] => true
  | x :: l, y :: r => eqBlk x y && eqBlks l r
  | _, _ => false
theorem eqBlks_ok : ∀ {x y : List Blk}, eqBlks x y = true → x = y
  | [], [], _ => rfl
  | x :: l, y :: r, h => by simp only [eqBlks, Bool.and_eq_true] at h; rw [eqBlk_ok h.1, eqBlks_ok h.2]
  | [], _ :: _, h => by cases h
  | _ :: _, [], h => by cases h
def eqPV : PV → PV → Bool
  | .c x, .c y => eqC x y
  | .agg x, .agg y => eqCs x y
  | _, _ => false
theorem eqPV_ok {x y : PV} (h : eqPV x y = true) : x = y := by
  unfold eqPV at h
  split at h
  · rw [eqC_ok h]
  · rw [eqCs_ok h]
  · cases h
def eqPVs : List PV → List PV → Bool
  | [], [] => true
  | x :: l, y :: r => eqPV x y && eqPVs l r
  | _, _ => false
theorem eqPVs_ok : ∀ {x y : List PV}, eqPVs x y = true → x = y
  | [], [], _ => rfl
  | x :: l, y :: r, h => by simp only [eqPVs, Bool.and_eq_true] at h; rw [eqPV_ok h.1, eqPVs_ok h.2]
  | [], _ :: _, h => by cases h
  | _ :: _, [], h => by cases h
def eqSV : SV → SV → Bool
  | .p x, .p y => eqPV x y
  | .g a x, .g b y => a.eqb b && eqPV x y
  | .tup x, .tup y => eqPVs x y
  | .u i, .u j => Nat.beq i j
  | _, _ => false
theorem eqSV_ok {x y : SV} (h : eqSV x y = true) : x = y := by
  unfold eqSV at h
  split at h
  · rw [eqPV_ok h]
  · simp only [Bool.and_eq_true] at h; rw [B.eqb_ok h.1, eqPV_ok h.2]
  · rw [eqPVs_ok h]
  · rw [Nat.eq_of_beq_eq_true h]
  · cases h
def eqSVs : List SV → List SV → Bool
  | [], [] => true
  | x :: l, y :: r => eqSV x y && eqSVs l r
  | _, _ => false
theorem eqSVs_ok : ∀ {x y : List SV}, eqSVs x y = true → x = y
  | [], [], _ => rfl
  | x :: l, y :: r, h => by simp only [eqSVs, Bool.and_eq_true] at h; rw [eqSV_ok h.1, eqSVs_ok h.2]
  | [], _ :: _, h => by cases h
  | _ :: _, [], h => by cases h
def eqVDs : List VD → List VD → Bool
  | [], [] => true
  | .i a b :: l, .i c d :: r => iq a c && iq b d && eqVDs l r
  | .d s :: l, .d t :: r => shq s t && eqVDs l r
  | _, _ => false
theorem eqVDs_ok : ∀ {x y : List VD}, eqVDs x y = true → x = y
  | [], [], _ => rfl
  | .i a b :: l, .i c d :: r, h => by simp only [eqVDs, Bool.and_eq_true] at h; rw [iq_ok h.1.1, iq_ok h.1.2, eqVDs_ok h.2]
  | .d s :: l, .d t :: r, h => by simp only [eqVDs, Bool.and_eq_true] at h; rw [shq_ok h.1, eqVDs_ok h.2]
  | .i _ _ :: _, .d _ :: _, h => by cases h
  | .d _ :: _, .i _ _ :: _, h => by cases h
  | [], _ :: _, h => by cases h
  | .i _ _ :: _, [], h => by cases h
  | .d _ :: _, [], h => by cases h
def eqFacts : List (E × (Int × Int)) → List (E × (Int × Int)) → Bool
  | [], [] => true
  | x :: l, y :: r => x.1.eqb y.1 && iq x.2.1 y.2.1 && iq x.2.2 y.2.2 && eqFacts l r
  | _, _ => false
theorem eqFacts_ok : ∀ {x y : List (E × (Int × Int))}, eqFacts x y = true → x = y
  | [], [], _ => rfl
  | (e, (a, b)) :: l, (f, (c, d)) :: r, h => by simp only [eqFacts, Bool.and_eq_true] at h; rw [E.eqb_ok h.1.1.1, iq_ok h.1.1.2, iq_ok h.1.2, eqFacts_ok h.2]
  | [], _ :: _, h => by cases h
  | _ :: _, [], h => by cases h
def eqBs : List B → List B → Bool
  | [], [] => true
  | x :: l, y :: r => x.eqb y && eqBs l r
  | _, _ => false
theorem eqBs_ok : ∀ {x y : List B}, eqBs x y = true → x = y
  | [], [], _ => rfl
  | x :: l, y :: r, h => by simp only [eqBs, Bool.and_eq_true] at h; rw [B.eqb_ok h.1, eqBs_ok h.2]
  | [], _ :: _, h => by cases h
  | _ :: _, [], h => by cases h
def eqNs : List Nat → List Nat → Bool
  | [], [] => true
  | x :: l, y :: r => Nat.beq x y && eqNs l r
  | _, _ => false
theorem eqNs_ok : ∀ {x y : List Nat}, eqNs x y = true → x = y
  | [], [], _ => rfl
  | x :: l, y :: r, h => by simp only [eqNs, Bool.and_eq_true] at h; rw [Nat.eq_of_beq_eq_true h.1, eqNs_ok h.2]
  | [], _ :: _, h => by cases h
  | _ :: _, [], h => by cases h
def eqSt (s t : St) : Bool := (eqSVs s.tmps t.tmps && eqBlks s.bs t.bs) && (eqVDs s.bnd.v t.bnd.v && eqFacts s.bnd.x t.bnd.x) && (eqNs s.df t.df && (eqBs s.bnd.k t.bnd.k && eqArs s.ar t.ar))
theorem eqSt_ok {s t : St} (h : eqSt s t = true) : s = t := by
  simp only [eqSt, Bool.and_eq_true] at h
  obtain ⟨a, b, ⟨c, d, e⟩, f, g⟩ := s; obtain ⟨a', b', ⟨c', d', e'⟩, f', g'⟩ := t
  have h1 := eqSVs_ok h.1.1.1; have h2 := eqBlks_ok h.1.1.2; have h3 := eqVDs_ok h.1.2.1; have h4 := eqFacts_ok h.1.2.2; have h5 := eqNs_ok h.2.1; have h6 := eqBs_ok h.2.2.1; have h7 := eqArs_ok h.2.2.2
  simp only at h1 h2 h3 h4 h5 h6 h7
  rw [h1, h2, h3, h4, h5, h6, h7]
def DOp.eqb : DOp → DOp → Bool
  | .set i, .set j => Nat.beq i j
  | .cat, .cat => true
  | .sub, .sub => true
  | .rep, .rep => true
  | .rows i, .rows j => Nat.beq i j
  | .str, .str => true
  | .scat, .scat => true
  | .ssub, .ssub => true
  | .bstr, .bstr => true
  | .num, .num => true
  | _, _ => false
theorem DOp.eqb_ok {a b : DOp} (h : a.eqb b = true) : a = b := by
  unfold DOp.eqb at h
  split at h <;> first | rfl | (rw [Nat.eq_of_beq_eq_true h]) | cases h
def eqTr {α : Type} (q : α → α → Bool) : T α → T α → Bool
  | .ret s, .ret t => q s t
  | .ite a t e, .ite b u f => a.eqb b && eqTr q t u && eqTr q e f
  | .both t e, .both u f => eqTr q t u && eqTr q e f
  | .con c xs k, .con d ys l => Nat.beq c d && eqEs xs ys && eqTr q k l
  | .dat f xs k, .dat g ys l => f.eqb g && eqEs xs ys && eqTr q k l
  | .adr x k, .adr y l => x.eqb y && eqTr q k l
  | .lop c xs m k, .lop d ys n l => Nat.beq c d && eqEs xs ys && Nat.beq m n && eqTr q k l
  | .chk c o xs, .chk d p ys => Nat.beq c d && Nat.beq o p && eqEs xs ys
  | .fail, .fail => true
  | _, _ => false
theorem eqTr_ok {α : Type} {q : α → α → Bool} (hq : ∀ x y, q x y = true → x = y) : ∀ {t u : T α}, eqTr q t u = true → t = u := by
  intro t
  induction t with
  | ret s => intro u h; cases u <;> first | (rw [hq _ _ h]) | cases h
  | ite b t e ht he => intro u h; cases u <;> first | (simp only [eqTr, Bool.and_eq_true] at h; rw [B.eqb_ok h.1.1, ht h.1.2, he h.2]) | cases h
  | both t e ht he => intro u h; cases u <;> first | (simp only [eqTr, Bool.and_eq_true] at h; rw [ht h.1, he h.2]) | cases h
  | con c xs k ih => intro u h; cases u <;> first | (simp only [eqTr, Bool.and_eq_true] at h; rw [Nat.eq_of_beq_eq_true h.1.1, eqEs_ok h.1.2, ih h.2]) | cases h
  | lop c xs m k ih => intro u h; cases u <;> first | (simp only [eqTr, Bool.and_eq_true] at h; rw [Nat.eq_of_beq_eq_true h.1.1.1, eqEs_ok h.1.1.2, Nat.eq_of_beq_eq_true h.1.2, ih h.2]) | cases h
  | chk c o xs => intro u h; cases u <;> first | (simp only [eqTr, Bool.and_eq_true] at h; rw [Nat.eq_of_beq_eq_true h.1.1, Nat.eq_of_beq_eq_true h.1.2, eqEs_ok h.2]) | cases h
  | dat g xs k ih => intro u h; cases u <;> first | (simp only [eqTr, Bool.and_eq_true] at h; rw [DOp.eqb_ok h.1.1, eqEs_ok h.1.2, ih h.2]) | cases h
  | adr x k ih => intro u h; cases u <;> first | (simp only [eqTr, Bool.and_eq_true] at h; rw [E.eqb_ok h.1, ih h.2]) | cases h
  | fail => intro u h; cases u <;> first | rfl | cases h/-! Ways that end alike are one. -/
def eqRes (x y : SV × St) : Bool := eqSV x.1 y.1 && eqSt x.2 y.2
theorem eqRes_ok (x y : SV × St) (h : eqRes x y = true) : x = y := by
  simp only [eqRes, Bool.and_eq_true] at h
  exact Prod.ext (eqSV_ok h.1) (eqSt_ok h.2)
def fRes {β : Type} : SV × St → (SV × St → β) → β
  | (v, s), k => fS v fun v => fSt s fun s => k (v, s)
theorem fRes_eq {β : Type} (x : SV × St) (k : SV × St → β) : fRes x k = k x := by
  cases x; simp only [fRes, fS_eq, fSt_eq]
section
variable {α : Type} (f : α → (α → T α) → T α) (q : α → α → Bool)
def squash : T α → T α
  | .both t u => fT f (squash t) fun t => fT f (squash u) fun u => if eqTr q t u then t else .both t u
  | .ite b t e => .ite b (squash t) (squash e)
  | .con c xs k => .con c xs (squash k)
  | .lop c xs m k => .lop c xs m (squash k)
  | .dat g xs k => .dat g xs (squash k)
  | .adr x k => .adr x (squash k)
  | t => t
theorem squash_den (hf : ∀ x k, f x k = k x) (hq : ∀ x y, q x y = true → x = y) {C : List Con} {Φ : List DV → α → Prop} (t : T α) : ∀ r, (squash f q t).den C Φ r → t.den C Φ r := by
  induction t with
  | ret a => exact fun r h => h
  | ite b t e ht he => exact fun r h => ⟨fun hb => ht r (h.1 hb), fun hb => he r (h.2 hb)⟩
  | both t e ht he =>
    intro r h
    simp only [squash, fT_eq hf] at h
    split at h
    · rename_i hc
      exact ⟨ht r h, he r (by have e := eqTr_ok hq hc; rw [← e]; exact h)⟩
    · exact ⟨ht r h.1, he r h.2⟩
  | con c xs k hk =>
    intro r h
    simp only [squash, T.den] at h ⊢
    split
    · rename_i hc; rw [hc] at h; exact h.elim
    · rename_i c' hc; rw [hc] at h; exact ⟨h.1, fun ys h1 h2 => hk _ (h.2 ys h1 h2)⟩
  | lop c xs m k hk =>
    intro r h
    simp only [squash, T.den] at h ⊢
    split
    · rename_i hc; rw [hc] at h; exact h.elim
    · rename_i c' hc; rw [hc] at h; exact ⟨h.1, fun ys h1 h2 => hk _ (h.2 ys h1 h2)⟩
  | chk c o xs => exact fun r h => h
  | dat g xs k hk => exact fun r h => hk _ h
  | adr x k hk => exact fun r h a c => hk _ (h a c)
  | fail => exact fun r h => h
end
abbrev squashR : T (SV × St) → T (SV × St) := squash fRes eqRes
theorem squashR_den {C : List Con} {Φ : List DV → SV × St → Prop} {t : T (SV × St)} {r : List DV} (h : (squashR t).den C Φ r) : t.den C Φ r := squash_den fRes eqRes fRes_eq eqRes_ok t r h
def eqX : X → X → Bool
  | .nrm, .nrm => true
  | .ret, .ret => true
  | .ext i, .ext j => Nat.beq i j
  | _, _ => false
def eqXS (x y : X × St) : Bool := eqX x.1 y.1 && eqSt x.2 y.2
theorem eqXS_ok (x y : X × St) (h : eqXS x y = true) : x = y := by
  simp only [eqXS, Bool.and_eq_true] at h
  refine Prod.ext ?_ (eqSt_ok h.2)
  have h1 := h.1
  unfold eqX at h1
  split at h1 <;> first | simp_all | skip
  all_goals first | (rename_i e1 e2; rw [e1, e2, Nat.eq_of_beq_eq_true h1]) | simp_all
def fXS {β : Type} : X × St → (X × St → β) → β
  | (v, s), k => fSt s fun s => k (v, s)
theorem fXS_eq {β : Type} (x : X × St) (k : X × St → β) : fXS x k = k x := by
  cases x; simp only [fXS, fSt_eq]
abbrev squashX : T (X × St) → T (X × St) := squash fXS eqXS
theorem squashX_den {C : List Con} {Φ : List DV → X × St → Prop} {t : T (X × St)} {r : List DV} (h : (squashX t).den C Φ r) : t.den C Φ r := squash_den fXS eqXS fXS_eq eqXS_ok t r h
end Go.Dx

/- A symbolic executor: calls. -/
namespace Go.Dx
open Go.RowKit
set_option linter.unusedVariables false
set_option linter.unusedSimpArgs false
def resL (tb : Tb) (tmps : List SV) (mem : Mm) (s : Bnd) : List ResultVar → Option (List PV)
  | [] => some []
  | .tmp t :: l => match opP tmps [] (.tmp t), resL tb tmps mem s l with
    | some v, some r => some (v :: r)
    | _, _ => none
  | .cell a t :: l => match opK tmps [] (.tmp a), resL tb tmps mem s l with
    | some (.addr b o), some r => match loadS tb mem s t (.addr b o) with
      | some v => some (v :: r)
      | none => none
    | _, _ => none
def oneOf : List PV → SV
  | [x] => .p x
  | l => .tup l
def resS (tb : Tb) (fn : Func) (s : St) : Option SV := (resL tb s.tmps (memOf s) s.bnd fn.results.toList).map oneOf
def resVar (tmps : Array Value) : ResultVar → Sem Value
  | .tmp t => pure (tmps.getD t undef)
  | .cell b t => do loadVar t (← asAddr (tmps.getD b undef))
theorem results_eq (fn : Func) (tmps : Array Value) : results fn tmps = (do let vs ← fn.results.mapM (resVar tmps); pure (if h : vs.size = 1 then vs[0] else .tuple vs)) := by
  unfold results
  congr 2
theorem resL_run {P : Program} {tb : Tb} [TbOk P tb] {n : Env} {tmps : List SV} {mem : Mm} {a : Act} {w : World} {s : Bnd} (ht : a.tmps = (tmps.map (SV.den n)).toArray) (hm : Reads tb n mem w) (hs : BndOk n.r s) :
    ∀ (l : List ResultVar) (v : List PV), resL tb tmps mem s l = some v →
    (l.mapM (resVar a.tmps)).run P w = .ok (v.map (PV.den n)) w
  | [], v, h => by cases h; rfl
  | .tmp t :: l, v, h => by
    simp only [resL] at h
    split at h
    · rename_i x r hx hr
      cases h
      have e := opP_den (asm := []) ht (fun g hg => by cases hg) hx
      simp only [Act.eval] at e
      simp only [List.mapM_cons, resVar, Sem.run_bind, Sem.run_pure, Result.andThen_ok, resL_run ht hm hs l r hr, e, List.map_cons]
    · cases h
  | .cell b t :: l, v, h => by
    simp only [resL] at h
    split at h
    · rename_i b' o r hx hr
      split at h
      · rename_i x hl
        cases h
        have e := opK_den (asm := []) ht (fun g hg => by cases hg) hx
        simp only [Act.eval, K.den] at e
        obtain ⟨ad, ha1, ha2⟩ := loadS_var (P := P) hm hs hl
        simp only [K.den] at ha1
        rw [List.mapM_cons]
        simp only [resVar, Sem.run_bind, e, asAddr, Sem.run_pure, Result.andThen_ok, resL_run ht hm hs l r hr, List.map_cons]
        cases ha1
        simp only [ha2, Result.andThen_ok, resL_run ht hm hs l r hr]
      · cases h
    · cases h
theorem resS_run {P : Program} {tb : Tb}  [TbOk P tb] {N : Nat} {w0 : World} [GlbOk tb N w0] {n : Env} {s : St} {a : Act} {w : World} (h : Rep N w0 n s a w) {fn : Func} {v : SV} (hv : resS tb fn s = some v) : (results fn a.tmps).run P w = .ok (v.den n) w := by
  unfold resS at hv
  cases hl : resL tb s.tmps (memOf s) s.bnd fn.results.toList with
  | none => rw [hl] at hv; cases hv
  | some l =>
    rw [hl] at hv; cases hv
    have h1 := resL_run (P := P) h.tmps h.reads h.bnd _ l hl
    rw [results_eq, ← Array.toArray_toList (xs := fn.results), List.mapM_toArray]
    simp only [Sem.run_bind, Sem.run_map]
    rw [h1]
    simp only [Result.andThen_ok, Sem.run_pure]
    congr 1
    match l with
    | [] => rfl
    | [x] => rfl
    | x :: y :: r => simp [oneOf, SV.den]
/-- The blocks for deferred calls are shut. -/
def closeS : List Nat → List Blk → Option (List Blk)
  | [], bs => some bs
  | d :: l, bs => match bs[d]? with
    | some ⟨c, t, some (.dfr true)⟩ => closeS l (bs.set d ⟨c, t, some (.dfr false)⟩)
    | _ => none
/-- What is left of a call: its result, and the memory; blocks that nobody names are dropped. -/
def shut (s s' : St) (v : SV) : SV × St :=
  let b := s'.bs.take s.bs.length
  let q : Sz := ⟨s'.bnd.v.length, s.bs.length, s'.ar.length⟩
  if wfS q v && b.all (wfBlk q) then (v, { s' with tmps := s.tmps, bs := b, df := s.df }) else (v, { s' with tmps := s.tmps, df := s.df })
/-- Before a contract whose results may share memory with its arguments: nobody writes to these any more. -/
def conS {β : Type} (s : St) (nd : Bool) (args : List PV) (k : St → T β) : T β :=
  match nd with
  | false => k s
  | true => if args.all fun p => p.cells.all (frzC { s with ar := frzAll (args.flatMap PV.cells) s.ar }) then k { s with ar := frzAll (args.flatMap PV.cells) s.ar } else .fail
/-! Calls that turn an owned slice in place. -/
def inpArg : List PV → Option (Nat × Option FuncId)
  | [.c (.k (.ar k))] => some (k, none)
  | [.c (.k (.ar k)), .c (.clo (.func g) [] [])] => some (k, some g)
  | _ => none
def eqO : Option FuncId → Option FuncId → Bool
  | none, none => true
  | some a, some b => Nat.beq a b
  | _, _ => false
theorem eqO_ok {a b : Option FuncId} (h : eqO a b = true) : a = b := by
  unfold eqO at h
  split at h
  · rfl
  · rw [Nat.eq_of_beq_eq_true h]
  · cases h
def isIn (g : FuncId) (q : Option FuncId) (c : Con) : Bool := (c.f == g && c.lp.isNone) && match c.inp with
  | some i => eqO i.g q
  | none => false
def inpS (s : St) (i : Nat) (q : Inp) (k : Nat) : T (SV × St) :=
  match s.ar[k]? with
  | some ⟨row, ct, len, .own, ety⟩ =>
    if (Nat.beq row.length q.row.length && flatRow q.row) && (Sh.fine (.sl q.mx q.row) && !q.row.isEmpty) then
      argC s (.sl q.mx q.row) (.k (.ar k)) fun x s1 => .con i [x] (.ret (.tup [], { s1 with bnd := cat s1.bnd [.d (.sl q.mx q.row)], ar := turnAr k ⟨q.row, .e (.var s1.bnd.v.length), len, .own, ety⟩ s1.ar }))
    else .fail
  | _ => .fail
/-- A beginning of what is owned becomes what is owned. -/
def ownP (s : St) (k : Nat) : St := match s.ar[k]? with
  | some a => match a.st with
    | .view p 1 => { s with ar := promAr k p s.ar }
    | _ => s
  | none => s
theorem ownP_eq (s : St) (k : Nat) : (ownP s k).tmps = s.tmps ∧ (ownP s k).bs = s.bs ∧ (ownP s k).bnd = s.bnd ∧ (ownP s k).df = s.df ∧ (ownP s k).ar.length = s.ar.length := by
  unfold ownP
  split
  · split
    · exact ⟨rfl, rfl, rfl, rfl, promAr_len _ _ _⟩
    · exact ⟨rfl, rfl, rfl, rfl, rfl⟩
  · exact ⟨rfl, rfl, rfl, rfl, rfl⟩
theorem Rep.ownP {N : Nat} {w0 : World} {n : Env} {s : St} {a : Act} {w : World} (h : Rep N w0 n s a w) (k : Nat) : Rep N w0 n (Dx.ownP s k) a w := by
  unfold Dx.ownP
  split
  · rename_i b hb
    split
    · rename_i p hp
      exact h.promote hb hp
    · exact h
  · exact h
def inpC (C : List Con) (s : St) (g : FuncId) (args : List PV) : Option (T (SV × St)) :=
  match inpArg args with
  | none => none
  | some (k, q) => match C.findIdx? (isIn g q) with
    | none => none
    | some i => match C[i]? with
      | none => none
      | some c => match c.inp with
        | none => none
        | some p => if isIn g q c then some (inpS (ownP s k) i p k) else none
def callS (ex : Ex) (tb : Tb) (C : List Con) (s : St) (g : FuncId) (args : List PV) : T (SV × St) :=
  if wfSt s then
    match inpC C s g args with
    | some t => t
    | none => match C.findIdx? (fun c => (c.f == g && c.lp.isNone) && c.inp.isNone) with
    | some i => match C[i]? with
      | some c => if ((c.f == g && c.lp.isNone) && c.inp.isNone) && args.all (wfP (sz s)) then conS s (needs c.res) args fun s => argsC s c.args args fun xs s1 => .con i xs (.ret (resVal c.res s1.bnd.v.length s1.ar.length, { s1 with bnd := cat s1.bnd (resB c.res), ar := s1.ar ++ arsR (resL' c.res) s1.bnd.v.length })) else .fail
      | none => .fail
    | none => match tb.func g with
      | some fn => match fn.body with
        | some c => squashR <| (fSp (args.map SV.p ++ List.replicate (fn.ntmps - args.length) undefS) fun t => match s with | ⟨_, b, n, _, r⟩ => ex none c ⟨t, b, n, [], r⟩).bind fun p =>
          match p.1 with
          | .ext _ => .fail
          | _ => match closeS p.2.df p.2.bs with
            | some bs => match resS tb fn { p.2 with bs := bs } with
              | some v => .ret (shut s { p.2 with bs := bs } v)
              | none => .fail
            | none => .fail
        | none => .fail
      | none => .fail
  else .fail
section
variable {P : Program} {tb : Tb} {C : List Con} {N : Nat} {w0 : World}
def Snd (P : Program) (C : List Con) (N : Nat) (w0 : World) (ex : Ex) : Prop :=
  ∀ (ro : Option Nat) (c : Code) (s : St) (n : Env) (a : Act) (w : World) (Φ : List DV → X × St → Prop) (Q : Exit → Act → World → Prop), (∀ l, ro = some l → l < n.b.length) → Rep N w0 n s a w → (ex ro c s).den C Φ n.r →
    (∀ n' x s' a' w', Ext n n' → Rep N w0 n' s' a' w' → Φ n'.r (x, s') → Q x.exit a' w') → c.wpIn (Wd (ro.map fun l => n.b.getD l 0)) 0 P Q a w
theorem ro_ext {ro : Option Nat} {n m : Env} (h : Ext n m) (hr : ∀ l, ro = some l → l < n.b.length) : (ro.map fun l => m.b.getD l 0) = ro.map fun l => n.b.getD l 0 := by
  cases ro with
  | none => rfl
  | some l => simp only [Option.map_some, getD_prefix h.b (hr l rfl)]
theorem ro_lt {ro : Option Nat} {n m : Env} (h : Ext n m) (hr : ∀ l, ro = some l → l < n.b.length) : ∀ l, ro = some l → l < m.b.length := fun l hl => Nat.lt_of_lt_of_le (hr l hl) h.b.length_le
theorem put_at (w : World) (B : Nat) (o : Obj) : At B w (w.putObj B o) := ⟨rfl, rfl, rfl, World.putObj_size, fun k hk => World.putObj_heap_other hk⟩
/-- A block that holds no cells is turned. -/
theorem Mem.putq {N : Nat} {n : Env} {bs : List Blk} {w : World} (h : Mem N n bs w) {b : Nat} {k k' : Blk} (hk : bs[b]? = some k) {o : Obj} (ho : k'.at n (some o)) : Mem N n (bs.set b k') (w.putObj (n.b.getD b 0) o) := by
  refine h.set hk (put_at w _ o) ?_
  have hlt : n.b.getD b 0 < w.heap.size := by
    have h1 := Blk.at_some (h.2.2 b k hk).2
    cases hc : w.heap[n.b.getD b 0]? with
    | none => rw [hc] at h1; cases h1
    | some o => exact (Array.getElem?_eq_some_iff.1 hc).1
  rw [World.putObj_heap_same hlt]; exact ho
theorem Mem.mem {N : Nat} {n : Env} {bs : List Blk} {w : World} (h : Mem N n bs w) {b : Nat} {k : Blk} (hk : bs[b]? = some k) : n.b.getD b 0 ∈ n.b := by
  have hl : b < n.b.length := by rw [h.1]; exact (List.getElem?_eq_some_iff.1 hk).1
  rw [List.getD_eq_getElem?_getD, List.getElem?_eq_getElem hl]
  exact List.getElem_mem hl
theorem DatOk.putq {N : Nat} {n : Env} {bs : List Blk} {bnd : Bnd} {ar : List Ar} {w : World} (h : DatOk N n bnd ar w) (hB : BndOk n.r bnd) (hm : Mem N n bs w) {b : Nat} {k : Blk} (hk : bs[b]? = some k) (o : Obj) : DatOk N n bnd ar (w.putObj (n.b.getD b 0) o) :=
  h.world hB fun g _ hg => (put_at w (n.b.getD b 0) o).block g fun e => hg (by rw [e]; exact hm.mem hk)
theorem close_ok {n : Env} {fn : Func} {tmps : Array Value} {bnd : Bnd} {ar : List Ar} {R : Ending → World → Prop} (hbn : BndOk n.r bnd) : ∀ (l : List Nat) (bs bs2 : List Blk) (w : World), closeS l bs = some bs2 → Mem N n bs w → DatOk N n bnd ar w → Below N w0 w →
    (∀ w2, Mem N n bs2 w2 → DatOk N n bnd ar w2 → Below N w0 w2 → ∃ v, (results fn tmps).run P w2 = .ok v w2 ∧ R (.returned v) w2) →
    LeavesInM (Wd none) 0 P fn tmps R (l.map fun b => { target := .collected (n.b.getD b 0), args := #[] }) .returning w
  | [], bs, bs2, w, h, hm, hdt, hb, hR => by
    cases h
    exact hR w hm hdt hb
  | d :: l, bs, bs2, w, h, hm, hdt, hb, hR => by
    simp only [closeS] at h
    split at h
    · rename_i c t hd
      have h1 := hm.2.2 d _ hd
      obtain ⟨f, h2⟩ := h1.2
      refine ⟨by simp, .inl ⟨n.b.getD d 0, _, rfl, run_takeDeferred h2, ?_⟩⟩
      refine close_ok hbn l _ bs2 _ h (hm.putq hd (k' := ⟨c, t, some (.dfr false)⟩) ⟨f, rfl⟩) (hdt.putq hbn hm hd _) (hb.trans ((put_at w _ _).below h1.1)) hR
    · cases h
theorem shut_ok {n n' : Env} {s s' : St} {a a' : Act} {w w' : World} {v : SV} (h : Rep N w0 n s a w) (hw : wfSt s = true) (he : Ext n n') (h' : Rep N w0 n' s' a' w') :
    ∃ m, Ext n m ∧ m.r = n'.r ∧ Rep N w0 m (shut s s' v).2 a w' ∧ (shut s s' v).1.den m = v.den n' := by
  simp only [wfSt, Bool.and_eq_true] at hw
  rw [← h.nz] at hw
  have hdf : (s.df.all fun d => Nat.blt d n.b.length) = true := by rw [h.lens.2]; exact hw.2
  unfold shut
  simp only
  split
  · rename_i hc
    simp only [Bool.and_eq_true] at hc
    have hx : Ext { n' with b := n.b } n' := ⟨List.prefix_refl _, List.prefix_refl _, he.b, List.prefix_refl _, rfl⟩
    have hxn : Ext n { n' with b := n.b } := ⟨he.v, he.r, List.prefix_refl _, he.u, he.f⟩
    have hnz : nz { n' with b := n.b } = ⟨s'.bnd.v.length, s.bs.length, s'.ar.length⟩ := by
      have := h'.nz
      unfold nz sz at *
      simp only [Sz.mk.injEq] at this ⊢
      exact ⟨this.1, h.lens.2, this.2.2⟩
    rw [← hnz] at hc
    refine ⟨{ n' with b := n.b }, hxn, rfl, ?_, ?_⟩
    · refine ⟨h'.bnd, ⟨?_, ?_, ?_⟩, ?_, h'.below, ?_⟩
      · have := h'.lens.2; have h3 := he.b.length_le
        have := h.lens.2
        simp only [List.length_take]; omega
      · intro i j x hi hj
        have e1 : n'.b[i]? = some x := by
          obtain ⟨t, ht⟩ := he.b
          rw [← ht, List.getElem?_append_left (List.getElem?_eq_some_iff.1 hi).1]; exact hi
        have e2 : n'.b[j]? = some x := by
          obtain ⟨t, ht⟩ := he.b
          rw [← ht, List.getElem?_append_left (List.getElem?_eq_some_iff.1 hj).1]; exact hj
        exact h'.mem.2.1 i j x e1 e2
      · intro i b hi
        have hi' : s'.bs[i]? = some b ∧ i < s.bs.length := by
          rw [List.getElem?_take] at hi
          split at hi
          · exact ⟨hi, by assumption⟩
          · cases hi
        have h1 := h'.mem.2.2 i b hi'.1
        have hlt : i < n.b.length := by rw [h.lens.2]; exact hi'.2
        rw [getD_prefix he.b hlt 0] at h1
        refine ⟨h1.1, ?_⟩
        rw [← wfBlk_at hx b _ (List.all_eq_true.1 hc.2 b (List.mem_of_getElem? hi))]
        exact h1.2
      · exact h'.dat.move h'.bnd rfl (List.prefix_refl _) (fun g hg => .inl (he.b.subset hg)) (fun g _ _ => rfl) fun i S hS => .inl ⟨by rw [h'.lens.1]; exact (List.getElem?_eq_some_iff.1 hS).1, hS⟩
      · rw [h.act]
        have := wfSs_den hxn s.tmps hw.1.1
        simp only [this]
    · exact (wfS_den hx v hc.1).symm
  · refine ⟨n', he, rfl, ⟨h'.bnd, h'.mem, h'.dat, h'.below, ?_⟩, rfl⟩
    rw [h.act]
    simp only [wfSs_den he s.tmps hw.1.1, wfDf he s.df hdf]
theorem Rep.owned_lt {n : Env} {s : St} {a : Act} {w : World} (hN : N ≤ w0.heap.size) (h : Rep N w0 n s a w) {g : Nat} (hg : Owned n s.ar g) : g < w.heap.size := by
  rcases hg with (hg | hg) | ⟨i, c, hi, hc, hb⟩
  · obtain ⟨q, hq⟩ := List.mem_iff_getElem?.1 hg
    exact h.mem.lt hq
  · have h1 := h.dat.fb g hg
    have h2 := h.below.size
    omega
  · have he := h.dat.ent i c hi
    unfold EntOk at he
    rw [hc] at he
    exact (he.2.lt g hb).2
theorem inpS_ok [TbOk P tb] [GlbOk tb N w0] (hC : ∀ c ∈ C, ConOk P tb N w0 c) (hN : N ≤ w0.heap.size) {n : Env} {s : St} {a : Act} {w : World} {i k : Nat} {q : Inp} {c : Con} {Φ : List DV → SV × St → Prop} (hc : C[i]? = some c) (hlp : c.lp = none) (hq : c.inp = some q)
    (h : Rep N w0 n s a w) (hw : wfSt s = true) (hd : (inpS s i q k).den C Φ n.r) :
    Calls P c.f (n.sv k :: q.more).toArray w fun e w' => ∃ m v s', Ext n m ∧ Rep N w0 m s' a w' ∧ s'.tmps = s.tmps ∧ Φ m.r (v, s') ∧ e = .returned (v.den m) := by
  unfold inpS at hd
  split at hd
  case h_2 => exact hd.elim
  rename_i row ct len ety hk
  split at hd
  case isFalse => exact hd.elim
  rename_i hcc
  simp only [Bool.and_eq_true, Bool.not_eq_true', List.isEmpty_eq_false_iff] at hcc
  obtain ⟨⟨c1, c2⟩, c3, c4⟩ := hcc
  have c1 := Nat.eq_of_beq_eq_true c1
  have c3' := c3
  simp only [Sh.fine, Bool.and_eq_true] at c3'
  obtain ⟨m, x, s1, a1, a2, a3, a4, a5, a6, a7, a8, a9, a10, a11⟩ := argC_full h hw hd
  obtain ⟨r, r1, r2, r3⟩ := a11 q.mx q.row (.ar k) rfl rfl
  simp only [rdOf, hk, Option.some.injEq] at r1
  subst r1
  simp only at r2 r3
  have hent := h.dat.ent k _ hk
  unfold EntOk at hent
  simp only at hent
  obtain ⟨e1, e2⟩ := hent
  obtain ⟨_, f2, _, _⟩ := shLes_flat r2 e1.shp.2
  obtain ⟨b1, b2, b3, _, _⟩ := a10
  simp only [T.den, hc] at a8
  obtain ⟨hpre, a8⟩ := a8
  have hrow : w.ownsRow N ety q.row.length (n.sv k) (x.top m.r).els.length (flatV q.row (x.top m.r).els) := by
    rw [r3, f2, ← c1]; exact e2
  refine ((hC c (List.mem_of_getElem? hc) hlp).2 q hq (x.top m.r) (n.sv k) w N ety ⟨b1, b2⟩ hrow hpre h.below (Glb.below h.below)).mono fun e w' ⟨he, y, y1, y2, y3, y4, y5, y6, y7⟩ => ?_
  have hsv : m.sv k = n.sv k := by unfold Env.sv; rw [a2]
  have hwar := List.all_eq_true.1 h.dat.wf _ (List.mem_of_getElem? hk)
  simp only [wfAr, Bool.and_eq_true] at hwar
  have hct : ct.els m.r = ct.els n.r := wfCt_den a1.r ct hwar.1
  have hx := Ext.more m [y] (List.replicate [y].length undef) (by simp)
  have hrep := a4.letD (d := y) (S := .sl q.mx q.row) a5 y1.1 y1.2 c3 (by simp only [NestD]; exact fun e he => flatRow_nest c2)
  have hlr : m.r.length = s1.bnd.v.length := a4.lens.1
  have hct2 : ct.els (m.moreZ [y]).r = ct.els n.r := wfCt_den (a1.r.trans (List.prefix_append _ _)) ct hwar.1
  have hyd : (E.var s1.bnd.v.length).dat (m.moreZ [y]).r = y := by
    simp only [E.dat, ← hlr]
    simp [Env.moreZ, Env.more]
  have hbl : Below N w w' := ⟨y6.os, y6.tape, y6.output, y6.size, fun b hb => by
    by_cases hlt : b < w.heap.size
    · refine y7 b hlt fun e => ?_
      have := (e2.lt b e).1
      omega
    · have := h.below.size
      omega⟩
  have hys := y1.1
  simp only [HasSh] at hys
  have hx3 : (x.top m.r).els.length = (ct.els n.r).length := by rw [r3]
  have hfin := turnCellsG (P := P) (tb := tb) (k := k) (row' := q.row) (ct' := .e (.var s1.bnd.v.length)) (els' := y.els) hrep (by show s1.ar[k]? = _; rw [a6]; exact hk) hbl (fun b hb hne => y7 b hb (by rw [← hsv]; exact hne)) c4 c1.symm
    (by
      rw [hct2, ← hx3, c1]
      show w'.ownsRow N ety _ (m.sv k) _ _
      rw [hsv]; exact y5)
    (by
      simp only [wfCt, wfE, ← hlr]
      simp [Env.moreZ, Env.more, Nat.blt])
    (by simp only [Ct.els, hyd]) (by rw [hct2, y4, hx3]) c3'.1.2 hys.2 (fun e he => flatRow_nest c2)
  refine ⟨m.moreZ [y], .tup [], _, a1.trans hx, hfin, a7, a8 [y] y2 y3, ?_⟩
  rw [he]; rfl
theorem inpArg_den {n : Env} {args : List PV} {k : Nat} {q : Option FuncId} (h : inpArg args = some (k, q)) : args.map (PV.den n) = n.sv k :: moreF q := by
  unfold inpArg at h
  split at h
  · cases h; rfl
  · cases h; rfl
  · cases h
theorem callS_ok [TbOk P tb] [GlbOk tb N w0] {ex : Ex} (hex : Snd P C N w0 ex) (hC : ∀ c ∈ C, ConOk P tb N w0 c) (hN : N ≤ w0.heap.size) {n : Env} {s : St} {a : Act} {w : World} {g : FuncId} {args : List PV} {Φ : List DV → SV × St → Prop}
    (h : Rep N w0 n s a w) (hd : (callS ex tb C s g args).den C Φ n.r) :
    CallsIn (Wd none) 0 P g (args.map (PV.den n)).toArray w fun e w' => ∃ m v s', Ext n m ∧ Rep N w0 m s' a w' ∧ s'.tmps = s.tmps ∧ Φ m.r (v, s') ∧ e = .returned (v.den m) := by
  unfold callS at hd
  split at hd
  case isFalse => exact hd.elim
  rename_i hw
  split at hd
  · rename_i t ht
    unfold inpC at ht
    split at ht
    · cases ht
    rename_i k q hk
    split at ht
    · cases ht
    split at ht
    · cases ht
    rename_i i _ c hc
    split at ht
    · cases ht
    rename_i p hp
    split at ht
    case isFalse => cases ht
    rename_i hi
    cases ht
    unfold isIn at hi
    rw [hp] at hi
    simp only [Bool.and_eq_true, beq_iff_eq, Option.isNone_iff_eq_none] at hi
    obtain ⟨⟨hcf, hlp⟩, hq⟩ := hi
    have hq := eqO_ok hq
    rw [inpArg_den hk, ← hq, ← hcf]
    show CallsIn (Wd none) 0 P c.f (n.sv k :: p.more).toArray w _
    have hw2 : wfSt (ownP s k) = true := by
      obtain ⟨o1, o2, o3, o4, o5⟩ := ownP_eq s k
      have e : sz (ownP s k) = sz s := by simp only [sz, o2, o3, o5]
      simp only [wfSt, e, o1, o2, o4]
      simpa only [wfSt] using hw
    refine (callsIn_wide (n := 0)).2 ((inpS_ok hC hN hc hlp hp (h.ownP k) hw2 hd).mono fun e w' ⟨m, v, s', r1, r2, r3, r4, r5⟩ => ⟨m, v, s', r1, r2, by rw [r3, (ownP_eq s k).1], r4, r5⟩)
  split at hd
  · split at hd
    case h_2 => exact hd.elim
    rename_i i _ c hc
    split at hd
    case isFalse => exact hd.elim
    rename_i hcb
    simp only [Bool.and_eq_true, beq_iff_eq, Option.isNone_iff_eq_none] at hcb
    obtain ⟨⟨⟨hcf, hlp⟩, hinp⟩, hwa⟩ := hcb
    rw [← h.nz] at hwa
    unfold conS at hd
    split at hd
    · rename_i hnd
      obtain ⟨m, xs, s1, a1, a2, a3, a4, a5, a6, a7, a8, a9, a10⟩ := argsC_ok c.args args h hw hwa hd
      simp only [T.den, hc] at a8
      obtain ⟨hpre, a8⟩ := a8
      have hcall := (hC c (List.mem_of_getElem? hc) hlp).1 hinp (fun _ => False) _ _ w (fun g hg => hg.elim) (ArgsS.mono (fun g _ => id) (argsV_S a10)) hpre h.below (Glb.below h.below)
      rw [hcf] at hcall
      refine ((callsIn_wide (n := 0)).2 hcall).mono fun e w' ⟨ys, cs, hb, hp, hr, hap, he, hB⟩ => ?_
      obtain ⟨k1, k2⟩ := a4.con hN a5 (fun h => by rw [hnd] at h; cases h) hb hr hap hB
      refine ⟨_, _, _, a1.trans (conEnv_ext m ys _), k1, a7, a8 ys hb hp, ?_⟩
      rw [he, k2]
    · rename_i hnd
      split at hd
      case isFalse => exact hd.elim
      rename_i hfz
      have h2 := h.frzAll (args.flatMap PV.cells)
      have hw2 : wfSt { s with ar := frzAll (args.flatMap PV.cells) s.ar } = true := by
        have e : sz { s with ar := frzAll (args.flatMap PV.cells) s.ar } = sz s := by simp only [sz, frzAll_len]
        simp only [wfSt, e]
        simpa only [wfSt] using hw
      obtain ⟨m, xs, s1, a1, a2, a3, a4, a5, a6, a7, a8, a9, a10⟩ := argsC_S c.args args h2 hw2 hwa hfz rfl hd
      simp only [T.den, hc] at a8
      obtain ⟨hpre, a8⟩ := a8
      have hcall := (hC c (List.mem_of_getElem? hc) hlp).1 hinp (Owned n (frzAll (args.flatMap PV.cells) s.ar)) _ _ w (fun g hg => h2.owned_lt hN hg) a10 hpre h.below (Glb.below h.below)
      rw [hcf] at hcall
      refine ((callsIn_wide (n := 0)).2 hcall).mono fun e w' ⟨ys, cs, hb, hp, hr, hap, he, hB⟩ => ?_
      obtain ⟨k1, k2⟩ := a4.con hN a5 (fun _ g hg => (owned_same a1 a2 a3 a6 g).1 hg) hb hr hap hB
      refine ⟨_, _, _, a1.trans (conEnv_ext m ys _), k1, a7, a8 ys hb hp, ?_⟩
      rw [he, k2]
  · split at hd
    case h_2 => exact hd.elim
    rename_i fn hf
    split at hd
    case h_2 => exact hd.elim
    rename_i c hb
    have hd := squashR_den hd
    rw [fSp_eq, T.den_bind] at hd
    refine callsIn_of_wp_marks (F := Wd none) (func_ok (P := P) hf) hb trivial ?_
    refine hex none c ⟨args.map SV.p ++ List.replicate (fn.ntmps - args.length) undefS, s.bs, s.bnd, [], s.ar⟩ n _ w _ _ (fun l hl => by cases hl) ?_ hd ?_
    · refine ⟨h.bnd, h.mem, h.dat, h.below, ?_⟩
      simp only [List.map_append, List.map_map, List.map_replicate, undefS_den, List.size_toArray, List.length_map, List.map_nil, Act.mk.injEq, and_true]
      rw [← List.append_toArray, ← List.toArray_replicate]
      rfl
    · intro n' x s' a' w' he h' hφ
      have key : ∀ (bs : List Blk) (v : SV), closeS s'.df s'.bs = some bs → resS tb fn { s' with bs := bs } = some v → Φ n'.r (shut s { s' with bs := bs } v) →
          LeavesInM (Wd none) 0 P fn a'.tmps (fun e w' => ∃ m v s', Ext n m ∧ Rep N w0 m s' a w' ∧ s'.tmps = s.tmps ∧ Φ m.r (v, s') ∧ e = .returned (v.den m)) a'.defers .returning w' := fun bs v hcl hv hφ => by
        have e : a'.defers = s'.df.map fun b => { target := .collected (n'.b.getD b 0), args := #[] } := by rw [h'.act]
        rw [e]
        refine close_ok h'.bnd s'.df s'.bs bs w' hcl h'.mem h'.dat h'.below fun w2 hm2 hdt2 hb2 => ?_
        have h2 : Rep N w0 n' { s' with bs := bs } a' w2 := ⟨h'.bnd, hm2, hdt2, hb2, h'.act⟩
        obtain ⟨m, hm1, hm2, hm3, hm4⟩ := shut_ok (v := v) h hw he h2
        refine ⟨_, resS_run h2 hv, m, (shut s { s' with bs := bs } v).1, (shut s { s' with bs := bs } v).2, hm1, hm3, ?_, ?_, ?_⟩
        · unfold shut; simp only; split <;> rfl
        · rw [hm2]; exact hφ
        · rw [hm4]
      cases x with
      | ext id => exact hφ.elim
      | nrm =>
        simp only at hφ
        split at hφ
        · rename_i bs hcl
          split at hφ
          · rename_i v hv; exact key bs v hcl hv hφ
          · exact hφ.elim
        · exact hφ.elim
      | ret =>
        simp only at hφ
        split at hφ
        · rename_i bs hcl
          split at hφ
          · rename_i v hv; exact key bs v hcl hv hφ
          · exact hφ.elim
        · exact hφ.elim
end
end Go.Dx

/- A symbolic executor: operations with effects, regions. -/
namespace Go.Dx
open Go.RowKit
set_option linter.unusedVariables false
set_option linter.unusedSimpArgs false
def opPs (tmps : List SV) (asm : List B) : List Operand → Option (List PV)
  | [] => some []
  | x :: l => match opP tmps asm x, opPs tmps asm l with
    | some v, some r => some (v :: r)
    | _, _ => none
theorem opPs_den {n : Env} {tmps : List SV} {asm : List B} {a : Act} (ht : a.tmps = (tmps.map (SV.den n)).toArray) (ha : Asm n.r asm) : ∀ (l : List Operand) (v : List PV),
    opPs tmps asm l = some v → l.map a.eval = v.map (PV.den n)
  | [], v, h => by cases h; rfl
  | x :: l, v, h => by
    simp only [opPs] at h
    split at h
    · rename_i u r hu hr
      cases h
      simp [opP_den ht ha hu, opPs_den ht ha l r hr]
    · cases h
/-- What is known of a condition goes into the slots. -/
def assumeV (g : B) (t : Bool) (v : SV) : SV :=
  match v with
  | .g q x => if t && impl g q then .p x else if !t && q.eqb g then undefS else v
  | .p (.c (.k (.bool b))) => if b.eqb g then bool (.lit t) else if b.eqb (mkNot g) then bool (.lit !t) else v
  | v => v
theorem assumeV_den {n : Env} {g : B} {t : Bool} (h : g.den n.r = t) (v : SV) : (assumeV g t v).den n = v.den n := by
  unfold assumeV
  split
  · rename_i q x
    split
    · rename_i hc
      simp only [Bool.and_eq_true] at hc
      have := impl_ok g q hc.2 (by rw [h]; exact hc.1)
      simp [SV.den, this]
    · split
      · rename_i hc
        simp only [Bool.and_eq_true, Bool.not_eq_true'] at hc
        obtain ⟨h1, h2⟩ := hc
        obtain rfl := B.eqb_ok h2
        simp [SV.den, h, h1, undefS_den]
        rfl
      · rfl
  · rename_i b
    split
    · rename_i hc
      obtain rfl := B.eqb_ok hc
      simp [SV.den, PV.den, CV.den, K.den, B.den, h]
    · split
      · rename_i hc
        obtain rfl := B.eqb_ok hc
        simp [SV.den, PV.den, CV.den, K.den, B.den, mkNot_den, h]
      · rfl
  · rfl
def assume (s : St) (g : B) (t : Bool) : St := { s with bnd := refine s.bnd g t, tmps := s.tmps.map (assumeV g t) }
def mapF {α β γ : Type} (f : α → γ) (h : γ → (γ → β) → β) : List α → (List γ → β) → β
  | [], k => k []
  | x :: l, k => h (f x) fun y => mapF f h l fun l => k (y :: l)
theorem mapF_eq {α β γ : Type} {f : α → γ} {h : γ → (γ → β) → β} (hh : ∀ x k, h x k = k x) : ∀ (l : List α) (k : List γ → β), mapF f h l k = k (l.map f)
  | [], k => rfl
  | x :: l, k => by simp only [mapF, hh, mapF_eq hh l, List.map_cons]
def assumeK {β : Type} (s : St) (g : B) (t : Bool) (k : St → β) : β := match s with
  | ⟨ts, b, n, d, r⟩ => refineK g n t fun n => mapF (assumeV g t) fS ts fun ts => k ⟨ts, b, n, d, r⟩
theorem assumeK_eq {β : Type} (s : St) (g : B) (t : Bool) (k : St → β) : assumeK s g t k = k (assume s g t) := by
  cases s; simp only [assumeK, assume, refineK_eq, mapF_eq fS_eq]
theorem Rep.assume {N : Nat} {w0 : World} {n : Env} {s : St} {a : Act} {w : World} (h : Rep N w0 n s a w) {g : B} {t : Bool} (hg : g.den n.r = t) : Rep N w0 n (Dx.assume s g t) a w := by
  refine ⟨refine_ok g h.bnd t hg, h.mem, ?_, h.below, ?_⟩
  · refine h.dat.move h.bnd rfl (List.prefix_refl _) (fun g hg => .inl hg) (fun _ _ _ => rfl) fun i S hS => .inl ?_
    have := refine_vd g s.bnd t i S hS
    exact ⟨by rw [h.lens.1]; exact (List.getElem?_eq_some_iff.1 this).1, this⟩
  rw [h.act]
  have e : s.tmps.map (SV.den n) = (s.tmps.map (assumeV g t)).map (SV.den n) := by
    rw [List.map_map]; exact List.map_congr_left fun v _ => (assumeV_den hg v).symm
  simp only [Dx.assume, ← e]
def setsV : List (Tmp × PV) → List SV → List SV
  | [], t => t
  | (i, v) :: l, t => setsV l (t.set i (.p v))
theorem setsV_den (n : Env) : ∀ (ps : List Tmp) (vs : List PV) (t : List SV), ((setsV (ps.zip vs) t).map (SV.den n)).toArray = (ps.zip (vs.map (PV.den n))).foldl (fun (t : Array Value) (x : Tmp × Value) => t.setIfInBounds x.1 x.2) (t.map (SV.den n)).toArray
  | [], vs, t => rfl
  | p :: ps, [], t => rfl
  | p :: ps, v :: vs, t => by
    simp only [List.zip_cons_cons, setsV, List.map_cons, List.foldl_cons]
    rw [setsV_den n ps vs, List.map_set, List.setIfInBounds_toArray]
    rfl
def jumpOf : X → Option Code
  | .nrm => none
  | .ret => some .ret
  | .ext id => some (.exit id)
/-- The record of loop l is turned. -/
def loopAt (s : St) (l st : Nat) (pe : Option (Option Code)) : Option St :=
  match s.bs[l]? with
  | some ⟨c, t, some (.loop _ p tm ps a b d)⟩ => some { s with bs := s.bs.set l ⟨c, t, some (.loop st (pe.getD p) tm ps a b d)⟩ }
  | _ => none
/-- A call of yield: a round. -/
def yieldS (ex : Ex) (s : St) (l : Nat) (args : List PV) : T (SV × St) :=
  if wfSt s then
    match s.bs[l]? with
    | some ⟨_, _, some (.loop 0 _ tm ps assign body _)⟩ =>
      if args.length = ps.size then
        (fSp (setsV (ps.toList.zip args) tm) fun t => match s with | ⟨_, b, n, _, r⟩ => ex (some l) assign ⟨t, b, n, [], r⟩).bind fun p =>
          match p.1, p.2.bs[l]? with
          | .nrm, some ⟨_, _, some (.loop 0 _ _ _ _ _ _)⟩ => match loopAt p.2 l 1 none with
            | some s1 => (fMem s1 (ex (some l) body)).bind fun q => match loopAt q.2 l (match jumpOf q.1 with | none => 0 | some _ => 2) (some (jumpOf q.1)) with
              | some s2 => .ret (shut s s2 (bool (.lit (jumpOf q.1).isNone)))
              | none => .fail
            | none => .fail
          | _, _ => .fail
      else .fail
    | _ => .fail
  else .fail
/-- A division whose divisor may be 0: it must not be. -/
def divT (s : St) (op : BinOp) (k : IntKind) (a b : E) : T (SV × St) :=
  match op with
  | .quo => .ite (.eq b (.lit 0)) .fail (assumeK s (.eq b (.lit 0)) false fun s => .ret (int k (mkWrap s.bnd k (mkQuo a b)), s))
  | .rem => .ite (.eq b (.lit 0)) .fail (assumeK s (.eq b (.lit 0)) false fun s => .ret (int k (mkRem a b), s))
  | _ => .fail
/-- A shift whose count may be negative: it must not be. -/
def shT (s : St) (op : BinOp) (k : IntKind) (a b : E) : T (SV × St) :=
  .ite (.le (.lit 0) b) (assumeK s (.le (.lit 0) b) true fun s => match shiftS s.bnd op k a b with
    | some v => .ret (.p (.c (.k v)), s)
    | none => .fail) .fail
def isSh : BinOp → Bool
  | .shl => true
  | .shr => true
  | _ => false
/-- Bools of a value that are not known: both ways. -/
def litP {β : Type} (s : Bnd) (x : PV) (k : PV → T β) : T β := match x with
  | .c c => litC s c fun c => k (.c c)
  | .agg l => litL s l fun l => k (.agg l)
/-- Slices in a value that is stored into element i of a slice. -/
def nestP {β : Type} (s : St) (p : K) (x : PV) (k : PV → St → T β) : T β := match x with
  | .c c => if isAr c then (if wfK (sz s) p then nestL [c] s fun l s => match l with
    | [c] => k (.c c) s
    | _ => .fail else .fail) else k x s
  | .agg l => if l.any isAr then (if wfK (sz s) p then nestL l s fun l s => k (.agg l) s else .fail) else k x s
/-- A slice that is written out: as data, or as a block. -/
def bslA (tb : Tb) (s : St) (t : TypeId) (len : Nat) (l : List (Nat × PV)) : T (SV × St) :=
  match tb.und t with
  | some (.slice e) => match tb.size e, zeroS tb e with
    | some i, some z =>
      if len * i > 2 ^ 24 || z.cells.length = 0 then .fail
      else match fillS (fun j => some (j * i, i)) ((List.range (len * i)).map fun j => z.cells.getD (j % z.cells.length) (.k .nilp)) l with
        | some cs => match rowSh tb 20 e with
          | some _ => if Nat.ble len 16777216 then litL s.bnd cs fun cs => nestL cs s fun cs s => match buildA tb s e len cs with
            | some r => .ret r
            | none => .fail else .fail
          | none => newS s cs e fun b => .p (.c (.k (.sl b 0 len len)))
        | none => .fail
    | _, _ => .fail
  | _ => .fail
/-- A number that is not known: all cases. -/
def caseT {α : Type} (i : E) (k : Nat → St → T α) : Nat → Nat → St → T α
  | 0, _, _ => .fail
  | f + 1, m, s => match mkEq s.bnd i (.lit m) with
    | .lit true => k m s
    | .lit false => caseT i k f (m + 1) s
    | _ => .ite (.eq i (.lit m)) (assumeK s (.eq i (.lit m)) true fun s => k m s) (assumeK s (.eq i (.lit m)) false fun s => caseT i k f (m + 1) s)
/-- An index that may be out of range: it must not be. -/
def ixT (tb : Tb) (s : St) (t : TypeId) (x : K) (k : IntKind) (i : E) : T (SV × St) :=
  match tb.und t with
  | some (.slice e) => match tb.size e, arI (memOf s) x with
    | some z, some (src, z', l) => if Nat.beq z z' then .ite (.and (.le (.lit 0) i) (.lt i l)) (assumeK s (.le (.lit 0) i) true fun s => assumeK s (.lt i l) true fun s => .ret (.p (.c (.k (.ptr src z i 0))), s)) .fail else .fail
    | _, _ => .fail
  | some (.array l _) => caseT i (fun m s => match indexPtr tb (memOf s) s.bnd t x (.int k (.lit m)) with
    | some p => .ret (.p (.c (.k p)), s)
    | none => .fail) l 0 s
  | _ => .fail
/-- An element of an array that is a value. -/
def ixV (tb : Tb) (s : St) (t : TypeId) (x : PV) (k : IntKind) (i : E) : T (SV × St) :=
  match tb.und t with
  | some (.array l _) => caseT i (fun m s => match indexV tb s.bnd t x (.int k (.lit m)) with
    | some v => .ret (.p v, s)
    | none => .fail) l 0 s
  | _ => .fail
/-- Is a slice nil? One that holds nothing may be. (q: is it asked, or is it asked whether it is not?) -/
def nilQ (s : St) (q : Bool) (x : K) : T (SV × St) := match x with
  | .nils => .ret (bool (.lit q), s)
  | x => match rdOf s [.bool] x with
    | some r => .ite (.eq r.len (.lit 0)) (.both (.ret (bool (.lit q), s)) (.ret (bool (.lit !q), s))) (.ret (bool (.lit !q), s))
    | none => .fail
def nilT (tb : Tb) (s : St) (op : BinOp) (t : TypeId) (x : K) : T (SV × St) :=
  match tb.und t, op with
  | some (.slice _), .eql => nilQ s true x
  | some (.slice _), .neq => nilQ s false x
  | _, _ => .fail
/-- What is copied from a block into one. -/
def copyS (tb : Tb) (s : St) (t : TypeId) (b o l b' o' l' : Nat) : T (SV × St) :=
  match tb.und t with
  | some (.slice e) => match tb.size e, s.bs[b]?, s.bs[b']? with
    | some z, some ⟨cells, ty, none⟩, some ⟨cells', _, none⟩ =>
      if (((cells'.drop o').take (Nat.min l' l * z)).length = Nat.min l' l * z ∧ o + Nat.min l' l * z ≤ cells.length) ∧ Nat.ble (Nat.min l' l) 9223372036854775807 = true then
        .ret (int .i64 (.lit (Nat.min l' l)), { s with bs := s.bs.set b ⟨lay cells o ((cells'.drop o').take (Nat.min l' l * z)), ty, none⟩ }) else .fail
    | _, _, _ => .fail
  | _ => .fail
/-- An append; one to a slice without room makes a new block, or does nothing. -/
def appendT (tb : Tb) (s : St) (t : TypeId) (x y : K) : T (SV × St) :=
  match fullOf s x with
  | none => appendS tb s t x y
  | some _ => match tb.und t with
    | some (.slice e) => match tb.size e, rdOf s [] y with
      | some _, some ry => match mkEq s.bnd ry.len (.lit 0) with
        | .lit true => .ret (.p (.c (.k x)), s)
        | .lit false => appendF tb s t x y
        | _ => .ite (.eq ry.len (.lit 0)) (assumeK s (.eq ry.len (.lit 0)) true fun s => .ret (.p (.c (.k x)), s)) (assumeK s (.eq ry.len (.lit 0)) false fun s => appendF tb s t x y)
      | _, _ => .fail
    | _ => .fail
/-- Bytes as a string. -/
def litBys : List (List E) → Option (List Int)
  | [] => some []
  | [x] :: l => match unnum x, litBys l with
    | .lit n, some r => some (n :: r)
    | _, _ => none
  | _ => none
def convB0 (s : St) (r : Rd) : T (SV × St) :=
  if wfSt s then toVar s r.row r.ct fun x mx s1 => letD s1 .bstr [x] (.str mx) fun v s2 => .ret (.p (.c (.k (.str (.var v)))), s2) else .fail
def convB (tb : Tb) (s : St) (src dst : TypeId) (x : K) : T (SV × St) :=
  match tb.und src, tb.und dst with
  | some (.slice e), some .string => match tb.und e, rdOf s [.int .u8 0 255] x with
    | some (.int .u8), some r => match r.row with
      | [.int .u8 _ _] => match r.ct with
        | .rows l => match litBys l with
          | some ns => .ret (.p (.c (.k (.str (.str (strOfNums ns))))), s)
          | none => convB0 s r
        | _ => convB0 s r
      | _ => .fail
    | _, _ => .fail
  | _, _ => .fail
def optK (tmps : List SV) : Option Operand → Option (Option K)
  | none => some none
  | some x => (opK tmps [] x).map some
def effOp (ex : Ex) (tb : Tb) (C : List Con) (rd : Bool) (s : St) (o : Oper) : T (SV × St) :=
  match o.op with
  | .alloc t => match zeroS tb t with
    | some z => newS s z.cells t fun b => .p (.c (.k (.addr b 0)))
    | none => .fail
  | .box t x => match opP s.tmps [] x with
    | some v => newS s v.cells t fun b => .p (.c (.k (.addr b 0)))
    | none => .fail
  | .buildSlice t len parts => match partsS s.tmps [] parts.toList with
    | some l => bslA tb s t len l
    | none => .fail
  | .store t x y => match opK s.tmps [] x, opP s.tmps [] y with
    | some (.addr b o), some v => storeS tb s t b o v
    | some (.ptr (.ar k) z i j), some v => litP s.bnd v fun v => nestP s (.ptr (.ar k) z i j) v fun v s => storeAr tb s t k z i j v
    | _, _ => .fail
  | .pick c x y => match opB s.tmps [] c, opd s.tmps [] x, opd s.tmps [] y with
    | some g, some u, some v => .ite g (.ret (u, assume s g true)) (.ret (v, assume s g false))
    | _, _, _ => .fail
  | .binOp op t x y _ => match opK s.tmps [] x, opK s.tmps [] y with
    | some (.int k a), some (.int k' b) => if isSh op then shT s op k a b else if Nat.beq (kq k) (kq k') then divT s op k a b else .fail
    | some x, some .nils => nilT tb s op t x
    | _, _ => .fail
  | .indexAddr t x i => match opK s.tmps [] x, opK s.tmps [] i with
    | some x, some (.int k i) => ixT tb s t x k i
    | _, _ => .fail
  | .index t x i => match opP s.tmps [] x, opK s.tmps [] i with
    | some x, some (.int k i) => ixV tb s t x k i
    | _, _ => .fail
  | .makeSlice t l c => match opK s.tmps [] l, opK s.tmps [] c with
    | some (.int _ x), some (.int _ y) => makeS tb s t x y
    | _, _ => .fail
  | .slice t x lo hi none => match opK s.tmps [] x, optK s.tmps lo, optK s.tmps hi with
    | some x, some lo, some hi => sliceA tb s t x lo hi
    | _, _, _ => .fail
  | .convert src dst x => match opK s.tmps [] x with
    | some x => convB tb s src dst x
    | none => .fail
  | .slice t x lo (some hi) (some mx) => match opK s.tmps [] x, optK s.tmps lo, opK s.tmps [] hi, opK s.tmps [] mx with
    | some x, some lo, some hi, some mx => slice3A tb s t x lo hi mx
    | _, _, _, _ => .fail
  | .call c => match c.callee with
    | .value f => match opP s.tmps [] f, opPs s.tmps [] c.args.toList with
      | some (.c (.clo (.func g) first cap)), some as =>
        if (tb.func g).any (fun fn => fn.body.isSome) then callS ex tb C s g (first.map (fun k => .c (.k k)) ++ as ++ cap.map (fun k => .c (.k k))) else .fail
      | some (.c (.k (.yld l))), some as => if rd then yieldS ex s l as else .fail
      | _, _ => .fail
    | .builtin .append => match c.args.toList, c.argTypes.toList with
      | [x, y], [t, t'] => match opK s.tmps [] x, opK s.tmps [] y with
        | some x, some y => if Nat.beq t t' then appendT tb s t x y else .fail
        | _, _ => .fail
      | _, _ => .fail
    | .builtin .copy => match c.args.toList, c.argTypes.toList with
      | [x, y], [t, t'] => match opK s.tmps [] x, opK s.tmps [] y with
        | some (.sl b o l _), some (.sl b' o' l' _) => copyS tb s t b o l b' o' l'
        | some x, some y => copyB tb s t x y
        | _, _ => .fail
      | _, _ => .fail
    | .builtin .clear => match c.args.toList, c.argTypes.toList with
      | [x], [t] => match opK s.tmps [] x with
        | some x => clearS tb s t x
        | _ => .fail
      | _, _ => .fail
    | _ => .fail
  | _ => .fail
/-- One operation that is wanted. -/
def doOp (ex : Ex) (tb : Tb) (C : List Con) (rd : Bool) (s : St) (o : Oper) : T (SV × St) :=
  match valOp tb (memOf s) s.bnd s.tmps [] o with
  | some v => .ret (v, s)
  | none => effOp ex tb C rd s o
section
variable {P : Program} {tb : Tb} {C : List Con} {N : Nat} {w0 : World}
/-- What the program must be like. -/
structure Fine (P : Program) : Prop where
  name : ∀ (g : Nat) (fn : Func), P.funcs[g]? = some fn → fn.body.isSome = true → (fn.name == "runtime.NumGoroutine") = false
  mixed : P.follows .mixedOrders = true
theorem newS_ok {Φ : List DV → SV × St → Prop} {n : Env} {s : St} {a : Act} {w : World} {cells : List CV} {ty : TypeId} {v : Nat → SV} (hN : N ≤ w0.heap.size) (h : Rep N w0 n s a w)
    (hd : (newS s cells ty v).den C Φ n.r) : ∃ s', Rep N w0 (newEnv n w.heap.size) s' a (w.alloc (Blk.obj n ⟨cells, ty, none⟩)) ∧ Φ n.r (v s.bs.length, s') := by
  unfold newS at hd
  split at hd
  · rename_i hc
    simp only [Bool.and_eq_true] at hc
    exact ⟨_, h.new hN hc.1 hc.2 ty, hd⟩
  · exact hd.elim
theorem loopAt_ok {n : Env} {s s1 : St} {a : Act} {w : World} {l st : Nat} {pe : Option (Option Code)} (h : Rep N w0 n s a w) (hl : loopAt s l st pe = some s1) :
    ∃ (fn : FuncId) (st0 : Nat) (p : Option Code) (tm : List SV) (ps : Array Tmp) (as bo : Code) (d : Nat), w.heap[n.b.getD l 0]? = some (.loop { state := stOf st0, pending := p, fn := fn, tmps := (tm.map (SV.den n)).toArray, params := ps, assign := as, body := bo, defers := n.b.getD d 0 }) ∧
      Rep N w0 n s1 a (w.putObj (n.b.getD l 0) (.loop { state := stOf st, pending := pe.getD p, fn := fn, tmps := (tm.map (SV.den n)).toArray, params := ps, assign := as, body := bo, defers := n.b.getD d 0 })) := by
  unfold loopAt at hl
  split at hl
  · rename_i c t st0 p tm ps as bo d hb
    cases hl
    have h1 := h.mem.2.2 l _ hb
    obtain ⟨fn, h2⟩ := h1.2
    exact ⟨fn, st0, p, tm, ps, as, bo, d, h2, h.bnd, h.mem.putq hb (k' := ⟨c, t, some (.loop st (pe.getD p) tm ps as bo d)⟩) ⟨fn, rfl⟩, h.dat.putq h.bnd h.mem hb _, h.below.trans ((put_at w _ _).below h1.1), h.act⟩
  · cases hl
/-- What an operation comes to. -/
def Runs (P : Program) (o : Oper) (a : Act) (rd : Bool) (KK : Act → World → Prop) : Result Next → Prop
  | .ok (.value v) w' => KK (a.put o.dst v) w'
  | .ok .skip w' => KK (a.put o.dst undef) w'
  | .ok (.enter f args) w' => CallsIn (Wd none) 0 P f args w' fun e w'' => ∃ v, e = .returned v ∧ KK (a.put o.dst v) w''
  | .ok (.round l f tmps assign body) w' => rd = true ∧ RoundIn (Wd none) 0 P l f tmps assign body w' fun e w'' => ∃ v, e = .returned v ∧ KK (a.put o.dst v) w''
  | _ => False
theorem yieldS_ok {ex : Ex} (hex : Snd P C N w0 ex) (hN : N ≤ w0.heap.size) {n : Env} {s : St} {a : Act} {w : World} {l : Nat} {args : List PV} {Φ : List DV → SV × St → Prop}
    (h : Rep N w0 n s a w) (hd : (yieldS ex s l args).den C Φ n.r) :
    ∃ L f tmps assign body, (Instr.yield (n.b.getD l 0) (args.map (PV.den n)).toArray).run P w = .ok (.round L f tmps assign body) w ∧
      RoundIn (Wd none) 0 P L f tmps assign body w fun e w' => ∃ v s' m, Ext n m ∧ Rep N w0 m s' a w' ∧ Φ m.r (v, s') ∧ e = .returned (v.den m) := by
  unfold yieldS at hd
  split at hd
  case isFalse => exact hd.elim
  rename_i hw
  split at hd
  case h_2 => exact hd.elim
  rename_i c t p tm ps assign body d hb
  split at hd
  case isFalse => exact hd.elim
  rename_i hlen
  rw [fSp_eq, T.den_bind] at hd
  have h1 := h.mem.2.2 l _ hb
  obtain ⟨fn, h2⟩ := h1.2
  have hlt : l < n.b.length := by rw [h.lens.2]; exact (List.getElem?_eq_some_iff.1 hb).1
  have hro : ∀ m, Ext n m → (some (n.b.getD l 0) : Option Nat) = (some l).map fun l => m.b.getD l 0 := fun m hm => by
    simp only [Option.map_some, getD_prefix hm.b hlt]
  refine ⟨n.b.getD l 0, fn, _, assign, body, run_yield h2 (by simpa using hlen), ?_⟩
  refine roundIn_of_wpIn (F := Wd none) trivial ?_
  show assign.wpIn (Wd (some (n.b.getD l 0))) 0 P _ _ w
  rw [hro n (Ext.refl n)]
  refine hex (some l) assign ⟨setsV (ps.toList.zip args) tm, s.bs, s.bnd, [], s.ar⟩ n _ w _ _ (fun l' hl' => by cases hl'; exact hlt) ?_ hd ?_
  · refine ⟨h.bnd, h.mem, h.dat, h.below, ?_⟩
    simp only [List.map_nil, Act.mk.injEq, and_true]
    rw [setsV_den]
    rw [← Array.foldl_toList]
    simp
  · intro n1 x s1 a1 w1 he1 h1' hφ
    cases x with
    | ext id => simp only at hφ; exact hφ.elim
    | ret => simp only at hφ; exact hφ.elim
    | nrm =>
      simp only at hφ
      split at hφ
      · rename_i hrec
        split at hφ
        · rename_i s1b hl1
          rw [fMem_eq, T.den_bind] at hφ
          have hq := h1'.mem.2.2 l _ hrec
          obtain ⟨fn1, hq2⟩ := hq.2
          obtain ⟨fn', st0, p', tm', ps', as', bo', d', hx, hrep⟩ := loopAt_ok h1' hl1
          rw [hq2] at hx
          have hst : stOf st0 = .ready := by
            have := Option.some.inj hx
            injection this with this
            injection this with this
            exact this.symm
          rw [hx] at hq2
          have e0 : n1.b.getD l 0 = n.b.getD l 0 := getD_prefix he1.b hlt 0
          refine ⟨_, run_beginRound (by rw [e0] at hq2; exact hq2) (by rw [hst]), ?_⟩
          show body.wpIn (Wd (some (n.b.getD l 0))) 0 P _ _ _
          rw [hro n1 he1]
          have hrep' : Rep N w0 n1 s1b a1 (w1.putObj (n.b.getD l 0) (.loop { state := .busy, pending := p', fn := fn', tmps := (tm'.map (SV.den n1)).toArray, params := ps', assign := as', body := bo', defers := n1.b.getD d' 0 })) := by
            rw [e0] at hrep; exact hrep
          refine hex (some l) body s1b n1 a1 _ _ _ (fun l' hl' => by cases hl'; exact Nat.lt_of_lt_of_le hlt he1.b.length_le) hrep' hφ ?_
          intro n2 x2 s2 a2 w2 he2 h2' hφ2
          have he12 := he1.trans he2
          have fin : ∀ (j : Option Code), jumpOf x2 = j → ∃ v w3, (Instr.endRound (n.b.getD l 0) j).run P w2 = .ok v w3 ∧ ∃ v' s' m, Ext n m ∧ Rep N w0 m s' a w3 ∧ Φ m.r (v', s') ∧ Ending.returned v = .returned (v'.den m) := fun j hj => by
            rw [hj] at hφ2
            split at hφ2
            · rename_i s2b hl2
              obtain ⟨fn2, st2, p2, tm2, ps2, as2, bo2, d2, hx2, hrep2⟩ := loopAt_ok h2' hl2
              have e2 : n2.b.getD l 0 = n.b.getD l 0 := getD_prefix he12.b hlt 0
              rw [e2] at hx2 hrep2
              obtain ⟨m, hm1, hm2, hm3, hm4⟩ := shut_ok (v := bool (.lit j.isNone)) h hw he12 hrep2
              refine ⟨_, _, run_endRound j hx2, (shut s s2b (bool (.lit j.isNone))).1, (shut s s2b (bool (.lit j.isNone))).2, m, hm1, ?_, ?_, ?_⟩
              · cases j <;> exact hm3
              · rw [hm2]; exact hφ2
              · rw [hm4]; rfl
            · exact hφ2.elim
          cases x2 with
          | nrm => exact fin none rfl
          | ret => exact fin (some .ret) rfl
          | ext id => exact fin (some (.exit id)) rfl
        · exact hφ.elim
      · exact hφ.elim
theorem divT_ok {Φ : List DV → SV × St → Prop} {n : Env} {s : St} {a : Act} {w : World} {op : BinOp} {k : IntKind} {x y : E} (h : Rep N w0 n s a w) (hd : (divT s op k x y).den C Φ n.r) (t : TypeId) (ox oy : Operand) :
    ∃ v s', (do eqGuard op t ox oy (.int k (x.den n.r)) (.int k (y.den n.r)); binOp op t (.int k (x.den n.r)) (.int k (y.den n.r))).run P w = .ok (SV.den n v) w ∧ Rep N w0 n s' a w ∧ Φ n.r (v, s') := by
  unfold divT at hd
  split at hd
  · rw [assumeK_eq] at hd
    simp only [T.den, B.prop, E.den] at hd
    have hne : ¬ y.den n.r = 0 := fun e => (hd.1 e).elim
    have hb : (B.eq y (.lit 0)).den n.r = false := by simp [B.den, E.den, hne]
    have hr := h.assume hb
    refine ⟨_, _, ?_, hr, hd.2 hne⟩
    have he : (eqGuard .quo t ox oy (.int k (x.den n.r)) (.int k (y.den n.r))).run P w = .ok () w := rfl
    rw [Sem.run_bind, he, Result.andThen_ok]
    simp only [binOp, Op.intArith, Op.intDiv, SV.den, PV.den, CV.den, K.den, ne_eq, not_true_eq_false, if_false, mkWrap_den hr.bnd, mkQuo_den, hne]
    first | rfl | (simp; done) | skip
  · rw [assumeK_eq] at hd
    simp only [T.den, B.prop, E.den] at hd
    have hne : ¬ y.den n.r = 0 := fun e => (hd.1 e).elim
    have hb : (B.eq y (.lit 0)).den n.r = false := by simp [B.den, E.den, hne]
    have hr := h.assume hb
    refine ⟨_, _, ?_, hr, hd.2 hne⟩
    have he : (eqGuard .rem t ox oy (.int k (x.den n.r)) (.int k (y.den n.r))).run P w = .ok () w := rfl
    rw [Sem.run_bind, he, Result.andThen_ok]
    simp only [binOp, Op.intArith, Op.intDiv, SV.den, PV.den, CV.den, K.den, ne_eq, not_true_eq_false, if_false, mkRem_den, hne]
    first | rfl | (simp; done) | skip
  · exact hd.elim
theorem shT_ok {Φ : List DV → SV × St → Prop} {n : Env} {s : St} {a : Act} {w : World} {op : BinOp} {k k' : IntKind} {x y : E} (h : Rep N w0 n s a w) (hd : (shT s op k x y).den C Φ n.r) (t : TypeId) (ox oy : Operand) :
    ∃ v s', (do eqGuard op t ox oy (.int k (x.den n.r)) (.int k' (y.den n.r)); binOp op t (.int k (x.den n.r)) (.int k' (y.den n.r))).run P w = .ok (SV.den n v) w ∧ Rep N w0 n s' a w ∧ Φ n.r (v, s') := by
  unfold shT at hd
  rw [assumeK_eq] at hd
  simp only [T.den, B.prop, E.den] at hd
  have hle : 0 ≤ y.den n.r := Classical.byContradiction fun e => (hd.2 e).elim
  have hb : (B.le (.lit 0) y).den n.r = true := by simp [B.den, E.den, hle]
  have hr := h.assume hb
  have hd1 := hd.1 hle
  split at hd1
  · rename_i v hv
    exact ⟨_, _, shiftS_run hr.bnd hv t ox oy, hr, hd1⟩
  · exact hd1.elim
theorem litP_ok {β : Type} {Φ : List DV → β → Prop} {n : Env} {s : Bnd} (x : PV) (k : PV → T β) (hd : (litP s x k).den C Φ n.r) : ∃ y, y.den n = x.den n ∧ (k y).den C Φ n.r := by
  cases x with
  | c c =>
    simp only [litP] at hd
    obtain ⟨y, _, h2, h3⟩ := litC_ok (q := ⟨0, 0, 0⟩) c _ hd
    exact ⟨.c y, h2, h3⟩
  | agg l =>
    simp only [litP] at hd
    obtain ⟨m, _, h2, _, h4⟩ := litL_ok (q := ⟨0, 0, 0⟩) l _ hd
    exact ⟨.agg m, by simp only [PV.den, h2], h4⟩
theorem nestP_ok {β : Type} {Φ : List DV → β → Prop} {n : Env} {s : St} {a : Act} {w : World} {p : K} (x : PV) (k : PV → St → T β) (h : Rep N w0 n s a w) (hd : (nestP s p x k).den C Φ n.r) :
    ∃ m y s', Ext n m ∧ Rep N w0 m s' a w ∧ p.den m = p.den n ∧ y.den m = x.den n ∧ (k y s').den C Φ m.r := by
  cases x with
  | c c =>
    simp only [nestP] at hd
    split at hd
    · split at hd
      · rename_i hp
        obtain ⟨m, l', s', h1, h2, h3, h4⟩ := nestL_ok [c] h hd
        split at h4
        · rename_i c'
          simp only [List.map_cons, List.map_nil, List.cons.injEq, and_true] at h3
          exact ⟨m, .c c', s', h1.ext, h2, wfK_den h1.ext p (by rw [h.nz]; exact hp), h3, h4⟩
        · exact h4.elim
      · exact hd.elim
    · exact ⟨n, _, s, Ext.refl n, h, rfl, rfl, hd⟩
  | agg l =>
    simp only [nestP] at hd
    split at hd
    · split at hd
      · rename_i hp
        obtain ⟨m, l', s', h1, h2, h3, h4⟩ := nestL_ok l h hd
        exact ⟨m, .agg l', s', h1.ext, h2, wfK_den h1.ext p (by rw [h.nz]; exact hp), by simp only [PV.den, h3], h4⟩
      · exact hd.elim
    · exact ⟨n, _, s, Ext.refl n, h, rfl, rfl, hd⟩
theorem nil_eqIn [TbOk P tb] {w : World} {t e : TypeId} (hu : tb.und t = some (.slice e)) (a : Option Addr) (l c m : Nat) :
    (Op.equalIn (m + 1) t (.slice a l c) (.slice none 0 0)).run P w = .ok a.isNone w := by
  cases a <;> simp [Op.equalIn, run_slice hu]
theorem nil_run [TbOk P tb] {w : World} {t e : TypeId} (hu : tb.und t = some (.slice e)) (a : Option Addr) (l c : Nat) (ox oy : Operand) :
    (do eqGuard .eql t ox oy (.slice a l c) (.slice none 0 0); binOp .eql t (.slice a l c) (.slice none 0 0)).run P w = .ok (.bool a.isNone) w := by
  have he : (eqGuard .eql t ox oy (.slice a l c) (.slice none 0 0)).run P w = .ok () w := by
    simp [eqGuard]
  have h2 := nil_eqIn (P := P) (w := w) hu a l c 9999
  have h3 : Op.maxDepth = 9999 + 1 := rfl
  rw [Sem.run_bind, he, Result.andThen_ok]
  simp only [binOp, Op.equal, h3, Sem.run_bind, h2, Result.andThen_ok, Sem.run_pure]
  try rfl
theorem nil_run_ne [TbOk P tb] {w : World} {t e : TypeId} (hu : tb.und t = some (.slice e)) (a : Option Addr) (l c : Nat) (ox oy : Operand) :
    (do eqGuard .neq t ox oy (.slice a l c) (.slice none 0 0); binOp .neq t (.slice a l c) (.slice none 0 0)).run P w = .ok (.bool !a.isNone) w := by
  have he : (eqGuard .neq t ox oy (.slice a l c) (.slice none 0 0)).run P w = .ok () w := by
    simp [eqGuard]
  have h2 := nil_eqIn (P := P) (w := w) hu a l c 9999
  have h3 : Op.maxDepth = 9999 + 1 := rfl
  rw [Sem.run_bind, he, Result.andThen_ok]
  simp only [binOp, Op.equal, h3, Sem.run_bind, h2, Result.andThen_ok, Sem.run_pure]
  try rfl
theorem nilQ_ok {Φ : List DV → SV × St → Prop} {n : Env} {s : St} {a : Act} {w : World} {q : Bool} {x : K} (h : Rep N w0 n s a w) (hd : (nilQ s q x).den C Φ n.r) :
    ∃ ad l c v, x.den n = .slice ad l c ∧ SV.den n v = .bool (if q then ad.isNone else !ad.isNone) ∧ Φ n.r (v, s) := by
  unfold nilQ at hd
  split at hd
  · refine ⟨none, 0, 0, _, rfl, ?_, hd⟩
    cases q <;> rfl
  · split at hd
    case h_2 => exact hd.elim
    rename_i r hr
    have hrd := rdOf_ok h (row := [.bool]) (by simp) rfl hr
    obtain ⟨ad, cap, hv, hcap, hne⟩ := hrd.laid
    simp only [T.den, B.prop, E.den, hrd.len] at hd
    by_cases h0 : (r.ct.els n.r).length = 0
    · have hb := hd.1 (by omega)
      cases ad with
      | none => exact ⟨none, _, _, _, hv, by cases q <;> rfl, hb.1⟩
      | some z => exact ⟨some z, _, _, _, hv, by cases q <;> rfl, hb.2⟩
    · obtain ⟨b, o, hq, _⟩ := hne (fun he => h0 (by rw [he]; rfl))
      subst hq
      exact ⟨_, _, _, _, hv, by cases q <;> rfl, hd.2 (by omega)⟩
theorem nilT_ok [TbOk P tb] {Φ : List DV → SV × St → Prop} {n : Env} {s : St} {a : Act} {w : World} {op : BinOp} {t : TypeId} {x : K} (h : Rep N w0 n s a w) (hd : (nilT tb s op t x).den C Φ n.r) (ox oy : Operand) :
    ∃ v s', (do eqGuard op t ox oy (x.den n) (.slice none 0 0); binOp op t (x.den n) (.slice none 0 0)).run P w = .ok (SV.den n v) w ∧ Rep N w0 n s' a w ∧ Φ n.r (v, s') := by
  unfold nilT at hd
  split at hd
  · rename_i e hu
    obtain ⟨ad, l, c, v, hv, he, hφ⟩ := nilQ_ok h hd
    refine ⟨v, s, ?_, h, hφ⟩
    rw [hv, he]
    exact nil_run hu ad l c ox oy
  · rename_i e hu
    obtain ⟨ad, l, c, v, hv, he, hφ⟩ := nilQ_ok h hd
    refine ⟨v, s, ?_, h, hφ⟩
    rw [hv, he]
    exact nil_run_ne hu ad l c ox oy
  · exact hd.elim
theorem copyS_ok [TbOk P tb] {Φ : List DV → SV × St → Prop} {n : Env} {s : St} {a : Act} {w : World} {t t' ty : TypeId} {b o l c b' o' l' c' : Nat} (h : Rep N w0 n s a w) (hd : (copyS tb s t b o l b' o' l').den C Φ n.r) :
    ∃ v s' w', (Builtin.copy_ #[t, t'] ty #[(K.sl b o l c).den n, (K.sl b' o' l' c').den n]).run P w = .ok (SV.den n v) w' ∧ Rep N w0 n s' a w' ∧ Φ n.r (v, s') := by
  unfold copyS at hd
  split at hd
  case h_2 => exact hd.elim
  rename_i e hu
  split at hd
  case h_2 => exact hd.elim
  rename_i z cells ty0 cells' ty1 hz hb hb'
  split at hd
  case isFalse => exact hd.elim
  rename_i hc
  obtain ⟨⟨c1, c2⟩, c3⟩ := hc
  have hm := h.mem.2.2 b ⟨cells, ty0, none⟩ hb
  have hm' := h.mem.2.2 b' ⟨cells', ty1, none⟩ hb'
  have h2 : w.heap[n.b.getD b' 0]? = some (Blk.obj n ⟨cells', ty1, none⟩) := hm'.2
  generalize hv : (cells'.drop o').take (Nat.min l' l * z) = v at *
  obtain ⟨w', hr, hA, hB⟩ := run_storeS (P := P) (n := n) (ty := ty0) v cells o 0 w hm.2 (by omega)
  have hbn : n.b.getD b 0 ∈ n.b := by
    have hlt : b < n.b.length := by rw [h.lens.2]; exact (List.getElem?_eq_some_iff.1 hb).1
    rw [List.getD_eq_getElem?_getD, List.getElem?_eq_getElem hlt]
    exact List.getElem_mem hlt
  have hl := run_loadCells_list (P := P) (w := w) ⟨n.b.getD b' 0, o', none⟩ (v.map (CV.den n)) (fun q x hj => by
    rw [addr_plus, cell_at h2]
    rw [List.getElem?_map] at hj
    cases hq : v[q]? with
    | none => rw [hq] at hj; cases hj
    | some y =>
      rw [hq] at hj; cases hj
      rw [← hv, List.getElem?_take] at hq
      split at hq
      · rw [List.getElem?_drop] at hq; rw [hq]; rfl
      · cases hq)
  rw [List.length_map, c1] at hl
  refine ⟨_, _, w', ?_, ?_, hd⟩
  case refine_2 => exact ⟨h.bnd, h.mem.set hb hA (by simpa [Blk.at] using hB), h.dat.world h.bnd fun g _ hg => hA.block g fun e => hg (e ▸ hbn), h.below.trans (hA.below hm.1), h.act⟩
  simp only [Builtin.copy_, K.den, Sem.run_bind, run_slice hu, Result.andThen_ok, Builtin.lenOf, Sem.run_pure, Builtin.firstCells, run_size hz, hl, hr, List.getElem?_toArray, List.getElem?_cons_zero, List.getElem?_cons_succ]
  rfl
theorem optK_den {n : Env} {tmps : List SV} {a : Act} (ht : a.tmps = (tmps.map (SV.den n)).toArray) {x : Option Operand} {v : Option K} (h : optK tmps x = some v) : x.map a.eval = v.map (K.den n) := by
  cases x with
  | none => cases h; rfl
  | some x =>
    simp only [optK] at h
    cases hx : opK tmps [] x with
    | none => rw [hx] at h; cases h
    | some k =>
      rw [hx] at h
      cases h
      simp only [Option.map_some, opK_den ht (asm := []) (fun g hg => by cases hg) hx]
theorem bslA_ok [TbOk P tb] {Φ : List DV → SV × St → Prop} {n : Env} {s : St} {a : Act} {w : World} {t : TypeId} {len : Nat} {l : List (Nat × PV)} (hN : N ≤ w0.heap.size) (h : Rep N w0 n s a w) (hd : (bslA tb s t len l).den C Φ n.r) (ps : Array (Nat × Value)) (hp : ps.toList = l.map fun (i, x) => (i, x.den n)) :
    ∃ m v s' w', (Instr.buildSlice t len ps).run P w = .ok (SV.den m v) w' ∧ Ext n m ∧ Rep N w0 m s' a w' ∧ Φ m.r (v, s') := by
  unfold bslA at hd
  split at hd
  case h_2 => exact hd.elim
  rename_i e hu
  split at hd
  case h_2 => exact hd.elim
  rename_i i z hi hz
  split at hd
  · exact hd.elim
  rename_i hc
  split at hd
  case h_2 => exact hd.elim
  rename_i cs hf
  have h1 := bslS_run (P := P) (w := w) (n := n) hu hi hz hc hf ps hp
  split at hd
  · split at hd
    case isFalse => exact hd.elim
    rename_i hl
    obtain ⟨cs', _, e2, _, hd⟩ := litL_ok (q := sz s) _ _ hd
    obtain ⟨m1, cs2, s1, n1, n2, n3, hd⟩ := nestL_ok cs' h hd
    split at hd
    case h_2 => exact hd.elim
    rename_i r hb
    have hlen : len ≤ maxLen := by
      have := Nat.le_of_ble_eq_true hl
      simp only [maxLen]
      omega
    obtain ⟨m, k1, k2, k3, k4⟩ := buildA_ok (v := r.1) (s' := r.2) hN n2 hb hlen
    refine ⟨m, r.1, r.2, _, ?_, n1.ext.trans k1, k4, by rw [k2]; exact hd⟩
    rw [h1, k3, n3, e2]
    rfl
  · unfold newS at hd
    split at hd
    · rename_i hc
      simp only [Bool.and_eq_true] at hc
      have hr := h.new hN hc.1 hc.2 e
      refine ⟨_, _, _, _, h1.trans ?_, newEnv_ext n w.heap.size, hr, hd⟩
      simp only [SV.den, PV.den, CV.den, K.den, newEnv_last h.lens.2]
    · exact hd.elim
theorem caseT_ok {α : Type} {Φ : List DV → α → Prop} {n : Env} {a : Act} {w : World} {i : E} {k : Nat → St → T α} : ∀ (f m : Nat) (s : St), Rep N w0 n s a w → (caseT i k f m s).den C Φ n.r →
    ∃ (j : Nat) (s' : St), i.den n.r = j ∧ Rep N w0 n s' a w ∧ (k j s').den C Φ n.r
  | 0, m, s, h, hd => hd.elim
  | f + 1, m, s, h, hd => by
    unfold caseT at hd
    have he := mkEq_den h.bnd i (.lit m)
    split at hd
    · rename_i hq
      rw [hq] at he
      simp only [B.den, E.den] at he
      exact ⟨m, s, of_decide_eq_true he.symm, h, hd⟩
    · exact caseT_ok f (m + 1) s h hd
    · simp only [assumeK_eq, T.den, B.prop, E.den] at hd
      by_cases hc : i.den n.r = (m : Int)
      · exact ⟨m, _, hc, h.assume (by simp only [B.den, E.den]; exact decide_eq_true hc), hd.1 hc⟩
      · exact caseT_ok f (m + 1) _ (h.assume (by simp only [B.den, E.den]; exact decide_eq_false hc)) (hd.2 hc)
theorem ixT_ok [TbOk P tb] [GlbOk tb N w0] {Φ : List DV → SV × St → Prop} {n : Env} {s : St} {a : Act} {w : World} {t : TypeId} {x : K} {k : IntKind} {i : E} (h : Rep N w0 n s a w) (hd : (ixT tb s t x k i).den C Φ n.r) :
    ∃ v s', (Instr.indexAt t (x.den n) (.int k (i.den n.r))).run P w = .ok (SV.den n v) w ∧ Rep N w0 n s' a w ∧ Φ n.r (v, s') := by
  unfold ixT at hd
  split at hd
  case h_3 => exact hd.elim
  case h_2 =>
    rename_i l e hu
    obtain ⟨j, s', e1, e2, hd⟩ := caseT_ok _ _ _ h hd
    split at hd
    case h_2 => exact hd.elim
    rename_i p hp
    refine ⟨_, s', ?_, e2, hd⟩
    have := indexPtr_run (P := P) e2.reads e2.bnd hp
    rw [e1]
    exact this
  rename_i e hu
  split at hd
  case h_2 => exact hd.elim
  rename_i z src z' l hi ha
  split at hd
  case isFalse => exact hd.elim
  rename_i hz
  obtain rfl := Nat.eq_of_beq_eq_true hz
  rw [assumeK_eq] at hd
  simp only [assumeK_eq, T.den, B.prop, E.den] at hd
  by_cases hc : 0 ≤ i.den n.r ∧ i.den n.r < l.den n.r
  · have hr := indexAr_run (P := P) (k := k) h.reads hu hi ha hc.1 hc.2
    refine ⟨.p (.c (.k (.ptr src z i 0))), _, hr, ?_, hd.1 hc⟩
    have h1 := h.assume (g := .le (.lit 0) i) (t := true) (by simp only [B.den, decide_eq_true_eq]; exact hc.1)
    exact h1.assume (g := .lt i l) (t := true) (by simp only [B.den, decide_eq_true_eq]; exact hc.2)
  · exact (hd.2 hc).elim
theorem ixV_ok [TbOk P tb] {Φ : List DV → SV × St → Prop} {n : Env} {s : St} {a : Act} {w : World} {t : TypeId} {x : PV} {k : IntKind} {i : E} (h : Rep N w0 n s a w) (hd : (ixV tb s t x k i).den C Φ n.r) :
    ∃ v s', (Instr.index t (x.den n) (.int k (i.den n.r))).run P w = .ok (SV.den n v) w ∧ Rep N w0 n s' a w ∧ Φ n.r (v, s') := by
  unfold ixV at hd
  split at hd
  case h_2 => exact hd.elim
  rename_i l e hu
  obtain ⟨j, s', e1, e2, hd⟩ := caseT_ok _ _ _ h hd
  split at hd
  case h_2 => exact hd.elim
  rename_i p hp
  refine ⟨_, s', ?_, e2, hd⟩
  have := indexV_run (P := P) (w := w) e2.bnd hp
  rw [e1]
  exact this
theorem run_append_zero {w : World} {t ty e : TypeId} {z : Nat} {y : Option Addr} {l : Nat} (hu : tb.und t = some (.slice e)) (hz : tb.size e = some z) [TbOk P tb] {b : Option Addr} {c : Nat} :
    (Builtin.append_ #[t, t] ty #[.slice y l l, .slice b 0 c]).run P w = .ok (.slice y l l) w := by
  have hu' := und_slice (P := P) hu
  have hsz := run_size (P := P) (w := w) hz
  obtain ⟨i, hi1, hi2⟩ := size_ok (P := P) hz
  cases b <;> cases y <;> simp [Builtin.append_, run_underlying hu', sizeOf, typeInfo, hi1, Builtin.lenOf, Builtin.firstCells, storeCells, loadCells, loadCellsFrom]
theorem rdOf_len {n : Env} {s : St} {a : Act} {w : World} (h : Rep N w0 n s a w) {y : K} {r : Rd} (hy : rdOf s [] y = some r) : ∃ b c, y.den n = .slice b (r.ct.els n.r).length c ∧ r.len.den n.r = (r.ct.els n.r).length ∧ wfE s.bnd.v.length r.len = true := by
  by_cases hn : y = .nils
  · subst hn
    simp only [rdOf, Option.some.injEq] at hy
    subst hy
    exact ⟨none, 0, rfl, rfl, rfl⟩
  · have hr : rdOf s [.bool] y = some r := by cases y <;> first | exact hy | exact absurd rfl hn
    have h1 := rdOf_ok h (row := [.bool]) (by simp) rfl hr
    obtain ⟨b, c, h2, _⟩ := h1.laid
    exact ⟨b, c, h2, h1.len, by rw [← h.lens.1]; exact h1.wf.2⟩
theorem appendT_ok [TbOk P tb] {Φ : List DV → SV × St → Prop} {n : Env} {s : St} {a : Act} {w : World} {t ty : TypeId} {x y : K} (hN : N ≤ w0.heap.size) (h : Rep N w0 n s a w) (hd : (appendT tb s t x y).den C Φ n.r) :
    ∃ m v s' w', (Builtin.append_ #[t, t] ty #[x.den n, y.den n]).run P w = .ok (SV.den m v) w' ∧ Ext n m ∧ Rep N w0 m s' a w' ∧ Φ m.r (v, s') := by
  unfold appendT at hd
  split at hd
  · exact appendS_ok hN h hd
  rename_i r hf
  split at hd
  case h_2 => exact hd.elim
  rename_i e hu
  split at hd
  case h_2 => exact hd.elim
  rename_i z ry hz hry
  obtain ⟨_, xv, xl, hxv⟩ := fullOf_ok h hf
  obtain ⟨b, c, hy1, hy2, _⟩ := rdOf_len h hry
  have he := mkEq_den h.bnd ry.len (.lit 0)
  have stay : ry.len.den n.r = 0 → ∀ {s' : St}, Rep N w0 n s' a w → Φ n.r (.p (.c (.k x)), s') → ∃ m v s' w', (Builtin.append_ #[t, t] ty #[x.den n, y.den n]).run P w = .ok (SV.den m v) w' ∧ Ext n m ∧ Rep N w0 m s' a w' ∧ Φ m.r (v, s') := fun h0 s' hr hφ => by
    refine ⟨n, _, s', w, ?_, Ext.refl n, hr, hφ⟩
    have h1 : (ry.ct.els n.r).length = 0 := by omega
    rw [h1] at hy1
    rw [hy1, hxv, run_append_zero hu hz]
    show _ = Result.ok (x.den n) w
    rw [hxv]
  have key : ry.len.den n.r ≠ 0 → ∀ {s' : St}, Rep N w0 n s' a w → ∀ r, rdOf s' [] y = some r → r.len.den n.r ≠ 0 := fun h0 s' hr r hr' => by
    obtain ⟨b', c', k1, k2, _⟩ := rdOf_len hr hr'
    rw [hy1] at k1
    simp only [Value.slice.injEq] at k1
    omega
  split at hd
  · rename_i hq
    rw [hq] at he
    simp only [B.den, E.den] at he
    exact stay (of_decide_eq_true he.symm) h hd
  · rename_i hq
    rw [hq] at he
    simp only [B.den, E.den] at he
    have h0 : ry.len.den n.r ≠ 0 := of_decide_eq_false he.symm
    exact appendF_ok hN h hd (key h0 h)
  · simp only [assumeK_eq, T.den, B.prop, E.den] at hd
    by_cases h0 : ry.len.den n.r = 0
    · exact stay h0 (h.assume (by simp only [B.den, E.den]; exact decide_eq_true h0)) (hd.1 h0)
    · have hr := h.assume (g := .eq ry.len (.lit 0)) (t := false) (by simp only [B.den, E.den]; exact decide_eq_false h0)
      exact appendF_ok hN hr (hd.2 h0) (key h0 hr)
theorem litBys_ok {n : Env} : ∀ {l : List (List E)} {ns : List Int}, litBys l = some ns → numsOf (l.map fun e => e.map (E.val n.r)) = ns
  | [], ns, h => by cases h; rfl
  | [x] :: l, ns, h => by
    simp only [litBys] at h
    split at h
    · rename_i m r hm hr
      cases h
      have ih := litBys_ok (n := n) hr
      have e1 : (E.val n.r x).int = m := by
        cases x <;> simp only [unnum] at hm <;> first | (cases hm; done) | skip
        · cases hm; rfl
        · subst hm; rfl
      simp only [numsOf, List.map_cons, List.map_nil] at ih ⊢
      rw [ih]
      simp [e1]
    · cases h
  | [] :: l, ns, h => by cases h
  | (_ :: _ :: _) :: l, ns, h => by cases h
theorem convB0_ok {Φ : List DV → SV × St → Prop} {n : Env} {s : St} {a : Act} {w : World} {v : Value} {r : Rd} (h : Rep N w0 n s a w) (hr : RdOk n s.ar w v r) (hd : (convB0 s r).den C Φ n.r) :
    ∃ m x s', SV.den m x = .string (strOfNums (numsOf (r.ct.els n.r))) ∧ Ext n m ∧ Rep N w0 m s' a w ∧ Φ m.r (x, s') := by
  unfold convB0 at hd
  split at hd
  case isFalse => exact hd.elim
  rename_i hw
  obtain ⟨m1, e, mx1, s1, a1, a2, a3, a4, a5, a6, a7, a8, a9, a10, a11, a12, a13, a14, a15⟩ := toVar_ok h hw hd hr.wf.1 hr.fine hr.shp hr.nest
  have hfn : (DOp.bstr).fn ([e].map (E.val m1.r)) = .s (strOfNums (numsOf (r.ct.els n.r))) := by
    have e1 : E.val m1.r e = e.dat m1.r := by simp only [E.val, a14]
    simp only [List.map_cons, List.map_nil, DOp.fn, e1, a11]
  obtain ⟨m2, c1, c2, c3, c4, c5, c6⟩ := letS_ok a4 a5 a9 hfn (by rw [strOfNums_size]; simpa [numsOf] using a12)
  refine ⟨m2, _, _, ?_, a1.trans c1, c4, c5⟩
  simp only [SV.den, PV.den, CV.den, K.den, c6, DV.str]
theorem convB_ok [TbOk P tb] {Φ : List DV → SV × St → Prop} {n : Env} {s : St} {a : Act} {w : World} {src dst : TypeId} {x : K} (h : Rep N w0 n s a w) (hd : (convB tb s src dst x).den C Φ n.r) :
    ∃ m v s', (convert src dst (x.den n)).run P w = .ok (SV.den m v) w ∧ Ext n m ∧ Rep N w0 m s' a w ∧ Φ m.r (v, s') := by
  unfold convB at hd
  split at hd
  case h_2 => exact hd.elim
  rename_i e hs hdd
  split at hd
  case h_2 => exact hd.elim
  rename_i r he hr
  have hrd := rdOf_ok h (by simp) rfl hr
  split at hd
  case h_2 => exact hd.elim
  rename_i lo hi hrow
  have hl := hrd.laid
  have hsh := hrd.shp.2
  rw [hrow] at hl hsh
  have hrun := convB_run (P := P) hs hdd he hl hsh
  have go : (convB0 s r).den C Φ n.r → ∃ m v s', (convert src dst (x.den n)).run P w = .ok (SV.den m v) w ∧ Ext n m ∧ Rep N w0 m s' a w ∧ Φ m.r (v, s') := fun hd => by
    obtain ⟨m, v, s', k1, k2, k3, k4⟩ := convB0_ok h hrd hd
    exact ⟨m, v, s', by rw [hrun, k1], k2, k3, k4⟩
  split at hd
  · rename_i l hct
    split at hd
    · rename_i ns hns
      refine ⟨n, _, s, ?_, Ext.refl n, h, hd⟩
      rw [hrun, hct]
      simp only [Ct.els, litBys_ok (n := n) hns]
      rfl
    · exact go hd
  · exact go hd
theorem effOp_ok [TbOk P tb] [GlbOk tb N w0] {ex : Ex} (hex : Snd P C N w0 ex) (hC : ∀ c ∈ C, ConOk P tb N w0 c) (hN : N ≤ w0.heap.size) (hP : Fine P) {n : Env} {s : St} {a : Act} {w : World} {o : Oper} {Φ : List DV → SV × St → Prop} {rd : Bool} {KK : Act → World → Prop}
    (h : Rep N w0 n s a w) (hd : (effOp ex tb C rd s o).den C Φ n.r)
    (hK : ∀ n' v s' w', Ext n n' → Rep N w0 n' s' a w' → Φ n'.r (v, s') → KK (a.put o.dst (v.den n')) w') : Runs P o a rd KK ((execOp a.eval o).run P w) := by
  have ha : Asm n.r [] := fun g hg => by cases hg
  have ht := h.tmps
  unfold effOp at hd
  unfold execOp
  split at hd <;> rename_i hop <;> simp only [hop]
  · split at hd
    · rename_i t z hz
      obtain ⟨s', hr, hφ⟩ := newS_ok hN h hd
      simp only [Instr.alloc, Sem.run_bind, zeroS_run (n := n) hz, Result.andThen_ok, newVar, newRow, run_newObj, Sem.run_pure, Oper.upon, PV.cells_den]
      have := hK _ _ _ _ (newEnv_ext n w.heap.size) hr hφ
      simp only [SV.den, PV.den, CV.den, K.den, newEnv_last h.lens.2] at this
      exact this
    · exact hd.elim
  · split at hd
    · rename_i t x v hv
      obtain ⟨s', hr, hφ⟩ := newS_ok hN h hd
      simp only [Instr.box, Sem.run_bind, opP_den ht ha hv, Result.andThen_ok, newVar, newRow, run_newObj, Sem.run_pure, Oper.upon, PV.cells_den]
      have := hK _ _ _ _ (newEnv_ext n w.heap.size) hr hφ
      simp only [SV.den, PV.den, CV.den, K.den, newEnv_last h.lens.2] at this
      exact this
    · exact hd.elim
  · rename_i t len parts
    split at hd
    · rename_i l hl
      have e := partsS_den ht ha _ _ hl
      obtain ⟨m, v, s', w', hr, he, hrep, hφ⟩ := bslA_ok (P := P) hN h hd (parts.map fun (i, x) => (i, a.eval x)) (by rw [Array.toList_map, e])
      simp only [Sem.run_bind, hr, Result.andThen_ok, Sem.run_pure, Runs]
      exact hK _ _ _ _ he hrep hφ
    · exact hd.elim
  · split at hd
    · rename_i b o v hu hv
      obtain ⟨w', s', hr, hrep, hφ⟩ := storeS_ok (P := P) h hd
      simp only [opK_den ht ha hu, opP_den ht ha hv, Sem.run_bind, hr, Result.andThen_ok, Sem.run_pure, Runs]
      exact hK _ _ _ _ (Ext.refl n) hrep hφ
    · rename_i k z i j v hu hv
      obtain ⟨v', e1, hd⟩ := litP_ok v _ hd
      obtain ⟨m0, v2, s0, he0, hrep0, ep, ev, hd⟩ := nestP_ok v' _ h hd
      obtain ⟨m, s', w', hr, he, hrep, hφ⟩ := storeAr_ok (P := P) hrep0 hd
      simp only [opK_den ht ha hu, opP_den ht ha hv, ← e1, ← ep, ← ev, Sem.run_bind, hr, Result.andThen_ok, Sem.run_pure, Runs]
      exact hK _ _ _ _ (he0.trans he) hrep hφ
    · exact hd.elim
  · split at hd
    · rename_i g u v hg hu hv
      simp only [opB_den ht ha hg, asBool, Sem.run_bind, Sem.run_pure, Result.andThen_ok, Runs]
      simp only [T.den, B.prop_iff] at hd
      cases hb : g.den n.r with
      | true =>
        rw [if_pos rfl, opd_den ht ha hu]
        exact hK _ _ _ _ (Ext.refl n) (h.assume hb) (hd.1 hb)
      | false =>
        rw [if_neg (by simp), opd_den ht ha hv]
        exact hK _ _ _ _ (Ext.refl n) (h.assume hb) (hd.2 (by simp [hb]))
    · exact hd.elim
  · split at hd
    · rename_i k x k' y hx hy
      split at hd
      · obtain ⟨v, s', hr, hrep, hφ⟩ := shT_ok (P := P) (k' := k') h hd _ _ _
        simp only [opK_den ht ha hx, opK_den ht ha hy, K.den]
        rw [Sem.run_bind, hr]
        exact hK _ _ _ _ (Ext.refl n) hrep hφ
      split at hd
      · rename_i hk
        obtain rfl := kq_ok hk
        obtain ⟨v, s', hr, hrep, hφ⟩ := divT_ok (P := P) h hd _ _ _
        simp only [opK_den ht ha hx, opK_den ht ha hy, K.den]
        rw [Sem.run_bind, hr]
        exact hK _ _ _ _ (Ext.refl n) hrep hφ
      · exact hd.elim
    · rename_i x _ hx hy
      obtain ⟨v, s', hr, hrep, hφ⟩ := nilT_ok (P := P) h hd _ _
      have e1 : K.nils.den n = .slice none 0 0 := rfl
      simp only [opK_den ht ha hx, opK_den ht ha hy, e1]
      rw [Sem.run_bind, hr]
      exact hK _ _ _ _ (Ext.refl n) hrep hφ
    · exact hd.elim
  · split at hd
    · rename_i x k i hx hi
      obtain ⟨v, s', hr, hrep, hφ⟩ := ixT_ok (P := P) (k := k) h hd
      have e1 : (K.int k i).den n = .int k (i.den n.r) := rfl
      simp only [opK_den ht ha hx, opK_den ht ha hi, e1]
      rw [Sem.run_bind, hr]
      exact hK _ _ _ _ (Ext.refl n) hrep hφ
    · exact hd.elim
  · split at hd
    · rename_i x k i hx hi
      obtain ⟨v, s', hr, hrep, hφ⟩ := ixV_ok (P := P) (k := k) h hd
      have e1 : (K.int k i).den n = .int k (i.den n.r) := rfl
      simp only [opP_den ht ha hx, opK_den ht ha hi, e1]
      rw [Sem.run_bind, hr]
      exact hK _ _ _ _ (Ext.refl n) hrep hφ
    · exact hd.elim
  · split at hd
    · rename_i k x k' y hx hy
      obtain ⟨m, v, s', w', hr, he, hrep, hφ⟩ := makeS_ok (P := P) (kl := k) (kc := k') hN h hd
      simp only [opK_den ht ha hx, opK_den ht ha hy, K.den]
      rw [Sem.run_bind, hr]
      exact hK _ _ _ _ he hrep hφ
    · exact hd.elim
  · split at hd
    · rename_i x lo hi hx hlo hhi
      obtain ⟨m, v, s', hr, he, hrep, hφ⟩ := sliceA_ok (P := P) hN h hd
      simp only [opK_den ht ha hx, optK_den ht hlo, optK_den ht hhi, Option.map_none]
      rw [Sem.run_bind, hr]
      exact hK _ _ _ _ he hrep hφ
    · exact hd.elim
  · split at hd
    · rename_i x hx
      obtain ⟨m, v, s', hr, he, hrep, hφ⟩ := convB_ok (P := P) h hd
      simp only [opK_den ht ha hx]
      rw [Sem.run_bind, hr]
      exact hK _ _ _ _ he hrep hφ
    · exact hd.elim
  · split at hd
    · rename_i x lo hi mx hx hlo hhi hmx
      obtain ⟨m, v, s', hr, he, hrep, hφ⟩ := slice3A_ok (P := P) hN h hd
      simp only [opK_den ht ha hx, optK_den ht hlo, Option.map_some, opK_den ht ha hhi, opK_den ht ha hmx]
      rw [Sem.run_bind, hr]
      exact hK _ _ _ _ he hrep hφ
    · exact hd.elim
  · rename_i c
    split at hd
    · rename_i f hcal
      split at hd
      · rename_i g first cap as hf has
        split at hd
        case isFalse => exact hd.elim
        rename_i hany
        have e1 := opP_den ht ha hf
        have e2 := opPs_den ht ha _ _ has
        have e3 : c.args.map a.eval = (as.map (PV.den n)).toArray := by rw [← e2]; apply Array.toList_inj.1; simp
        simp only [resolve, hcal, Sem.run_bind, Sem.run_pure, Result.andThen_ok, e1, PV.den, CV.den, Deferred.ofValue, invoke, e3]
        have hcall := callS_ok (args := first.map (fun k => .c (.k k)) ++ as ++ cap.map (fun k => .c (.k k))) hex hC hN h hd
        have hargs : (first.map (K.den n)).toArray ++ (as.map (PV.den n)).toArray ++ (cap.map (K.den n)).toArray = ((first.map (fun k => PV.c (.k k)) ++ as ++ cap.map (fun k => PV.c (.k k))).map (PV.den n)).toArray := by
          simp only [List.map_append, List.map_map, List.append_toArray]
          rfl
        rw [hargs]
        have hfn : ∃ fn, P.funcs[g]? = some fn ∧ fn.body.isSome = true := by
          cases hq : tb.func g with
          | none => rw [hq] at hany; cases hany
          | some fn => rw [hq] at hany; exact ⟨fn, func_ok hq, hany⟩
        obtain ⟨fn, hfn, hbody⟩ := hfn
        have hn := hP.name g fn hfn hbody
        have hb2 : fn.body.isNone = false := by cases hb : fn.body <;> simp_all
        simp only [callFunc, Sem.run_bind, run_program, Result.andThen_ok, hfn, hn, hb2, Bool.false_eq_true, if_false, Sem.run_pure, Runs]
        refine hcall.mono fun e w' ⟨m, v, s', hm1, hm2, hm3, hm4, he⟩ => ⟨_, he, ?_⟩
        exact hK _ _ _ _ hm1 hm2 hm4
      · rename_i l as hf has
        split at hd
        case isFalse => exact hd.elim
        rename_i hrd
        have e1 := opP_den ht ha hf
        have e2 := opPs_den ht ha _ _ has
        have e3 : c.args.map a.eval = (as.map (PV.den n)).toArray := by rw [← e2]; apply Array.toList_inj.1; simp
        obtain ⟨L, f, tmps, assign, body, hy, hround⟩ := yieldS_ok hex hN h hd
        simp only [resolve, hcal, Sem.run_bind, Sem.run_pure, Result.andThen_ok, e1, PV.den, CV.den, K.den, Deferred.ofValue, invoke, e3, Array.empty_append, hy, Runs]
        refine ⟨hrd, hround.mono fun e w' ⟨v, s', m, hm1, hm2, hm3, he⟩ => ⟨_, he, ?_⟩⟩
        exact hK _ _ _ _ hm1 hm2 hm3
      · exact hd.elim
    · rename_i hcal
      simp only [resolve, hcal, Sem.run_bind, Sem.run_pure, Result.andThen_ok, invoke, builtin]
      split at hd
      case h_2 => exact hd.elim
      rename_i x y t t' hxy htt
      split at hd
      case h_2 => exact hd.elim
      rename_i u v hu hv
      split at hd
      case isFalse => exact hd.elim
      rename_i hte
      obtain rfl := Nat.eq_of_beq_eq_true hte
      have e1 : c.args.map a.eval = #[u.den n, v.den n] := by apply Array.toList_inj.1; rw [Array.toList_map, hxy]; simp [opK_den ht ha hu, opK_den ht ha hv]
      have e2 : c.argTypes = #[t, t] := by apply Array.toList_inj.1; rw [htt]
      obtain ⟨m, v', s', w', hr, he, hrep, hφ⟩ := appendT_ok (P := P) (ty := o.type) hN h hd
      rw [e1, e2, hr]
      exact hK _ _ _ _ he hrep hφ
    · rename_i hcal
      simp only [resolve, hcal, Sem.run_bind, Sem.run_pure, Result.andThen_ok, invoke, builtin]
      split at hd
      case h_2 => exact hd.elim
      rename_i x y t t' hxy htt
      split at hd
      · rename_i b o' l c' b' o'' l' c'' hu hv
        have e1 : c.args.map a.eval = #[(K.sl b o' l c').den n, (K.sl b' o'' l' c'').den n] := by apply Array.toList_inj.1; rw [Array.toList_map, hxy]; simp [opK_den ht ha hu, opK_den ht ha hv]
        have e2 : c.argTypes = #[t, t'] := by apply Array.toList_inj.1; rw [htt]
        obtain ⟨v', s', w', hr, hrep, hφ⟩ := copyS_ok (P := P) (ty := o.type) h hd
        rw [e1, e2, hr]
        exact hK _ _ _ _ (Ext.refl n) hrep hφ
      · rename_i u v _ hu hv
        have e1 : c.args.map a.eval = #[u.den n, v.den n] := by apply Array.toList_inj.1; rw [Array.toList_map, hxy]; simp [opK_den ht ha hu, opK_den ht ha hv]
        have e2 : c.argTypes = #[t, t'] := by apply Array.toList_inj.1; rw [htt]
        obtain ⟨m, v', s', w', hr, he, hrep, hφ⟩ := copyB_ok (P := P) (t' := t') (ty := o.type) h hd
        rw [e1, e2, hr]
        exact hK _ _ _ _ he hrep hφ
      · exact hd.elim
    · -- clear
      rename_i hcal
      simp only [resolve, hcal, Sem.run_bind, Sem.run_pure, Result.andThen_ok, invoke, builtin]
      split at hd
      case h_2 => exact hd.elim
      rename_i x t hxy htt
      split at hd
      · rename_i u hu
        have e1 : c.args.map a.eval = #[u.den n] := by apply Array.toList_inj.1; rw [Array.toList_map, hxy]; simp [opK_den ht ha hu]
        have e2 : c.argTypes = #[t] := by apply Array.toList_inj.1; rw [htt]
        obtain ⟨m, v', s', w', hr, he, hrep, hφ⟩ := clearS_ok (P := P) (ty := o.type) h hd
        rw [e1, e2, hr]
        exact hK _ _ _ _ he hrep hφ
      · exact hd.elim
    · exact hd.elim
  · exact hd.elim
theorem doOp_ok [TbOk P tb] [GlbOk tb N w0] {ex : Ex} (hex : Snd P C N w0 ex) (hC : ∀ c ∈ C, ConOk P tb N w0 c) (hN : N ≤ w0.heap.size) (hP : Fine P) {n : Env} {s : St} {a : Act} {w : World} {o : Oper} {Φ : List DV → SV × St → Prop} {rd : Bool} {KK : Act → World → Prop}
    (h : Rep N w0 n s a w) (hd : (doOp ex tb C rd s o).den C Φ n.r)
    (hK : ∀ n' v s' w', Ext n n' → Rep N w0 n' s' a w' → Φ n'.r (v, s') → KK (a.put o.dst (v.den n')) w') : Runs P o a rd KK ((execOp a.eval o).run P w) := by
  unfold doOp at hd
  split at hd
  · rename_i v hv
    have := valOp_run (P := P) (w := w) h.reads h.bnd h.tmps (asm := []) (fun g hg => by cases hg) hv
    simp only [this, Runs]
    exact hK _ _ _ _ (Ext.refl n) h hd
  · exact effOp_ok hex hC hN hP h hd hK
theorem Runs.noDefer {o : Oper} {a : Act} {w : World} {rd : Bool} {KK : Act → World → Prop} (h : Runs P o a rd KK ((execOp a.eval o).run P w)) : ∀ c, o.op ≠ .defer c := fun c hc => by
  unfold execOp at h
  rw [hc] at h
  simp only [Sem.run_bind] at h
  cases hr : (resolve a.eval c o.type).run P w with
  | ok d w' => rw [hr] at h; simp only [Result.andThen_ok, Sem.run_pure, Runs] at h
  | halt x w' => rw [hr] at h; simp only [Result.andThen_halt, Runs] at h
theorem Runs.wp {o : Oper} {a : Act} {w : World} {KK : Act → World → Prop} {Q : Exit → Act → World → Prop} (h : Runs P o a false KK ((execOp a.eval o).run P w)) : o.wp P a w KK Q := by
  unfold Oper.wp
  generalize (execOp a.eval o).run P w = r at *
  cases r with
  | halt x w' => exact h.elim
  | ok x w' =>
    cases x <;> simp only [Runs] at h <;> try exact h
    · refine ((callsIn_wide (n := 0)).1 h).mono fun e w'' he => ?_
      obtain ⟨v, rfl, hk⟩ := he
      exact hk
    · cases h.1
theorem Runs.wpIn {A : Option Nat} {o : Oper} {a : Act} {w : World} {rd : Bool} {KK : Act → World → Prop} {Q : Exit → Act → World → Prop} (h : Runs P o a rd KK ((execOp a.eval o).run P w)) : o.wpIn (Wd A) 0 P a w KK Q := by
  refine ⟨fun _ _ => trivial, ?_⟩
  rw [Oper.semAt_eq _ _ _ h.noDefer]
  generalize (execOp a.eval o).run P w = r at *
  cases r with
  | halt x w' => exact h.elim
  | ok x w' =>
    cases x <;> simp only [Runs] at h <;> try exact h
    · refine ⟨fun hx => by simp [Wd] at hx, ?_⟩
      refine CallsIn.mono (F := Wd A) (n := 0 - 1) h fun e w'' he => ?_
      obtain ⟨v, rfl, hk⟩ := he
      exact hk
    · refine ⟨fun hx => by simp [Wd] at hx, ?_⟩
      refine RoundIn.mono (F := Wd A) (n := 0 - 1) h.2 fun e w'' he => ?_
      obtain ⟨v, rfl, hk⟩ := he
      exact hk
end
end Go.Dx

/- A symbolic executor: which operations of a region may come next, fast. -/
namespace Go.Dx
open Go.RowKit
set_option linter.unusedVariables false
set_option linter.unusedSimpArgs false
def has : List Nat → Nat → Bool
  | [], _ => false
  | x :: l, n => Nat.beq x n || has l n
theorem has_iff {l : List Nat} {n : Nat} : has l n = true ↔ n ∈ l := by
  induction l with
  | nil => simp [has]
  | cons x l ih =>
    simp only [has, Bool.or_eq_true, ih, List.mem_cons]
    constructor
    · rintro (h | h)
      · exact .inl (Nat.eq_of_beq_eq_true h).symm
      · exact .inr h
    · rintro (h | h)
      · exact .inl (by rw [h]; exact Nat.beq_refl x)
      · exact .inr h
theorem has_f {l : List Nat} {n : Nat} (h : has l n = false) : n ∉ l := fun hm => by rw [has_iff.2 hm] at h; cases h
/-- What the order looks at. -/
structure RI where
  dst : Option Nat
  looks : List Nat
  after : List Nat
def riOf (ops : Array Oper) (o : Oper) : RI := ⟨o.dst, o.looksAt ops, (o.after.toList.filter (Region.binds .any)).map (·.on)⟩
def rinf (ops : Array Oper) : List RI := ops.toList.map (riOf ops)
section
variable {β : Type}
def fOpt (n : Option Nat) (k : Option Nat → β) : β := match n with
  | some n => fNat n fun n => k (some n)
  | none => k none
theorem fOpt_eq (n : Option Nat) (k : Option Nat → β) : fOpt n k = k n := by cases n <;> simp only [fOpt, fNat_eq]
def fRI : RI → (RI → β) → β
  | ⟨d, l, a⟩, k => fOpt d fun d => fL fNat l fun l => fL fNat a fun a => k ⟨d, l, a⟩
theorem fRI_eq (x : RI) (k : RI → β) : fRI x k = k x := by cases x; simp only [fRI, fOpt_eq, fL_eq fNat_eq]
end
def isOn : List Bool → Nat → Bool
  | [], _ => false
  | b :: _, 0 => b
  | _ :: l, n + 1 => isOn l n
theorem isOn_eq (l : List Bool) (n : Nat) : isOn l n = l.getD n false := by
  induction l generalizing n with
  | nil => rfl
  | cons b l ih => cases n with
    | zero => rfl
    | succ n => simp only [isOn, ih]; simp
def readyF (all : List Bool) : List RI → List Bool → Nat → List Nat
  | r :: rs, l :: ls, i => if l then readyF all rs ls (i + 1) else if r.after.all (isOn all) then i :: readyF all rs ls (i + 1) else readyF all rs ls (i + 1)
  | _, _, _ => []
theorem readyF_cons (all : List Bool) (r : RI) (rs : List RI) (l : Bool) (ls : List Bool) (i : Nat) : readyF all (r :: rs) (l :: ls) i =
    if l = true then readyF all rs ls (i + 1) else if r.after.all (isOn all) = true then i :: readyF all rs ls (i + 1) else readyF all rs ls (i + 1) := rfl
theorem readyF_mem (all : List Bool) : ∀ (rs : List RI) (ls : List Bool) (k i : Nat), i ∈ readyF all rs ls k ↔ ∃ j, i = k + j ∧ ls[j]? = some false ∧ ∃ r, rs[j]? = some r ∧ r.after.all (isOn all) = true
  | [], ls, k, i => by simp [readyF]
  | r :: rs, [], k, i => by simp [readyF]
  | r :: rs, l :: ls, k, i => by
    have ih := readyF_mem all rs ls (k + 1) i
    have step : (∃ j, i = k + j ∧ (l :: ls)[j]? = some false ∧ ∃ r', (r :: rs)[j]? = some r' ∧ r'.after.all (isOn all) = true) ↔ (i = k ∧ l = false ∧ r.after.all (isOn all) = true) ∨ i ∈ readyF all rs ls (k + 1) := by
      rw [ih]
      constructor
      · rintro ⟨j, hj, h1, r', h2, h3⟩
        cases j with
        | zero => simp only [List.getElem?_cons_zero, Option.some.injEq] at h1 h2; subst h2; exact .inl ⟨hj, h1, h3⟩
        | succ j => simp only [List.getElem?_cons_succ] at h1 h2; exact .inr ⟨j, by omega, h1, r', h2, h3⟩
      · rintro (⟨h1, h2, h3⟩ | ⟨j, hj, h1, r', h2, h3⟩)
        · exact ⟨0, by omega, by simp [h2], r, by simp, h3⟩
        · exact ⟨j + 1, by omega, by simpa using h1, r', by simpa using h2, h3⟩
    rw [step, readyF_cons]
    split
    · rename_i hl; simp [hl]
    · rename_i hl
      split
      · rename_i ha; simp only [Bool.not_eq_true] at hl; simp only [List.mem_cons, hl, ha, and_self, and_true]
      · rename_i ha; simp only [ha, and_false, false_or, Bool.false_eq_true]
theorem ready_iff {ops : Array Oper} {l : List Bool} {i : Nat} : i ∈ readyF l (rinf ops) l 0 ↔ i ∈ Region.ready .any ops ⟨l⟩ := by
  rw [readyF_mem, mem_ready]
  constructor
  · rintro ⟨j, hj, h1, r, h2, h3⟩
    have e : i = j := by omega
    subst e
    refine ⟨by simp [h1], ?_⟩
    rw [rinf, List.getElem?_map] at h2
    cases ho : ops.toList[i]? with
    | none => rw [ho] at h2; cases h2
    | some o =>
      rw [ho] at h2; cases h2
      refine ⟨o, by simpa using ho, fun e he hb => ?_⟩
      have h4 := List.all_eq_true.1 h3 e.on (List.mem_map.2 ⟨e, List.mem_filter.2 ⟨by simpa using he, hb⟩, rfl⟩)
      rw [isOn_eq] at h4
      simpa using h4
  · rintro ⟨h1, o, ho, h2⟩
    refine ⟨i, by omega, ?_, riOf ops o, by simp [rinf, ho], ?_⟩
    · simp only [Array.getD_eq_getD_getElem?, List.getElem?_toArray] at h1
      cases hc : l[i]? with
      | none => rw [hc] at h1; cases h1
      | some b => rw [hc] at h1; simp at h1; rw [h1]
    · refine List.all_eq_true.2 fun j hj => ?_
      obtain ⟨e, he, rfl⟩ := List.mem_map.1 hj
      rw [List.mem_filter] at he
      rw [isOn_eq]
      have := h2 e (by simpa using he.1) he.2
      simpa using this
def apartF (x y : RI) : Bool :=
  (match x.dst with
   | some d => !(has y.looks d) && (match y.dst with | some e => !(Nat.beq d e) | none => true)
   | none => true) &&
  (match y.dst with
   | some d => !(has x.looks d)
   | none => true)
theorem apartF_ok {ops : Array Oper} {x y : Oper} (h : apartF (riOf ops x) (riOf ops y) = true) : x.apart ops y = true := by
  unfold apartF riOf at h
  unfold Oper.apart
  simp only [Bool.and_eq_true] at h ⊢
  obtain ⟨h1, h2⟩ := h
  constructor
  · split
    · rename_i d hd
      rw [hd] at h1
      simp only [Bool.and_eq_true, Bool.not_eq_true'] at h1 ⊢
      refine ⟨?_, ?_⟩
      · have := has_f h1.1; simpa using this
      · cases he : y.dst with
        | none => rfl
        | some e => rw [he] at h1; simp only at h1; simp; intro e2; subst e2; rw [Nat.beq_refl] at h1; exact absurd h1.2 (by simp)
    · rfl
  · split
    · rename_i d hd
      rw [hd] at h2
      simp only [Bool.not_eq_true'] at h2 ⊢
      have := has_f h2; simpa using this
    · rfl
def freeF (x : RI) (i : Nat) : List RI → List Bool → Nat → Bool
  | y :: rs, l :: ls, j => (l || Nat.beq j i || has y.after i || apartF x y) && freeF x i rs ls (j + 1)
  | _, _, _ => true
theorem freeF_ok (x : RI) (i : Nat) : ∀ (rs : List RI) (ls : List Bool) (k : Nat), freeF x i rs ls k = true → ∀ j y, rs[j]? = some y → ls[j]? = some false → k + j ≠ i → has y.after i = false → apartF x y = true
  | [], ls, k, h, j, y, hy, _, _, _ => by simp at hy
  | r :: rs, [], k, h, j, y, _, hl, _, _ => by simp at hl
  | r :: rs, l :: ls, k, h, j, y, hy, hl, hne, ha => by
    simp only [freeF, Bool.and_eq_true] at h
    cases j with
    | zero =>
      simp only [List.getElem?_cons_zero, Option.some.injEq] at hy hl
      subst hy; subst hl
      have h1 := h.1
      simp only [Bool.or_eq_true, Bool.false_eq_true, false_or, ha, or_false] at h1
      rcases h1 with h1 | h1
      · exact absurd (Nat.eq_of_beq_eq_true h1) (by omega)
      · exact h1
    | succ j =>
      simp only [List.getElem?_cons_succ] at hy hl
      exact freeF_ok x i rs ls (k + 1) h.2 j y hy hl (by omega) ha
end Go.Dx

/- A symbolic executor: regions, code, whole calls. -/
namespace Go.Dx
open Go.RowKit
set_option linter.unusedVariables false
set_option linter.unusedSimpArgs false
/-! Equality of what lies in blocks. -/
/-- Are the cells as they were? -/
def keepC : List (Option CV) → List CV → Bool
  | [], _ => true
  | none :: l, _ :: r => keepC l r
  | some x :: l, c :: r => eqC x c && keepC l r
  | _ :: _, [] => false
theorem keepC_ok : ∀ {l : List (Option CV)} {r : List CV}, keepC l r = true → ∀ (j : Nat) (c : CV), l[j]? = some (some c) → r[j]? = some c
  | [], r, _, j, c, hj => by simp at hj
  | none :: l, x :: r, h, j, c, hj => by
    cases j with
    | zero => simp at hj
    | succ j => simp only [List.getElem?_cons_succ] at *; exact keepC_ok (by simpa [keepC] using h) j c hj
  | some y :: l, x :: r, h, j, c, hj => by
    simp only [keepC, Bool.and_eq_true] at h
    cases j with
    | zero => simp only [List.getElem?_cons_zero, Option.some.injEq] at *; rw [← hj, eqC_ok h.1]
    | succ j => simp only [List.getElem?_cons_succ] at *; exact keepC_ok h.2 j c hj
  | none :: _, [], h, j, c, hj => by cases h
  | some _ :: _, [], h, j, c, hj => by cases h
def keeps : List (List (Option CV)) → List Blk → Bool
  | [], _ => true
  | x :: l, b :: r => keepC x (cellsB b) && keeps l r
  | _ :: _, [] => false
theorem keeps_ok : ∀ {m : List (List (Option CV))} {bs : List Blk}, keeps m bs = true → ∀ (i j : Nat) (c : CV), cellM m i j = some c → ∃ b, bs[i]? = some b ∧ (cellsB b)[j]? = some c
  | [], bs, _, i, j, c, hi => by simp [cellM] at hi
  | x :: l, b :: r, h, i, j, c, hi => by
    simp only [keeps, Bool.and_eq_true] at h
    cases i with
    | zero =>
      simp only [cellM, List.getElem?_cons_zero] at hi
      refine ⟨b, rfl, keepC_ok h.1 j c ?_⟩
      cases hx : x[j]? with
      | none => rw [hx] at hi; cases hi
      | some y => rw [hx] at hi; simp only at hi; rw [hi]
    | succ i =>
      simp only [List.getElem?_cons_succ]
      exact keeps_ok h.2 i j c (by simpa [cellM] using hi)
  | _ :: _, [], h, i, j, c, hi => by cases h
/-- What stays of cells. -/
def maskC : List (Option CV) → List CV → List (Option CV)
  | some x :: l, c :: r => (if eqC x c then some x else none) :: maskC l r
  | none :: l, _ :: r => none :: maskC l r
  | _, _ => []
theorem maskC_get : ∀ {l : List (Option CV)} {r : List CV} {j : Nat} {c : CV}, (maskC l r)[j]? = some (some c) → l[j]? = some (some c)
  | [], r, j, c, h => by simp [maskC] at h
  | none :: l, [], j, c, h => by simp [maskC] at h
  | some x :: l, [], j, c, h => by simp [maskC] at h
  | none :: l, y :: r, j, c, h => by
    cases j with
    | zero => simp [maskC] at h
    | succ j => simp only [maskC, List.getElem?_cons_succ] at *; exact maskC_get h
  | some x :: l, y :: r, j, c, h => by
    cases j with
    | zero =>
      simp only [maskC, List.getElem?_cons_zero, Option.some.injEq] at *
      split at h
      · exact Option.some.inj h
      · cases h
    | succ j => simp only [maskC, List.getElem?_cons_succ] at *; exact maskC_get h
/-! Equality of slices. -/
def holdSt : Sta → Sta → Bool
  | _, .dead => false
  | .told e, .told f => e.eqb f
  | .told _, _ => false
  | _, _ => true
theorem holdSt_ok {x y : Sta} (h : holdSt x y = true) : y ≠ .dead ∧ ∀ e, x = .told e → y = .told e := by
  cases x <;> cases y <;> first | (simp [holdSt] at h; done) | skip
  all_goals refine ⟨by simp, fun g hg => ?_⟩
  all_goals first | (cases hg; done) | skip
  cases hg
  simp only [holdSt] at h
  rw [E.eqb_ok h]
def eqHold (x y : Ar) : Bool := (shqs x.row y.row && eqCt x.ct y.ct) && (x.len.eqb y.len && holdSt x.st y.st)
def keepsA : List (Option Ar) → List Ar → Bool
  | [], _ => true
  | none :: l, _ :: r => keepsA l r
  | some b :: l, c :: r => eqHold b c && keepsA l r
  | _ :: _, [] => false
theorem keepsA_ok : ∀ {m : List (Option Ar)} {bs : List Ar}, keepsA m bs = true → ∀ (i : Nat) (b : Ar), m[i]? = some (some b) → ∃ c, bs[i]? = some c ∧ c.row = b.row ∧ c.ct = b.ct ∧ c.len = b.len ∧ c.st ≠ .dead ∧ ∀ e, b.st = .told e → c.st = .told e
  | [], bs, _, i, b, hi => by simp at hi
  | none :: l, c :: r, h, i, b, hi => by
    cases i with
    | zero => simp at hi
    | succ i => simp only [List.getElem?_cons_succ] at *; exact keepsA_ok (by simpa [keepsA] using h) i b hi
  | some x :: l, c :: r, h, i, b, hi => by
    simp only [keepsA, Bool.and_eq_true] at h
    cases i with
    | zero =>
      simp only [List.getElem?_cons_zero, Option.some.injEq] at *
      subst hi
      have h1 := h.1
      simp only [eqHold, Bool.and_eq_true] at h1
      refine ⟨c, rfl, (shqs_ok h1.1.1).symm, (eqCt_ok h1.1.2).symm, (E.eqb_ok h1.2.1).symm, holdSt_ok h1.2.2⟩
    | succ i => simp only [List.getElem?_cons_succ] at *; exact keepsA_ok h.2 i b hi
  | none :: _, [], h, i, b, hi => by cases h
  | some _ :: _, [], h, i, b, hi => by cases h
def keepsV : List VD → List VD → Bool
  | [], _ => true
  | .i _ _ :: l, _ :: r => keepsV l r
  | .d s :: l, .d t :: r => shq s t && keepsV l r
  | _, _ => false
theorem keepsV_ok : ∀ {m bs : List VD}, keepsV m bs = true → ∀ (i : Nat) (S : Sh), m[i]? = some (.d S) → bs[i]? = some (.d S)
  | [], bs, _, i, b, hi => by simp at hi
  | .i _ _ :: l, c :: r, h, i, S, hi => by
    cases i with
    | zero => simp at hi
    | succ i => simp only [List.getElem?_cons_succ] at *; exact keepsV_ok (by simpa [keepsV] using h) i S hi
  | .d s :: l, .d t :: r, h, i, S, hi => by
    simp only [keepsV, Bool.and_eq_true] at h
    cases i with
    | zero => simp only [List.getElem?_cons_zero, Option.some.injEq] at *; rw [← hi, shq_ok h.1]
    | succ i => simp only [List.getElem?_cons_succ] at *; exact keepsV_ok h.2 i S hi
  | .d _ :: _, .i _ _ :: _, h, i, b, hi => by cases h
  | .i _ _ :: _, [], h, i, b, hi => by cases h
  | .d _ :: _, [], h, i, b, hi => by cases h
def eqLen (x : Nat × E) (y : Ar) : Bool := Nat.beq x.1 y.row.length && (x.2.eqb y.len && match y.st with | .dead => false | _ => true)
def keepsL : List (Option (Nat × E)) → List Ar → Bool
  | [], _ => true
  | none :: l, _ :: r => keepsL l r
  | some b :: l, c :: r => eqLen b c && keepsL l r
  | _ :: _, [] => false
theorem keepsL_ok : ∀ {m : List (Option (Nat × E))} {bs : List Ar}, keepsL m bs = true → ∀ (i z : Nat) (e : E), m[i]? = some (some (z, e)) → ∃ c, bs[i]? = some c ∧ c.len = e ∧ c.st ≠ .dead
  | [], bs, _, i, z, e, hi => by simp at hi
  | none :: l, c :: r, h, i, z, e, hi => by
    cases i with
    | zero => simp at hi
    | succ i => simp only [List.getElem?_cons_succ] at *; exact keepsL_ok (by simpa [keepsL] using h) i z e hi
  | some x :: l, c :: r, h, i, z, e, hi => by
    simp only [keepsL, Bool.and_eq_true] at h
    cases i with
    | zero =>
      simp only [List.getElem?_cons_zero, Option.some.injEq] at *
      subst hi
      have h1 := h.1
      simp only [eqLen, Bool.and_eq_true] at h1
      refine ⟨c, rfl, (E.eqb_ok h1.2.1).symm, fun hd => ?_⟩
      rw [hd] at h1
      exact absurd h1.2.2 (by simp)
    | succ i => simp only [List.getElem?_cons_succ] at *; exact keepsL_ok h.2 i z e hi
  | none :: _, [], h, i, z, e, hi => by cases h
  | some _ :: _, [], h, i, z, e, hi => by cases h
def keepsM (mem : Mm) (s : St) : Bool := keeps mem.m s.bs && (keepsA mem.a s.ar && (keepsV mem.p.v s.bnd.v && keepsL mem.l s.ar))
def putT (o : Oper) (t : T (SV × St)) : T St := t.bind fun p => fMem p.2 fun s => putK s o p.1
theorem putT_eq (o : Oper) (t : T (SV × St)) : putT o t = t.bind fun p => .ret (put p.2 o p.1) := by
  unfold putT; congr; funext p; rw [fMem_eq, putK_eq]
/-- An operation whose guard g is open: walked as if g held, if it leaves memory as it is; else both ways. -/
def specS (s : St) (o : Oper) (g : B) (t : T (SV × St)) : T St :=
  match t with
  | .ret (.p x, s') => if eqBlks s'.bs s.bs && (Nat.beq s'.bnd.v.length s.bnd.v.length && (eqArs s'.ar s.ar && keepsV s.bnd.v s'.bnd.v)) then putK s o (.g g x) else .ite g (putT o t) (assumeK s g false fun s => putK s o undefS)
  | _ => .ite g (putT o t) (assumeK s g false fun s => putK s o undefS)
def opS (ex : Ex) (tb : Tb) (C : List Con) (rd : Bool) (ops : Array Oper) (s : St) (o : Oper) : T St :=
  match yieldOp tb ops (memOf s) s.bnd s.tmps o with
  | some v => putK s o v
  | none => match gdS ops s.tmps o with
    | none => .fail
    | some (.lit true) => putT o (doOp ex tb C rd s o)
    | some (.lit false) => putK s o undefS
    | some g => specS s o g (assumeK s g true fun s => doOp ex tb C rd s o)
def seqS (ex : Ex) (tb : Tb) (C : List Con) (rd : Bool) (ops : Array Oper) : List Nat → St → T St
  | [], s => .ret s
  | i :: l, s => match ops[i]? with
    | none => .fail
    | some o => (opS ex tb C rd ops s o).bind (seqS ex tb C rd ops l)
/-- What is left as it was on all ways. -/
def calmM (s : St) (m : Mm) : Mm :=
  ⟨(m.m.zip s.bs).map fun (x, b) => maskC x (cellsB b),
   (m.a.zip s.ar).map fun (x, b) => match x with
    | some c => if eqHold c b then some c else none
    | none => none, m.p,
   (m.l.zip s.ar).map fun (x, b) => match x with
    | some c => if eqLen c b then some c else none
    | none => none⟩
def calm : T St → Mm → Mm
  | .ret s, m => calmM s m
  | .ite _ t e, m => calm e (calm t m)
  | .both t e, m => calm e (calm t m)
  | .con _ _ k, m => calm k m
  | .lop _ _ _ k, m => calm k m
  | .chk _ _ _, m => m
  | .dat _ _ k, m => calm k m
  | .adr _ k, m => calm k m
  | .fail, m => m
def firstSome {α : Type} (f : Nat → Option α) : List Nat → Option (Nat × α)
  | [] => none
  | i :: l => match f i with
    | some x => some (i, x)
    | none => firstSome f l
theorem firstSome_ok {α : Type} {f : Nat → Option α} : ∀ {l : List Nat} {i : Nat} {x : α}, firstSome f l = some (i, x) → i ∈ l ∧ f i = some x
  | [], _, _, h => by cases h
  | j :: l, i, x, h => by
    simp only [firstSome] at h
    split at h
    · rename_i y hy; cases h; exact ⟨List.mem_cons_self .., hy⟩
    · have := firstSome_ok h; exact ⟨List.mem_cons_of_mem _ this.1, this.2⟩
def mergeT (t u : T St) : T St := if eqTr eqSt t u then t else .both t u
def allOf (f : Nat → T St) : List Nat → T St
  | [] => .fail
  | [i] => f i
  | i :: l => fT fSt (f i) fun t => fT fSt (allOf f l) fun u => mergeT t u
theorem allOf_den {C : List Con} {Φ : List DV → St → Prop} {r : List DV} {f : Nat → T St} : ∀ {l : List Nat}, (allOf f l).den C Φ r → ∀ i ∈ l, (f i).den C Φ r
  | [], h, i, hi => by cases hi
  | [j], h, i, hi => by rw [List.mem_singleton.1 hi]; exact h
  | j :: k :: l, h, i, hi => by
    simp only [allOf, fT_eq fSt_eq] at h
    unfold mergeT at h
    split at h
    · rename_i he
      rcases List.mem_cons.1 hi with e | e
      · rw [e]; exact h
      · rw [eqTr_ok (fun _ _ => eqSt_ok) he] at h; exact allOf_den h i e
    · rcases List.mem_cons.1 hi with e | e
      · rw [e]; exact h.1
      · exact allOf_den h.2 i e
def drawnS (ex : Ex) (tb : Tb) (C : List Con) (ops : Array Oper) (inf : List RI) (mem : Mm) : Nat → List Bool → St → T St
  | 0, listed, s => match readyF listed inf listed 0 with
    | [] => .ret s
    | _ => .fail
  | f + 1, listed, s => fL fBool listed fun listed => fL fNat (readyF listed inf listed 0) fun rs => match rs with
    | [] => .ret s
    | rs =>
      match firstSome (fun i => match ops[i]?, inf[i]? with
        | some o, some x => if freeF x i inf listed 0 then yieldOp tb ops mem s.bnd s.tmps o else none
        | _, _ => none) rs with
      | some (i, v) => match ops[i]? with
        | some o => (putK s o v).bind (drawnS ex tb C ops inf mem f (listed.set i true))
        | none => .fail
      | none => allOf (fun i => match ops[i]? with
        | some o => (opS ex tb C false ops s o).bind fun s' => if keepsM mem s' then drawnS ex tb C ops inf mem f (listed.set i true) s' else .fail
        | none => .fail) rs
/-! All orders at once: states that are reached on several ways are walked once. -/
abbrev Fr := List Bool × St
def eqBl : List Bool → List Bool → Bool
  | [], [] => true
  | true :: l, true :: r => eqBl l r
  | false :: l, false :: r => eqBl l r
  | _, _ => false
theorem eqBl_ok : ∀ {x y : List Bool}, eqBl x y = true → x = y
  | [], [], _ => rfl
  | true :: l, true :: r, h => by rw [eqBl_ok (x := l) (y := r) h]
  | false :: l, false :: r, h => by rw [eqBl_ok (x := l) (y := r) h]
  | true :: _, false :: _, h => by cases h
  | false :: _, true :: _, h => by cases h
  | true :: _, [], h => by cases h
  | false :: _, [], h => by cases h
  | [], _ :: _, h => by cases h
def addF (x : Fr) : List Fr → List Fr
  | [] => [x]
  | y :: r => if eqBl x.1 y.1 && eqSt x.2 y.2 then y :: r else y :: addF x r
theorem addF_self (x : Fr) : ∀ l : List Fr, x ∈ addF x l
  | [] => List.mem_singleton.2 rfl
  | y :: r => by
    unfold addF
    split
    · rename_i h
      simp only [Bool.and_eq_true] at h
      have : x = y := Prod.ext (eqBl_ok h.1) (eqSt_ok h.2)
      rw [this]; exact List.mem_cons_self ..
    · exact List.mem_cons_of_mem _ (addF_self x r)
theorem addF_mem (x : Fr) : ∀ (l : List Fr) (z : Fr), z ∈ l → z ∈ addF x l
  | [], z, h => by cases h
  | y :: r, z, h => by
    unfold addF
    split
    · exact h
    · rcases List.mem_cons.1 h with e | e
      · rw [e]; exact List.mem_cons_self ..
      · exact List.mem_cons_of_mem _ (addF_mem x r z e)
def fFr {β : Type} : Fr → (Fr → β) → β
  | (l, s), k => fL fBool l fun l => fSt s fun s => k (l, s)
theorem fFr_eq {β : Type} (x : Fr) (k : Fr → β) : fFr x k = k x := by obtain ⟨l, s⟩ := x; simp only [fFr, fL_eq fBool_eq, fSt_eq]
def freeI (tb : Tb) (ops : Array Oper) (inf : List RI) (mem : Mm) (l : List Bool) (s : St) (rs : List Nat) : Option (Nat × SV) :=
  firstSome (fun i => match ops[i]?, inf[i]? with
        | some o, some x => if freeF x i inf l 0 then yieldOp tb ops mem s.bnd s.tmps o else none
        | _, _ => none) rs
def callsF (ex : Ex) (tb : Tb) (C : List Con) (ops : Array Oper) (mem : Mm) (l : List Bool) (s : St) : List Nat → List Fr → Option (List Fr)
  | [], acc => some acc
  | i :: rs, acc => match ops[i]? with
    | some o => match opS ex tb C false ops s o with
      | .ret s' => fFr (l.set i true, s') fun x => if keepsM mem x.2 then callsF ex tb C ops mem l s rs (addF x acc) else none
      | _ => none
    | none => none
def levelF (ex : Ex) (tb : Tb) (C : List Con) (ops : Array Oper) (inf : List RI) (mem : Mm) : List Fr → List Fr → Option (List Fr)
  | [], acc => some acc
  | (l, s) :: L, acc => fL fNat (readyF l inf l 0) fun rs => match rs with
    | [] => none
    | rs => match freeI tb ops inf mem l s rs with
      | some (i, v) => match ops[i]? with
        | some o => match putK s o v with
          | .ret s' => fL fBool (l.set i true) fun l' => levelF ex tb C ops inf mem L (addF (l', s') acc)
          | _ => none
        | none => none
      | none => match callsF ex tb C ops mem l s rs acc with
        | some acc => levelF ex tb C ops inf mem L acc
        | none => none
def front (ex : Ex) (tb : Tb) (C : List Con) (ops : Array Oper) (inf : List RI) (mem : Mm) : Nat → List Fr → Option St
  | 0, _ => none
  | f + 1, L => fSp L fun L => match L with
    | [(l, s)] => fL fNat (readyF l inf l 0) fun rs => match rs with
      | [] => some s
      | _ => match levelF ex tb C ops inf mem [(l, s)] [] with
        | some L' => front ex tb C ops inf mem f L'
        | none => none
    | L => match levelF ex tb C ops inf mem L [] with
      | some L' => front ex tb C ops inf mem f L'
      | none => none
/-- What comes after one step. -/
def NextF (ex : Ex) (tb : Tb) (C : List Con) (ops : Array Oper) (inf : List RI) (mem : Mm) (l : List Bool) (s : St) (L : List Fr) : Prop :=
  readyF l inf l 0 ≠ [] ∧ ((∃ i v o, freeI tb ops inf mem l s (readyF l inf l 0) = some (i, v) ∧ ops[i]? = some o ∧ (l.set i true, put s o v) ∈ L) ∨
    (freeI tb ops inf mem l s (readyF l inf l 0) = none ∧ ∀ i ∈ readyF l inf l 0, ∃ o s', ops[i]? = some o ∧ opS ex tb C false ops s o = .ret s' ∧ keepsM mem s' = true ∧ (l.set i true, s') ∈ L))
theorem callsF_ok {ex : Ex} {tb : Tb} {C : List Con} {ops : Array Oper} {mem : Mm} {l : List Bool} {s : St} : ∀ {rs : List Nat} {acc L : List Fr}, callsF ex tb C ops mem l s rs acc = some L →
    (∀ x ∈ acc, x ∈ L) ∧ ∀ i ∈ rs, ∃ o s', ops[i]? = some o ∧ opS ex tb C false ops s o = .ret s' ∧ keepsM mem s' = true ∧ (l.set i true, s') ∈ L
  | [], acc, L, h => by
    simp only [callsF, Option.some.injEq] at h
    subst h
    exact ⟨fun x hx => hx, fun i hi => by cases hi⟩
  | i :: rs, acc, L, h => by
    simp only [callsF] at h
    split at h
    · rename_i o ho
      split at h
      · rename_i s' hs
        rw [fFr_eq] at h
        split at h
        · rename_i hk
          have ih := callsF_ok h
          refine ⟨fun x hx => ih.1 x (addF_mem _ _ _ hx), fun j hj => ?_⟩
          rcases List.mem_cons.1 hj with e | e
          · subst e
            exact ⟨o, s', ho, hs, hk, ih.1 _ (addF_self _ _)⟩
          · exact ih.2 j e
        · cases h
      · cases h
    · cases h
theorem levelF_ok {ex : Ex} {tb : Tb} {C : List Con} {ops : Array Oper} {inf : List RI} {mem : Mm} : ∀ {L acc L' : List Fr}, levelF ex tb C ops inf mem L acc = some L' →
    (∀ x ∈ acc, x ∈ L') ∧ ∀ x ∈ L, NextF ex tb C ops inf mem x.1 x.2 L'
  | [], acc, L', h => by
    simp only [levelF, Option.some.injEq] at h
    subst h
    exact ⟨fun x hx => hx, fun i hi => by cases hi⟩
  | (l, s) :: L, acc, L', h => by
    simp only [levelF, fL_eq fNat_eq] at h
    split at h
    · cases h
    · rename_i rs hne
      split at h
      · rename_i i v hf
        split at h
        · rename_i o ho
          rw [putK_eq] at h
          simp only [fL_eq fBool_eq] at h
          have ih := levelF_ok h
          refine ⟨fun x hx => ih.1 x (addF_mem _ _ _ hx), fun x hx => ?_⟩
          rcases List.mem_cons.1 hx with e | e
          · subst e
            exact ⟨hne, .inl ⟨i, v, o, hf, ho, ih.1 _ (addF_self _ _)⟩⟩
          · exact ih.2 x e
        · cases h
      · rename_i hf
        split at h
        · rename_i acc2 ha
          have ih := levelF_ok h
          have hc := callsF_ok ha
          refine ⟨fun x hx => ih.1 x (hc.1 x hx), fun x hx => ?_⟩
          rcases List.mem_cons.1 hx with e | e
          · subst e
            refine ⟨hne, .inr ⟨hf, fun i hi => ?_⟩⟩
            obtain ⟨o, s', h1, h2, h3, h4⟩ := hc.2 i hi
            exact ⟨o, s', h1, h2, h3, ih.1 _ h4⟩
          · exact ih.2 x e
        · cases h
/-- Where all orders end. -/
theorem front_step {ex : Ex} {tb : Tb} {C : List Con} {ops : Array Oper} {inf : List RI} {mem : Mm} {f : Nat} {L : List Fr} {e : St} (h : front ex tb C ops inf mem (f + 1) L = some e) :
    (∃ l, L = [(l, e)] ∧ readyF l inf l 0 = []) ∨ ∃ L', front ex tb C ops inf mem f L' = some e ∧ ∀ x ∈ L, NextF ex tb C ops inf mem x.1 x.2 L' := by
  simp only [front, fSp_eq, fL_eq fNat_eq] at h
  split at h
  · rename_i l s
    split at h
    · rename_i hr
      cases h
      exact .inl ⟨l, rfl, hr⟩
    · split at h
      · rename_i L' hl
        exact .inr ⟨L', h, (levelF_ok hl).2⟩
      · cases h
  · split at h
    · rename_i L' hl
      exact .inr ⟨L', h, (levelF_ok hl).2⟩
    · cases h
theorem allOf_intro {C : List Con} {Φ : List DV → St → Prop} {r : List DV} {f : Nat → T St} : ∀ {l : List Nat}, l ≠ [] → (∀ i ∈ l, (f i).den C Φ r) → (allOf f l).den C Φ r
  | [], h, _ => absurd rfl h
  | [j], _, h => h j (List.mem_singleton.2 rfl)
  | j :: k :: l, _, h => by
    simp only [allOf, fT_eq fSt_eq]
    have h1 := h j (List.mem_cons_self ..)
    have h2 := allOf_intro (f := f) (l := k :: l) (by simp) fun i hi => h i (List.mem_cons_of_mem _ hi)
    unfold mergeT
    split
    · exact h1
    · exact ⟨h1, h2⟩
theorem front_den {ex : Ex} {tb : Tb} {C : List Con} {ops : Array Oper} {inf : List RI} {mem : Mm} {Φ : List DV → St → Prop} {r : List DV} {e : St} (he : Φ r e) : ∀ (f : Nat) (L : List Fr), front ex tb C ops inf mem (f + 1) L = some e →
    ∀ x ∈ L, (drawnS ex tb C ops inf mem f x.1 x.2).den C Φ r
  | 0, L, h, x, hx => by
    rcases front_step h with ⟨l, rfl, hr⟩ | ⟨L', h2, _⟩
    · rw [List.mem_singleton.1 hx]
      simp only [drawnS, hr]
      exact he
    · cases h2
  | f + 1, L, h, x, hx => by
    rcases front_step h with ⟨l, rfl, hr⟩ | ⟨L', h2, h3⟩
    · rw [List.mem_singleton.1 hx]
      simp only [drawnS, fL_eq fBool_eq, fL_eq fNat_eq, hr]
      exact he
    · have ih := front_den he f L' h2
      obtain ⟨hne, hn⟩ := h3 x hx
      simp only [drawnS, fL_eq fBool_eq, fL_eq fNat_eq]
      cases hr : readyF x.1 inf x.1 0 with
      | nil => exact absurd hr hne
      | cons j rs =>
        rw [hr] at hn hne
        rcases hn with ⟨i, v, o, hf, ho, hm⟩ | ⟨hf, hm⟩
        · unfold freeI at hf
          rw [hf]
          simp only [ho, putK_eq, T.bind]
          exact ih _ hm
        · unfold freeI at hf
          rw [hf]
          refine allOf_intro hne fun i hi => ?_
          obtain ⟨o, s', ho, hs, hk, hm⟩ := hm i hi
          simp only [ho, hs, T.bind, hk, if_true]
          exact ih _ hm
def drawnF (ex : Ex) (tb : Tb) (C : List Con) (ops : Array Oper) (inf : List RI) (mem : Mm) (f : Nat) (l : List Bool) (s : St) : T St :=
  match front ex tb C ops inf mem (f + 1) [(l, s)] with
  | some e => .ret e
  | none => drawnS ex tb C ops inf mem f l s
theorem drawnF_den {ex : Ex} {tb : Tb} {C : List Con} {ops : Array Oper} {inf : List RI} {mem : Mm} {Φ : List DV → St → Prop} {r : List DV} {f : Nat} {l : List Bool} {s : St} (h : (drawnF ex tb C ops inf mem f l s).den C Φ r) :
    (drawnS ex tb C ops inf mem f l s).den C Φ r := by
  unfold drawnF at h
  split at h
  · rename_i e he
    exact front_den (x := (l, s)) h f _ he (List.mem_singleton.2 rfl)
  · exact h
def noDefer (ops : Array Oper) : Bool := ops.all fun o => match o.op with | .defer _ => false | _ => true
def fO {α β : Type} (f : α → (α → β) → β) : Option α → (Option α → β) → β
  | none, k => k none
  | some x, k => f x fun x => k (some x)
theorem fO_eq {α β : Type} {f : α → (α → β) → β} (h : ∀ x k, f x k = k x) (x : Option α) (k : Option α → β) : fO f x k = k x := by cases x <;> simp only [fO, h]
def fLn {β : Type} : Nat × E → (Nat × E → β) → β
  | (z, e), k => fNat z fun z => fE e fun e => k (z, e)
theorem fLn_eq {β : Type} (x : Nat × E) (k : Nat × E → β) : fLn x k = k x := by cases x; simp only [fLn, fNat_eq, fE_eq]
def fMm {β : Type} : Mm → (Mm → β) → β
  | ⟨a, b, c, d⟩, k => fL (fL (fO fC)) a fun a => fL (fO fAr) b fun b => fL (fO fLn) d fun d => k ⟨a, b, c, d⟩
theorem fMm_eq {β : Type} (x : Mm) (k : Mm → β) : fMm x k = k x := by
  cases x
  simp only [fMm, fL_eq (fL_eq (fO_eq fC_eq)), fL_eq (fO_eq fAr_eq), fL_eq (fO_eq fLn_eq)]
/-! Long numbers get a name. -/
def E.cost : E → Nat → Nat
  | _, 0 => 0
  | .add a b, n + 1 => b.cost (a.cost n)
  | .sub a b, n + 1 => b.cost (a.cost n)
  | .mul a b, n + 1 => b.cost (a.cost n)
  | .quo a b, n + 1 => b.cost (a.cost n)
  | .rem a b, n + 1 => b.cost (a.cost n)
  | .min a b, n + 1 => b.cost (a.cost n)
  | .max a b, n + 1 => b.cost (a.cost n)
  | .bit _ _ a b, n + 1 => b.cost (a.cost n)
  | .el a b _, n + 1 => b.cost (a.cost n)
  | .chr a b, n + 1 => b.cost (a.cost n)
  | .wrap _ a, n + 1 => a.cost n
  | .p2 _ a, n + 1 => a.cost n
  | .len a, n + 1 => a.cost n
  | .slen a, n + 1 => a.cost n
  | .num a, n + 1 => a.cost n
  | .bs a, n + 1 => a.cost n
  | .lit _, n + 1 => n
  | .var _, n + 1 => n
  | .str _, n + 1 => n
  | .emp, n + 1 => n
def bigC : CV → Option E
  | .k (.int _ e) => if Nat.beq (e.cost 70) 0 then some e else none
  | _ => none
def firstE {α : Type} (f : α → Option E) : List α → Option E
  | [] => none
  | x :: l => match f x with
    | some e => some e
    | none => firstE f l
def bigB (b : Blk) : Option E := match b.kd with
  | none => firstE bigC b.cells
  | some _ => none
def bigO (t : List SV) (o : Oper) : Option E := match o.op, o.dst with
  | .assign _, some d => match t[d]? with
    | some (.p (.c c)) => bigC c
    | _ => none
  | _, _ => none
def findBig (ops : Array Oper) (s : St) : Option E := match firstE (bigO s.tmps) ops.toList with
  | some e => some e
  | none => firstE bigB s.bs
def slimC (e : E) (v : Nat) : CV → CV
  | .k (.int l f) => .k (.int l (if f.eqb e then .var v else f))
  | c => c
def slimV (e : E) (v : Nat) : SV → SV
  | .p (.c c) => .p (.c (slimC e v c))
  | x => x
def slimB (e : E) (v : Nat) (b : Blk) : Blk := match b.kd with
  | none => ⟨b.cells.map (slimC e v), b.ty, none⟩
  | some _ => b
def slimW (s : St) (e : E) : T St :=
  if wfSt s && wfE s.bnd.v.length e then .dat .num [.num e] (.ret ⟨s.tmps.map (slimV e s.bnd.v.length), s.bs.map (slimB e s.bnd.v.length), cat s.bnd [.i (e.rng s.bnd).1 (e.rng s.bnd).2], s.df, s.ar⟩) else .ret s
def slim (ops : Array Oper) : Nat → St → T St
  | 0, s => .ret s
  | f + 1, s => match findBig ops s with
    | some e => (fE e fun e => slimW s e).bind fun s => fSt s (slim ops f)
    | none => .ret s
def regS0 (ex : Ex) (tb : Tb) (C : List Con) (ops : Array Oper) (draw : Bool) (s : St) : T St :=
  let t := seqS ex tb C (!draw) ops (List.range ops.size) s
  if draw then
    if Region.noSelect ops && noDefer ops && s.bs.all (wfBlk (sz s)) then
      fL fRI (rinf ops) fun inf => fMm (calm t (memOf s)) fun mem => drawnF ex tb C ops inf mem ops.size (List.replicate ops.size false) s
    else .fail
  else t
def regS (ex : Ex) (tb : Tb) (C : List Con) (ops : Array Oper) (draw : Bool) (s : St) : T St := (regS0 ex tb C ops draw s).bind (slim ops 12)
section
variable {P : Program} {tb : Tb} {C : List Con} {N : Nat} {w0 : World}
theorem same_env {n n' : Env} (he : Ext n n') (h1 : n'.r.length = n.r.length) (h2 : n'.b.length = n.b.length) (h3 : n'.v.length = n.v.length) : n' = n := by
  have e1 := he.r.eq_of_length h1.symm
  have e2 := he.b.eq_of_length h2.symm
  have e3 := he.v.eq_of_length h3.symm
  have e5 := he.u.eq_of_length (by rw [n.hu, n'.hu, h1])
  have e6 := he.f
  cases n; cases n'
  simp only at e1 e2 e3 e5 e6
  subst e1; subst e2; subst e3; subst e5; subst e6
  rfl
/-- Only ways on are allowed. -/
def onlyOn (Q : Exit → Act → World → Prop) : Exit → Act → World → Prop
  | .normal, a, w => Q .normal a w
  | _, _, _ => False
/-- One operation of a region, its guard looked at. -/
def OpRuns (P : Program) (ops : Array Oper) (o : Oper) (a : Act) (w : World) (rd : Bool) (KK : Act → World → Prop) : Prop :=
  (Region.wanted o (yielded ops a.tmps) = true ∧ Runs P o a rd KK ((execOp a.eval o).run P w)) ∨ (Region.wanted o (yielded ops a.tmps) = false ∧ KK (a.put o.dst undef) w)
theorem OpRuns.wp {ops : Array Oper} {i : Nat} {o : Oper} {a : Act} {w : World} {KK : Act → World → Prop} {Q : Exit → Act → World → Prop} (hi : ops[i]? = some o) (h : OpRuns P ops o a w false KK) : wpOp P ops Q i KK a w := by
  unfold wpOp
  simp only [hi]
  rcases h with ⟨h1, h2⟩ | ⟨h1, h2⟩
  · simp only [h1, if_true]; exact .inl h2.wp
  · simp only [h1, Bool.false_eq_true, if_false]; exact h2
theorem OpRuns.wpIn {A : Option Nat} {ops : Array Oper} {i : Nat} {o : Oper} {a : Act} {w : World} {rd : Bool} {KK : Act → World → Prop} {Q : Exit → Act → World → Prop} (hi : ops[i]? = some o) (h : OpRuns P ops o a w rd KK) : wpOpIn (Wd A) 0 P ops Q i KK a w := by
  unfold wpOpIn
  simp only [hi]
  rcases h with ⟨h1, h2⟩ | ⟨h1, h2⟩
  · simp only [h1, if_true]; exact h2.wpIn
  · simp only [h1, Bool.false_eq_true, if_false]; exact ⟨fun _ _ => trivial, h2⟩
theorem opS_ok [TbOk P tb] [GlbOk tb N w0] {ex : Ex} (hex : Snd P C N w0 ex) (hC : ∀ c ∈ C, ConOk P tb N w0 c) (hN : N ≤ w0.heap.size) (hP : Fine P) {n : Env} {s : St} {a : Act} {w : World} {ops : Array Oper} {o : Oper} {Φ : List DV → St → Prop} {rd : Bool} {KK : Act → World → Prop}
    (h : Rep N w0 n s a w) (hd : (opS ex tb C rd ops s o).den C Φ n.r)
    (hK : ∀ n' s' a' w', Ext n n' → Rep N w0 n' s' a' w' → Φ n'.r s' → KK a' w') : OpRuns P ops o a w rd KK := by
  unfold opS at hd
  split at hd
  · rename_i v hv
    rw [putK_eq] at hd
    have hk := hK _ _ _ _ (Ext.refl n) (h.put o v) hd
    rcases yieldOp_ok (P := P) h.bnd h.tmps hv with ⟨h1, h2⟩ | ⟨h1, h2⟩
    · exact .inl ⟨h1, by rw [h2 w h.reads]; exact hk⟩
    · rw [h2] at hk; exact .inr ⟨h1, hk⟩
  · split at hd
    · exact hd.elim
    · rename_i hg
      refine .inl ⟨by rw [gdS_ok h.tmps hg]; rfl, ?_⟩
      rw [putT_eq, T.den_bind] at hd
      exact doOp_ok hex hC hN hP h hd fun n' v s' w' he hr hφ => hK _ _ _ _ he (hr.put o v) hφ
    · rename_i hg
      rw [putK_eq] at hd
      exact .inr ⟨by rw [gdS_ok h.tmps hg]; rfl, hK _ _ _ _ (Ext.refl n) (h.put o undefS) hd⟩
    · rename_i g _ _ hg
      rw [assumeK_eq] at hd
      have hboth : (T.ite g (putT o (doOp ex tb C rd (assume s g true) o)) (assumeK s g false fun s => putK s o undefS)).den C Φ n.r → OpRuns P ops o a w rd KK := fun hd => by
        rw [assumeK_eq, putK_eq] at hd
        simp only [T.den, B.prop_iff] at hd
        cases hb : g.den n.r with
        | true =>
          have hd1 := hd.1 hb
          rw [putT_eq, T.den_bind] at hd1
          exact .inl ⟨by rw [gdS_ok h.tmps hg, hb], doOp_ok hex hC hN hP (h.assume hb) hd1 fun n' v s' w' he hr hφ => hK _ _ _ _ he (hr.put o v) hφ⟩
        | false =>
          exact .inr ⟨by rw [gdS_ok h.tmps hg, hb], hK _ _ _ _ (Ext.refl n) ((h.assume hb).put o undefS) (hd.2 (by simp [hb]))⟩
      unfold specS at hd
      split at hd
      · rename_i x s' hdo
        split at hd
        · rename_i hc
          simp only [Bool.and_eq_true] at hc
          rw [putK_eq] at hd
          cases hb : g.den n.r with
          | true =>
            refine .inl ⟨by rw [gdS_ok h.tmps hg, hb], doOp_ok (Φ := fun r p => r = n.r ∧ p = (.p x, s')) hex hC hN hP (h.assume hb) (by rw [hdo]; exact ⟨rfl, rfl⟩) fun n' v s2 w' he hr hφ => ?_⟩
            obtain ⟨hφ1, hφ2⟩ := hφ
            cases hφ2
            have hlen : n'.b.length = n.b.length := by rw [hr.lens.2, h.lens.2, eqBlks_ok hc.1]
            have hlen2 : n'.v.length = n.v.length := by rw [hr.dat.len, h.dat.len, eqArs_ok hc.2.2.1]
            obtain rfl := same_env he (by rw [hφ1]) hlen hlen2
            refine hK _ _ _ _ (Ext.refl _) ?_ hd
            have h2 : Rep N w0 n' s a w' := by
              refine ⟨h.bnd, by rw [← eqBlks_ok hc.1]; exact hr.mem, ?_, hr.below, h.act⟩
              rw [← eqArs_ok hc.2.2.1]
              have hd2 := hr.dat
              exact ⟨hd2.len, hd2.wf, hd2.ent, hd2.dis, hd2.disb, fun i S hS => hd2.perm i S (keepsV_ok hc.2.2.2 i S hS), hd2.fb⟩
            have h3 := h2.put o (.g g x)
            simp only [SV.den, hb, if_true] at h3
            exact h3
          | false =>
            refine .inr ⟨by rw [gdS_ok h.tmps hg, hb], hK _ _ _ _ (Ext.refl n) ?_ hd⟩
            have h3 := h.put o (.g g x)
            simp only [SV.den, hb, Bool.false_eq_true, if_false] at h3
            exact h3
        · exact hboth hd
      · exact hboth hd
theorem seqS_ok [TbOk P tb] [GlbOk tb N w0] {ex : Ex} (hex : Snd P C N w0 ex) (hC : ∀ c ∈ C, ConOk P tb N w0 c) (hN : N ≤ w0.heap.size) (hP : Fine P) {ops : Array Oper} {A : Option Nat} {rd : Bool} {Q : Exit → Act → World → Prop} :
    ∀ (l : List Nat) (n : Env) (s : St) (a : Act) (w : World) (Φ : List DV → St → Prop), Rep N w0 n s a w → (seqS ex tb C rd ops l s).den C Φ n.r →
    (∀ n' s' a' w', Ext n n' → Rep N w0 n' s' a' w' → Φ n'.r s' → Q .normal a' w') → wpOpsIn (Wd A) 0 P ops Q l a w
  | [], n, s, a, w, Φ, h, hd, hK => hK _ _ _ _ (Ext.refl n) h hd
  | i :: l, n, s, a, w, Φ, h, hd, hK => by
    simp only [seqS] at hd
    split at hd
    · exact hd.elim
    · rename_i o ho
      rw [T.den_bind] at hd
      rw [wpOpsIn_cons]
      exact OpRuns.wpIn ho (opS_ok (P := P) hex hC hN hP h hd fun n' s' a' w' he hr hφ => seqS_ok hex hC hN hP l n' s' a' w' Φ hr hφ fun n2 s2 a2 w2 he2 hr2 hφ2 => hK n2 s2 a2 w2 (he.trans he2) hr2 hφ2)
/-- From one layer of the walk to the other. -/
theorem wpOps_in {ops : Array Oper} {A : Option Nat} {Q : Exit → Act → World → Prop} : ∀ (l : List Nat) (a : Act) (w : World), wpOps P ops (onlyOn Q) l a w → (∀ (i : Nat) (o : Oper) c, ops[i]? = some o → o.op ≠ .defer c) → wpOpsIn (Wd A) 0 P ops (onlyOn Q) l a w
  | [], a, w, h, _ => h
  | i :: l, a, w, h, hd => by
    simp only [wpOps] at h
    simp only [wpOpsIn]
    cases ho : ops[i]? with
    | none => rw [ho] at h; exact wpOps_in l a w h hd
    | some o =>
      rw [ho] at h
      simp only at h ⊢
      split
      · rename_i hw
        simp only [hw, if_true] at h
        rcases h with h | ⟨_, a0, w0, h⟩
        · refine ⟨fun _ _ => trivial, ?_⟩
          rw [Oper.semAt_eq _ _ _ fun c => hd i o c ho]
          unfold Oper.wp at h
          generalize (execOp a.eval o).run P w = r at *
          cases r with
          | halt x w' => cases x <;> first | exact h.elim | exact h
          | ok x w' =>
            cases x with
            | value v => exact wpOps_in l _ _ h hd
            | skip => exact wpOps_in l _ _ h hd
            | defer d => exact wpOps_in l _ _ h hd
            | enter f args =>
              refine ⟨fun hx => by simp [Wd] at hx, ?_⟩
              refine CallsIn.mono (F := Wd A) (n := 0 - 1) ((callsIn_wide (n := 0)).2 h) fun e w'' he => ?_
              cases e with
              | returned v => exact wpOps_in l _ _ he hd
              | panicked c => exact he.elim
              | outgrown => exact he
            | row row args =>
              refine ⟨fun hx => by simp [Wd] at hx, ?_⟩
              intro c cs hroom
              obtain ⟨v, w'', hr, hs⟩ := h c cs
              exact ⟨v, w'', wpOps_in l _ _ hr hd, (stepsIn_wide (P := P)).2 hs⟩
            | _ => exact h.elim
        · exact h.elim
      · rename_i hw
        simp only [hw, if_false, Bool.false_eq_true] at h
        exact ⟨fun _ _ => trivial, wpOps_in l _ _ h hd⟩
/-- Less memory. -/
structure SubM (m m' : Mm) : Prop where
  blk : ∀ (i j : Nat) (c : CV), cellM m.m i j = some c → cellM m'.m i j = some c
  ent : ∀ (i : Nat) (b : Ar), m.a[i]? = some (some b) → m'.a[i]? = some (some b)
  p : m.p = m'.p
  lens : ∀ (i : Nat) (b : Nat × E), m.l[i]? = some (some b) → m'.l[i]? = some (some b)
theorem SubM.refl (m : Mm) : SubM m m := ⟨fun _ _ _ h => h, fun _ _ h => h, rfl, fun _ _ h => h⟩
theorem SubM.trans {a b c : Mm} (h : SubM a b) (k : SubM b c) : SubM a c := ⟨fun i j x hx => k.blk i j x (h.blk i j x hx), fun i x hx => k.ent i x (h.ent i x hx), h.p.trans k.p, fun i x hx => k.lens i x (h.lens i x hx)⟩
theorem calmM_len (s : St) (m : Mm) : SubM (calmM s m) m := by
  refine ⟨fun i j c h => ?_, fun i b h => ?_, rfl, fun i b h => ?_⟩
  · unfold cellM at h ⊢
    simp only [calmM, List.getElem?_map] at h
    cases hz : (m.m.zip s.bs)[i]? with
    | none => rw [hz] at h; cases h
    | some p =>
      obtain ⟨x, b⟩ := p
      rw [hz] at h
      simp only [Option.map_some] at h
      rw [(List.getElem?_zip_eq_some.1 hz).1]
      simp only
      cases hx : (maskC x (cellsB b))[j]? with
      | none => rw [hx] at h; cases h
      | some y =>
        rw [hx] at h
        simp only at h
        subst h
        rw [maskC_get hx]
  all_goals
    simp only [calmM, List.getElem?_map, List.getElem?_zip_eq_some, Option.map_eq_some_iff, Prod.exists] at h
    obtain ⟨x, c, hz, h2⟩ := h
    have h1 := hz
    cases x with
    | none => simp at h2
    | some x =>
      simp only at h2
      split at h2
      · cases h2; exact h1.1
      · cases h2
theorem calm_len : ∀ (t : T St) (m : Mm), SubM (calm t m) m
  | .ret s, m => calmM_len s m
  | .ite _ t e, m => (calm_len e _).trans (calm_len t m)
  | .both t e, m => (calm_len e _).trans (calm_len t m)
  | .con _ _ k, m => calm_len k m
  | .lop _ _ _ k, m => calm_len k m
  | .dat _ _ k, m => calm_len k m
  | .adr _ k, m => calm_len k m
  | .chk _ _ _, m => SubM.refl m
  | .fail, m => SubM.refl m
/-- What memory may be looked at, told at n0. -/
structure MemWf (n0 : Env) (mem : Mm) : Prop where
  blk : ∀ (i j : Nat) (c : CV), cellM mem.m i j = some c → wfC (nz n0) c = true ∧ i < n0.b.length
  ent : ∀ (i : Nat) (a : Ar), mem.a[i]? = some (some a) → wfAr n0.r.length a = true ∧ i < n0.v.length ∧ ∀ e, a.st = .told e → wfE n0.r.length e = true
  bnd : BndOk n0.r mem.p
  lens : ∀ (i z : Nat) (e : E), mem.l[i]? = some (some (z, e)) → wfE n0.r.length e = true ∧ i < n0.v.length
theorem lenR_ext {n m : Env} {i : Nat} {e : E} (he : Ext n m) (hw : wfE n.r.length e = true) (hi : i < n.v.length) : LenR m i e ↔ LenR n i e := by
  unfold LenR
  rw [wfE_den he.r e hw, Env.sv_pre he.v hi]
theorem entR_ext {n m : Env} {w : World} {i : Nat} {a : Ar} (he : Ext n m) (hw : wfAr n.r.length a = true) (hi : i < n.v.length ∧ ∀ e, a.st = .told e → wfE n.r.length e = true) : EntR m w i a ↔ EntR n w i a := by
  simp only [wfAr, Bool.and_eq_true] at hw
  unfold EntR
  rw [wfCt_den he.r a.ct hw.1, wfE_den he.r a.len hw.2, Env.sv_pre he.v hi.1]
  have : (∀ e, a.st = .told e → (e.dat m.r).sv = n.sv i) ↔ ∀ e, a.st = .told e → (e.dat n.r).sv = n.sv i := forall_congr' fun e => forall_congr' fun h => by rw [wfE_dat he.r e (hi.2 e h)]
  rw [this]
theorem Reads.ext {tb : Tb} {n0 n : Env} {mem : Mm} {w : World} (hwf : MemWf n0 mem) (he : Ext n0 n) (hR : Reads tb n0 mem w) : Reads tb n mem w := by
  refine ⟨fun i j c hi => ?_, fun i a hi => ?_, ?_, fun i z e hi => (lenR_ext he (hwf.lens i z e hi).1 (hwf.lens i z e hi).2).2 (hR.lens i z e hi), hR.glb⟩
  · have h1 := hwf.blk i j c hi
    rw [getD_prefix he.b h1.2, wfC_den he c h1.1]
    exact hR.blk i j c hi
  · have h1 := hwf.ent i a hi
    exact (entR_ext he h1.1 h1.2).2 (hR.ent i a hi)
  · obtain ⟨q, h1, h2⟩ := hR.perm
    exact ⟨q, h1.trans he.r, h2⟩
theorem Reads.keep {tb : Tb} {N : Nat} {w0 : World} [GlbOk tb N w0] {n0 n : Env} {mem : Mm} {s : St} {a : Act} {w : World} (hwf : MemWf n0 mem) (he : Ext n0 n) (h : Rep N w0 n s a w) (hk : keepsM mem s = true) : Reads tb n0 mem w := by
  simp only [keepsM, Bool.and_eq_true] at hk
  refine ⟨fun i j c hi => ?_, fun i c hi => ?_, ⟨n0, List.prefix_refl _, hwf.bnd, fun i S hS => ?_⟩, fun i z e hi => ?_, Glb.below h.below⟩
  · have h1 := hwf.blk i j c hi
    obtain ⟨b, hb, hc⟩ := keeps_ok hk.1 i j c hi
    have h2 := h.mem.cellB hb hc
    rw [getD_prefix he.b h1.2, wfC_den he c h1.1] at h2
    exact h2
  · have h1 := hwf.ent i c hi
    obtain ⟨d, d1, d2, d3, d4, d5, d6⟩ := keepsA_ok hk.2.1 i c hi
    have := (h.entR d1 d5).1
    unfold EntR at this
    rw [d2, d3, d4] at this
    exact (entR_ext he h1.1 h1.2).1 ⟨this.1, this.2.1, this.2.2.1, fun e hs => this.2.2.2 e (d6 e hs)⟩
  · have h1 := h.permR.2 i S (keepsV_ok hk.2.2.1 i S hS)
    have hlt : i < n0.r.length := by rw [hwf.bnd.len]; exact (List.getElem?_eq_some_iff.1 hS).1
    rw [getD_prefix he.r hlt] at h1
    exact h1
  · have h1 := hwf.lens i z e hi
    obtain ⟨d, d1, d2, d3⟩ := keepsL_ok hk.2.2.2 i z e hi
    have := (h.entR d1 d3).1.lenR
    rw [d2] at this
    exact (lenR_ext he h1.1 h1.2).1 this
theorem drawnS_ok [TbOk P tb] [GlbOk tb N w0] {ex : Ex} (hex : Snd P C N w0 ex) (hC : ∀ c ∈ C, ConOk P tb N w0 c) (hN : N ≤ w0.heap.size) (hP : Fine P) {ops : Array Oper} {Q : Exit → Act → World → Prop} (hsel : Region.noSelect ops = true)
    {mem : Mm} {n0 : Env} (hwf : MemWf n0 mem) :
    ∀ (f : Nat) (listed : List Bool) (n : Env) (s : St) (a : Act) (w : World) (Φ : List DV → St → Prop), Ext n0 n → Rep N w0 n s a w → Reads tb n0 mem w → (drawnS ex tb C ops (rinf ops) mem f listed s).den C Φ n.r →
    (∀ n' s' a' w', Ext n n' → Rep N w0 n' s' a' w' → Φ n'.r s' → Q .normal a' w') → wpAnyH P .any ops (onlyOn Q) (Reads tb n0 mem) f ⟨listed⟩ a w := by
  have hread : ∀ n w, Ext n0 n → Reads tb n0 mem w → Reads tb n mem w := fun n w he hR => Reads.ext hwf he hR
  have hnil : ∀ l : List Bool, readyF l (rinf ops) l 0 = [] → Region.ready .any ops ⟨l⟩ = [] := fun l h => by
    cases hr : Region.ready .any ops ⟨l⟩ with
    | nil => rfl
    | cons i r =>
      have : i ∈ readyF l (rinf ops) l 0 := ready_iff.2 (by rw [hr]; exact List.mem_cons_self ..)
      rw [h] at this; cases this
  intro f
  induction f with
  | zero =>
    intro listed n s a w Φ he h hR hd hK
    simp only [drawnS] at hd
    split at hd
    · rename_i hr; exact wpAnyH_done (P := P) (S := Reads tb n0 mem) (Q := onlyOn Q) (hnil _ hr) (hK _ _ _ _ (Ext.refl n) h hd) 0
    · exact hd.elim
  | succ f ih =>
    intro listed n s a w Φ he h hR hd hK
    simp only [drawnS, fL_eq fBool_eq, fL_eq fNat_eq] at hd
    split at hd
    · rename_i hr; exact wpAnyH_done (P := P) (S := Reads tb n0 mem) (Q := onlyOn Q) (hnil _ hr) (hK _ _ _ _ (Ext.refl n) h hd) _
    · rename_i rs hne
      split at hd
      · rename_i i v hfs
        obtain ⟨hmem, hf⟩ := firstSome_ok hfs
        split at hd
        · rename_i o ho
          rw [ho] at hf
          split at hf
          · rename_i o' x ho' hx
            cases ho'
            split at hf
            · rename_i hfree
              have hy := yieldOp_ok (P := P) h.bnd h.tmps hf
              have hy' : YieldsIf P ops (Reads tb n0 mem) o (v.den n) a := by
                rcases hy with ⟨h1, h2⟩ | h3
                · exact .inl ⟨h1, fun w hw => h2 w (hread n w he hw)⟩
                · exact .inr h3
              have hx' : x = riOf ops o := by
                have e : ops.toList[i]? = some o := by simpa using ho
                rw [rinf, List.getElem?_map, e] at hx
                cases hx; rfl
              refine wpAnyH_first (P := P) (S := Reads tb n0 mem) ho (Region.noSelect_spec hsel) (fun c a w hq => hq) f ⟨listed⟩ a w ?_ (ready_iff.1 hmem) hy' hR ?_
              · intro j oj hj hne' hun hno
                have hl : listed[j]? = some false := by
                  simp only [Array.getD_eq_getD_getElem?, List.getElem?_toArray] at hun
                  cases hc : listed[j]? with
                  | none => rw [hc] at hun; cases hun
                  | some b => rw [hc] at hun; simp at hun; rw [hun]
                have hr : (rinf ops)[j]? = some (riOf ops oj) := by
                  have e : ops.toList[j]? = some oj := by simpa using hj
                  rw [rinf, List.getElem?_map, e]; rfl
                have := freeF_ok x i (rinf ops) listed 0 hfree j (riOf ops oj) hr hl (by omega) (by
                  cases hc : has (riOf ops oj).after i with
                  | false => rfl
                  | true =>
                    have := has_iff.1 hc
                    obtain ⟨e, he, h2⟩ := List.mem_map.1 this
                    rw [List.mem_filter] at he
                    exact absurd h2 (hno e (by simpa using he.1) he.2))
                rw [hx'] at this
                exact apartF_ok this
              · rw [putK_eq] at hd
                have := ih _ n _ _ w Φ he (h.put o v) hR hd hK
                simpa using this
            · cases hf
          · cases hf
        · exact hd.elim
      · refine ⟨fun hr => ?_, fun i hi => ?_⟩
        · refine absurd ?_ hne
          cases hq : readyF listed (rinf ops) listed 0 with
          | nil => rfl
          | cons i r =>
            have : i ∈ Region.ready .any ops ⟨listed⟩ := ready_iff.1 (by rw [hq]; exact List.mem_cons_self ..)
            rw [hr] at this; cases this
        have hdi := allOf_den hd i (ready_iff.2 hi)
        split at hdi
        · rename_i o ho
          rw [T.den_bind] at hdi
          refine OpRuns.wp ho (opS_ok (P := P) hex hC hN hP h hdi fun n' s' a' w' he' hr' hφ' => ?_)
          split at hφ'
          · rename_i hkeep
            have hR' : Reads tb n0 mem w' := Reads.keep hwf (he.trans he') hr' hkeep
            have := ih _ n' s' a' w' Φ (he.trans he') hr' hR' hφ' fun n2 s2 a2 w2 he2 hr2 hφ2 => hK n2 s2 a2 w2 (he'.trans he2) hr2 hφ2
            exact ⟨hR', by simpa using this⟩
          · exact hφ'.elim
        · exact hdi.elim
theorem noDefer_ok {ops : Array Oper} (h : noDefer ops = true) (i : Nat) (o : Oper) (c : Call) (ho : ops[i]? = some o) : o.op ≠ .defer c := by
  intro heq
  have := Array.all_eq_true_iff_forall_mem.1 h o (Array.mem_of_getElem? ho)
  simp [heq] at this
theorem regS0_ok [TbOk P tb] [GlbOk tb N w0] {ex : Ex} (hex : Snd P C N w0 ex) (hC : ∀ c ∈ C, ConOk P tb N w0 c) (hN : N ≤ w0.heap.size) (hP : Fine P) {id : Nat} {ops : Array Oper} {draw : Bool} {A : Option Nat} {n : Env} {s : St} {a : Act} {w : World} {Φ : List DV → St → Prop} {Q : Exit → Act → World → Prop}
    (h : Rep N w0 n s a w) (hd : (regS0 ex tb C ops draw s).den C Φ n.r)
    (hK : ∀ n' s' a' w', Ext n n' → Rep N w0 n' s' a' w' → Φ n'.r s' → Q .normal a' w') : (Code.region id ops draw).wpIn (Wd A) 0 P Q a w := by
  unfold regS0 at hd
  cases draw with
  | false => exact wpIn_region (seqS_ok hex hC hN hP _ n s a w Φ h hd hK)
  | true =>
    simp only [if_true] at hd
    split at hd
    · rename_i hc
      simp only [Bool.and_eq_true] at hc
      have hrep : Rep N w0 n s a { w with drawn := w.drawn + 1 } := ⟨h.bnd, h.mem, h.dat.world h.bnd fun _ _ _ => rfl, h.below.drew, h.act⟩
      have hsub : SubM (calm (seqS ex tb C (!true) ops (List.range ops.size) s) (memOf s)) (memOf s) := calm_len _ _
      have hmema : ∀ (i : Nat) (b : Ar), (memOf s).a[i]? = some (some b) → s.ar[i]? = some b := fun i b hi => by
        simp only [memOf, List.getElem?_map] at hi
        cases hb : s.ar[i]? with
        | none => rw [hb] at hi; cases hi
        | some c =>
          rw [hb] at hi
          simp only [Option.map_some, Option.some.injEq] at hi
          unfold alive at hi
          split at hi
          · cases hi
          · cases hi; rfl
      have hwf : MemWf n (calm (seqS ex tb C (!true) ops (List.range ops.size) s) (memOf s)) := by
        refine ⟨fun i j c hi => ?_, fun i b hi => ?_, by rw [hsub.p]; exact h.bnd, fun i z e hi => ?_⟩
        · obtain ⟨b, hb, hcj⟩ := cellM_map (hsub.blk i j c hi)
          refine ⟨?_, ?_⟩
          · rw [h.nz]
            have hwb := List.all_eq_true.1 hc.2 b (List.mem_of_getElem? hb)
            simp only [wfBlk, Bool.and_eq_true] at hwb
            unfold cellsB at hcj
            split at hcj
            · exact List.all_eq_true.1 hwb.1 c (List.mem_of_getElem? hcj)
            · simp at hcj
          · rw [h.lens.2]; exact (List.getElem?_eq_some_iff.1 hb).1
        · have hb := hmema i b (hsub.ent i b hi)
          refine ⟨List.all_eq_true.1 h.dat.wf b (List.mem_of_getElem? hb), by rw [h.dat.len]; exact (List.getElem?_eq_some_iff.1 hb).1, fun e he => ?_⟩
          have := h.dat.ent i b hb
          unfold EntOk at this
          rw [he] at this
          exact this.2.2.1
        · have hb := hsub.lens i (z, e) hi
          simp only [memOf, List.getElem?_map] at hb
          cases hc : s.ar[i]? with
          | none => rw [hc] at hb; cases hb
          | some c =>
            rw [hc] at hb
            simp only [Option.map_some, Option.some.injEq] at hb
            unfold lenA at hb
            split at hb
            · cases hb
            · cases hb
              have := List.all_eq_true.1 h.dat.wf c (List.mem_of_getElem? hc)
              simp only [wfAr, Bool.and_eq_true] at this
              exact ⟨this.2, by rw [h.dat.len]; exact (List.getElem?_eq_some_iff.1 hc).1⟩
      have hR0 := hrep.reads (tb := tb)
      rw [fL_eq fRI_eq, fMm_eq] at hd
      have hd := drawnF_den hd
      have h2 := drawnS_ok (P := P) (Q := Q) hex hC hN hP hc.1.1 (n0 := n) hwf ops.size _ n s a _ Φ (Ext.refl n) hrep ⟨fun i j c hi => hR0.blk i j c (hsub.blk i j c hi), fun i b hi => hR0.ent i b (hsub.ent i b hi), by rw [hsub.p]; exact hR0.perm, fun i z e hi => hR0.lens i z e (hsub.lens i (z, e) hi), hR0.glb⟩ hd hK
      refine wpIn_mono (wpIn_region_draw fun t => ?_) (Q := onlyOn Q) fun e a w hq => ?_
      · simp only [Region.schedule, hP.mixed, Bool.true_or, if_true]
        refine wpOps_in _ _ _ ?_ (noDefer_ok hc.1.2)
        refine wpAny_sound ops.size t _ a _ ?_
        have h3 := wpAny_of_held _ _ _ _ h2
        simpa using h3
      · cases e <;> first | exact hq | exact hq.elim
    · exact hd.elim
theorem slimC_den {n m : Env} (hx : Ext n m) {e : E} {v : Nat} (hv : (E.var v).den m.r = e.den m.r) (c : CV) : (slimC e v c).den m = c.den m := by
  unfold slimC
  split
  · rename_i l f
    split
    · rename_i h
      rw [E.eqb_ok h]
      simp only [CV.den, K.den, hv]
    · rfl
  · rfl
theorem slimV_den {n m : Env} (hx : Ext n m) {e : E} {v : Nat} (hv : (E.var v).den m.r = e.den m.r) (x : SV) : (slimV e v x).den m = x.den m := by
  unfold slimV
  split
  · simp only [SV.den, PV.den, slimC_den hx hv]
  · rfl
theorem slimB_at {n m : Env} (hx : Ext n m) {e : E} {v : Nat} (hv : (E.var v).den m.r = e.den m.r) (b : Blk) (o : Option Obj) : (slimB e v b).at m o = b.at m o := by
  unfold slimB
  split
  · rename_i hk
    simp only [Blk.at, hk, Blk.obj, List.map_map]
    have h0 : b.cells.map (CV.den m ∘ slimC e v) = b.cells.map (CV.den m) := List.map_congr_left fun c _ => slimC_den hx hv c
    rw [h0]
  · rfl
theorem slimW_ok {C : List Con} {Φ : List DV → St → Prop} {n : Env} {s : St} {a : Act} {w : World} {e : E} (h : Rep N w0 n s a w) (hd : (slimW s e).den C Φ n.r) : ∃ m s', Ext n m ∧ Rep N w0 m s' a w ∧ Φ m.r s' := by
  unfold slimW at hd
  split at hd
  · rename_i hc
    simp only [Bool.and_eq_true] at hc
    obtain ⟨hw, he⟩ := hc
    have ev : E.val n.r (.num e) = .n (e.den n.r) := by simp only [E.val, E.isD, E.den]
    simp only [T.den, DOp.fn, List.map_cons, List.map_nil, ev] at hd
    have hx : Ext n (n.moreZ [.n (e.den n.r)]) := Ext.more n _ _ (by simp)
    have hv : (E.var s.bnd.v.length).den (n.moreZ [.n (e.den n.r)]).r = e.den (n.moreZ [.n (e.den n.r)]).r := by
      rw [wfE_den hx.r e (by rw [h.lens.1]; exact he)]
      simp only [E.den, ← h.lens.1]
      simp [Env.moreZ, Env.more, DV.int]
    refine ⟨n.moreZ [.n (e.den n.r)], _, hx, ?_, hd⟩
    simp only [wfSt, Bool.and_eq_true] at hw
    have hb := hw.1.2
    rw [← h.nz] at hb
    have hm := h.mem.ext hb hx rfl
    refine ⟨cat_ok h.bnd ?_, ⟨by rw [List.length_map]; exact hm.1, hm.2.1, fun i b hi => ?_⟩, ?_, h.below, ?_⟩
    · refine ⟨rfl, fun i => ?_, fun f hf => (by cases hf), fun b hb => (by cases hb)⟩
      cases i with
      | zero => exact ⟨_, rfl, E.rng_ok h.bnd e⟩
      | succ i => simp only [List.getD_cons_succ, List.getD_nil]; exact ⟨0, rfl, Int.le_refl _, Int.le_refl _⟩
    · rw [List.getElem?_map] at hi
      cases hq : s.bs[i]? with
      | none => rw [hq] at hi; cases hi
      | some b0 =>
        rw [hq] at hi
        simp only [Option.map_some, Option.some.injEq] at hi
        subst hi
        rw [slimB_at hx hv]
        exact hm.2.2 i b0 hq
    · refine h.dat.move h.bnd rfl (List.prefix_append _ _) (fun g hg => .inl hg) (fun _ _ _ => rfl) fun i T hT => ?_
      simp only [cat] at hT
      rw [List.getElem?_append] at hT
      split at hT
      · rename_i hlt; exact .inl ⟨by rw [h.lens.1]; exact hlt, hT⟩
      · rename_i hge
        cases hk : i - s.bnd.v.length with
        | zero => rw [hk] at hT; simp at hT
        | succ k => rw [hk] at hT; simp at hT
    · rw [h.act]
      have h1 := wfSs_den hx s.tmps (by rw [h.nz]; exact hw.1.1)
      have h2 : (s.tmps.map (slimV e s.bnd.v.length)).map (SV.den (n.moreZ [.n (e.den n.r)])) = s.tmps.map (SV.den n) := by
        rw [← h1, List.map_map]
        exact List.map_congr_left fun x _ => slimV_den hx hv x
      simp only [h2]
      rfl
  · exact ⟨n, s, Ext.refl n, h, hd⟩
theorem slim_ok {C : List Con} {Φ : List DV → St → Prop} {ops : Array Oper} : ∀ (f : Nat) {n : Env} {s : St} {a : Act} {w : World}, Rep N w0 n s a w → (slim ops f s).den C Φ n.r → ∃ m s', Ext n m ∧ Rep N w0 m s' a w ∧ Φ m.r s'
  | 0, n, s, a, w, h, hd => ⟨n, s, Ext.refl n, h, hd⟩
  | f + 1, n, s, a, w, h, hd => by
    simp only [slim] at hd
    split at hd
    · rw [fE_eq, T.den_bind] at hd
      obtain ⟨m, s', hx, hr, hd⟩ := slimW_ok h hd
      rw [fSt_eq] at hd
      obtain ⟨m2, s2, hx2, hr2, hd2⟩ := slim_ok f hr hd
      exact ⟨m2, s2, hx.trans hx2, hr2, hd2⟩
    · exact ⟨n, s, Ext.refl n, h, hd⟩
theorem regS_ok [TbOk P tb] [GlbOk tb N w0] {ex : Ex} (hex : Snd P C N w0 ex) (hC : ∀ c ∈ C, ConOk P tb N w0 c) (hN : N ≤ w0.heap.size) (hP : Fine P) {id : Nat} {ops : Array Oper} {draw : Bool} {A : Option Nat} {n : Env} {s : St} {a : Act} {w : World} {Φ : List DV → St → Prop} {Q : Exit → Act → World → Prop}
    (h : Rep N w0 n s a w) (hd : (regS ex tb C ops draw s).den C Φ n.r)
    (hK : ∀ n' s' a' w', Ext n n' → Rep N w0 n' s' a' w' → Φ n'.r s' → Q .normal a' w') : (Code.region id ops draw).wpIn (Wd A) 0 P Q a w := by
  unfold regS at hd
  rw [T.den_bind] at hd
  refine regS0_ok hex hC hN hP h hd fun n1 s1 a1 w1 he hr hφ => ?_
  obtain ⟨m, s2, hx, hr2, h2⟩ := slim_ok 12 hr hφ
  exact hK m s2 a1 w1 (he.trans hx) hr2 h2
end
end Go.Dx

/- A symbolic executor: code, and whole calls. -/
namespace Go.Dx
open Go.RowKit
set_option linter.unusedVariables false
set_option linter.unusedSimpArgs false
def loopS (ex : Ex) (ro : Option Nat) (body : Code) : Nat → St → T (X × St)
  | 0, _ => .fail
  | f + 1, s => (ex ro body s).bind fun p => match p.1 with
    | .nrm => loopS ex ro body f p.2
    | _ => .ret p
/-- The blocks that a range over a function lays, and the number of its record. -/
def enterS (ro : Option Nat) (s : St) (ps : Array Tmp) (assign body : Code) : Option (Nat × St) :=
  match s with
  | ⟨t, b, n, d, r⟩ => match ro with
    | none => some (b.length + 1, ⟨t, b ++ [⟨[], 0, some (.dfr true)⟩, ⟨[], 0, some (.loop 0 none t ps assign body b.length)⟩], n, b.length :: d, r⟩)
    | some l0 => match b[l0]? with
      | some ⟨_, _, some (.loop _ _ _ _ _ _ d0)⟩ => some (b.length, ⟨t, b ++ [⟨[], 0, some (.loop 0 none t ps assign body d0)⟩], n, d, r⟩)
      | _ => none
/-- What follows the call of a function that is ranged over. -/
def afterS (ex : Ex) (ro : Option Nat) (l : Nat) (p : SV × St) : T (X × St) := fMem p.2 fun q =>
  match q.bs[l]? with
  | some ⟨_, _, some (.loop 1 _ _ _ _ _ _)⟩ => .fail
  | some ⟨_, _, some (.loop _ pe _ _ _ _ _)⟩ => match loopAt q l 3 none with
    | some s3 => fMem { s3 with bs := s3.bs.set l ⟨[], 0, some .gone⟩ } fun s3 => match pe with
      | none => .ret (.nrm, s3)
      | some c => ex ro c s3
    | none => .fail
  | _ => .fail
def rangeS (ex : Ex) (tb : Tb) (C : List Con) (ro : Option Nat) (s : St) (f : Operand) (ps : Array Tmp) (assign body : Code) : T (X × St) :=
  if wfSt s then
    match opP s.tmps [] f with
    | some (.c (.clo (.func g) [] cap)) =>
      if (tb.func g).any (fun fn => fn.body.isSome) then
        match enterS ro s ps assign body with
        | some (l, s1) => squashX <| (fMem s1 fun s1 => callS ex tb C s1 g (.c (.k (.yld l)) :: cap.map (fun k => .c (.k k)))).bind (afterS ex ro l)
        | none => .fail
      else .fail
    | _ => .fail
  else .fail
section
variable {P : Program} {tb : Tb} {C : List Con} {N : Nat} {w0 : World}
theorem loopS_ok {ex : Ex} (hex : Snd P C N w0 ex) {ro : Option Nat} {body : Code} {A : Option Nat} {Q : Exit → Act → World → Prop} : ∀ (f : Nat) (s : St) (n : Env) (a : Act) (w : World) (Φ : List DV → X × St → Prop), (∀ l, ro = some l → l < n.b.length) → A = (ro.map fun l => n.b.getD l 0) → Rep N w0 n s a w →
    (loopS ex ro body f s).den C Φ n.r → (∀ n' x s' a' w', Ext n n' → Rep N w0 n' s' a' w' → Φ n'.r (x, s') → Q x.exit a' w') → Code.roundsIn (Wd A) 0 P body Q f a w
  | 0, s, n, a, w, Φ, _, _, _, hd, _ => hd.elim
  | f + 1, s, n, a, w, Φ, hro, hA, h, hd, hK => by
    rw [roundsIn_succ]
    simp only [loopS] at hd
    rw [T.den_bind] at hd
    rw [hA]
    refine hex ro body s n a w _ _ hro h hd fun n' x s' a' w' he hr hφ => ?_
    cases x with
    | nrm =>
      rw [← hA]
      exact loopS_ok hex f s' n' a' w' Φ (ro_lt he hro) (hA.trans (ro_ext he hro).symm) hr hφ fun n2 x2 s2 a2 w2 he2 hr2 hφ2 => hK n2 x2 s2 a2 w2 (he.trans he2) hr2 hφ2
    | ext id => exact hK n' (.ext id) s' a' w' he hr hφ
    | ret => exact hK n' .ret s' a' w' he hr hφ
/-- What is known of a block may be forgotten. -/
theorem Rep.gone {N : Nat} {w0 : World} {n : Env} {s : St} {a : Act} {w : World} (h : Rep N w0 n s a w) (l : Nat) : Rep N w0 n { s with bs := s.bs.set l ⟨[], 0, some .gone⟩ } a w := by
  refine ⟨h.bnd, ⟨by rw [List.length_set]; exact h.mem.1, h.mem.2.1, fun i b hi => ?_⟩, h.dat, h.below, h.act⟩
  by_cases e : l = i
  · subst e
    have hlt : l < s.bs.length := by have := (List.getElem?_eq_some_iff.1 hi).1; simpa using this
    rw [List.getElem?_set_self hlt] at hi
    cases hi
    have h1 := h.mem.2.2 l _ (List.getElem?_eq_getElem hlt)
    exact ⟨h1.1, Blk.at_some h1.2⟩
  · rw [List.getElem?_set_ne e] at hi
    exact h.mem.2.2 i b hi
theorem enterS_ok {ro : Option Nat} {s s1 : St} {ps : Array Tmp} {assign body : Code} {n : Env} {a : Act} {w : World} {l : Nat} (hN : N ≤ w0.heap.size) (h : Rep N w0 n s a w) (hw : wfSt s = true) (hro : ∀ l, ro = some l → l < n.b.length)
    (hent : enterS ro s ps assign body = some (l, s1)) (fn : FuncId) : ∃ (mark : List Deferred) (w1 : World) (m : Env), (Instr.enterLoop fn a.tmps ps assign body (ro.map fun l => n.b.getD l 0)).run P w = .ok (m.b.getD l 0, mark) w1 ∧
      Ext n m ∧ l < m.b.length ∧ Rep N w0 m s1 { a with defers := mark ++ a.defers } w1 := by
  have hw' := hw
  simp only [wfSt, Bool.and_eq_true] at hw'
  have hwt : s.tmps.all (wfS (nz n)) = true := by rw [h.nz]; exact hw'.1.1
  have hwb : s.bs.all (wfBlk (nz n)) = true := by rw [h.nz]; exact hw'.1.2
  have hwd : (s.df.all fun d => Nat.blt d n.b.length) = true := by rw [h.lens.2]; exact hw'.2
  have hN' : N ≤ w.heap.size := Nat.le_trans hN h.below.size
  unfold enterS at hent
  obtain ⟨st, sb, sn, sd, sr⟩ := s
  simp only at hent
  cases ro with
  | none =>
    simp only [Option.some.injEq, Prod.mk.injEq] at hent
    obtain ⟨rfl, rfl⟩ := hent
    have hx1 := newEnv_ext n w.heap.size
    have hx2 := newEnv_ext (newEnv n w.heap.size) (w.heap.size + 1)
    have hlen : n.b.length = sb.length := h.lens.2
    have eD : (newEnv (newEnv n w.heap.size) (w.heap.size + 1)).b.getD sb.length 0 = w.heap.size := by
      simp [newEnv, List.getD_eq_getElem?_getD, ← hlen]
    have eL : (newEnv (newEnv n w.heap.size) (w.heap.size + 1)).b.getD (sb.length + 1) 0 = w.heap.size + 1 := by
      simp [newEnv, List.getD_eq_getElem?_getD, ← hlen]
    refine ⟨[{ target := .collected w.heap.size, args := #[] }], (w.alloc (.deferred (some []))).alloc (.loop { state := .ready, pending := none, fn, tmps := a.tmps, params := ps, assign, body, defers := w.heap.size }), newEnv (newEnv n w.heap.size) (w.heap.size + 1), ?_, hx1.trans hx2, by simp [newEnv, hlen], ?_⟩
    · rw [eL]; exact run_enterLoop_outer fn a.tmps ps assign body
    · have m1 : Mem N (newEnv n w.heap.size) (sb ++ [⟨[], 0, some (.dfr true)⟩]) (w.alloc (.deferred (some []))) := h.mem.newB hN' hwb ⟨0, rfl⟩
      have hs1 : (w.alloc (.deferred (some []))).heap.size = w.heap.size + 1 := by simp
      have wb1 : (sb ++ [⟨[], 0, some (.dfr true)⟩] : List Blk).all (wfBlk (nz (newEnv n w.heap.size))) = true := by
        rw [List.all_append, Bool.and_eq_true]
        refine ⟨List.all_eq_true.2 fun k hk => ?_, rfl⟩
        exact wfBlk_mono (q := nz n) (p := nz (newEnv n w.heap.size)) (Nat.le_refl _) (by simp [nz, newEnv]) (Nat.le_refl _) k (List.all_eq_true.1 hwb k hk)
      have m2 := m1.newB (k := ⟨[], 0, some (.loop 0 none st ps assign body sb.length)⟩) (o := .loop { state := .ready, pending := none, fn, tmps := a.tmps, params := ps, assign, body, defers := w.heap.size }) (by rw [hs1]; omega) wb1 ⟨fn, by
        rw [hs1]
        simp only [Lq.obj, eD, h.tmps, wfSs_den (hx1.trans hx2) st hwt]
        rfl⟩
      rw [hs1] at m2
      refine ⟨h.bnd, ?_, ?_, (h.below.alloc hN' _).alloc (by rw [hs1]; omega) _, ?_⟩
      · simpa using m2
      · have d1 := h.dat.newB h.bnd (.deferred (some []))
        have d2 := d1.newB h.bnd (.loop { state := .ready, pending := none, fn, tmps := a.tmps, params := ps, assign, body, defers := w.heap.size })
        rw [hs1] at d2
        exact d2
      · rw [h.act]
        simp only [List.map_cons, eD, wfSs_den (hx1.trans hx2) st hwt, wfDf (hx1.trans hx2) sd hwd]
        rfl
  | some l0 =>
    simp only at hent
    split at hent
    · rename_i c t q1 q2 q3 q4 q5 q6 d0 hb
      simp only [Option.some.injEq, Prod.mk.injEq] at hent
      obtain ⟨rfl, rfl⟩ := hent
      have hx1 := newEnv_ext n w.heap.size
      have hlen : n.b.length = sb.length := h.lens.2
      have hb0 := h.mem.2.2 l0 _ hb
      obtain ⟨f0, hb1⟩ := hb0.2
      have eL : (newEnv n w.heap.size).b.getD sb.length 0 = w.heap.size := by
        simp [newEnv, List.getD_eq_getElem?_getD, ← hlen]
      have wd0 : d0 < n.b.length := by
        have := List.all_eq_true.1 hwb _ (List.mem_of_getElem? hb)
        simp only [wfBlk, wfLq, Bool.and_eq_true] at this
        exact blt_lt this.2.2
      have hrun : (Instr.enterLoop fn a.tmps ps assign body ((some l0).map fun l => n.b.getD l 0)).run P w = .ok (w.heap.size, []) (w.alloc (.loop { state := .ready, pending := none, fn, tmps := a.tmps, params := ps, assign, body, defers := n.b.getD d0 0 })) := by
        unfold Instr.enterLoop
        simp only [Option.map_some, Sem.run_bind, run_getLoop hb1, run_newObj_alloc, Result.andThen, Sem.run_pure]
      refine ⟨[], w.alloc (.loop { state := .ready, pending := none, fn, tmps := a.tmps, params := ps, assign, body, defers := n.b.getD d0 0 }), newEnv n w.heap.size, ?_, hx1, by simp [newEnv, hlen], ?_⟩
      · rw [eL]; exact hrun
      · have m1 := h.mem.newB (k := ⟨[], 0, some (.loop 0 none st ps assign body d0)⟩) (o := .loop { state := .ready, pending := none, fn, tmps := a.tmps, params := ps, assign, body, defers := n.b.getD d0 0 }) hN' hwb ⟨fn, by
          simp only [Lq.obj, h.tmps, wfSs_den hx1 st hwt, getD_prefix hx1.b wd0]
          rfl⟩
        refine ⟨h.bnd, m1, h.dat.newB h.bnd _, h.below.alloc hN' _, ?_⟩
        rw [h.act]
        simp only [wfSs_den hx1 st hwt, wfDf hx1 sd hwd]
        rfl
    · cases hent
theorem opd_wf {q : Sz} {tmps : List SV} (hwt : tmps.all (wfS q) = true) {f : Operand} {g : FuncId} {cap : List K} (hf : opP tmps [] f = some (.c (.clo (.func g) [] cap))) : cap.all (wfK q) = true := by
  have hwf : wfP q (.c (.clo (.func g) [] cap)) = true := by
    unfold opP opd at hf
    split at hf
    · rename_i y hy
      cases hf
      cases f with
      | tmp t =>
        simp only at hy
        split at hy
        · rename_i b x hx
          split at hy
          · cases hy
            have := List.all_eq_true.1 hwt _ (List.mem_of_getElem? hx)
            simp only [wfS, Bool.and_eq_true] at this
            exact this.2
          · cases hy
        · rename_i hx
          cases hy
          exact List.all_eq_true.1 hwt _ (List.mem_of_getElem? hx)
        · cases hy
      | const c =>
        simp only at hy
        unfold ofValue at hy
        split at hy
        · rename_i vs; cases hq : ofPVs vs.toList with
          | none => rw [hq] at hy; cases hy
          | some y => rw [hq] at hy; cases hy
        · unfold ofPV at hy
          split at hy
          · rename_i cs _; cases hq : ofCells cs.toList with
            | none => rw [hq] at hy; cases hy
            | some y => rw [hq] at hy; cases hy
          · simp only [Option.map_map, Option.map_eq_some_iff] at hy
            obtain ⟨x, hx, hy⟩ := hy
            simp only [Function.comp, SV.p.injEq, PV.c.injEq] at hy
            subst hy
            unfold ofCell at hx
            split at hx <;> cases hx
      | global g => cases hy
      | func g => cases hy; rfl
    · cases hf
  simp only [wfP, wfC, Bool.and_eq_true] at hwf
  exact hwf.2
end
end Go.Dx

/- A symbolic executor: what all leaves of a tree have; what never changes of the record of a loop. -/
namespace Go.Dx
open Go.RowKit
set_option linter.unusedVariables false
set_option linter.unusedSimpArgs false
def T.All {α : Type} (p : α → Prop) : T α → Prop
  | .ret a => p a
  | .ite _ t e => t.All p ∧ e.All p
  | .both t e => t.All p ∧ e.All p
  | .con _ _ k => k.All p
  | .lop _ _ _ k => k.All p
  | .dat _ _ k => k.All p
  | .adr _ k => k.All p
  | .chk _ _ _ => True
  | .fail => True
theorem T.All_bind {α β : Type} {p : β → Prop} (t : T α) (f : α → T β) : (t.bind f).All p ↔ t.All fun a => (f a).All p := by
  induction t with
  | ret a => exact Iff.rfl
  | ite b t e ht he => simp only [T.bind, T.All, ht, he]
  | both t e ht he => simp only [T.bind, T.All, ht, he]
  | con c xs k hk => simp only [T.bind, T.All, hk]
  | lop c xs m k hk => simp only [T.bind, T.All, hk]
  | dat g xs k hk => simp only [T.bind, T.All, hk]
  | adr x k hk => simp only [T.bind, T.All, hk]
  | chk c o xs => exact Iff.rfl
  | fail => exact Iff.rfl
theorem T.All_mono {α : Type} {p q : α → Prop} (h : ∀ a, p a → q a) (t : T α) : t.All p → t.All q := by
  induction t with
  | ret a => exact h a
  | ite b t e ht he => exact fun x => ⟨ht x.1, he x.2⟩
  | both t e ht he => exact fun x => ⟨ht x.1, he x.2⟩
  | con c xs k hk => exact hk
  | lop c xs m k hk => exact hk
  | dat g xs k hk => exact hk
  | adr x k hk => exact hk
  | chk c o xs => exact id
  | fail => exact id
theorem T.All_den {α : Type} {p : α → Prop} {C : List Con} {Φ : List DV → α → Prop} (t : T α) : ∀ r, t.All p → t.den C Φ r → t.den C (fun r a => Φ r a ∧ p a) r := by
  induction t with
  | ret a => exact fun r h x => ⟨x, h⟩
  | ite b t e ht he => exact fun r h x => ⟨fun hb => ht r h.1 (x.1 hb), fun hb => he r h.2 (x.2 hb)⟩
  | both t e ht he => exact fun r h x => ⟨ht r h.1 x.1, he r h.2 x.2⟩
  | con c xs k hk =>
    intro r h x
    simp only [T.den] at *
    split
    · rename_i hc; rw [hc] at x; exact x.elim
    · rename_i c' hc
      rw [hc] at x
      exact ⟨x.1, fun ys h1 h2 => hk _ h (x.2 ys h1 h2)⟩
  | lop c xs m k hk =>
    intro r h x
    simp only [T.den] at *
    split
    · rename_i hc; rw [hc] at x; exact x.elim
    · rename_i c' hc
      rw [hc] at x
      exact ⟨x.1, fun ys h1 h2 => hk _ h (x.2 ys h1 h2)⟩
  | chk c o xs => exact fun r h x => x
  | dat g xs k hk => exact fun r h x => hk _ h x
  | adr y k hk => exact fun r h x a cap => hk _ h (x a cap)
  | fail => exact fun r h x => x
def Stat (bs bs' : List Blk) : Prop := ∀ (j : Nat) (c : List CV) (t : TypeId) (st : Nat) (pe : Option Code) (tm : List SV) (ps : Array Tmp) (a b : Code) (d : Nat), bs[j]? = some ⟨c, t, some (.loop st pe tm ps a b d)⟩ →
  ∃ (c' : List CV) (t' : TypeId) (st' : Nat) (pe' : Option Code), bs'[j]? = some ⟨c', t', some (.loop st' pe' tm ps a b d)⟩
theorem Stat.refl (bs : List Blk) : Stat bs bs := fun j c t st pe tm ps a b d h => ⟨c, t, st, pe, h⟩
theorem Stat.trans {x y z : List Blk} (h : Stat x y) (k : Stat y z) : Stat x z := fun j c t st pe tm ps a b d hj => by
  obtain ⟨c', t', st', pe', h'⟩ := h j c t st pe tm ps a b d hj
  exact k j c' t' st' pe' tm ps a b d h'
theorem Stat.app (bs l : List Blk) : Stat bs (bs ++ l) := fun j c t st pe tm ps a b d hj => ⟨c, t, st, pe, by rw [List.getElem?_append_left (List.getElem?_eq_some_iff.1 hj).1]; exact hj⟩
theorem Stat.take {bs l : List Blk} (h : Stat bs l) : Stat bs (l.take bs.length) := fun j c t st pe tm ps a b d hj => by
  obtain ⟨c', t', st', pe', h'⟩ := h j c t st pe tm ps a b d hj
  exact ⟨c', t', st', pe', by rw [List.getElem?_take, if_pos (List.getElem?_eq_some_iff.1 hj).1]; exact h'⟩
theorem Stat.set {bs : List Blk} {i : Nat} {k k' : Blk} (hk : bs[i]? = some k) (h : ∀ st pe tm ps a b d, k.kd = some (.loop st pe tm ps a b d) → ∃ st' pe', k'.kd = some (.loop st' pe' tm ps a b d)) : Stat bs (bs.set i k') := fun j c t st pe tm ps a b d hj => by
  by_cases e : i = j
  · subst e
    rw [hk] at hj
    cases hj
    obtain ⟨st', pe', h'⟩ := h st pe tm ps a b d rfl
    obtain ⟨c', t', kd⟩ := k'
    simp only at h'
    subst h'
    exact ⟨c', t', st', pe', by rw [List.getElem?_set_self (List.getElem?_eq_some_iff.1 hk).1]⟩
  · exact ⟨c, t, st, pe, by rw [List.getElem?_set_ne e]; exact hj⟩
def StEx (ex : Ex) : Prop := ∀ ro c s, (ex ro c s).All fun p => Stat s.bs p.2.bs
abbrev St2 (s : St) (t : T (SV × St)) : Prop := t.All fun p => Stat s.bs p.2.bs
theorem put_bs (s : St) (o : Oper) (v : SV) : (put s o v).bs = s.bs := rfl
theorem assume_bs (s : St) (g : B) (t : Bool) : (assume s g t).bs = s.bs := rfl
theorem newS_st (s : St) (cells : List CV) (ty : TypeId) (v : Nat → SV) : St2 s (newS s cells ty v) := by
  unfold newS; split
  · exact Stat.app _ _
  · trivial
theorem storeS_st (tb : Tb) (s : St) (t : TypeId) (b o : Nat) (v : PV) : St2 s (storeS tb s t b o v) := by
  unfold storeS
  split
  · rename_i hk
    split
    · exact Stat.set hk (fun _ _ _ _ _ _ _ h => by cases h)
    · trivial
  · trivial
section
variable {β : Type} {p : β → Prop}
theorem litC_all {s : Bnd} (x : CV) (k : CV → T β) (h : ∀ c, (k c).All p) : (litC s x k).All p := by
  unfold litC
  split
  · split
    · exact h _
    · split
      · exact h _
      · exact ⟨h _, h _⟩
    · exact ⟨h _, h _⟩
  · exact h _
theorem litL_all {s : Bnd} : ∀ (l : List CV) (k : List CV → T β), (∀ c, (k c).All p) → (litL s l k).All p
  | [], k, h => h []
  | x :: l, k, h => litC_all x _ fun c => litL_all l _ fun m => h _
theorem litP_all (x : PV) (k : PV → T β) (h : ∀ c, (k c).All p) {s : Bnd} : (litP s x k).All p := by
  cases x with
  | c c => exact litC_all c _ fun c => h _
  | agg l => exact litL_all l _ fun l => h _
theorem toVar_all (s : St) (row : List Sh) (ct : Ct) (k : E → Nat → St → T β) (h : ∀ e m s', s'.bs = s.bs → (k e m s').All p) : (toVar s row ct k).All p := by
  unfold toVar
  split
  · split
    · split
      · exact h _ _ _ rfl
      · trivial
    · trivial
  · split
    · exact h _ _ _ rfl
    · trivial
theorem nestC_all (x : CV) (s : St) (k : CV → St → T β) (h : ∀ y s', s'.bs = s.bs → (k y s').All p) : (nestC s x k).All p := by
  have key : ∀ i, (adrS s i k).All p := fun i => by
    unfold adrS
    split
    · split
      · trivial
      · exact h _ _ rfl
      · exact toVar_all _ _ _ _ fun e m s1 h1 => h _ _ h1
    · trivial
  unfold nestC
  split
  · exact key _
  · exact h _ _ rfl
theorem nestL'_all : ∀ (l : List CV) (s : St) (k : List CV → St → T β), (∀ y s', s'.bs = s.bs → (k y s').All p) → (nestL' l s k).All p
  | [], s, k, h => h _ _ rfl
  | x :: l, s, k, h => nestC_all _ _ _ fun y s1 h1 => nestL'_all l s1 _ fun l' s2 h2 => h _ _ (h2.trans h1)
theorem nestL_all (l : List CV) (s : St) (k : List CV → St → T β) (h : ∀ y s', s'.bs = s.bs → (k y s').All p) : (nestL l s k).All p := by
  unfold nestL
  split
  · split
    · exact nestL'_all _ _ _ h
    · trivial
  · exact h _ _ rfl
theorem nestP_all (s : St) (q : K) (x : PV) (k : PV → St → T β) (h : ∀ y s', s'.bs = s.bs → (k y s').All p) : (nestP s q x k).All p := by
  unfold nestP
  split
  · split
    · split
      · refine nestL_all _ _ _ fun l s1 h1 => ?_
        split
        · exact h _ _ h1
        · trivial
      · trivial
    · exact h _ _ rfl
  · split
    · split
      · exact nestL_all _ _ _ fun l s1 h1 => h _ _ h1
      · trivial
    · exact h _ _ rfl
theorem catCt_all (s : St) (R : Nat) (row : List Sh) (x y : Rd) (k : Ct → St → T β) (h : ∀ c s', s'.bs = s.bs → (k c s').All p) : (catCt s R row x y k).All p := by
  unfold catCt
  split
  · exact h _ _ rfl
  · exact h _ _ rfl
  · exact toVar_all _ _ _ _ fun e m s1 h1 => toVar_all _ _ _ _ fun f m s2 h2 => h _ _ (h2.trans h1)
theorem copyCt_all (s : St) (row : List Sh) (x y : Rd) (nn : E) (k : Ct → St → T β) (h : ∀ c s', s'.bs = s.bs → (k c s').All p) : (copyCt s row x y nn k).All p := by
  unfold copyCt
  split
  · exact h _ _ rfl
  · exact toVar_all _ _ _ _ fun e m s1 h1 => toVar_all _ _ _ _ fun f m s2 h2 => h _ _ (h2.trans h1)
theorem midCt_all (s : St) (row : List Sh) (o : Nat) (x y : Rd) (nn : E) (k : Ct → St → T β) (h : ∀ c s', s'.bs = s.bs → (k c s').All p) : (midCt s row o x y nn k).All p := by
  unfold midCt
  split
  · exact h _ _ rfl
  · exact toVar_all _ _ _ _ fun e m s1 h1 => toVar_all _ _ _ _ fun f m s2 h2 => h _ _ (h2.trans h1)
theorem sufCt_all (s : St) (row' : List Sh) (x : Rd) (zr : List Sh) (ze : List E) (q : E) (k : Ct → St → T β) (h : ∀ ct s', s'.bs = s.bs → (k ct s').All p) : (sufCt s row' x zr ze q k).All p := by
  unfold sufCt
  split
  · exact h _ _ rfl
  · exact toVar_all _ _ _ _ fun e m s1 h1 => h _ _ h1
theorem subCt_all (s : St) (row : List Sh) (ct : Ct) (R : Nat) (x y : E) (k : Ct → St → T β) (h : ∀ c s', s'.bs = s.bs → (k c s').All p) : (subCt s row ct R x y k).All p := by
  unfold subCt
  split
  · exact h _ _ rfl
  · exact toVar_all _ _ _ _ fun e m s1 h1 => h _ _ h1
theorem repCt_all (s : St) (R : Nat) (row : List Sh) (n : E) (es : List E) (k : Ct → St → T β) (h : ∀ c s', s'.bs = s.bs → (k c s').All p) : (repCt s R row n es k).All p := by
  unfold repCt
  split
  · split
    · exact h _ _ rfl
    · exact h _ _ rfl
  · exact h _ _ rfl
theorem argC_all (s : St) (t : Sh) (c : CV) (k : E → St → T β) (h : ∀ e s', s'.bs = s.bs → (k e s').All p) : (argC s t c k).All p := by
  unfold argC
  split
  · split
    · split
      · split
        · refine toVar_all _ _ _ _ fun e m s1 h1 => ?_
          split
          · split
            · exact h _ _ h1
            · exact ⟨h _ _ h1, trivial⟩
          · simp only [letD, T.All]
            split
            · exact h _ _ h1
            · exact ⟨h _ _ h1, trivial⟩
        · trivial
      · trivial
    · trivial
  · refine litC_all _ _ fun c => ?_
    split
    · split
      · split
        · split
          · exact h _ _ rfl
          · exact ⟨h _ _ rfl, trivial⟩
        · split
          · split
            · split
              · exact h _ _ rfl
              · exact h _ _ rfl
            · trivial
          · trivial
        · split
          · exact h _ _ rfl
          · trivial
      · trivial
    · trivial
theorem cellsC_all : ∀ (l : List Sh) (r : List CV) (s : St) (k : List E → St → T β), (∀ e s', s'.bs = s.bs → (k e s').All p) → (cellsC s l r k).All p
  | [], [], s, k, h => h _ _ rfl
  | t :: l, c :: r, s, k, h => argC_all _ _ _ _ fun e s1 h1 => cellsC_all l r s1 _ fun es s2 h2 => h _ _ (h2.trans h1)
  | [], _ :: _, s, k, h => trivial
  | _ :: _, [], s, k, h => trivial
theorem argsC_all : ∀ (l : List ASh) (r : List PV) (s : St) (k : List E → St → T β), (∀ e s', s'.bs = s.bs → (k e s').All p) → (argsC s l r k).All p
  | [], [], s, k, h => h _ _ rfl
  | .c t :: l, .c c :: r, s, k, h => argC_all _ _ _ _ fun e s1 h1 => argsC_all l r s1 _ fun es s2 h2 => h _ _ (h2.trans h1)
  | .agg ts :: l, .agg cs :: r, s, k, h => cellsC_all _ _ _ _ fun e s1 h1 => argsC_all l r s1 _ fun es s2 h2 => h _ _ (h2.trans h1)
  | [], _ :: _, s, k, h => by simp only [argsC]; trivial
  | .c _ :: _, [], s, k, h => by simp only [argsC]; trivial
  | .agg _ :: _, [], s, k, h => by simp only [argsC]; trivial
  | .c _ :: _, .agg _ :: _, s, k, h => by simp only [argsC]; trivial
  | .agg _ :: _, .c _ :: _, s, k, h => by simp only [argsC]; trivial
end
theorem pushAr_bs (s : St) (po : Option Nat) (a : Ar) : (pushAr s po a).bs = s.bs := by
  unfold pushAr
  split
  · rfl
  · split <;> rfl
theorem buildA_bs {tb : Tb} {s : St} {e : TypeId} {len : Nat} {cs : List CV} {r : SV × St} (h : buildA tb s e len cs = some r) : r.2.bs = s.bs := by
  have key : ∀ (row : List Sh) (ess : List (List E)) (q : Bool) (x : SV), (if q then some (x, { s with ar := s.ar ++ [⟨row, .rows ess, .lit len, .own, e⟩] }) else none) = some r → r.2.bs = s.bs := fun row ess q x h => by
    split at h
    · cases h; rfl
    · cases h
  unfold buildA at h
  split at h
  · split at h
    · cases h
    · simp only at h
      split at h
      · split at h
        · exact key _ _ _ _ h
        · split at h
          · exact key _ _ _ _ h
          · cases h
      · cases h
  · cases h
theorem stat_eq {s : St} {l : List Blk} (h : l = s.bs) : Stat s.bs l := by rw [h]; exact Stat.refl _
theorem bslA_st (tb : Tb) (s : St) (t : TypeId) (len : Nat) (l : List (Nat × PV)) : St2 s (bslA tb s t len l) := by
  unfold bslA
  split
  · split
    · split
      · trivial
      · split
        · split
          · split
            · refine litL_all _ _ fun cs => nestL_all _ _ _ fun cs s1 h1 => ?_
              split
              · rename_i hb; exact stat_eq ((buildA_bs hb).trans h1)
              · trivial
            · trivial
          · exact newS_st ..
        · trivial
    · trivial
  · trivial
theorem storeAr_st (tb : Tb) (s : St) (t : TypeId) (k z : Nat) (i : E) (j : Nat) (v : PV) : St2 s (storeAr tb s t k z i j v) := by
  unfold storeAr
  split
  · split
    · split
      · split
        · split
          · split
            · split
              · exact Stat.refl _
              · trivial
            · exact toVar_all _ _ _ _ fun e m s1 h1 => stat_eq h1
          · trivial
        · trivial
      · trivial
    · trivial
  · trivial
theorem nilQ_st (s : St) (q : Bool) (x : K) : St2 s (nilQ s q x) := by
  unfold nilQ
  split
  · exact Stat.refl _
  · split
    · exact ⟨⟨Stat.refl _, Stat.refl _⟩, Stat.refl _⟩
    · trivial
theorem caseT_st {s0 : St} {i : E} {k : Nat → St → T (SV × St)} (hk : ∀ (j : Nat) (s : St), Stat s0.bs s.bs → St2 s0 (k j s)) : ∀ (f m : Nat) (s : St), Stat s0.bs s.bs → St2 s0 (caseT i k f m s)
  | 0, m, s, h => trivial
  | f + 1, m, s, h => by
    unfold caseT
    split
    · exact hk m s h
    · exact caseT_st hk f (m + 1) s h
    · rw [assumeK_eq, assumeK_eq]
      exact ⟨hk m _ h, caseT_st hk f (m + 1) _ h⟩
theorem ixT_st (tb : Tb) (s : St) (t : TypeId) (x : K) (k : IntKind) (i : E) : St2 s (ixT tb s t x k i) := by
  unfold ixT
  split
  · split
    · split
      · rw [assumeK_eq, assumeK_eq]; exact ⟨Stat.refl _, trivial⟩
      · trivial
    · trivial
  · refine caseT_st (fun j s1 h => ?_) _ _ _ (Stat.refl _)
    split
    · exact h
    · trivial
  · trivial
theorem ixV_st (tb : Tb) (s : St) (t : TypeId) (x : PV) (k : IntKind) (i : E) : St2 s (ixV tb s t x k i) := by
  unfold ixV
  split
  · refine caseT_st (fun j s1 h => ?_) _ _ _ (Stat.refl _)
    split
    · exact h
    · trivial
  · trivial
theorem makeS_st (tb : Tb) (s : St) (t : TypeId) (n c : E) : St2 s (makeS tb s t n c) := by
  unfold makeS
  split
  · split
    · split
      · simp only
        split
        · split
          · exact repCt_all _ _ _ _ _ _ fun c s1 h1 => stat_eq h1
          · exact ⟨repCt_all _ _ _ _ _ _ fun c s1 h1 => stat_eq h1, trivial⟩
        · split
          · unfold makeR
            simp only
            split
            · exact Stat.refl _
            · exact ⟨Stat.refl _, trivial⟩
          · trivial
      · trivial
    · trivial
  · trivial
theorem sliceS_st (tb : Tb) (s : St) (t : TypeId) (x : K) (lo hi : Option K) : St2 s (sliceS tb s t x lo hi) := by
  unfold sliceS
  split
  · split
    · simp only
      split
      · split
        · exact subCt_all _ _ _ _ _ _ _ fun c s1 h1 => stat_eq h1
        · exact ⟨subCt_all _ _ _ _ _ _ _ fun c s1 h1 => stat_eq h1, trivial⟩
      · trivial
    · trivial
  · trivial
theorem appendS_st (tb : Tb) (s : St) (t : TypeId) (x y : K) : St2 s (appendS tb s t x y) := by
  unfold appendS
  split
  · split
    · split
      · split
        · simp only
          split
          · split
            · exact catCt_all _ _ _ _ _ _ fun c s1 h1 => stat_eq ((pushAr_bs ..).trans h1)
            · exact ⟨catCt_all _ _ _ _ _ _ fun c s1 h1 => stat_eq ((pushAr_bs ..).trans h1), trivial⟩
          · trivial
        · trivial
      · trivial
    · trivial
  · trivial
theorem copyA_st (tb : Tb) (s : St) (t : TypeId) (x y : K) : St2 s (copyA tb s t x y) := by
  unfold copyA
  split
  · split
    · split
      · split
        · split
          · exact copyCt_all _ _ _ _ _ _ fun c s1 h1 => stat_eq h1
          · trivial
        · trivial
      · trivial
    · trivial
  · trivial
theorem copyM_st (tb : Tb) (s : St) (t : TypeId) (x y : K) : St2 s (copyM tb s t x y) := by
  unfold copyM
  split
  · split
    · split
      · split
        · split
          · split
            · exact midCt_all _ _ _ _ _ _ _ fun c s1 h1 => stat_eq h1
            · trivial
          · trivial
        · trivial
      · trivial
    · trivial
  · trivial
theorem clearS_st (tb : Tb) (s : St) (t : TypeId) (x : K) : St2 s (clearS tb s t x) := by
  unfold clearS
  split
  · split
    · split
      · split
        · split
          · split
            · exact sufCt_all _ _ _ _ _ _ _ fun c s1 h1 => stat_eq h1
            · trivial
          · trivial
        · trivial
      · trivial
    · trivial
  · trivial
theorem copyB_st (tb : Tb) (s : St) (t : TypeId) (x y : K) : St2 s (copyB tb s t x y) := by
  unfold copyB
  split
  · split
    · exact copyM_st ..
    · exact copyA_st ..
  · exact copyA_st ..
theorem slice3B_st (tb : Tb) (s : St) (t : TypeId) (x : K) (lo : Option K) (h : E) : St2 s (slice3B tb s t x lo h) := by
  unfold slice3B
  split
  · split
    · simp only
      split
      · split
        · exact subCt_all _ _ _ _ _ _ _ fun c s1 h1 => stat_eq h1
        · exact ⟨subCt_all _ _ _ _ _ _ _ fun c s1 h1 => stat_eq h1, trivial⟩
      · trivial
    · trivial
  · trivial
theorem slice3S_st (tb : Tb) (s : St) (t : TypeId) (x : K) (lo : Option K) (h m : K) : St2 s (slice3S tb s t x lo h m) := by
  unfold slice3S
  split
  · split
    · exact T.All_mono (fun q hq => hq) _ (slice3B_st (s := { s with ar := frzK3 x s.ar }) ..)
    · trivial
  · trivial
theorem sliceN_st (tb : Tb) (s : St) (t : TypeId) (lo hi mx : Option K) (d : T (SV × St)) (h : St2 s d) : St2 s (sliceN tb s t lo hi mx d) := by
  unfold sliceN
  split
  · split
    · split
      · exact Stat.refl _
      · exact h
    · exact h
  · exact h
theorem sliceA_st (tb : Tb) (s : St) (t : TypeId) (x : K) (lo hi : Option K) : St2 s (sliceA tb s t x lo hi) := by
  unfold sliceA
  split
  · exact sliceN_st _ _ _ _ _ _ _ (sliceS_st ..)
  · exact sliceS_st ..
theorem slice3A_st (tb : Tb) (s : St) (t : TypeId) (x : K) (lo : Option K) (h m : K) : St2 s (slice3A tb s t x lo h m) := by
  unfold slice3A
  split
  · exact sliceN_st _ _ _ _ _ _ _ (slice3S_st ..)
  · exact slice3S_st ..
theorem appendF_st (tb : Tb) (s : St) (t : TypeId) (x y : K) : St2 s (appendF tb s t x y) := by
  unfold appendF
  split
  · split
    · split
      · split
        · simp only
          split
          · split
            · exact catCt_all _ _ _ _ _ _ fun c s1 h1 => stat_eq ((pushAr_bs ..).trans h1)
            · exact ⟨catCt_all _ _ _ _ _ _ fun c s1 h1 => stat_eq ((pushAr_bs ..).trans h1), trivial⟩
          · trivial
        · trivial
      · trivial
    · trivial
  · trivial
theorem convB_st (tb : Tb) (s : St) (src dst : TypeId) (x : K) : St2 s (convB tb s src dst x) := by
  have h0 : ∀ r, St2 s (convB0 s r) := fun r => by
    unfold convB0
    split
    · exact toVar_all _ _ _ _ fun e m s1 h1 => stat_eq h1
    · trivial
  unfold convB
  split
  · split
    · split
      · split
        · split
          · exact Stat.refl _
          · exact h0 _
        · exact h0 _
      · trivial
    · trivial
  · trivial
theorem appendT_st (tb : Tb) (s : St) (t : TypeId) (x y : K) : St2 s (appendT tb s t x y) := by
  unfold appendT
  split
  · exact appendS_st ..
  · split
    · split
      · split
        · exact Stat.refl _
        · exact appendF_st ..
        · rw [assumeK_eq, assumeK_eq]
          exact ⟨Stat.refl _, T.All_mono (fun q hq => hq) _ (appendF_st (s := assume s _ false) ..)⟩
      · trivial
    · trivial
theorem closeS_st : ∀ (l : List Nat) (bs b2 : List Blk), closeS l bs = some b2 → Stat bs b2
  | [], bs, b2, h => by cases h; exact Stat.refl _
  | d :: l, bs, b2, h => by
    simp only [closeS] at h
    split at h
    · rename_i hd
      exact (Stat.set hd (fun _ _ _ _ _ _ _ h => by cases h)).trans (closeS_st l _ _ h)
    · cases h
theorem shut_st {s s' : St} (h : Stat s.bs s'.bs) (v : SV) : Stat s.bs (shut s s' v).2.bs := by
  unfold shut; simp only; split
  · exact h.take
  · exact h
theorem loopAt_st {s s1 : St} {l st : Nat} {pe : Option (Option Code)} (h : loopAt s l st pe = some s1) : Stat s.bs s1.bs := by
  unfold loopAt at h
  split at h
  · rename_i hb
    cases h
    exact Stat.set hb (fun _ _ _ _ _ _ _ h => by cases h; exact ⟨_, _, rfl⟩)
  · cases h
theorem squash_all {α : Type} {f : α → (α → T α) → T α} {q : α → α → Bool} (hf : ∀ x k, f x k = k x) {p : α → Prop} (t : T α) : t.All p → (squash f q t).All p := by
  induction t with
  | ret a => exact id
  | ite b t e ht he => exact fun h => ⟨ht h.1, he h.2⟩
  | both t e ht he =>
    intro h
    simp only [squash, fT_eq hf]
    split
    · exact ht h.1
    · exact ⟨ht h.1, he h.2⟩
  | con c xs k hk => exact hk
  | lop c xs m k hk => exact hk
  | chk c o xs => exact id
  | dat g xs k hk => exact hk
  | adr x k hk => exact hk
  | fail => exact id
section
variable {ex : Ex} (hex : StEx ex) (tb : Tb) (C : List Con)
include hex
omit hex in
theorem inpS_st (s : St) (i : Nat) (q : Inp) (k : Nat) : St2 s (inpS (ownP s k) i q k) := by
  unfold inpS
  split
  · split
    · exact argC_all _ _ _ _ fun e s1 h1 => stat_eq (h1.trans (ownP_eq s k).2.1)
    · trivial
  · trivial
theorem callS_st (s : St) (g : FuncId) (args : List PV) : St2 s (callS ex tb C s g args) := by
  unfold callS
  split
  · split
    · rename_i t ht
      unfold inpC at ht
      split at ht
      · cases ht
      split at ht
      · cases ht
      split at ht
      · cases ht
      split at ht
      · cases ht
      split at ht
      · cases ht
        exact inpS_st _ _ _ _
      · cases ht
    split
    · split
      · split
        · unfold conS
          split
          · exact argsC_all _ _ _ _ fun e s1 h1 => stat_eq h1
          · split
            · exact argsC_all _ _ _ _ fun e s1 h1 => stat_eq h1
            · trivial
        · trivial
      · trivial
    · split
      · split
        · rename_i c _
          refine squash_all fRes_eq _ ?_
          rw [fSp_eq]
          rw [T.All_bind]
          refine T.All_mono ?_ _ (hex none c _)
          intro p hp
          split
          · trivial
          · split
            · rename_i hcl
              split
              · exact shut_st (s := s) (Stat.trans (x := s.bs) hp (closeS_st _ _ _ hcl)) _
              · trivial
            · trivial
        · trivial
      · trivial
  · trivial
theorem yieldS_st (s : St) (l : Nat) (args : List PV) : St2 s (yieldS ex s l args) := by
  unfold yieldS
  split
  · split
    · split
      · rw [fSp_eq]
        unfold St2
        rw [T.All_bind]
        refine T.All_mono ?_ _ (hex _ _ _)
        intro p hp
        split
        · split
          · rename_i h1
            rw [fMem_eq, T.All_bind]
            refine T.All_mono ?_ _ (hex _ _ _)
            intro q hq
            split
            · rename_i h2
              exact shut_st (s := s) (Stat.trans (x := s.bs) hp ((loopAt_st h1).trans (hq.trans (loopAt_st h2)))) _
            · trivial
          · trivial
        · trivial
      · trivial
    · trivial
  · trivial
theorem effOp_st (rd : Bool) (s : St) (o : Oper) : St2 s (effOp ex tb C rd s o) := by
  unfold effOp
  split
  · split
    · exact newS_st ..
    · trivial
  · split
    · exact newS_st ..
    · trivial
  · split
    · exact bslA_st ..
    · trivial
  · split
    · exact storeS_st ..
    · exact litP_all _ _ fun v => nestP_all _ _ _ _ fun v s1 h1 => (T.All_mono (fun q hq => by rw [← h1]; exact hq) _ (storeAr_st ..))
    · trivial
  · split
    · exact ⟨Stat.refl _, Stat.refl _⟩
    · trivial
  · split
    · split
      · unfold shT
        rw [assumeK_eq]
        refine ⟨?_, trivial⟩
        split
        · exact Stat.refl _
        · trivial
      split
      · unfold divT
        split
        · rw [assumeK_eq]; exact ⟨trivial, Stat.refl _⟩
        · rw [assumeK_eq]; exact ⟨trivial, Stat.refl _⟩
        · trivial
      · trivial
    · unfold nilT
      split
      · exact nilQ_st ..
      · exact nilQ_st ..
      · trivial
    · trivial
  · split
    · exact ixT_st ..
    · trivial
  · split
    · exact ixV_st ..
    · trivial
  · split
    · exact makeS_st ..
    · trivial
  · split
    · exact sliceA_st ..
    · trivial
  · split
    · exact convB_st ..
    · trivial
  · split
    · exact slice3A_st ..
    · trivial
  · split
    · split
      · split
        · exact callS_st hex tb C ..
        · trivial
      · split
        · exact yieldS_st hex ..
        · trivial
      · trivial
    · split
      · split
        · split
          · exact appendT_st ..
          · trivial
        · trivial
      · trivial
    · split
      · split
        · unfold copyS
          split
          · split
            · rename_i hk _
              split
              · exact Stat.set hk (fun _ _ _ _ _ _ _ h => by cases h)
              · trivial
            · trivial
          · trivial
        · exact copyB_st ..
        · trivial
      · trivial
    · split
      · split
        · exact clearS_st ..
        · trivial
      · trivial
    · trivial
  · trivial
theorem doOp_st (rd : Bool) (s : St) (o : Oper) : St2 s (doOp ex tb C rd s o) := by
  unfold doOp
  split
  · exact Stat.refl _
  · exact effOp_st hex tb C ..
omit hex in
theorem putT_st {B : List Blk} {o : Oper} {t : T (SV × St)} (h : t.All fun p => Stat B p.2.bs) : (putT o t).All fun s => Stat B s.bs := by
  rw [putT_eq, T.All_bind]
  exact T.All_mono (fun p hp => hp) _ h
theorem opS_st (rd : Bool) (ops : Array Oper) (s : St) (o : Oper) : (opS ex tb C rd ops s o).All fun s' => Stat s.bs s'.bs := by
  unfold opS
  split
  · rw [putK_eq]; exact Stat.refl _
  · split
    · trivial
    · exact putT_st (doOp_st hex tb C ..)
    · rw [putK_eq]; exact Stat.refl _
    · rename_i g _ _ _
      have h1 : (T.ite g (putT o (assumeK s g true fun s => doOp ex tb C rd s o)) (assumeK s g false fun s => putK s o undefS)).All fun s' => Stat s.bs s'.bs := by
        rw [assumeK_eq, assumeK_eq, putK_eq]
        exact ⟨putT_st (doOp_st hex tb C rd (assume s g true) o), Stat.refl _⟩
      unfold specS
      split
      · split
        · rw [putK_eq]; exact Stat.refl _
        · exact h1
      · exact h1
theorem seqS_st (rd : Bool) (ops : Array Oper) : ∀ (l : List Nat) (s : St), (seqS ex tb C rd ops l s).All fun s' => Stat s.bs s'.bs
  | [], s => Stat.refl _
  | i :: l, s => by
    simp only [seqS]
    split
    · trivial
    · rw [T.All_bind]
      exact T.All_mono (fun s' hs' => T.All_mono (fun s2 h2 => hs'.trans h2) _ (seqS_st rd ops l s')) _ (opS_st hex tb C rd ops s _)
omit hex in
theorem allOf_st {B : List Blk} {f : Nat → T St} (h : ∀ i, (f i).All fun s => Stat B s.bs) : ∀ l : List Nat, (allOf f l).All fun s => Stat B s.bs
  | [] => trivial
  | [i] => h i
  | i :: j :: l => by
    simp only [allOf, fT_eq fSt_eq]
    unfold mergeT
    split
    · exact h i
    · exact ⟨h i, allOf_st h (j :: l)⟩
theorem drawnS_st (ops : Array Oper) (inf : List RI) (mem : Mm) : ∀ (f : Nat) (listed : List Bool) (s : St), (drawnS ex tb C ops inf mem f listed s).All fun s' => Stat s.bs s'.bs
  | 0, listed, s => by
    simp only [drawnS]
    split
    · exact Stat.refl _
    · trivial
  | f + 1, listed, s => by
    simp only [drawnS, fL_eq fBool_eq, fL_eq fNat_eq]
    split
    · exact Stat.refl _
    · split
      · split
        · rw [putK_eq]
          exact drawnS_st ops inf mem f _ (put s _ _)
        · trivial
      · refine allOf_st (fun i => ?_) _
        split
        · rw [T.All_bind]
          refine T.All_mono (fun s' hs' => ?_) _ (opS_st hex tb C false ops s _)
          split
          · exact T.All_mono (fun s2 h2 => hs'.trans h2) _ (drawnS_st ops inf mem f _ s')
          · trivial
        · trivial
theorem front_st (ops : Array Oper) (inf : List RI) (mem : Mm) {e : St} : ∀ (f : Nat) (L : List Fr), front ex tb C ops inf mem f L = some e → ∀ x ∈ L, Stat x.2.bs e.bs
  | 0, L, h, x, hx => by cases h
  | f + 1, L, h, x, hx => by
    rcases front_step h with ⟨l, rfl, hr⟩ | ⟨L', h2, h3⟩
    · rw [List.mem_singleton.1 hx]; exact Stat.refl _
    · have ih := front_st ops inf mem f L' h2
      obtain ⟨hne, hn⟩ := h3 x hx
      rcases hn with ⟨i, v, o, hf, ho, hm⟩ | ⟨hf, hm⟩
      · have hp : (put x.2 o v).bs = x.2.bs := by unfold put; split <;> rfl
        have := ih _ hm
        simp only [hp] at this
        exact this
      · obtain ⟨i, hi⟩ := List.exists_mem_of_ne_nil _ hne
        obtain ⟨o, s', ho, hs, hk, hm⟩ := hm i hi
        have h4 := opS_st hex tb C false ops x.2 o
        rw [hs] at h4
        exact Stat.trans h4 (ih _ hm)
theorem drawnF_st (ops : Array Oper) (inf : List RI) (mem : Mm) (f : Nat) (l : List Bool) (s : St) : (drawnF ex tb C ops inf mem f l s).All fun s' => Stat s.bs s'.bs := by
  unfold drawnF
  split
  · rename_i e he
    exact front_st hex tb C ops inf mem _ _ he (l, s) (List.mem_singleton.2 rfl)
  · exact drawnS_st hex tb C ops inf mem f l s
omit hex in
theorem slimW_st (s : St) (e : E) : (slimW s e).All fun s' => Stat s.bs s'.bs := by
  unfold slimW
  split
  · intro j c t st pe tm ps a b d hj
    refine ⟨c, t, st, pe, ?_⟩
    simp only [List.getElem?_map, hj, Option.map_some, slimB]
  · exact Stat.refl _
omit hex in
theorem slim_st (ops : Array Oper) : ∀ (f : Nat) (s : St), (slim ops f s).All fun s' => Stat s.bs s'.bs
  | 0, s => Stat.refl _
  | f + 1, s => by
    simp only [slim]
    split
    · rw [fE_eq, T.All_bind]
      refine T.All_mono (fun s' hs' => ?_) _ (slimW_st s _)
      rw [fSt_eq]
      exact T.All_mono (fun s2 h2 => hs'.trans h2) _ (slim_st ops f s')
    · exact Stat.refl _
theorem regS0_st (ops : Array Oper) (draw : Bool) (s : St) : (regS0 ex tb C ops draw s).All fun s' => Stat s.bs s'.bs := by
  unfold regS0
  simp only
  split
  · split
    · rw [fL_eq fRI_eq, fMm_eq]; exact drawnF_st hex tb C ..
    · trivial
  · exact seqS_st hex tb C ..
theorem regS_st (ops : Array Oper) (draw : Bool) (s : St) : (regS ex tb C ops draw s).All fun s' => Stat s.bs s'.bs := by
  unfold regS
  rw [T.All_bind]
  exact T.All_mono (fun s' hs' => T.All_mono (fun s2 h2 => hs'.trans h2) _ (slim_st ops 12 s')) _ (regS0_st hex tb C ops draw s)
theorem loopS_st (ro : Option Nat) (body : Code) : ∀ (f : Nat) (s : St), (loopS ex ro body f s).All fun p => Stat s.bs p.2.bs
  | 0, s => trivial
  | f + 1, s => by
    simp only [loopS]
    rw [T.All_bind]
    refine T.All_mono (fun p hp => ?_) _ (hex ro body s)
    split
    · exact T.All_mono (fun q hq => hp.trans hq) _ (loopS_st ro body f p.2)
    · exact hp
omit hex in
theorem Stat.set_ge {bs X : List Blk} (h : Stat bs X) {l : Nat} (hl : bs.length ≤ l) (k : Blk) : Stat bs (X.set l k) := fun j c t st pe tm ps a b d hj => by
  have hlt := (List.getElem?_eq_some_iff.1 hj).1
  rw [List.getElem?_set_ne (by omega)]
  exact h j c t st pe tm ps a b d hj
theorem afterS_st (ro : Option Nat) (l : Nat) (p : SV × St) : (afterS ex ro l p).All fun q => ∀ bs : List Blk, Stat bs p.2.bs → bs.length ≤ l → Stat bs q.2.bs := by
  simp only [afterS, fMem_eq]
  split
  · trivial
  · split
    · rename_i h
      split
      · exact fun bs h1 h2 => (h1.trans (loopAt_st h)).set_ge h2 _
      · exact T.All_mono (fun q hq bs h1 h2 => ((h1.trans (loopAt_st h)).set_ge h2 _).trans hq) _ (hex ro _ _)
    · trivial
  · trivial
omit hex in
theorem enterS_st {ro : Option Nat} {s s1 : St} {ps : Array Tmp} {assign body : Code} {l : Nat} (h : enterS ro s ps assign body = some (l, s1)) : Stat s.bs s1.bs := by
  unfold enterS at h
  obtain ⟨t, b, n, d, r⟩ := s
  simp only at h
  split at h
  · cases h; exact Stat.app _ _
  · split at h
    · cases h; exact Stat.app _ _
    · cases h
omit hex in
theorem enterS_ge {ro : Option Nat} {s s1 : St} {ps : Array Tmp} {assign body : Code} {l : Nat} (h : enterS ro s ps assign body = some (l, s1)) : s.bs.length ≤ l := by
  unfold enterS at h
  obtain ⟨t, b, n, d, r⟩ := s
  simp only at h
  split at h
  · cases h; simp
  · split at h
    · cases h; simp
    · cases h
theorem rangeS_st (ro : Option Nat) (s : St) (f : Operand) (ps : Array Tmp) (assign body : Code) : (rangeS ex tb C ro s f ps assign body).All fun p => Stat s.bs p.2.bs := by
  unfold rangeS
  split
  · split
    · split
      · split
        · rename_i h
          refine squash_all fXS_eq _ ?_
          rw [fMem_eq, T.All_bind]
          refine T.All_mono (fun p hp => ?_) _ (callS_st hex tb C _ _ _)
          exact T.All_mono (fun q hq => hq _ ((enterS_st h).trans hp) (enterS_ge h)) _ (afterS_st hex ro _ p)
        · trivial
      · trivial
    · trivial
  · trivial
end
end Go.Dx
