/- DERIVED. A symbolic executor over the walk, proved sound; part 3. -/
import Derived.Test.YtkcomadagclikaaSx2
import Derived.ProofKit
import Derived.Deep.Fields
import Derived.OpenShut
import Derived.Deep.Slices
import Derived.Deep.SlicePairs
/- A symbolic executor: calls. -/
namespace Go.Sx
open Go.RowKit
set_option linter.unusedVariables false
set_option linter.unusedSimpArgs false
inductive X where
  | nrm
  | ext (id : Nat)
  | ret
  deriving DecidableEq
def X.exit : X → Exit
  | .nrm => .normal
  | .ext i => .exit i
  | .ret => .ret
abbrev Ex := Option Nat → Code → St → T (X × St)
/-- All is let in; a round of loop ro, or none. -/
def Wd (ro : Option Nat) : Fence := { fn := fun _ => True, depth := none, alive := false, round := ro }
def conCells : List (Option IntKind) → List CV → Option (List E)
  | [], [] => some []
  | some k :: l, .k (.int k' e) :: r => if Nat.beq (kq k) (kq k') then (conCells l r).map (e :: ·) else none
  | _, _ => none
def conArgs : List Sh → List PV → Option (List E)
  | [], [] => some []
  | .int k :: l, .c (.k (.int k' e)) :: r => if Nat.beq (kq k) (kq k') then (conArgs l r).map (e :: ·) else none
  | .agg ks :: l, .agg cs :: r => match conCells ks cs, conArgs l r with
    | some a, some b => some (a ++ b)
    | _, _ => none
  | .asl i :: l, .c (.k (.asl j e)) :: r => if i = j then (conArgs l r).map (e :: ·) else none
  | .atom i :: l, .c (.k (.atom j)) :: r => if i = j then conArgs l r else none
  | _, _ => none
def ConOk (P : Program) (N : Nat) (w0 : World) (σ : List (Option Addr × Nat)) (τ : List Value) (c : Con) : Prop :=
  c.lp = none → ∀ (n : Env) (args : List PV) (xs : List E) (w : World), n.s = σ → n.t = τ → conArgs c.args args = some xs → c.pre (xs.map (E.den n.r)) → Below N w0 w →
    Calls P c.f (args.map (PV.den n)).toArray w fun e w' => ∃ ys, ys.length = resSize c.res ∧ BndOk ys ⟨c.bnd, [], []⟩ ∧ c.post (xs.map (E.den n.r)) ys ∧
      e = .returned ((resVal c.res n.r.length).den (n.moreZ ys)) ∧ Below w.heap.size w w'
def resL (tb : Tb) (tmps : List SV) (mem : List (Option Blk)) : List ResultVar → Option (List PV)
  | [] => some []
  | .tmp t :: l => match opP tmps [] (.tmp t), resL tb tmps mem l with
    | some v, some r => some (v :: r)
    | _, _ => none
  | .cell a t :: l => match opK tmps [] (.tmp a), resL tb tmps mem l with
    | some (.addr b o), some r => match loadS tb mem t b o with
      | some v => some (v :: r)
      | none => none
    | _, _ => none
def oneOf : List PV → SV
  | [x] => .p x
  | l => .tup l
def resS (tb : Tb) (fn : Func) (s : St) : Option SV := (resL tb s.tmps (s.bs.map some) fn.results.toList).map oneOf
theorem Mem.reads {N : Nat} {n : Env} {bs : List Blk} {w : World} (h : Mem N n bs w) : Reads n (bs.map some) w := fun i b hi => by
  rw [List.getElem?_map] at hi
  cases hb : bs[i]? with
  | none => rw [hb] at hi; cases hi
  | some k => rw [hb] at hi; cases hi; exact (h.2.2 i _ hb).2
def resVar (tmps : Array Value) : ResultVar → Sem Value
  | .tmp t => pure (tmps.getD t undef)
  | .cell b t => do loadVar t (← asAddr (tmps.getD b undef))
theorem results_eq (fn : Func) (tmps : Array Value) : results fn tmps = (do let vs ← fn.results.mapM (resVar tmps); pure (if h : vs.size = 1 then vs[0] else .tuple vs)) := by
  unfold results
  congr 2
theorem resL_run {P : Program} {tb : Tb} [TbOk P tb] {n : Env} {tmps : List SV} {mem : List (Option Blk)} {a : Act} {w : World} (ht : a.tmps = (tmps.map (SV.den n)).toArray) (hm : Reads n mem w) :
    ∀ (l : List ResultVar) (v : List PV), resL tb tmps mem l = some v →
    (l.mapM (resVar a.tmps)).run P w = .ok (v.map (PV.den n)) w
  | [], v, h => by cases h; rfl
  | .tmp t :: l, v, h => by
    simp only [resL] at h
    split at h
    · rename_i x r hx hr
      cases h
      have e := opP_den (asm := []) ht (fun g hg => by cases hg) hx
      simp only [Act.eval] at e
      simp only [List.mapM_cons, resVar, Sem.run_bind, Sem.run_pure, Result.andThen_ok, resL_run ht hm l r hr, e, List.map_cons]
    · cases h
  | .cell b t :: l, v, h => by
    simp only [resL] at h
    split at h
    · rename_i b' o r hx hr
      split at h
      · rename_i x hl
        cases h
        have e := opK_den (asm := []) ht (fun g hg => by cases hg) hx
        simp only [Act.eval, K.den] at e
        rw [List.mapM_cons]
        simp only [resVar, Sem.run_bind, e, asAddr, Sem.run_pure, Result.andThen_ok, loadS_var hm hl, resL_run ht hm l r hr, List.map_cons]
      · cases h
    · cases h
theorem resS_run {P : Program} {tb : Tb} [TbOk P tb] {N : Nat} {w0 : World} {n : Env} {s : St} {a : Act} {w : World} (h : Rep N w0 n s a w) {fn : Func} {v : SV} (hv : resS tb fn s = some v) : (results fn a.tmps).run P w = .ok (v.den n) w := by
  unfold resS at hv
  cases hl : resL tb s.tmps (s.bs.map some) fn.results.toList with
  | none => rw [hl] at hv; cases hv
  | some l =>
    rw [hl] at hv; cases hv
    have h1 := resL_run (P := P) h.tmps h.mem.reads _ l hl
    rw [results_eq, ← Array.toArray_toList (xs := fn.results), List.mapM_toArray]
    simp only [Sem.run_bind, Sem.run_map]
    rw [h1]
    simp only [Result.andThen_ok, Sem.run_pure]
    congr 1
    match l with
    | [] => rfl
    | [x] => rfl
    | x :: y :: r => simp [oneOf, SV.den]
/-- More variables. -/
def cat (s : Bnd) (t : List (Int × Int)) : Bnd := ⟨s.v ++ t, s.x.filter fun f => wfE s.v.length f.1, s.k.filter (wfB s.v.length)⟩
theorem cat_ok {r ys : List Int} {s : Bnd} {t : List (Int × Int)} (h : BndOk r s) (k : BndOk ys ⟨t, [], []⟩) : BndOk (r ++ ys) (cat s t) := by
  refine ⟨by simp [cat, h.len, k.len], fun i => ?_, fun f hf => ?_, fun b hb => ?_⟩
  · by_cases hlt : i < r.length
    · have := h.var i
      have hs : i < s.v.length := by rw [← h.len]; exact hlt
      simp only [cat, lo, hi, List.getD_eq_getElem?_getD] at *
      rw [List.getElem?_append_left hlt, List.getElem?_append_left hs]
      exact this
    · have := k.var (i - r.length)
      have hs : s.v.length ≤ i := by rw [← h.len]; omega
      simp only [cat, lo, hi, List.getD_eq_getElem?_getD] at *
      rw [List.getElem?_append_right (show r.length ≤ i by omega), List.getElem?_append_right hs, ← h.len]
      exact this
  · simp only [cat, List.mem_filter] at hf
    have := h.fact f hf.1
    rw [wfE_den (List.prefix_append r ys) f.1 (by rw [h.len]; exact hf.2)]
    exact this
  · simp only [cat, List.mem_filter] at hb
    rw [wfB_den (List.prefix_append r ys) b (by rw [h.len]; exact hb.2)]
    exact h.kn b hb.1
/-- The blocks for deferred calls are shut. -/
def closeS : List Nat → List Blk → Option (List Blk)
  | [], bs => some bs
  | d :: l, bs => match bs[d]? with
    | some ⟨c, t, some (.dfr true)⟩ => closeS l (bs.set d ⟨c, t, some (.dfr false)⟩)
    | _ => none
/-- What is left of a call: its result, and the memory; blocks that nobody names are dropped. -/
def shut (s s' : St) (v : SV) : SV × St :=
  let b := s'.bs.take s.bs.length
  if wfS s'.bnd.v.length s.bs.length v && b.all (wfBlk s'.bnd.v.length s.bs.length) then (v, { s' with tmps := s.tmps, bs := b, df := s.df }) else (v, { s' with tmps := s.tmps, df := s.df })
def callS (ex : Ex) (tb : Tb) (C : List Con) (s : St) (g : FuncId) (args : List PV) : T (SV × St) :=
  if wfSt s then
    match C.findIdx? (fun c => c.f == g && c.lp.isNone) with
    | some i => match C[i]? with
      | some c => match conArgs c.args args with
        | some xs => if c.bnd.length = resSize c.res && c.f == g && c.lp.isNone then .con i xs (.ret (resVal c.res s.bnd.v.length, { s with bnd := cat s.bnd c.bnd })) else .fail
        | none => .fail
      | none => .fail
    | none => match tb.func g with
      | some fn => match fn.body with
        | some c => (fSp (args.map SV.p ++ List.replicate (fn.ntmps - args.length) undefS) fun t => match s with | ⟨_, b, n, _⟩ => ex none c ⟨t, b, n, []⟩).bind fun p =>
          match p.1 with
          | .ext _ => .fail
          | _ => match closeS p.2.df p.2.bs with
            | some bs => match resS tb fn { p.2 with bs := bs } with
              | some v => .ret (shut s { p.2 with bs := bs } v)
              | none => .fail
            | none => .fail
        | none => .fail
      | none => .fail
  else .fail
section
variable {P : Program} {tb : Tb} {C : List Con} {N : Nat} {w0 : World} {σ : List (Option Addr × Nat)} {τ : List Value}
def Snd (P : Program) (C : List Con) (N : Nat) (w0 : World) (σ : List (Option Addr × Nat)) (τ : List Value) (ex : Ex) : Prop :=
  ∀ (ro : Option Nat) (c : Code) (s : St) (n : Env) (a : Act) (w : World) (Φ : List Int → X × St → Prop) (Q : Exit → Act → World → Prop), n.s = σ → n.t = τ → (∀ l, ro = some l → l < n.b.length) → Rep N w0 n s a w → (ex ro c s).den C Φ n.r →
    (∀ n' x s' a' w', Ext n n' → Rep N w0 n' s' a' w' → Φ n'.r (x, s') → Q x.exit a' w') → c.wpIn (Wd (ro.map fun l => n.b.getD l 0)) 0 P Q a w
theorem ro_ext {ro : Option Nat} {n m : Env} (h : Ext n m) (hr : ∀ l, ro = some l → l < n.b.length) : (ro.map fun l => m.b.getD l 0) = ro.map fun l => n.b.getD l 0 := by
  cases ro with
  | none => rfl
  | some l => simp only [Option.map_some, getD_prefix h.b (hr l rfl)]
theorem ro_lt {ro : Option Nat} {n m : Env} (h : Ext n m) (hr : ∀ l, ro = some l → l < n.b.length) : ∀ l, ro = some l → l < m.b.length := fun l hl => Nat.lt_of_lt_of_le (hr l hl) h.b.length_le
theorem put_at (w : World) (B : Nat) (o : Obj) : At B w (w.putObj B o) := ⟨rfl, rfl, rfl, World.putObj_size, fun k hk => World.putObj_heap_other hk⟩
/-- A block that holds no cells is turned. -/
theorem Mem.putq {N : Nat} {n : Env} {bs : List Blk} {w : World} (h : Mem N n bs w) {b : Nat} {k k' : Blk} (hk : bs[b]? = some k) {o : Obj} (ho : k'.at n (some o)) : Mem N n (bs.set b k') (w.putObj (n.b.getD b 0) o) := by
  refine h.set hk (put_at w _ o) ?_
  have hlt : n.b.getD b 0 < w.heap.size := by
    have h1 := Blk.at_some (h.2.2 b k hk).2
    cases hc : w.heap[n.b.getD b 0]? with
    | none => rw [hc] at h1; cases h1
    | some o => exact (Array.getElem?_eq_some_iff.1 hc).1
  rw [World.putObj_heap_same hlt]; exact ho
theorem close_ok {n : Env} {fn : Func} {tmps : Array Value} {R : Ending → World → Prop} : ∀ (l : List Nat) (bs bs2 : List Blk) (w : World), closeS l bs = some bs2 → Mem N n bs w → Below N w0 w →
    (∀ w2, Mem N n bs2 w2 → Below N w0 w2 → ∃ v, (results fn tmps).run P w2 = .ok v w2 ∧ R (.returned v) w2) →
    LeavesInM (Wd none) 0 P fn tmps R (l.map fun b => { target := .collected (n.b.getD b 0), args := #[] }) .returning w
  | [], bs, bs2, w, h, hm, hb, hR => by
    cases h
    exact hR w hm hb
  | d :: l, bs, bs2, w, h, hm, hb, hR => by
    simp only [closeS] at h
    split at h
    · rename_i c t hd
      have h1 := hm.2.2 d _ hd
      obtain ⟨f, h2⟩ := h1.2
      refine ⟨by simp, .inl ⟨n.b.getD d 0, _, rfl, run_takeDeferred h2, ?_⟩⟩
      refine close_ok l _ bs2 _ h (hm.putq hd (k' := ⟨c, t, some (.dfr false)⟩) ⟨f, rfl⟩) (hb.trans ((put_at w _ _).below h1.1)) hR
    · cases h
theorem shut_ok {n n' : Env} {s s' : St} {a a' : Act} {w w' : World} {v : SV} (h : Rep N w0 n s a w) (hw : wfSt s = true) (he : Ext n n') (h' : Rep N w0 n' s' a' w') :
    ∃ m, Ext n m ∧ m.r = n'.r ∧ Rep N w0 m (shut s s' v).2 a w' ∧ (shut s s' v).1.den m = v.den n' := by
  simp only [wfSt, Bool.and_eq_true] at hw
  rw [← h.lens.1, ← h.lens.2] at hw
  unfold shut
  simp only
  split
  · rename_i hc
    simp only [Bool.and_eq_true] at hc
    refine ⟨{ n' with b := n.b }, ⟨he.s, he.t, he.r, List.prefix_refl _, he.u⟩, rfl, ?_, ?_⟩
    · have hx : Ext { n' with b := n.b } n' := ⟨rfl, rfl, List.prefix_refl _, he.b, List.prefix_refl _⟩
      have hall : (s'.bs.take s.bs.length).all (wfBlk n'.r.length n.b.length) = true := by rw [h'.lens.1, h.lens.2]; exact hc.2
      refine ⟨h'.bnd, ⟨?_, ?_, ?_⟩, h'.below, ?_⟩
      · have := h'.lens.2; have h3 := he.b.length_le
        have := h.lens.2
        simp only [List.length_take]; omega
      · intro i j x hi hj
        have e1 : n'.b[i]? = some x := by
          obtain ⟨t, ht⟩ := he.b
          rw [← ht, List.getElem?_append_left (List.getElem?_eq_some_iff.1 hi).1]; exact hi
        have e2 : n'.b[j]? = some x := by
          obtain ⟨t, ht⟩ := he.b
          rw [← ht, List.getElem?_append_left (List.getElem?_eq_some_iff.1 hj).1]; exact hj
        exact h'.mem.2.1 i j x e1 e2
      · intro i b hi
        have hi' : s'.bs[i]? = some b ∧ i < s.bs.length := by
          rw [List.getElem?_take] at hi
          split at hi
          · exact ⟨hi, by assumption⟩
          · cases hi
        have h1 := h'.mem.2.2 i b hi'.1
        have hlt : i < n.b.length := by rw [h.lens.2]; exact hi'.2
        rw [getD_prefix he.b hlt 0] at h1
        refine ⟨h1.1, ?_⟩
        rw [← wfBlk_at hx b _ (List.all_eq_true.1 hall b (List.mem_of_getElem? hi))]
        exact h1.2
      · rw [h.act]
        have := wfSs_den (m := { n' with b := n.b }) ⟨he.s, he.t, he.r, List.prefix_refl _, he.u⟩ s.tmps hw.1.1
        simp only [this]
    · have hx : Ext { n' with b := n.b } n' := ⟨rfl, rfl, List.prefix_refl _, he.b, List.prefix_refl _⟩
      exact (wfS_den hx v (by simp only; rw [h'.lens.1, h.lens.2]; exact hc.1)).symm
  · refine ⟨n', he, rfl, ⟨h'.bnd, h'.mem, h'.below, ?_⟩, rfl⟩
    rw [h.act]
    simp only [wfSs_den he s.tmps hw.1.1, wfDf he s.df hw.2]
theorem Below.up {B : Nat} {a w : World} (h : Below N a w) (hN : N ≤ a.heap.size) {w' : World} (k : Below w.heap.size w w') : Below N a w' := h.trans (k.mono (Nat.le_trans hN h.size))
theorem callS_ok [TbOk P tb] {ex : Ex} (hex : Snd P C N w0 σ τ ex) (hC : ∀ c ∈ C, ConOk P N w0 σ τ c) (hN : N ≤ w0.heap.size) {n : Env} {s : St} {a : Act} {w : World} {g : FuncId} {args : List PV} {Φ : List Int → SV × St → Prop}
    (hns : n.s = σ) (hnt : n.t = τ) (h : Rep N w0 n s a w) (hd : (callS ex tb C s g args).den C Φ n.r) :
    CallsIn (Wd none) 0 P g (args.map (PV.den n)).toArray w fun e w' => ∃ m v s', Ext n m ∧ Rep N w0 m s' a w' ∧ s'.tmps = s.tmps ∧ Φ m.r (v, s') ∧ e = .returned (v.den m) := by
  unfold callS at hd
  split at hd
  · rename_i hw
    split at hd
    · split at hd
      · rename_i i _ c hc
        split at hd
        · rename_i xs hxs
          split at hd
          · rename_i hcb
            simp only [Bool.and_eq_true, decide_eq_true_eq, beq_iff_eq, Option.isNone_iff_eq_none] at hcb
            simp only [T.den, hc] at hd
            obtain ⟨hpre, hd⟩ := hd
            have hcall := hC c (List.mem_of_getElem? hc) hcb.2 n args xs w hns hnt hxs hpre h.below
            rw [hcb.1.2] at hcall
            refine ((callsIn_wide (n := 0)).2 hcall).mono fun e w' ⟨ys, hl, hb, hp, he, hB⟩ => ?_
            simp only [wfSt, Bool.and_eq_true] at hw
            rw [← h.lens.1, ← h.lens.2] at hw
            have hx : Ext n (n.moreZ ys) := Ext.more n ys _ (by simp)
            refine ⟨n.moreZ ys, _, { s with bnd := cat s.bnd c.bnd }, hx, ⟨cat_ok h.bnd hb, ?_, ?_, ?_⟩, rfl, hd ys hl hb hp, ?_⟩
            · exact ((h.mem.ext hw.1.2 hx rfl).below hB)
            · exact Below.up (B := 0) h.below hN hB
            · rw [h.act]; simp only [wfSs_den hx s.tmps hw.1.1]; rfl
            · rw [he, h.lens.1]
          · exact hd.elim
        · exact hd.elim
      · exact hd.elim
    · split at hd
      · rename_i fn hf
        split at hd
        · rename_i c hb
          rw [fSp_eq, T.den_bind] at hd
          refine callsIn_of_wp_marks (F := Wd none) (func_ok (P := P) hf) hb trivial ?_
          refine hex none c ⟨args.map SV.p ++ List.replicate (fn.ntmps - args.length) undefS, s.bs, s.bnd, []⟩ n _ w _ _ hns hnt (fun l hl => by cases hl) ?_ hd ?_
          · refine ⟨h.bnd, h.mem, h.below, ?_⟩
            simp only [List.map_append, List.map_map, List.map_replicate, undefS_den, List.size_toArray, List.length_map, List.map_nil, Act.mk.injEq, and_true]
            rw [← List.append_toArray, ← List.toArray_replicate]
            rfl
          · intro n' x s' a' w' he h' hφ
            have key : ∀ (bs : List Blk) (v : SV), closeS s'.df s'.bs = some bs → resS tb fn { s' with bs := bs } = some v → Φ n'.r (shut s { s' with bs := bs } v) →
                LeavesInM (Wd none) 0 P fn a'.tmps (fun e w' => ∃ m v s', Ext n m ∧ Rep N w0 m s' a w' ∧ s'.tmps = s.tmps ∧ Φ m.r (v, s') ∧ e = .returned (v.den m)) a'.defers .returning w' := fun bs v hcl hv hφ => by
              have e : a'.defers = s'.df.map fun b => { target := .collected (n'.b.getD b 0), args := #[] } := by rw [h'.act]
              rw [e]
              refine close_ok s'.df s'.bs bs w' hcl h'.mem h'.below fun w2 hm2 hb2 => ?_
              have h2 : Rep N w0 n' { s' with bs := bs } a' w2 := ⟨h'.bnd, hm2, hb2, h'.act⟩
              obtain ⟨m, hm1, hm2, hm3, hm4⟩ := shut_ok (v := v) h hw he h2
              refine ⟨_, resS_run h2 hv, m, (shut s { s' with bs := bs } v).1, (shut s { s' with bs := bs } v).2, hm1, hm3, ?_, ?_, ?_⟩
              · unfold shut; simp only; split <;> rfl
              · rw [hm2]; exact hφ
              · rw [hm4]
            cases x with
            | ext id => exact hφ.elim
            | nrm =>
              simp only at hφ
              split at hφ
              · rename_i bs hcl
                split at hφ
                · rename_i v hv; exact key bs v hcl hv hφ
                · exact hφ.elim
              · exact hφ.elim
            | ret =>
              simp only at hφ
              split at hφ
              · rename_i bs hcl
                split at hφ
                · rename_i v hv; exact key bs v hcl hv hφ
                · exact hφ.elim
              · exact hφ.elim
        · exact hd.elim
      · exact hd.elim
  · exact hd.elim
end
end Go.Sx

/- A symbolic executor: operations with effects, regions. -/
namespace Go.Sx
open Go.RowKit
set_option linter.unusedVariables false
set_option linter.unusedSimpArgs false
def opPs (tmps : List SV) (asm : List B) : List Operand → Option (List PV)
  | [] => some []
  | x :: l => match opP tmps asm x, opPs tmps asm l with
    | some v, some r => some (v :: r)
    | _, _ => none
theorem opPs_den {n : Env} {tmps : List SV} {asm : List B} {a : Act} (ht : a.tmps = (tmps.map (SV.den n)).toArray) (ha : Asm n.r asm) : ∀ (l : List Operand) (v : List PV),
    opPs tmps asm l = some v → l.map a.eval = v.map (PV.den n)
  | [], v, h => by cases h; rfl
  | x :: l, v, h => by
    simp only [opPs] at h
    split at h
    · rename_i u r hu hr
      cases h
      simp [opP_den ht ha hu, opPs_den ht ha l r hr]
    · cases h
/-- What is known of a condition goes into the slots. -/
def assumeV (g : B) (t : Bool) (v : SV) : SV :=
  match v with
  | .g q x => if t && impl g q then .p x else if !t && q.eqb g then undefS else v
  | .p (.c (.k (.bool b))) => if b.eqb g then bool (.lit t) else if b.eqb (mkNot g) then bool (.lit !t) else v
  | v => v
theorem assumeV_den {n : Env} {g : B} {t : Bool} (h : g.den n.r = t) (v : SV) : (assumeV g t v).den n = v.den n := by
  unfold assumeV
  split
  · rename_i q x
    split
    · rename_i hc
      simp only [Bool.and_eq_true] at hc
      have := impl_ok g q hc.2 (by rw [h]; exact hc.1)
      simp [SV.den, this]
    · split
      · rename_i hc
        simp only [Bool.and_eq_true, Bool.not_eq_true'] at hc
        obtain ⟨h1, h2⟩ := hc
        obtain rfl := B.eqb_ok h2
        simp [SV.den, h, h1, undefS_den]
        rfl
      · rfl
  · rename_i b
    split
    · rename_i hc
      obtain rfl := B.eqb_ok hc
      simp [SV.den, PV.den, CV.den, K.den, B.den, h]
    · split
      · rename_i hc
        obtain rfl := B.eqb_ok hc
        simp [SV.den, PV.den, CV.den, K.den, B.den, mkNot_den, h]
      · rfl
  · rfl
def assume (s : St) (g : B) (t : Bool) : St := { s with bnd := refine s.bnd g t, tmps := s.tmps.map (assumeV g t) }
def mapF {α β γ : Type} (f : α → γ) (h : γ → (γ → β) → β) : List α → (List γ → β) → β
  | [], k => k []
  | x :: l, k => h (f x) fun y => mapF f h l fun l => k (y :: l)
theorem mapF_eq {α β γ : Type} {f : α → γ} {h : γ → (γ → β) → β} (hh : ∀ x k, h x k = k x) : ∀ (l : List α) (k : List γ → β), mapF f h l k = k (l.map f)
  | [], k => rfl
  | x :: l, k => by simp only [mapF, hh, mapF_eq hh l, List.map_cons]
def assumeK {β : Type} (s : St) (g : B) (t : Bool) (k : St → β) : β := match s with
  | ⟨ts, b, n, d⟩ => refineK g n t fun n => mapF (assumeV g t) fS ts fun ts => k ⟨ts, b, n, d⟩
theorem assumeK_eq {β : Type} (s : St) (g : B) (t : Bool) (k : St → β) : assumeK s g t k = k (assume s g t) := by
  cases s; simp only [assumeK, assume, refineK_eq, mapF_eq fS_eq]
theorem Rep.assume {N : Nat} {w0 : World} {n : Env} {s : St} {a : Act} {w : World} (h : Rep N w0 n s a w) {g : B} {t : Bool} (hg : g.den n.r = t) : Rep N w0 n (Sx.assume s g t) a w := by
  refine ⟨refine_ok g h.bnd t hg, h.mem, h.below, ?_⟩
  rw [h.act]
  have e : s.tmps.map (SV.den n) = (s.tmps.map (assumeV g t)).map (SV.den n) := by
    rw [List.map_map]; exact List.map_congr_left fun v _ => (assumeV_den hg v).symm
  simp only [Sx.assume, ← e]
def setsV : List (Tmp × PV) → List SV → List SV
  | [], t => t
  | (i, v) :: l, t => setsV l (t.set i (.p v))
theorem setsV_den (n : Env) : ∀ (ps : List Tmp) (vs : List PV) (t : List SV), ((setsV (ps.zip vs) t).map (SV.den n)).toArray = (ps.zip (vs.map (PV.den n))).foldl (fun (t : Array Value) (x : Tmp × Value) => t.setIfInBounds x.1 x.2) (t.map (SV.den n)).toArray
  | [], vs, t => rfl
  | p :: ps, [], t => rfl
  | p :: ps, v :: vs, t => by
    simp only [List.zip_cons_cons, setsV, List.map_cons, List.foldl_cons]
    rw [setsV_den n ps vs, List.map_set, List.setIfInBounds_toArray]
    rfl
def jumpOf : X → Option Code
  | .nrm => none
  | .ret => some .ret
  | .ext id => some (.exit id)
/-- The record of loop l is turned. -/
def loopAt (s : St) (l st : Nat) (pe : Option (Option Code)) : Option St :=
  match s.bs[l]? with
  | some ⟨c, t, some (.loop _ p tm ps a b d)⟩ => some { s with bs := s.bs.set l ⟨c, t, some (.loop st (pe.getD p) tm ps a b d)⟩ }
  | _ => none
/-- A call of yield: a round. -/
def yieldS (ex : Ex) (s : St) (l : Nat) (args : List PV) : T (SV × St) :=
  if wfSt s then
    match s.bs[l]? with
    | some ⟨_, _, some (.loop 0 _ tm ps assign body _)⟩ =>
      if args.length = ps.size then
        (fSp (setsV (ps.toList.zip args) tm) fun t => match s with | ⟨_, b, n, _⟩ => ex (some l) assign ⟨t, b, n, []⟩).bind fun p =>
          match p.1, p.2.bs[l]? with
          | .nrm, some ⟨_, _, some (.loop 0 _ _ _ _ _ _)⟩ => match loopAt p.2 l 1 none with
            | some s1 => (fMem s1 (ex (some l) body)).bind fun q => match loopAt q.2 l (match jumpOf q.1 with | none => 0 | some _ => 2) (some (jumpOf q.1)) with
              | some s2 => .ret (shut s s2 (bool (.lit (jumpOf q.1).isNone)))
              | none => .fail
            | none => .fail
          | _, _ => .fail
      else .fail
    | _ => .fail
  else .fail
/-- A division whose divisor may be 0: it must not be. -/
def divT (s : St) (op : BinOp) (k : IntKind) (a b : E) : T (SV × St) :=
  match op with
  | .quo => .ite (.eq b (.lit 0)) .fail (assumeK s (.eq b (.lit 0)) false fun s => .ret (int k (mkWrap s.bnd k (mkQuo a b)), s))
  | .rem => .ite (.eq b (.lit 0)) .fail (assumeK s (.eq b (.lit 0)) false fun s => .ret (int k (mkRem a b), s))
  | _ => .fail
def effOp (ex : Ex) (tb : Tb) (C : List Con) (rd : Bool) (s : St) (o : Oper) : T (SV × St) :=
  match o.op with
  | .alloc t => match zeroS tb t with
    | some z => newS s z.cells t fun b => .p (.c (.k (.addr b 0)))
    | none => .fail
  | .box t x => match opP s.tmps [] x with
    | some v => newS s v.cells t fun b => .p (.c (.k (.addr b 0)))
    | none => .fail
  | .buildSlice t len parts => match partsS s.tmps [] parts.toList with
    | some l => bslS tb s t len l
    | none => .fail
  | .store t x y => match opK s.tmps [] x, opP s.tmps [] y with
    | some u, some v => storeS tb s t u v
    | _, _ => .fail
  | .pick c x y => match opB s.tmps [] c, opd s.tmps [] x, opd s.tmps [] y with
    | some g, some u, some v => .ite g (.ret (u, assume s g true)) (.ret (v, assume s g false))
    | _, _, _ => .fail
  | .binOp op _ x y _ => match opK s.tmps [] x, opK s.tmps [] y with
    | some (.int k a), some (.int k' b) => if Nat.beq (kq k) (kq k') then divT s op k a b else .fail
    | _, _ => .fail
  | .call c => match c.callee with
    | .value f => match opP s.tmps [] f, opPs s.tmps [] c.args.toList with
      | some (.c (.clo (.func g) first cap)), some as =>
        if (tb.func g).any (fun fn => fn.body.isSome) then callS ex tb C s g (first.map (fun k => .c (.k k)) ++ as ++ cap.map (fun k => .c (.k k))) else .fail
      | some (.c (.k (.yld l))), some as => if rd then yieldS ex s l as else .fail
      | _, _ => .fail
    | _ => .fail
  | _ => .fail
/-- One operation that is wanted. -/
def doOp (ex : Ex) (tb : Tb) (C : List Con) (rd : Bool) (s : St) (o : Oper) : T (SV × St) :=
  match valOp tb (s.bs.map some) s.bnd s.tmps [] o with
  | some v => .ret (v, s)
  | none => effOp ex tb C rd s o
section
variable {P : Program} {tb : Tb} {C : List Con} {N : Nat} {w0 : World} {σ : List (Option Addr × Nat)} {τ : List Value}
/-- What the program must be like. -/
structure Fine (P : Program) : Prop where
  name : ∀ (g : Nat) (fn : Func), P.funcs[g]? = some fn → fn.body.isSome = true → (fn.name == "runtime.NumGoroutine") = false
  mixed : P.follows .mixedOrders = true
theorem newS_ok {Φ : List Int → SV × St → Prop} {n : Env} {s : St} {a : Act} {w : World} {cells : List CV} {ty : TypeId} {v : Nat → SV} (hN : N ≤ w0.heap.size) (h : Rep N w0 n s a w)
    (hd : (newS s cells ty v).den C Φ n.r) : ∃ s', Rep N w0 (newEnv n w.heap.size) s' a (w.alloc (Blk.obj n ⟨cells, ty, none⟩)) ∧ Φ n.r (v s.bs.length, s') := by
  unfold newS at hd
  split at hd
  · rename_i hc
    simp only [Bool.and_eq_true] at hc
    exact ⟨_, h.new hN hc.1 hc.2 ty, hd⟩
  · exact hd.elim
theorem loopAt_ok {n : Env} {s s1 : St} {a : Act} {w : World} {l st : Nat} {pe : Option (Option Code)} (h : Rep N w0 n s a w) (hl : loopAt s l st pe = some s1) :
    ∃ (fn : FuncId) (st0 : Nat) (p : Option Code) (tm : List SV) (ps : Array Tmp) (as bo : Code) (d : Nat), w.heap[n.b.getD l 0]? = some (.loop { state := stOf st0, pending := p, fn := fn, tmps := (tm.map (SV.den n)).toArray, params := ps, assign := as, body := bo, defers := n.b.getD d 0 }) ∧
      Rep N w0 n s1 a (w.putObj (n.b.getD l 0) (.loop { state := stOf st, pending := pe.getD p, fn := fn, tmps := (tm.map (SV.den n)).toArray, params := ps, assign := as, body := bo, defers := n.b.getD d 0 })) := by
  unfold loopAt at hl
  split at hl
  · rename_i c t st0 p tm ps as bo d hb
    cases hl
    have h1 := h.mem.2.2 l _ hb
    obtain ⟨fn, h2⟩ := h1.2
    exact ⟨fn, st0, p, tm, ps, as, bo, d, h2, h.bnd, h.mem.putq hb (k' := ⟨c, t, some (.loop st (pe.getD p) tm ps as bo d)⟩) ⟨fn, rfl⟩, h.below.trans ((put_at w _ _).below h1.1), h.act⟩
  · cases hl
/-- What an operation comes to. -/
def Runs (P : Program) (o : Oper) (a : Act) (rd : Bool) (KK : Act → World → Prop) : Result Next → Prop
  | .ok (.value v) w' => KK (a.put o.dst v) w'
  | .ok .skip w' => KK (a.put o.dst undef) w'
  | .ok (.enter f args) w' => CallsIn (Wd none) 0 P f args w' fun e w'' => ∃ v, e = .returned v ∧ KK (a.put o.dst v) w''
  | .ok (.round l f tmps assign body) w' => rd = true ∧ RoundIn (Wd none) 0 P l f tmps assign body w' fun e w'' => ∃ v, e = .returned v ∧ KK (a.put o.dst v) w''
  | _ => False
theorem yieldS_ok {ex : Ex} (hex : Snd P C N w0 σ τ ex) (hN : N ≤ w0.heap.size) {n : Env} {s : St} {a : Act} {w : World} {l : Nat} {args : List PV} {Φ : List Int → SV × St → Prop}
    (hns : n.s = σ) (hnt : n.t = τ) (h : Rep N w0 n s a w) (hd : (yieldS ex s l args).den C Φ n.r) :
    ∃ L f tmps assign body, (Instr.yield (n.b.getD l 0) (args.map (PV.den n)).toArray).run P w = .ok (.round L f tmps assign body) w ∧
      RoundIn (Wd none) 0 P L f tmps assign body w fun e w' => ∃ v s' m, Ext n m ∧ Rep N w0 m s' a w' ∧ Φ m.r (v, s') ∧ e = .returned (v.den m) := by
  unfold yieldS at hd
  split at hd
  case isFalse => exact hd.elim
  rename_i hw
  split at hd
  case h_2 => exact hd.elim
  rename_i c t p tm ps assign body d hb
  split at hd
  case isFalse => exact hd.elim
  rename_i hlen
  rw [fSp_eq, T.den_bind] at hd
  have h1 := h.mem.2.2 l _ hb
  obtain ⟨fn, h2⟩ := h1.2
  have hlt : l < n.b.length := by rw [h.lens.2]; exact (List.getElem?_eq_some_iff.1 hb).1
  have hro : ∀ m, Ext n m → (some (n.b.getD l 0) : Option Nat) = (some l).map fun l => m.b.getD l 0 := fun m hm => by
    simp only [Option.map_some, getD_prefix hm.b hlt]
  refine ⟨n.b.getD l 0, fn, _, assign, body, run_yield h2 (by simpa using hlen), ?_⟩
  refine roundIn_of_wpIn (F := Wd none) trivial ?_
  show assign.wpIn (Wd (some (n.b.getD l 0))) 0 P _ _ w
  rw [hro n (Ext.refl n)]
  refine hex (some l) assign ⟨setsV (ps.toList.zip args) tm, s.bs, s.bnd, []⟩ n _ w _ _ hns hnt (fun l' hl' => by cases hl'; exact hlt) ?_ hd ?_
  · refine ⟨h.bnd, h.mem, h.below, ?_⟩
    simp only [List.map_nil, Act.mk.injEq, and_true]
    rw [setsV_den]
    rw [← Array.foldl_toList]
    simp
  · intro n1 x s1 a1 w1 he1 h1' hφ
    cases x with
    | ext id => simp only at hφ; exact hφ.elim
    | ret => simp only at hφ; exact hφ.elim
    | nrm =>
      simp only at hφ
      split at hφ
      · rename_i hrec
        split at hφ
        · rename_i s1b hl1
          rw [fMem_eq, T.den_bind] at hφ
          have hq := h1'.mem.2.2 l _ hrec
          obtain ⟨fn1, hq2⟩ := hq.2
          obtain ⟨fn', st0, p', tm', ps', as', bo', d', hx, hrep⟩ := loopAt_ok h1' hl1
          rw [hq2] at hx
          have hst : stOf st0 = .ready := by
            have := Option.some.inj hx
            injection this with this
            injection this with this
            exact this.symm
          rw [hx] at hq2
          have e0 : n1.b.getD l 0 = n.b.getD l 0 := getD_prefix he1.b hlt 0
          refine ⟨_, run_beginRound (by rw [e0] at hq2; exact hq2) (by rw [hst]), ?_⟩
          show body.wpIn (Wd (some (n.b.getD l 0))) 0 P _ _ _
          rw [hro n1 he1]
          have hrep' : Rep N w0 n1 s1b a1 (w1.putObj (n.b.getD l 0) (.loop { state := .busy, pending := p', fn := fn', tmps := (tm'.map (SV.den n1)).toArray, params := ps', assign := as', body := bo', defers := n1.b.getD d' 0 })) := by
            rw [e0] at hrep; exact hrep
          refine hex (some l) body s1b n1 a1 _ _ _ (he1.s.trans hns) (he1.t.trans hnt) (fun l' hl' => by cases hl'; exact Nat.lt_of_lt_of_le hlt he1.b.length_le) hrep' hφ ?_
          intro n2 x2 s2 a2 w2 he2 h2' hφ2
          have he12 := he1.trans he2
          have fin : ∀ (j : Option Code), jumpOf x2 = j → ∃ v w3, (Instr.endRound (n.b.getD l 0) j).run P w2 = .ok v w3 ∧ ∃ v' s' m, Ext n m ∧ Rep N w0 m s' a w3 ∧ Φ m.r (v', s') ∧ Ending.returned v = .returned (v'.den m) := fun j hj => by
            rw [hj] at hφ2
            split at hφ2
            · rename_i s2b hl2
              obtain ⟨fn2, st2, p2, tm2, ps2, as2, bo2, d2, hx2, hrep2⟩ := loopAt_ok h2' hl2
              have e2 : n2.b.getD l 0 = n.b.getD l 0 := getD_prefix he12.b hlt 0
              rw [e2] at hx2 hrep2
              obtain ⟨m, hm1, hm2, hm3, hm4⟩ := shut_ok (v := bool (.lit j.isNone)) h hw he12 hrep2
              refine ⟨_, _, run_endRound j hx2, (shut s s2b (bool (.lit j.isNone))).1, (shut s s2b (bool (.lit j.isNone))).2, m, hm1, ?_, ?_, ?_⟩
              · cases j <;> exact hm3
              · rw [hm2]; exact hφ2
              · rw [hm4]; rfl
            · exact hφ2.elim
          cases x2 with
          | nrm => exact fin none rfl
          | ret => exact fin (some .ret) rfl
          | ext id => exact fin (some (.exit id)) rfl
        · exact hφ.elim
      · exact hφ.elim
theorem divT_ok {Φ : List Int → SV × St → Prop} {n : Env} {s : St} {a : Act} {w : World} {op : BinOp} {k : IntKind} {x y : E} (h : Rep N w0 n s a w) (hd : (divT s op k x y).den C Φ n.r) (t : TypeId) (ox oy : Operand) :
    ∃ v s', (do eqGuard op t ox oy (.int k (x.den n.r)) (.int k (y.den n.r)); binOp op t (.int k (x.den n.r)) (.int k (y.den n.r))).run P w = .ok (SV.den n v) w ∧ Rep N w0 n s' a w ∧ Φ n.r (v, s') := by
  unfold divT at hd
  split at hd
  · rw [assumeK_eq] at hd
    simp only [T.den, B.prop, E.den] at hd
    have hne : ¬ y.den n.r = 0 := fun e => (hd.1 e).elim
    have hb : (B.eq y (.lit 0)).den n.r = false := by simp [B.den, E.den, hne]
    have hr := h.assume hb
    refine ⟨_, _, ?_, hr, hd.2 hne⟩
    have he : (eqGuard .quo t ox oy (.int k (x.den n.r)) (.int k (y.den n.r))).run P w = .ok () w := rfl
    rw [Sem.run_bind, he, Result.andThen_ok]
    simp only [binOp, Op.intArith, Op.intDiv, SV.den, PV.den, CV.den, K.den, ne_eq, not_true_eq_false, if_false, mkWrap_den hr.bnd, mkQuo_den, hne]
    first | rfl | (simp; done) | skip
  · rw [assumeK_eq] at hd
    simp only [T.den, B.prop, E.den] at hd
    have hne : ¬ y.den n.r = 0 := fun e => (hd.1 e).elim
    have hb : (B.eq y (.lit 0)).den n.r = false := by simp [B.den, E.den, hne]
    have hr := h.assume hb
    refine ⟨_, _, ?_, hr, hd.2 hne⟩
    have he : (eqGuard .rem t ox oy (.int k (x.den n.r)) (.int k (y.den n.r))).run P w = .ok () w := rfl
    rw [Sem.run_bind, he, Result.andThen_ok]
    simp only [binOp, Op.intArith, Op.intDiv, SV.den, PV.den, CV.den, K.den, ne_eq, not_true_eq_false, if_false, mkRem_den, hne]
    first | rfl | (simp; done) | skip
  · exact hd.elim
theorem effOp_ok [TbOk P tb] {ex : Ex} (hex : Snd P C N w0 σ τ ex) (hC : ∀ c ∈ C, ConOk P N w0 σ τ c) (hN : N ≤ w0.heap.size) (hP : Fine P) {n : Env} {s : St} {a : Act} {w : World} {o : Oper} {Φ : List Int → SV × St → Prop} {rd : Bool} {KK : Act → World → Prop}
    (hns : n.s = σ) (hnt : n.t = τ) (h : Rep N w0 n s a w) (hd : (effOp ex tb C rd s o).den C Φ n.r)
    (hK : ∀ n' v s' w', Ext n n' → Rep N w0 n' s' a w' → Φ n'.r (v, s') → KK (a.put o.dst (v.den n')) w') : Runs P o a rd KK ((execOp a.eval o).run P w) := by
  have ha : Asm n.r [] := fun g hg => by cases hg
  have ht := h.tmps
  unfold effOp at hd
  unfold execOp
  split at hd <;> rename_i hop <;> simp only [hop]
  · split at hd
    · rename_i t z hz
      obtain ⟨s', hr, hφ⟩ := newS_ok hN h hd
      simp only [Instr.alloc, Sem.run_bind, zeroS_run (n := n) hz, Result.andThen_ok, newVar, newRow, run_newObj, Sem.run_pure, Oper.upon, PV.cells_den]
      have := hK _ _ _ _ (newEnv_ext n w.heap.size) hr hφ
      simp only [SV.den, PV.den, CV.den, K.den, newEnv_last h.lens.2] at this
      exact this
    · exact hd.elim
  · split at hd
    · rename_i t x v hv
      obtain ⟨s', hr, hφ⟩ := newS_ok hN h hd
      simp only [Instr.box, Sem.run_bind, opP_den ht ha hv, Result.andThen_ok, newVar, newRow, run_newObj, Sem.run_pure, Oper.upon, PV.cells_den]
      have := hK _ _ _ _ (newEnv_ext n w.heap.size) hr hφ
      simp only [SV.den, PV.den, CV.den, K.den, newEnv_last h.lens.2] at this
      exact this
    · exact hd.elim
  · rename_i t len parts
    split at hd
    · rename_i l hl
      have e := partsS_den ht ha _ _ hl
      unfold bslS at hd
      split at hd
      · rename_i el hu
        split at hd
        · rename_i i z hi hz
          split at hd
          · exact hd.elim
          · rename_i hc
            split at hd
            · rename_i cs hf
              obtain ⟨s', hr, hφ⟩ := newS_ok hN h hd
              have h1 := bslS_run (P := P) (w := w) (n := n) hu hi hz hc hf (parts.map fun (i, x) => (i, a.eval x)) (by rw [Array.toList_map, e])
              simp only [Sem.run_bind, h1, Result.andThen_ok, Sem.run_pure, Runs]
              have := hK _ _ _ _ (newEnv_ext n w.heap.size) hr hφ
              simp only [SV.den, PV.den, CV.den, K.den, newEnv_last h.lens.2] at this
              exact this
            · exact hd.elim
        · exact hd.elim
      · exact hd.elim
    · exact hd.elim
  · split at hd
    · rename_i u v hu hv
      obtain ⟨w', s', hr, hrep, hφ⟩ := storeS_ok (P := P) h hd
      simp only [opK_den ht ha hu, opP_den ht ha hv, Sem.run_bind, hr, Result.andThen_ok, Sem.run_pure, Runs]
      exact hK _ _ _ _ (Ext.refl n) hrep hφ
    · exact hd.elim
  · split at hd
    · rename_i g u v hg hu hv
      simp only [opB_den ht ha hg, asBool, Sem.run_bind, Sem.run_pure, Result.andThen_ok, Runs]
      simp only [T.den, B.prop_iff] at hd
      cases hb : g.den n.r with
      | true =>
        rw [if_pos rfl, opd_den ht ha hu]
        exact hK _ _ _ _ (Ext.refl n) (h.assume hb) (hd.1 hb)
      | false =>
        rw [if_neg (by simp), opd_den ht ha hv]
        exact hK _ _ _ _ (Ext.refl n) (h.assume hb) (hd.2 (by simp [hb]))
    · exact hd.elim
  · split at hd
    · rename_i k x k' y hx hy
      split at hd
      · rename_i hk
        obtain rfl := kq_ok hk
        obtain ⟨v, s', hr, hrep, hφ⟩ := divT_ok (P := P) h hd _ _ _
        simp only [opK_den ht ha hx, opK_den ht ha hy, K.den]
        rw [Sem.run_bind, hr]
        exact hK _ _ _ _ (Ext.refl n) hrep hφ
      · exact hd.elim
    · exact hd.elim
  · rename_i c
    split at hd
    · rename_i f hcal
      split at hd
      · rename_i g first cap as hf has
        split at hd
        case isFalse => exact hd.elim
        rename_i hany
        have e1 := opP_den ht ha hf
        have e2 := opPs_den ht ha _ _ has
        have e3 : c.args.map a.eval = (as.map (PV.den n)).toArray := by rw [← e2]; apply Array.toList_inj.1; simp
        simp only [resolve, hcal, Sem.run_bind, Sem.run_pure, Result.andThen_ok, e1, PV.den, CV.den, Deferred.ofValue, invoke, e3]
        have hcall := callS_ok (args := first.map (fun k => .c (.k k)) ++ as ++ cap.map (fun k => .c (.k k))) hex hC hN hns hnt h hd
        have hargs : (first.map (K.den n)).toArray ++ (as.map (PV.den n)).toArray ++ (cap.map (K.den n)).toArray = ((first.map (fun k => PV.c (.k k)) ++ as ++ cap.map (fun k => PV.c (.k k))).map (PV.den n)).toArray := by
          simp only [List.map_append, List.map_map, List.append_toArray]
          rfl
        rw [hargs]
        have hfn : ∃ fn, P.funcs[g]? = some fn ∧ fn.body.isSome = true := by
          cases hq : tb.func g with
          | none => rw [hq] at hany; cases hany
          | some fn => rw [hq] at hany; exact ⟨fn, func_ok hq, hany⟩
        obtain ⟨fn, hfn, hbody⟩ := hfn
        have hn := hP.name g fn hfn hbody
        have hb2 : fn.body.isNone = false := by cases hb : fn.body <;> simp_all
        simp only [callFunc, Sem.run_bind, run_program, Result.andThen_ok, hfn, hn, hb2, Bool.false_eq_true, if_false, Sem.run_pure, Runs]
        refine hcall.mono fun e w' ⟨m, v, s', hm1, hm2, hm3, hm4, he⟩ => ⟨_, he, ?_⟩
        exact hK _ _ _ _ hm1 hm2 hm4
      · rename_i l as hf has
        split at hd
        case isFalse => exact hd.elim
        rename_i hrd
        have e1 := opP_den ht ha hf
        have e2 := opPs_den ht ha _ _ has
        have e3 : c.args.map a.eval = (as.map (PV.den n)).toArray := by rw [← e2]; apply Array.toList_inj.1; simp
        obtain ⟨L, f, tmps, assign, body, hy, hround⟩ := yieldS_ok hex hN hns hnt h hd
        simp only [resolve, hcal, Sem.run_bind, Sem.run_pure, Result.andThen_ok, e1, PV.den, CV.den, K.den, Deferred.ofValue, invoke, e3, Array.empty_append, hy, Runs]
        refine ⟨hrd, hround.mono fun e w' ⟨v, s', m, hm1, hm2, hm3, he⟩ => ⟨_, he, ?_⟩⟩
        exact hK _ _ _ _ hm1 hm2 hm3
      · exact hd.elim
    · exact hd.elim
  · exact hd.elim
theorem doOp_ok [TbOk P tb] {ex : Ex} (hex : Snd P C N w0 σ τ ex) (hC : ∀ c ∈ C, ConOk P N w0 σ τ c) (hN : N ≤ w0.heap.size) (hP : Fine P) {n : Env} {s : St} {a : Act} {w : World} {o : Oper} {Φ : List Int → SV × St → Prop} {rd : Bool} {KK : Act → World → Prop}
    (hns : n.s = σ) (hnt : n.t = τ) (h : Rep N w0 n s a w) (hd : (doOp ex tb C rd s o).den C Φ n.r)
    (hK : ∀ n' v s' w', Ext n n' → Rep N w0 n' s' a w' → Φ n'.r (v, s') → KK (a.put o.dst (v.den n')) w') : Runs P o a rd KK ((execOp a.eval o).run P w) := by
  unfold doOp at hd
  split at hd
  · rename_i v hv
    have := valOp_run (P := P) (w := w) h.mem.reads h.bnd h.tmps (asm := []) (fun g hg => by cases hg) hv
    simp only [this, Runs]
    exact hK _ _ _ _ (Ext.refl n) h hd
  · exact effOp_ok hex hC hN hP hns hnt h hd hK
theorem Runs.noDefer {o : Oper} {a : Act} {w : World} {rd : Bool} {KK : Act → World → Prop} (h : Runs P o a rd KK ((execOp a.eval o).run P w)) : ∀ c, o.op ≠ .defer c := fun c hc => by
  unfold execOp at h
  rw [hc] at h
  simp only [Sem.run_bind] at h
  cases hr : (resolve a.eval c o.type).run P w with
  | ok d w' => rw [hr] at h; simp only [Result.andThen_ok, Sem.run_pure, Runs] at h
  | halt x w' => rw [hr] at h; simp only [Result.andThen_halt, Runs] at h
theorem Runs.wp {o : Oper} {a : Act} {w : World} {KK : Act → World → Prop} {Q : Exit → Act → World → Prop} (h : Runs P o a false KK ((execOp a.eval o).run P w)) : o.wp P a w KK Q := by
  unfold Oper.wp
  generalize (execOp a.eval o).run P w = r at *
  cases r with
  | halt x w' => exact h.elim
  | ok x w' =>
    cases x <;> simp only [Runs] at h <;> try exact h
    · refine ((callsIn_wide (n := 0)).1 h).mono fun e w'' he => ?_
      obtain ⟨v, rfl, hk⟩ := he
      exact hk
    · cases h.1
theorem Runs.wpIn {A : Option Nat} {o : Oper} {a : Act} {w : World} {rd : Bool} {KK : Act → World → Prop} {Q : Exit → Act → World → Prop} (h : Runs P o a rd KK ((execOp a.eval o).run P w)) : o.wpIn (Wd A) 0 P a w KK Q := by
  refine ⟨fun _ _ => trivial, ?_⟩
  rw [Oper.semAt_eq _ _ _ h.noDefer]
  generalize (execOp a.eval o).run P w = r at *
  cases r with
  | halt x w' => exact h.elim
  | ok x w' =>
    cases x <;> simp only [Runs] at h <;> try exact h
    · refine ⟨fun hx => by simp [Wd] at hx, ?_⟩
      refine CallsIn.mono (F := Wd A) (n := 0 - 1) h fun e w'' he => ?_
      obtain ⟨v, rfl, hk⟩ := he
      exact hk
    · refine ⟨fun hx => by simp [Wd] at hx, ?_⟩
      refine RoundIn.mono (F := Wd A) (n := 0 - 1) h.2 fun e w'' he => ?_
      obtain ⟨v, rfl, hk⟩ := he
      exact hk
end
end Go.Sx

/- A symbolic executor: which operations of a region may come next, fast. -/
namespace Go.Sx
open Go.RowKit
set_option linter.unusedVariables false
set_option linter.unusedSimpArgs false
def has : List Nat → Nat → Bool
  | [], _ => false
  | x :: l, n => Nat.beq x n || has l n
theorem has_iff {l : List Nat} {n : Nat} : has l n = true ↔ n ∈ l := by
  induction l with
  | nil => simp [has]
  | cons x l ih =>
    simp only [has, Bool.or_eq_true, ih, List.mem_cons]
    constructor
    · rintro (h | h)
      · exact .inl (Nat.eq_of_beq_eq_true h).symm
      · exact .inr h
    · rintro (h | h)
      · exact .inl (by rw [h]; exact Nat.beq_refl x)
      · exact .inr h
theorem has_f {l : List Nat} {n : Nat} (h : has l n = false) : n ∉ l := fun hm => by rw [has_iff.2 hm] at h; cases h
/-- What the order looks at. -/
structure RI where
  dst : Option Nat
  looks : List Nat
  after : List Nat
def riOf (ops : Array Oper) (o : Oper) : RI := ⟨o.dst, o.looksAt ops, (o.after.toList.filter (Region.binds .any)).map (·.on)⟩
def rinf (ops : Array Oper) : List RI := ops.toList.map (riOf ops)
section
variable {β : Type}
def fOpt (n : Option Nat) (k : Option Nat → β) : β := match n with
  | some n => fNat n fun n => k (some n)
  | none => k none
theorem fOpt_eq (n : Option Nat) (k : Option Nat → β) : fOpt n k = k n := by cases n <;> simp only [fOpt, fNat_eq]
def fRI : RI → (RI → β) → β
  | ⟨d, l, a⟩, k => fOpt d fun d => fL fNat l fun l => fL fNat a fun a => k ⟨d, l, a⟩
theorem fRI_eq (x : RI) (k : RI → β) : fRI x k = k x := by cases x; simp only [fRI, fOpt_eq, fL_eq fNat_eq]
end
def isOn : List Bool → Nat → Bool
  | [], _ => false
  | b :: _, 0 => b
  | _ :: l, n + 1 => isOn l n
theorem isOn_eq (l : List Bool) (n : Nat) : isOn l n = l.getD n false := by
  induction l generalizing n with
  | nil => rfl
  | cons b l ih => cases n with
    | zero => rfl
    | succ n => simp only [isOn, ih]; simp
def readyF (all : List Bool) : List RI → List Bool → Nat → List Nat
  | r :: rs, l :: ls, i => if l then readyF all rs ls (i + 1) else if r.after.all (isOn all) then i :: readyF all rs ls (i + 1) else readyF all rs ls (i + 1)
  | _, _, _ => []
theorem readyF_cons (all : List Bool) (r : RI) (rs : List RI) (l : Bool) (ls : List Bool) (i : Nat) : readyF all (r :: rs) (l :: ls) i =
    if l = true then readyF all rs ls (i + 1) else if r.after.all (isOn all) = true then i :: readyF all rs ls (i + 1) else readyF all rs ls (i + 1) := rfl
theorem readyF_mem (all : List Bool) : ∀ (rs : List RI) (ls : List Bool) (k i : Nat), i ∈ readyF all rs ls k ↔ ∃ j, i = k + j ∧ ls[j]? = some false ∧ ∃ r, rs[j]? = some r ∧ r.after.all (isOn all) = true
  | [], ls, k, i => by simp [readyF]
  | r :: rs, [], k, i => by simp [readyF]
  | r :: rs, l :: ls, k, i => by
    have ih := readyF_mem all rs ls (k + 1) i
    have step : (∃ j, i = k + j ∧ (l :: ls)[j]? = some false ∧ ∃ r', (r :: rs)[j]? = some r' ∧ r'.after.all (isOn all) = true) ↔ (i = k ∧ l = false ∧ r.after.all (isOn all) = true) ∨ i ∈ readyF all rs ls (k + 1) := by
      rw [ih]
      constructor
      · rintro ⟨j, hj, h1, r', h2, h3⟩
        cases j with
        | zero => simp only [List.getElem?_cons_zero, Option.some.injEq] at h1 h2; subst h2; exact .inl ⟨hj, h1, h3⟩
        | succ j => simp only [List.getElem?_cons_succ] at h1 h2; exact .inr ⟨j, by omega, h1, r', h2, h3⟩
      · rintro (⟨h1, h2, h3⟩ | ⟨j, hj, h1, r', h2, h3⟩)
        · exact ⟨0, by omega, by simp [h2], r, by simp, h3⟩
        · exact ⟨j + 1, by omega, by simpa using h1, r', by simpa using h2, h3⟩
    rw [step, readyF_cons]
    split
    · rename_i hl; simp [hl]
    · rename_i hl
      split
      · rename_i ha; simp only [Bool.not_eq_true] at hl; simp only [List.mem_cons, hl, ha, and_self, and_true]
      · rename_i ha; simp only [ha, and_false, false_or, Bool.false_eq_true]
theorem ready_iff {ops : Array Oper} {l : List Bool} {i : Nat} : i ∈ readyF l (rinf ops) l 0 ↔ i ∈ Region.ready .any ops ⟨l⟩ := by
  rw [readyF_mem, mem_ready]
  constructor
  · rintro ⟨j, hj, h1, r, h2, h3⟩
    have e : i = j := by omega
    subst e
    refine ⟨by simp [h1], ?_⟩
    rw [rinf, List.getElem?_map] at h2
    cases ho : ops.toList[i]? with
    | none => rw [ho] at h2; cases h2
    | some o =>
      rw [ho] at h2; cases h2
      refine ⟨o, by simpa using ho, fun e he hb => ?_⟩
      have h4 := List.all_eq_true.1 h3 e.on (List.mem_map.2 ⟨e, List.mem_filter.2 ⟨by simpa using he, hb⟩, rfl⟩)
      rw [isOn_eq] at h4
      simpa using h4
  · rintro ⟨h1, o, ho, h2⟩
    refine ⟨i, by omega, ?_, riOf ops o, by simp [rinf, ho], ?_⟩
    · simp only [Array.getD_eq_getD_getElem?, List.getElem?_toArray] at h1
      cases hc : l[i]? with
      | none => rw [hc] at h1; cases h1
      | some b => rw [hc] at h1; simp at h1; rw [h1]
    · refine List.all_eq_true.2 fun j hj => ?_
      obtain ⟨e, he, rfl⟩ := List.mem_map.1 hj
      rw [List.mem_filter] at he
      rw [isOn_eq]
      have := h2 e (by simpa using he.1) he.2
      simpa using this
def apartF (x y : RI) : Bool :=
  (match x.dst with
   | some d => !(has y.looks d) && (match y.dst with | some e => !(Nat.beq d e) | none => true)
   | none => true) &&
  (match y.dst with
   | some d => !(has x.looks d)
   | none => true)
theorem apartF_ok {ops : Array Oper} {x y : Oper} (h : apartF (riOf ops x) (riOf ops y) = true) : x.apart ops y = true := by
  unfold apartF riOf at h
  unfold Oper.apart
  simp only [Bool.and_eq_true] at h ⊢
  obtain ⟨h1, h2⟩ := h
  constructor
  · split
    · rename_i d hd
      rw [hd] at h1
      simp only [Bool.and_eq_true, Bool.not_eq_true'] at h1 ⊢
      refine ⟨?_, ?_⟩
      · have := has_f h1.1; simpa using this
      · cases he : y.dst with
        | none => rfl
        | some e => rw [he] at h1; simp only at h1; simp; intro e2; subst e2; rw [Nat.beq_refl] at h1; exact absurd h1.2 (by simp)
    · rfl
  · split
    · rename_i d hd
      rw [hd] at h2
      simp only [Bool.not_eq_true'] at h2 ⊢
      have := has_f h2; simpa using this
    · rfl
def freeF (x : RI) (i : Nat) : List RI → List Bool → Nat → Bool
  | y :: rs, l :: ls, j => (l || Nat.beq j i || has y.after i || apartF x y) && freeF x i rs ls (j + 1)
  | _, _, _ => true
theorem freeF_ok (x : RI) (i : Nat) : ∀ (rs : List RI) (ls : List Bool) (k : Nat), freeF x i rs ls k = true → ∀ j y, rs[j]? = some y → ls[j]? = some false → k + j ≠ i → has y.after i = false → apartF x y = true
  | [], ls, k, h, j, y, hy, _, _, _ => by simp at hy
  | r :: rs, [], k, h, j, y, _, hl, _, _ => by simp at hl
  | r :: rs, l :: ls, k, h, j, y, hy, hl, hne, ha => by
    simp only [freeF, Bool.and_eq_true] at h
    cases j with
    | zero =>
      simp only [List.getElem?_cons_zero, Option.some.injEq] at hy hl
      subst hy; subst hl
      have h1 := h.1
      simp only [Bool.or_eq_true, Bool.false_eq_true, false_or, ha, or_false] at h1
      rcases h1 with h1 | h1
      · exact absurd (Nat.eq_of_beq_eq_true h1) (by omega)
      · exact h1
    | succ j =>
      simp only [List.getElem?_cons_succ] at hy hl
      exact freeF_ok x i rs ls (k + 1) h.2 j y hy hl (by omega) ha
end Go.Sx

/- A symbolic executor: regions, code, whole calls. -/
namespace Go.Sx
open Go.RowKit
set_option linter.unusedVariables false
set_option linter.unusedSimpArgs false
/-! Equality of what lies in blocks. -/
def eqC : CV → CV → Bool
  | .k x, .k y => x.eqb y
  | .clo (.func f) a b, .clo (.func g) c d => Nat.beq f g && eqKs a c && eqKs b d
  | _, _ => false
theorem eqC_ok {x y : CV} (h : eqC x y = true) : x = y := by
  unfold eqC at h
  split at h
  · rw [K.eqb_ok h]
  · simp only [Bool.and_eq_true] at h; rw [Nat.eq_of_beq_eq_true h.1.1, eqKs_ok h.1.2, eqKs_ok h.2]
  · cases h
def eqCs : List CV → List CV → Bool
  | [], [] => true
  | x :: l, y :: r => eqC x y && eqCs l r
  | _, _ => false
theorem eqCs_ok : ∀ {x y : List CV}, eqCs x y = true → x = y
  | [], [], _ => rfl
  | x :: l, y :: r, h => by simp only [eqCs, Bool.and_eq_true] at h; rw [eqC_ok h.1, eqCs_ok h.2]
  | [], _ :: _, h => by cases h
  | _ :: _, [], h => by cases h
def eqBlk (x y : Blk) : Bool := x.kd.isNone && y.kd.isNone && Nat.beq x.ty y.ty && eqCs x.cells y.cells
theorem eqBlk_ok {x y : Blk} (h : eqBlk x y = true) : x = y := by
  simp only [eqBlk, Bool.and_eq_true] at h
  obtain ⟨a, b, p⟩ := x; obtain ⟨c, d, q⟩ := y
  simp only [Option.isNone_iff_eq_none] at h
  rw [Nat.eq_of_beq_eq_true h.1.2, eqCs_ok h.2, h.1.1.1, h.1.1.2]
/-- Are the blocks as they were? -/
def keeps : List (Option Blk) → List Blk → Bool
  | [], _ => true
  | none :: l, _ :: r => keeps l r
  | some b :: l, c :: r => eqBlk b c && keeps l r
  | _ :: _, [] => false
theorem keeps_ok : ∀ {m : List (Option Blk)} {bs : List Blk}, keeps m bs = true → ∀ (i : Nat) (b : Blk), m[i]? = some (some b) → bs[i]? = some b
  | [], bs, _, i, b, hi => by simp at hi
  | none :: l, c :: r, h, i, b, hi => by
    cases i with
    | zero => simp at hi
    | succ i => simp only [List.getElem?_cons_succ] at *; exact keeps_ok (by simpa [keeps] using h) i b hi
  | some x :: l, c :: r, h, i, b, hi => by
    simp only [keeps, Bool.and_eq_true] at h
    cases i with
    | zero => simp only [List.getElem?_cons_zero, Option.some.injEq] at *; rw [← hi, eqBlk_ok h.1]
    | succ i => simp only [List.getElem?_cons_succ] at *; exact keeps_ok h.2 i b hi
  | none :: _, [], h, i, b, hi => by cases h
  | some _ :: _, [], h, i, b, hi => by cases h
def eqBlks : List Blk → List Blk → Bool
  | [], [] => true
  | x :: l, y :: r => eqBlk x y && eqBlks l r
  | _, _ => false
theorem eqBlks_ok : ∀ {x y : List Blk}, eqBlks x y = true → x = y
  | [], [], _ => rfl
  | x :: l, y :: r, h => by simp only [eqBlks, Bool.and_eq_true] at h; rw [eqBlk_ok h.1, eqBlks_ok h.2]
  | [], _ :: _, h => by cases h
  | _ :: _, [], h => by cases h
def putT (o : Oper) (t : T (SV × St)) : T St := t.bind fun p => fMem p.2 fun s => putK s o p.1
theorem putT_eq (o : Oper) (t : T (SV × St)) : putT o t = t.bind fun p => .ret (put p.2 o p.1) := by
  unfold putT; congr; funext p; rw [fMem_eq, putK_eq]
/-- An operation whose guard g is open: walked as if g held, if it leaves memory as it is; else both ways. -/
def specS (s : St) (o : Oper) (g : B) (t : T (SV × St)) : T St :=
  match t with
  | .ret (.p x, s') => if eqBlks s'.bs s.bs && Nat.beq s'.bnd.v.length s.bnd.v.length then putK s o (.g g x) else .ite g (putT o t) (assumeK s g false fun s => putK s o undefS)
  | _ => .ite g (putT o t) (assumeK s g false fun s => putK s o undefS)
def opS (ex : Ex) (tb : Tb) (C : List Con) (rd : Bool) (ops : Array Oper) (s : St) (o : Oper) : T St :=
  match yieldOp tb ops (s.bs.map some) s.bnd s.tmps o with
  | some v => putK s o v
  | none => match gdS ops s.tmps o with
    | none => .fail
    | some (.lit true) => putT o (doOp ex tb C rd s o)
    | some (.lit false) => putK s o undefS
    | some g => specS s o g (assumeK s g true fun s => doOp ex tb C rd s o)
def seqS (ex : Ex) (tb : Tb) (C : List Con) (rd : Bool) (ops : Array Oper) : List Nat → St → T St
  | [], s => .ret s
  | i :: l, s => match ops[i]? with
    | none => .fail
    | some o => (opS ex tb C rd ops s o).bind (seqS ex tb C rd ops l)
/-- What is left as it was on all ways. -/
def calm (bs : List Blk) : T St → List (Option Blk) → List (Option Blk)
  | .ret s, m => (m.zip s.bs).map fun (x, b) => match x with
    | some c => if eqBlk c b then some c else none
    | none => none
  | .ite _ t e, m => calm bs e (calm bs t m)
  | .both t e, m => calm bs e (calm bs t m)
  | .con _ _ k, m => calm bs k m
  | .lop _ _ _ k, m => calm bs k m
  | .chk _ _ _, m => m
  | .fail, m => m
def firstSome {α : Type} (f : Nat → Option α) : List Nat → Option (Nat × α)
  | [] => none
  | i :: l => match f i with
    | some x => some (i, x)
    | none => firstSome f l
theorem firstSome_ok {α : Type} {f : Nat → Option α} : ∀ {l : List Nat} {i : Nat} {x : α}, firstSome f l = some (i, x) → i ∈ l ∧ f i = some x
  | [], _, _, h => by cases h
  | j :: l, i, x, h => by
    simp only [firstSome] at h
    split at h
    · rename_i y hy; cases h; exact ⟨List.mem_cons_self .., hy⟩
    · have := firstSome_ok h; exact ⟨List.mem_cons_of_mem _ this.1, this.2⟩
def eqPV : PV → PV → Bool
  | .c x, .c y => eqC x y
  | .agg x, .agg y => eqCs x y
  | _, _ => false
theorem eqPV_ok {x y : PV} (h : eqPV x y = true) : x = y := by
  unfold eqPV at h
  split at h
  · rw [eqC_ok h]
  · rw [eqCs_ok h]
  · cases h
def eqPVs : List PV → List PV → Bool
  | [], [] => true
  | x :: l, y :: r => eqPV x y && eqPVs l r
  | _, _ => false
theorem eqPVs_ok : ∀ {x y : List PV}, eqPVs x y = true → x = y
  | [], [], _ => rfl
  | x :: l, y :: r, h => by simp only [eqPVs, Bool.and_eq_true] at h; rw [eqPV_ok h.1, eqPVs_ok h.2]
  | [], _ :: _, h => by cases h
  | _ :: _, [], h => by cases h
def eqSV : SV → SV → Bool
  | .p x, .p y => eqPV x y
  | .g a x, .g b y => a.eqb b && eqPV x y
  | .tup x, .tup y => eqPVs x y
  | .u i, .u j => Nat.beq i j
  | _, _ => false
theorem eqSV_ok {x y : SV} (h : eqSV x y = true) : x = y := by
  unfold eqSV at h
  split at h
  · rw [eqPV_ok h]
  · simp only [Bool.and_eq_true] at h; rw [B.eqb_ok h.1, eqPV_ok h.2]
  · rw [eqPVs_ok h]
  · rw [Nat.eq_of_beq_eq_true h]
  · cases h
def eqSVs : List SV → List SV → Bool
  | [], [] => true
  | x :: l, y :: r => eqSV x y && eqSVs l r
  | _, _ => false
theorem eqSVs_ok : ∀ {x y : List SV}, eqSVs x y = true → x = y
  | [], [], _ => rfl
  | x :: l, y :: r, h => by simp only [eqSVs, Bool.and_eq_true] at h; rw [eqSV_ok h.1, eqSVs_ok h.2]
  | [], _ :: _, h => by cases h
  | _ :: _, [], h => by cases h
def eqIIs : List (Int × Int) → List (Int × Int) → Bool
  | [], [] => true
  | x :: l, y :: r => iq x.1 y.1 && iq x.2 y.2 && eqIIs l r
  | _, _ => false
theorem eqIIs_ok : ∀ {x y : List (Int × Int)}, eqIIs x y = true → x = y
  | [], [], _ => rfl
  | (a, b) :: l, (c, d) :: r, h => by simp only [eqIIs, Bool.and_eq_true] at h; rw [iq_ok h.1.1, iq_ok h.1.2, eqIIs_ok h.2]
  | [], _ :: _, h => by cases h
  | _ :: _, [], h => by cases h
def eqFacts : List (E × (Int × Int)) → List (E × (Int × Int)) → Bool
  | [], [] => true
  | x :: l, y :: r => x.1.eqb y.1 && iq x.2.1 y.2.1 && iq x.2.2 y.2.2 && eqFacts l r
  | _, _ => false
theorem eqFacts_ok : ∀ {x y : List (E × (Int × Int))}, eqFacts x y = true → x = y
  | [], [], _ => rfl
  | (e, (a, b)) :: l, (f, (c, d)) :: r, h => by simp only [eqFacts, Bool.and_eq_true] at h; rw [E.eqb_ok h.1.1.1, iq_ok h.1.1.2, iq_ok h.1.2, eqFacts_ok h.2]
  | [], _ :: _, h => by cases h
  | _ :: _, [], h => by cases h
def eqBs : List B → List B → Bool
  | [], [] => true
  | x :: l, y :: r => x.eqb y && eqBs l r
  | _, _ => false
theorem eqBs_ok : ∀ {x y : List B}, eqBs x y = true → x = y
  | [], [], _ => rfl
  | x :: l, y :: r, h => by simp only [eqBs, Bool.and_eq_true] at h; rw [B.eqb_ok h.1, eqBs_ok h.2]
  | [], _ :: _, h => by cases h
  | _ :: _, [], h => by cases h
def eqNs : List Nat → List Nat → Bool
  | [], [] => true
  | x :: l, y :: r => Nat.beq x y && eqNs l r
  | _, _ => false
theorem eqNs_ok : ∀ {x y : List Nat}, eqNs x y = true → x = y
  | [], [], _ => rfl
  | x :: l, y :: r, h => by simp only [eqNs, Bool.and_eq_true] at h; rw [Nat.eq_of_beq_eq_true h.1, eqNs_ok h.2]
  | [], _ :: _, h => by cases h
  | _ :: _, [], h => by cases h
def eqSt (s t : St) : Bool := eqSVs s.tmps t.tmps && eqBlks s.bs t.bs && eqIIs s.bnd.v t.bnd.v && eqFacts s.bnd.x t.bnd.x && eqNs s.df t.df && eqBs s.bnd.k t.bnd.k
theorem eqSt_ok {s t : St} (h : eqSt s t = true) : s = t := by
  simp only [eqSt, Bool.and_eq_true] at h
  obtain ⟨a, b, ⟨c, d, e⟩, f⟩ := s; obtain ⟨a', b', ⟨c', d', e'⟩, f'⟩ := t
  have h1 := eqSVs_ok h.1.1.1.1.1; have h2 := eqBlks_ok h.1.1.1.1.2; have h3 := eqIIs_ok h.1.1.1.2; have h4 := eqFacts_ok h.1.1.2; have h5 := eqNs_ok h.1.2; have h6 := eqBs_ok h.2
  simp only at h1 h2 h3 h4 h5 h6
  rw [h1, h2, h3, h4, h5, h6]
def eqTr : T St → T St → Bool
  | .ret s, .ret t => eqSt s t
  | .ite a t e, .ite b u f => a.eqb b && eqTr t u && eqTr e f
  | .both t e, .both u f => eqTr t u && eqTr e f
  | _, _ => false
theorem eqTr_ok : ∀ {t u : T St}, eqTr t u = true → t = u := by
  intro t
  induction t with
  | ret s => intro u h; cases u <;> first | (rw [eqSt_ok h]) | cases h
  | ite b t e ht he => intro u h; cases u <;> first | (simp only [eqTr, Bool.and_eq_true] at h; rw [B.eqb_ok h.1.1, ht h.1.2, he h.2]) | cases h
  | both t e ht he => intro u h; cases u <;> first | (simp only [eqTr, Bool.and_eq_true] at h; rw [ht h.1, he h.2]) | cases h
  | con c xs k ih => intro u h; cases u <;> cases h
  | lop c xs m k ih => intro u h; cases u <;> cases h
  | chk c o xs => intro u h; cases u <;> cases h
  | fail => intro u h; cases u <;> cases h
def mergeT (t u : T St) : T St := if eqTr t u then t else .both t u
def allOf (f : Nat → T St) : List Nat → T St
  | [] => .fail
  | [i] => f i
  | i :: l => fT fSt (f i) fun t => fT fSt (allOf f l) fun u => mergeT t u
theorem allOf_den {C : List Con} {Φ : List Int → St → Prop} {r : List Int} {f : Nat → T St} : ∀ {l : List Nat}, (allOf f l).den C Φ r → ∀ i ∈ l, (f i).den C Φ r
  | [], h, i, hi => by cases hi
  | [j], h, i, hi => by rw [List.mem_singleton.1 hi]; exact h
  | j :: k :: l, h, i, hi => by
    simp only [allOf, fT_eq fSt_eq] at h
    unfold mergeT at h
    split at h
    · rename_i he
      rcases List.mem_cons.1 hi with e | e
      · rw [e]; exact h
      · rw [eqTr_ok he] at h; exact allOf_den h i e
    · rcases List.mem_cons.1 hi with e | e
      · rw [e]; exact h.1
      · exact allOf_den h.2 i e
def drawnS (ex : Ex) (tb : Tb) (C : List Con) (ops : Array Oper) (inf : List RI) (mem : List (Option Blk)) : Nat → List Bool → St → T St
  | 0, listed, s => match readyF listed inf listed 0 with
    | [] => .ret s
    | _ => .fail
  | f + 1, listed, s => fL fBool listed fun listed => fL fNat (readyF listed inf listed 0) fun rs => match rs with
    | [] => .ret s
    | rs =>
      match firstSome (fun i => match ops[i]?, inf[i]? with
        | some o, some x => if freeF x i inf listed 0 then yieldOp tb ops mem s.bnd s.tmps o else none
        | _, _ => none) rs with
      | some (i, v) => match ops[i]? with
        | some o => (putK s o v).bind (drawnS ex tb C ops inf mem f (listed.set i true))
        | none => .fail
      | none => allOf (fun i => match ops[i]? with
        | some o => (opS ex tb C false ops s o).bind fun s' => if keeps mem s'.bs then drawnS ex tb C ops inf mem f (listed.set i true) s' else .fail
        | none => .fail) rs
def noDefer (ops : Array Oper) : Bool := ops.all fun o => match o.op with | .defer _ => false | _ => true
def regS (ex : Ex) (tb : Tb) (C : List Con) (ops : Array Oper) (draw : Bool) (s : St) : T St :=
  let t := seqS ex tb C (!draw) ops (List.range ops.size) s
  if draw then
    if Region.noSelect ops && noDefer ops && s.bs.all (wfBlk s.bnd.v.length s.bs.length) then
      fL fRI (rinf ops) fun inf => drawnS ex tb C ops inf (calm s.bs t (s.bs.map some)) ops.size (List.replicate ops.size false) s
    else .fail
  else t
section
variable {P : Program} {tb : Tb} {C : List Con} {N : Nat} {w0 : World} {σ : List (Option Addr × Nat)} {τ : List Value}
theorem same_env {n n' : Env} (he : Ext n n') (h1 : n'.r.length = n.r.length) (h2 : n'.b.length = n.b.length) : n' = n := by
  have e1 := he.r.eq_of_length h1.symm
  have e2 := he.b.eq_of_length h2.symm
  have e3 := he.s
  have e4 := he.t
  have e5 := he.u.eq_of_length (by rw [n.hu, n'.hu, h1])
  cases n; cases n'
  simp_all
/-- Only ways on are allowed. -/
def onlyOn (Q : Exit → Act → World → Prop) : Exit → Act → World → Prop
  | .normal, a, w => Q .normal a w
  | _, _, _ => False
/-- One operation of a region, its guard looked at. -/
def OpRuns (P : Program) (ops : Array Oper) (o : Oper) (a : Act) (w : World) (rd : Bool) (KK : Act → World → Prop) : Prop :=
  (Region.wanted o (yielded ops a.tmps) = true ∧ Runs P o a rd KK ((execOp a.eval o).run P w)) ∨ (Region.wanted o (yielded ops a.tmps) = false ∧ KK (a.put o.dst undef) w)
theorem OpRuns.wp {ops : Array Oper} {i : Nat} {o : Oper} {a : Act} {w : World} {KK : Act → World → Prop} {Q : Exit → Act → World → Prop} (hi : ops[i]? = some o) (h : OpRuns P ops o a w false KK) : wpOp P ops Q i KK a w := by
  unfold wpOp
  simp only [hi]
  rcases h with ⟨h1, h2⟩ | ⟨h1, h2⟩
  · simp only [h1, if_true]; exact .inl h2.wp
  · simp only [h1, Bool.false_eq_true, if_false]; exact h2
theorem OpRuns.wpIn {A : Option Nat} {ops : Array Oper} {i : Nat} {o : Oper} {a : Act} {w : World} {rd : Bool} {KK : Act → World → Prop} {Q : Exit → Act → World → Prop} (hi : ops[i]? = some o) (h : OpRuns P ops o a w rd KK) : wpOpIn (Wd A) 0 P ops Q i KK a w := by
  unfold wpOpIn
  simp only [hi]
  rcases h with ⟨h1, h2⟩ | ⟨h1, h2⟩
  · simp only [h1, if_true]; exact h2.wpIn
  · simp only [h1, Bool.false_eq_true, if_false]; exact ⟨fun _ _ => trivial, h2⟩
theorem opS_ok [TbOk P tb] {ex : Ex} (hex : Snd P C N w0 σ τ ex) (hC : ∀ c ∈ C, ConOk P N w0 σ τ c) (hN : N ≤ w0.heap.size) (hP : Fine P) {n : Env} {s : St} {a : Act} {w : World} {ops : Array Oper} {o : Oper} {Φ : List Int → St → Prop} {rd : Bool} {KK : Act → World → Prop}
    (hns : n.s = σ) (hnt : n.t = τ) (h : Rep N w0 n s a w) (hd : (opS ex tb C rd ops s o).den C Φ n.r)
    (hK : ∀ n' s' a' w', Ext n n' → Rep N w0 n' s' a' w' → Φ n'.r s' → KK a' w') : OpRuns P ops o a w rd KK := by
  unfold opS at hd
  split at hd
  · rename_i v hv
    rw [putK_eq] at hd
    have hk := hK _ _ _ _ (Ext.refl n) (h.put o v) hd
    rcases yieldOp_ok (P := P) h.bnd h.tmps hv with ⟨h1, h2⟩ | ⟨h1, h2⟩
    · exact .inl ⟨h1, by rw [h2 w h.mem.reads]; exact hk⟩
    · rw [h2] at hk; exact .inr ⟨h1, hk⟩
  · split at hd
    · exact hd.elim
    · rename_i hg
      refine .inl ⟨by rw [gdS_ok h.tmps hg]; rfl, ?_⟩
      rw [putT_eq, T.den_bind] at hd
      exact doOp_ok hex hC hN hP hns hnt h hd fun n' v s' w' he hr hφ => hK _ _ _ _ he (hr.put o v) hφ
    · rename_i hg
      rw [putK_eq] at hd
      exact .inr ⟨by rw [gdS_ok h.tmps hg]; rfl, hK _ _ _ _ (Ext.refl n) (h.put o undefS) hd⟩
    · rename_i g _ _ hg
      rw [assumeK_eq] at hd
      have hboth : (T.ite g (putT o (doOp ex tb C rd (assume s g true) o)) (assumeK s g false fun s => putK s o undefS)).den C Φ n.r → OpRuns P ops o a w rd KK := fun hd => by
        rw [assumeK_eq, putK_eq] at hd
        simp only [T.den, B.prop_iff] at hd
        cases hb : g.den n.r with
        | true =>
          have hd1 := hd.1 hb
          rw [putT_eq, T.den_bind] at hd1
          exact .inl ⟨by rw [gdS_ok h.tmps hg, hb], doOp_ok hex hC hN hP hns hnt (h.assume hb) hd1 fun n' v s' w' he hr hφ => hK _ _ _ _ he (hr.put o v) hφ⟩
        | false =>
          exact .inr ⟨by rw [gdS_ok h.tmps hg, hb], hK _ _ _ _ (Ext.refl n) ((h.assume hb).put o undefS) (hd.2 (by simp [hb]))⟩
      unfold specS at hd
      split at hd
      · rename_i x s' hdo
        split at hd
        · rename_i hc
          simp only [Bool.and_eq_true] at hc
          rw [putK_eq] at hd
          cases hb : g.den n.r with
          | true =>
            refine .inl ⟨by rw [gdS_ok h.tmps hg, hb], doOp_ok (Φ := fun r p => r = n.r ∧ p = (.p x, s')) hex hC hN hP hns hnt (h.assume hb) (by rw [hdo]; exact ⟨rfl, rfl⟩) fun n' v s2 w' he hr hφ => ?_⟩
            obtain ⟨hφ1, hφ2⟩ := hφ
            cases hφ2
            have hlen : n'.b.length = n.b.length := by rw [hr.lens.2, h.lens.2, eqBlks_ok hc.1]
            obtain rfl := same_env he (by rw [hφ1]) hlen
            refine hK _ _ _ _ (Ext.refl _) ?_ hd
            have h2 : Rep N w0 n' s a w' := ⟨h.bnd, by rw [← eqBlks_ok hc.1]; exact hr.mem, hr.below, h.act⟩
            have h3 := h2.put o (.g g x)
            simp only [SV.den, hb, if_true] at h3
            exact h3
          | false =>
            refine .inr ⟨by rw [gdS_ok h.tmps hg, hb], hK _ _ _ _ (Ext.refl n) ?_ hd⟩
            have h3 := h.put o (.g g x)
            simp only [SV.den, hb, Bool.false_eq_true, if_false] at h3
            exact h3
        · exact hboth hd
      · exact hboth hd
theorem seqS_ok [TbOk P tb] {ex : Ex} (hex : Snd P C N w0 σ τ ex) (hC : ∀ c ∈ C, ConOk P N w0 σ τ c) (hN : N ≤ w0.heap.size) (hP : Fine P) {ops : Array Oper} {A : Option Nat} {rd : Bool} {Q : Exit → Act → World → Prop} :
    ∀ (l : List Nat) (n : Env) (s : St) (a : Act) (w : World) (Φ : List Int → St → Prop), n.s = σ → n.t = τ → Rep N w0 n s a w → (seqS ex tb C rd ops l s).den C Φ n.r →
    (∀ n' s' a' w', Ext n n' → Rep N w0 n' s' a' w' → Φ n'.r s' → Q .normal a' w') → wpOpsIn (Wd A) 0 P ops Q l a w
  | [], n, s, a, w, Φ, hns, hnt, h, hd, hK => hK _ _ _ _ (Ext.refl n) h hd
  | i :: l, n, s, a, w, Φ, hns, hnt, h, hd, hK => by
    simp only [seqS] at hd
    split at hd
    · exact hd.elim
    · rename_i o ho
      rw [T.den_bind] at hd
      rw [wpOpsIn_cons]
      exact OpRuns.wpIn ho (opS_ok (P := P) hex hC hN hP hns hnt h hd fun n' s' a' w' he hr hφ => seqS_ok hex hC hN hP l n' s' a' w' Φ (he.s.trans hns) (he.t.trans hnt) hr hφ fun n2 s2 a2 w2 he2 hr2 hφ2 => hK n2 s2 a2 w2 (he.trans he2) hr2 hφ2)
/-- From one layer of the walk to the other. -/
theorem wpOps_in {ops : Array Oper} {A : Option Nat} {Q : Exit → Act → World → Prop} : ∀ (l : List Nat) (a : Act) (w : World), wpOps P ops (onlyOn Q) l a w → (∀ (i : Nat) (o : Oper) c, ops[i]? = some o → o.op ≠ .defer c) → wpOpsIn (Wd A) 0 P ops (onlyOn Q) l a w
  | [], a, w, h, _ => h
  | i :: l, a, w, h, hd => by
    simp only [wpOps] at h
    simp only [wpOpsIn]
    cases ho : ops[i]? with
    | none => rw [ho] at h; exact wpOps_in l a w h hd
    | some o =>
      rw [ho] at h
      simp only at h ⊢
      split
      · rename_i hw
        simp only [hw, if_true] at h
        rcases h with h | ⟨_, a0, w0, h⟩
        · refine ⟨fun _ _ => trivial, ?_⟩
          rw [Oper.semAt_eq _ _ _ fun c => hd i o c ho]
          unfold Oper.wp at h
          generalize (execOp a.eval o).run P w = r at *
          cases r with
          | halt x w' => cases x <;> first | exact h.elim | exact h
          | ok x w' =>
            cases x with
            | value v => exact wpOps_in l _ _ h hd
            | skip => exact wpOps_in l _ _ h hd
            | defer d => exact wpOps_in l _ _ h hd
            | enter f args =>
              refine ⟨fun hx => by simp [Wd] at hx, ?_⟩
              refine CallsIn.mono (F := Wd A) (n := 0 - 1) ((callsIn_wide (n := 0)).2 h) fun e w'' he => ?_
              cases e with
              | returned v => exact wpOps_in l _ _ he hd
              | panicked c => exact he.elim
              | outgrown => exact he
            | row row args =>
              refine ⟨fun hx => by simp [Wd] at hx, ?_⟩
              intro c cs hroom
              obtain ⟨v, w'', hr, hs⟩ := h c cs
              exact ⟨v, w'', wpOps_in l _ _ hr hd, (stepsIn_wide (P := P)).2 hs⟩
            | _ => exact h.elim
        · exact h.elim
      · rename_i hw
        simp only [hw, if_false, Bool.false_eq_true] at h
        exact ⟨fun _ _ => trivial, wpOps_in l _ _ h hd⟩
theorem calm_len {bs : List Blk} : ∀ (t : T St) (m : List (Option Blk)) (i : Nat) (b : Blk), (calm bs t m)[i]? = some (some b) → m[i]? = some (some b)
  | .ret s, m, i, b, h => by
    simp only [calm, List.getElem?_map, List.getElem?_zip_eq_some, Option.map_eq_some_iff, Prod.exists] at h
    obtain ⟨x, c, hz, h2⟩ := h
    have h1 := hz
    cases x with
    | none => simp at h2
    | some x =>
      simp only at h2
      split at h2
      · cases h2; exact h1.1
      · cases h2
  | .ite _ t e, m, i, b, h => calm_len t m i b (calm_len e _ i b h)
  | .both t e, m, i, b, h => calm_len t m i b (calm_len e _ i b h)
  | .con _ _ k, m, i, b, h => calm_len k m i b h
  | .lop _ _ _ k, m, i, b, h => calm_len k m i b h
  | .chk _ _ _, m, i, b, h => h
  | .fail, m, i, b, h => h
theorem drawnS_ok [TbOk P tb] {ex : Ex} (hex : Snd P C N w0 σ τ ex) (hC : ∀ c ∈ C, ConOk P N w0 σ τ c) (hN : N ≤ w0.heap.size) (hP : Fine P) {ops : Array Oper} {Q : Exit → Act → World → Prop} (hsel : Region.noSelect ops = true)
    {mem : List (Option Blk)} {n0 : Env} (hwf : ∀ i b, mem[i]? = some (some b) → wfBlk n0.r.length n0.b.length b = true ∧ i < n0.b.length) :
    ∀ (f : Nat) (listed : List Bool) (n : Env) (s : St) (a : Act) (w : World) (Φ : List Int → St → Prop), Ext n0 n → n.s = σ → n.t = τ → Rep N w0 n s a w → Reads n0 mem w → (drawnS ex tb C ops (rinf ops) mem f listed s).den C Φ n.r →
    (∀ n' s' a' w', Ext n n' → Rep N w0 n' s' a' w' → Φ n'.r s' → Q .normal a' w') → wpAnyH P .any ops (onlyOn Q) (Reads n0 mem) f ⟨listed⟩ a w := by
  have hread : ∀ n w, Ext n0 n → Reads n0 mem w → Reads n mem w := fun n w he hR i b hi => by
    have h1 := hwf i b hi
    rw [getD_prefix he.b h1.2, wfBlk_at he b _ h1.1]
    exact hR i b hi
  have hnil : ∀ l : List Bool, readyF l (rinf ops) l 0 = [] → Region.ready .any ops ⟨l⟩ = [] := fun l h => by
    cases hr : Region.ready .any ops ⟨l⟩ with
    | nil => rfl
    | cons i r =>
      have : i ∈ readyF l (rinf ops) l 0 := ready_iff.2 (by rw [hr]; exact List.mem_cons_self ..)
      rw [h] at this; cases this
  intro f
  induction f with
  | zero =>
    intro listed n s a w Φ he hns hnt h hR hd hK
    simp only [drawnS] at hd
    split at hd
    · rename_i hr; exact wpAnyH_done (P := P) (S := Reads n0 mem) (Q := onlyOn Q) (hnil _ hr) (hK _ _ _ _ (Ext.refl n) h hd) 0
    · exact hd.elim
  | succ f ih =>
    intro listed n s a w Φ he hns hnt h hR hd hK
    simp only [drawnS, fL_eq fBool_eq, fL_eq fNat_eq] at hd
    split at hd
    · rename_i hr; exact wpAnyH_done (P := P) (S := Reads n0 mem) (Q := onlyOn Q) (hnil _ hr) (hK _ _ _ _ (Ext.refl n) h hd) _
    · rename_i rs hne
      split at hd
      · rename_i i v hfs
        obtain ⟨hmem, hf⟩ := firstSome_ok hfs
        split at hd
        · rename_i o ho
          rw [ho] at hf
          split at hf
          · rename_i o' x ho' hx
            cases ho'
            split at hf
            · rename_i hfree
              have hy := yieldOp_ok (P := P) h.bnd h.tmps hf
              have hy' : YieldsIf P ops (Reads n0 mem) o (v.den n) a := by
                rcases hy with ⟨h1, h2⟩ | h3
                · exact .inl ⟨h1, fun w hw => h2 w (hread n w he hw)⟩
                · exact .inr h3
              have hx' : x = riOf ops o := by
                have e : ops.toList[i]? = some o := by simpa using ho
                rw [rinf, List.getElem?_map, e] at hx
                cases hx; rfl
              refine wpAnyH_first (P := P) (S := Reads n0 mem) ho (Region.noSelect_spec hsel) (fun c a w hq => hq) f ⟨listed⟩ a w ?_ (ready_iff.1 hmem) hy' hR ?_
              · intro j oj hj hne' hun hno
                have hl : listed[j]? = some false := by
                  simp only [Array.getD_eq_getD_getElem?, List.getElem?_toArray] at hun
                  cases hc : listed[j]? with
                  | none => rw [hc] at hun; cases hun
                  | some b => rw [hc] at hun; simp at hun; rw [hun]
                have hr : (rinf ops)[j]? = some (riOf ops oj) := by
                  have e : ops.toList[j]? = some oj := by simpa using hj
                  rw [rinf, List.getElem?_map, e]; rfl
                have := freeF_ok x i (rinf ops) listed 0 hfree j (riOf ops oj) hr hl (by omega) (by
                  cases hc : has (riOf ops oj).after i with
                  | false => rfl
                  | true =>
                    have := has_iff.1 hc
                    obtain ⟨e, he, h2⟩ := List.mem_map.1 this
                    rw [List.mem_filter] at he
                    exact absurd h2 (hno e (by simpa using he.1) he.2))
                rw [hx'] at this
                exact apartF_ok this
              · rw [putK_eq] at hd
                have := ih _ n _ _ w Φ he hns hnt (h.put o v) hR hd hK
                simpa using this
            · cases hf
          · cases hf
        · exact hd.elim
      · refine ⟨fun hr => ?_, fun i hi => ?_⟩
        · refine absurd ?_ hne
          cases hq : readyF listed (rinf ops) listed 0 with
          | nil => rfl
          | cons i r =>
            have : i ∈ Region.ready .any ops ⟨listed⟩ := ready_iff.1 (by rw [hq]; exact List.mem_cons_self ..)
            rw [hr] at this; cases this
        have hdi := allOf_den hd i (ready_iff.2 hi)
        split at hdi
        · rename_i o ho
          rw [T.den_bind] at hdi
          refine OpRuns.wp ho (opS_ok (P := P) hex hC hN hP hns hnt h hdi fun n' s' a' w' he' hr' hφ' => ?_)
          split at hφ'
          · rename_i hkeep
            have hR' : Reads n0 mem w' := fun j b hj => by
              have h1 := hwf j b hj
              have h2 := (hr'.mem.2.2 j b (keeps_ok hkeep j b hj)).2
              rw [getD_prefix (he.trans he').b h1.2, wfBlk_at (he.trans he') b _ h1.1] at h2
              exact h2
            have := ih _ n' s' a' w' Φ (he.trans he') (he'.s.trans hns) (he'.t.trans hnt) hr' hR' hφ' fun n2 s2 a2 w2 he2 hr2 hφ2 => hK n2 s2 a2 w2 (he'.trans he2) hr2 hφ2
            exact ⟨hR', by simpa using this⟩
          · exact hφ'.elim
        · exact hdi.elim
theorem noDefer_ok {ops : Array Oper} (h : noDefer ops = true) (i : Nat) (o : Oper) (c : Call) (ho : ops[i]? = some o) : o.op ≠ .defer c := by
  intro heq
  have := Array.all_eq_true_iff_forall_mem.1 h o (Array.mem_of_getElem? ho)
  simp [heq] at this
theorem regS_ok [TbOk P tb] {ex : Ex} (hex : Snd P C N w0 σ τ ex) (hC : ∀ c ∈ C, ConOk P N w0 σ τ c) (hN : N ≤ w0.heap.size) (hP : Fine P) {id : Nat} {ops : Array Oper} {draw : Bool} {A : Option Nat} {n : Env} {s : St} {a : Act} {w : World} {Φ : List Int → St → Prop} {Q : Exit → Act → World → Prop}
    (hns : n.s = σ) (hnt : n.t = τ) (h : Rep N w0 n s a w) (hd : (regS ex tb C ops draw s).den C Φ n.r)
    (hK : ∀ n' s' a' w', Ext n n' → Rep N w0 n' s' a' w' → Φ n'.r s' → Q .normal a' w') : (Code.region id ops draw).wpIn (Wd A) 0 P Q a w := by
  unfold regS at hd
  cases draw with
  | false => exact wpIn_region (seqS_ok hex hC hN hP _ n s a w Φ hns hnt h hd hK)
  | true =>
    simp only [if_true] at hd
    split at hd
    · rename_i hc
      simp only [Bool.and_eq_true] at hc
      have hrep : Rep N w0 n s a { w with drawn := w.drawn + 1 } := ⟨h.bnd, h.mem, h.below.drew, h.act⟩
      have hmem : ∀ (i : Nat) (b : Blk), (calm s.bs (seqS ex tb C (!true) ops (List.range ops.size) s) (s.bs.map some))[i]? = some (some b) → s.bs[i]? = some b := fun i b hi => by
        have := calm_len _ _ i b hi
        rw [List.getElem?_map] at this
        cases hb : s.bs[i]? with
        | none => rw [hb] at this; cases this
        | some c => rw [hb] at this; cases this; rfl
      rw [fL_eq fRI_eq] at hd
      have h2 := drawnS_ok (P := P) (Q := Q) hex hC hN hP hc.1.1 (n0 := n) (fun i b hi => by
        have hb := hmem i b hi
        refine ⟨?_, ?_⟩
        · rw [h.lens.1, h.lens.2]; exact List.all_eq_true.1 hc.2 b (List.mem_of_getElem? hb)
        · rw [h.lens.2]; exact (List.getElem?_eq_some_iff.1 hb).1) ops.size _ n s a _ Φ (Ext.refl n) hns hnt hrep (fun i b hi => (hrep.mem.2.2 i b (hmem i b hi)).2) hd hK
      refine wpIn_mono (wpIn_region_draw fun t => ?_) (Q := onlyOn Q) fun e a w hq => ?_
      · simp only [Region.schedule, hP.mixed, Bool.true_or, if_true]
        refine wpOps_in _ _ _ ?_ (noDefer_ok hc.1.2)
        refine wpAny_sound ops.size t _ a _ ?_
        have h3 := wpAny_of_held _ _ _ _ h2
        simpa using h3
      · cases e <;> first | exact hq | exact hq.elim
    · exact hd.elim
end
end Go.Sx

/- A symbolic executor: code, and whole calls. -/
namespace Go.Sx
open Go.RowKit
set_option linter.unusedVariables false
set_option linter.unusedSimpArgs false
def loopS (ex : Ex) (ro : Option Nat) (body : Code) : Nat → St → T (X × St)
  | 0, _ => .fail
  | f + 1, s => (ex ro body s).bind fun p => match p.1 with
    | .nrm => loopS ex ro body f p.2
    | _ => .ret p
/-- The blocks that a range over a function lays, and the number of its record. -/
def enterS (ro : Option Nat) (s : St) (ps : Array Tmp) (assign body : Code) : Option (Nat × St) :=
  match s with
  | ⟨t, b, n, d⟩ => match ro with
    | none => some (b.length + 1, ⟨t, b ++ [⟨[], 0, some (.dfr true)⟩, ⟨[], 0, some (.loop 0 none t ps assign body b.length)⟩], n, b.length :: d⟩)
    | some l0 => match b[l0]? with
      | some ⟨_, _, some (.loop _ _ _ _ _ _ d0)⟩ => some (b.length, ⟨t, b ++ [⟨[], 0, some (.loop 0 none t ps assign body d0)⟩], n, d⟩)
      | _ => none
/-- What follows the call of a function that is ranged over. -/
def afterS (ex : Ex) (ro : Option Nat) (l : Nat) (p : SV × St) : T (X × St) :=
  match p.2.bs[l]? with
  | some ⟨_, _, some (.loop 1 _ _ _ _ _ _)⟩ => .fail
  | some ⟨_, _, some (.loop _ pe _ _ _ _ _)⟩ => match loopAt p.2 l 3 none with
    | some s3 => match pe with
      | none => .ret (.nrm, s3)
      | some c => ex ro c s3
    | none => .fail
  | _ => .fail
def rangeS (ex : Ex) (tb : Tb) (C : List Con) (ro : Option Nat) (s : St) (f : Operand) (ps : Array Tmp) (assign body : Code) : T (X × St) :=
  if wfSt s then
    match opP s.tmps [] f with
    | some (.c (.clo (.func g) [] cap)) =>
      if (tb.func g).any (fun fn => fn.body.isSome) then
        match enterS ro s ps assign body with
        | some (l, s1) => (fMem s1 fun s1 => callS ex tb C s1 g (.c (.k (.yld l)) :: cap.map (fun k => .c (.k k)))).bind (afterS ex ro l)
        | none => .fail
      else .fail
    | _ => .fail
  else .fail
section
variable {P : Program} {tb : Tb} {C : List Con} {N : Nat} {w0 : World} {σ : List (Option Addr × Nat)} {τ : List Value}
theorem loopS_ok {ex : Ex} (hex : Snd P C N w0 σ τ ex) {ro : Option Nat} {body : Code} {A : Option Nat} {Q : Exit → Act → World → Prop} : ∀ (f : Nat) (s : St) (n : Env) (a : Act) (w : World) (Φ : List Int → X × St → Prop), n.s = σ → n.t = τ → (∀ l, ro = some l → l < n.b.length) → A = (ro.map fun l => n.b.getD l 0) → Rep N w0 n s a w →
    (loopS ex ro body f s).den C Φ n.r → (∀ n' x s' a' w', Ext n n' → Rep N w0 n' s' a' w' → Φ n'.r (x, s') → Q x.exit a' w') → Code.roundsIn (Wd A) 0 P body Q f a w
  | 0, s, n, a, w, Φ, _, _, _, _, _, hd, _ => hd.elim
  | f + 1, s, n, a, w, Φ, hns, hnt, hro, hA, h, hd, hK => by
    rw [roundsIn_succ]
    simp only [loopS] at hd
    rw [T.den_bind] at hd
    rw [hA]
    refine hex ro body s n a w _ _ hns hnt hro h hd fun n' x s' a' w' he hr hφ => ?_
    cases x with
    | nrm =>
      rw [← hA]
      exact loopS_ok hex f s' n' a' w' Φ (he.s.trans hns) (he.t.trans hnt) (ro_lt he hro) (hA.trans (ro_ext he hro).symm) hr hφ fun n2 x2 s2 a2 w2 he2 hr2 hφ2 => hK n2 x2 s2 a2 w2 (he.trans he2) hr2 hφ2
    | ext id => exact hK n' (.ext id) s' a' w' he hr hφ
    | ret => exact hK n' .ret s' a' w' he hr hφ
theorem enterS_ok {ro : Option Nat} {s s1 : St} {ps : Array Tmp} {assign body : Code} {n : Env} {a : Act} {w : World} {l : Nat} (hN : N ≤ w0.heap.size) (h : Rep N w0 n s a w) (hw : wfSt s = true) (hro : ∀ l, ro = some l → l < n.b.length)
    (hent : enterS ro s ps assign body = some (l, s1)) (fn : FuncId) : ∃ (mark : List Deferred) (w1 : World) (m : Env), (Instr.enterLoop fn a.tmps ps assign body (ro.map fun l => n.b.getD l 0)).run P w = .ok (m.b.getD l 0, mark) w1 ∧
      Ext n m ∧ l < m.b.length ∧ Rep N w0 m s1 { a with defers := mark ++ a.defers } w1 := by
  have hw' := hw
  simp only [wfSt, Bool.and_eq_true] at hw'
  have hwt : s.tmps.all (wfS n.r.length n.b.length) = true := by rw [h.lens.1, h.lens.2]; exact hw'.1.1
  have hwb : s.bs.all (wfBlk n.r.length n.b.length) = true := by rw [h.lens.1, h.lens.2]; exact hw'.1.2
  have hwd : (s.df.all fun d => Nat.blt d n.b.length) = true := by rw [h.lens.2]; exact hw'.2
  have hN' : N ≤ w.heap.size := Nat.le_trans hN h.below.size
  unfold enterS at hent
  obtain ⟨st, sb, sn, sd⟩ := s
  simp only at hent
  cases ro with
  | none =>
    simp only [Option.some.injEq, Prod.mk.injEq] at hent
    obtain ⟨rfl, rfl⟩ := hent
    have hx1 := newEnv_ext n w.heap.size
    have hx2 := newEnv_ext (newEnv n w.heap.size) (w.heap.size + 1)
    have hlen : n.b.length = sb.length := h.lens.2
    have eD : (newEnv (newEnv n w.heap.size) (w.heap.size + 1)).b.getD sb.length 0 = w.heap.size := by
      simp [newEnv, List.getD_eq_getElem?_getD, ← hlen]
    have eL : (newEnv (newEnv n w.heap.size) (w.heap.size + 1)).b.getD (sb.length + 1) 0 = w.heap.size + 1 := by
      simp [newEnv, List.getD_eq_getElem?_getD, ← hlen]
    refine ⟨[{ target := .collected w.heap.size, args := #[] }], (w.alloc (.deferred (some []))).alloc (.loop { state := .ready, pending := none, fn, tmps := a.tmps, params := ps, assign, body, defers := w.heap.size }), newEnv (newEnv n w.heap.size) (w.heap.size + 1), ?_, hx1.trans hx2, by simp [newEnv, hlen], ?_⟩
    · rw [eL]; exact run_enterLoop_outer fn a.tmps ps assign body
    · have m1 : Mem N (newEnv n w.heap.size) (sb ++ [⟨[], 0, some (.dfr true)⟩]) (w.alloc (.deferred (some []))) := h.mem.newB hN' hwb ⟨0, rfl⟩
      have hs1 : (w.alloc (.deferred (some []))).heap.size = w.heap.size + 1 := by simp
      have wb1 : (sb ++ [⟨[], 0, some (.dfr true)⟩] : List Blk).all (wfBlk (newEnv n w.heap.size).r.length (newEnv n w.heap.size).b.length) = true := by
        rw [List.all_append, Bool.and_eq_true]
        refine ⟨List.all_eq_true.2 fun k hk => ?_, rfl⟩
        exact wfBlk_mono (by simp [newEnv]) k (List.all_eq_true.1 hwb k hk)
      have m2 := m1.newB (k := ⟨[], 0, some (.loop 0 none st ps assign body sb.length)⟩) (o := .loop { state := .ready, pending := none, fn, tmps := a.tmps, params := ps, assign, body, defers := w.heap.size }) (by rw [hs1]; omega) wb1 ⟨fn, by
        rw [hs1]
        simp only [Lq.obj, eD, h.tmps, wfSs_den (hx1.trans hx2) st hwt]
        rfl⟩
      rw [hs1] at m2
      refine ⟨h.bnd, ?_, (h.below.alloc hN' _).alloc (by rw [hs1]; omega) _, ?_⟩
      · simpa using m2
      · rw [h.act]
        simp only [List.map_cons, eD, wfSs_den (hx1.trans hx2) st hwt, wfDf (hx1.trans hx2) sd hwd]
        rfl
  | some l0 =>
    simp only at hent
    split at hent
    · rename_i c t q1 q2 q3 q4 q5 q6 d0 hb
      simp only [Option.some.injEq, Prod.mk.injEq] at hent
      obtain ⟨rfl, rfl⟩ := hent
      have hx1 := newEnv_ext n w.heap.size
      have hlen : n.b.length = sb.length := h.lens.2
      have hb0 := h.mem.2.2 l0 _ hb
      obtain ⟨f0, hb1⟩ := hb0.2
      have eL : (newEnv n w.heap.size).b.getD sb.length 0 = w.heap.size := by
        simp [newEnv, List.getD_eq_getElem?_getD, ← hlen]
      have wd0 : d0 < n.b.length := by
        have := List.all_eq_true.1 hwb _ (List.mem_of_getElem? hb)
        simp only [wfBlk, wfLq, Bool.and_eq_true] at this
        exact blt_lt this.2.2
      have hrun : (Instr.enterLoop fn a.tmps ps assign body ((some l0).map fun l => n.b.getD l 0)).run P w = .ok (w.heap.size, []) (w.alloc (.loop { state := .ready, pending := none, fn, tmps := a.tmps, params := ps, assign, body, defers := n.b.getD d0 0 })) := by
        unfold Instr.enterLoop
        simp only [Option.map_some, Sem.run_bind, run_getLoop hb1, run_newObj_alloc, Result.andThen, Sem.run_pure]
      refine ⟨[], w.alloc (.loop { state := .ready, pending := none, fn, tmps := a.tmps, params := ps, assign, body, defers := n.b.getD d0 0 }), newEnv n w.heap.size, ?_, hx1, by simp [newEnv, hlen], ?_⟩
      · rw [eL]; exact hrun
      · have m1 := h.mem.newB (k := ⟨[], 0, some (.loop 0 none st ps assign body d0)⟩) (o := .loop { state := .ready, pending := none, fn, tmps := a.tmps, params := ps, assign, body, defers := n.b.getD d0 0 }) hN' hwb ⟨fn, by
          simp only [Lq.obj, h.tmps, wfSs_den hx1 st hwt, getD_prefix hx1.b wd0]
          rfl⟩
        refine ⟨h.bnd, m1, h.below.alloc hN' _, ?_⟩
        rw [h.act]
        simp only [wfSs_den hx1 st hwt, wfDf hx1 sd hwd]
        rfl
    · cases hent
theorem opd_wf {n : Env} {tmps : List SV} (hwt : tmps.all (wfS n.r.length n.b.length) = true) {f : Operand} {g : FuncId} {cap : List K} (hf : opP tmps [] f = some (.c (.clo (.func g) [] cap))) : cap.all (wfK n.r.length n.b.length) = true := by
  have hwf : wfP n.r.length n.b.length (.c (.clo (.func g) [] cap)) = true := by
    unfold opP opd at hf
    split at hf
    · rename_i y hy
      cases hf
      cases f with
      | tmp t =>
        simp only at hy
        split at hy
        · rename_i b x hx
          split at hy
          · cases hy
            have := List.all_eq_true.1 hwt _ (List.mem_of_getElem? hx)
            simp only [wfS, Bool.and_eq_true] at this
            exact this.2
          · cases hy
        · rename_i hx
          cases hy
          exact List.all_eq_true.1 hwt _ (List.mem_of_getElem? hx)
        · cases hy
      | const c =>
        simp only at hy
        unfold ofValue at hy
        split at hy
        · rename_i vs; cases hq : ofPVs vs.toList with
          | none => rw [hq] at hy; cases hy
          | some y => rw [hq] at hy; cases hy
        · unfold ofPV at hy
          split at hy
          · rename_i cs _; cases hq : ofCells cs.toList with
            | none => rw [hq] at hy; cases hy
            | some y => rw [hq] at hy; cases hy
          · simp only [Option.map_map, Option.map_eq_some_iff] at hy
            obtain ⟨x, hx, hy⟩ := hy
            simp only [Function.comp, SV.p.injEq, PV.c.injEq] at hy
            subst hy
            unfold ofCell at hx
            split at hx <;> cases hx
      | global g => cases hy
      | func g => cases hy; rfl
    · cases hf
  simp only [wfP, wfC, Bool.and_eq_true] at hwf
  exact hwf.2
end
end Go.Sx

/- A symbolic executor: what all leaves of a tree have; what never changes of the record of a loop. -/
namespace Go.Sx
open Go.RowKit
set_option linter.unusedVariables false
set_option linter.unusedSimpArgs false
def T.All {α : Type} (p : α → Prop) : T α → Prop
  | .ret a => p a
  | .ite _ t e => t.All p ∧ e.All p
  | .both t e => t.All p ∧ e.All p
  | .con _ _ k => k.All p
  | .lop _ _ _ k => k.All p
  | .chk _ _ _ => True
  | .fail => True
theorem T.All_bind {α β : Type} {p : β → Prop} (t : T α) (f : α → T β) : (t.bind f).All p ↔ t.All fun a => (f a).All p := by
  induction t with
  | ret a => exact Iff.rfl
  | ite b t e ht he => simp only [T.bind, T.All, ht, he]
  | both t e ht he => simp only [T.bind, T.All, ht, he]
  | con c xs k hk => simp only [T.bind, T.All, hk]
  | lop c xs m k hk => simp only [T.bind, T.All, hk]
  | chk c o xs => exact Iff.rfl
  | fail => exact Iff.rfl
theorem T.All_mono {α : Type} {p q : α → Prop} (h : ∀ a, p a → q a) (t : T α) : t.All p → t.All q := by
  induction t with
  | ret a => exact h a
  | ite b t e ht he => exact fun x => ⟨ht x.1, he x.2⟩
  | both t e ht he => exact fun x => ⟨ht x.1, he x.2⟩
  | con c xs k hk => exact hk
  | lop c xs m k hk => exact hk
  | chk c o xs => exact id
  | fail => exact id
theorem T.All_den {α : Type} {p : α → Prop} {C : List Con} {Φ : List Int → α → Prop} (t : T α) : ∀ r, t.All p → t.den C Φ r → t.den C (fun r a => Φ r a ∧ p a) r := by
  induction t with
  | ret a => exact fun r h x => ⟨x, h⟩
  | ite b t e ht he => exact fun r h x => ⟨fun hb => ht r h.1 (x.1 hb), fun hb => he r h.2 (x.2 hb)⟩
  | both t e ht he => exact fun r h x => ⟨ht r h.1 x.1, he r h.2 x.2⟩
  | con c xs k hk =>
    intro r h x
    simp only [T.den] at *
    split
    · rename_i hc; rw [hc] at x; exact x.elim
    · rename_i c' hc
      rw [hc] at x
      exact ⟨x.1, fun ys h1 h2 h3 => hk _ h (x.2 ys h1 h2 h3)⟩
  | lop c xs m k hk =>
    intro r h x
    simp only [T.den] at *
    split
    · rename_i hc; rw [hc] at x; exact x.elim
    · rename_i c' hc
      rw [hc] at x
      exact ⟨x.1, fun ys h1 h2 h3 => hk _ h (x.2 ys h1 h2 h3)⟩
  | chk c o xs => exact fun r h x => x
  | fail => exact fun r h x => x
def Stat (bs bs' : List Blk) : Prop := ∀ (j : Nat) (c : List CV) (t : TypeId) (st : Nat) (pe : Option Code) (tm : List SV) (ps : Array Tmp) (a b : Code) (d : Nat), bs[j]? = some ⟨c, t, some (.loop st pe tm ps a b d)⟩ →
  ∃ (c' : List CV) (t' : TypeId) (st' : Nat) (pe' : Option Code), bs'[j]? = some ⟨c', t', some (.loop st' pe' tm ps a b d)⟩
theorem Stat.refl (bs : List Blk) : Stat bs bs := fun j c t st pe tm ps a b d h => ⟨c, t, st, pe, h⟩
theorem Stat.trans {x y z : List Blk} (h : Stat x y) (k : Stat y z) : Stat x z := fun j c t st pe tm ps a b d hj => by
  obtain ⟨c', t', st', pe', h'⟩ := h j c t st pe tm ps a b d hj
  exact k j c' t' st' pe' tm ps a b d h'
theorem Stat.app (bs l : List Blk) : Stat bs (bs ++ l) := fun j c t st pe tm ps a b d hj => ⟨c, t, st, pe, by rw [List.getElem?_append_left (List.getElem?_eq_some_iff.1 hj).1]; exact hj⟩
theorem Stat.take {bs l : List Blk} (h : Stat bs l) : Stat bs (l.take bs.length) := fun j c t st pe tm ps a b d hj => by
  obtain ⟨c', t', st', pe', h'⟩ := h j c t st pe tm ps a b d hj
  exact ⟨c', t', st', pe', by rw [List.getElem?_take, if_pos (List.getElem?_eq_some_iff.1 hj).1]; exact h'⟩
theorem Stat.set {bs : List Blk} {i : Nat} {k k' : Blk} (hk : bs[i]? = some k) (h : ∀ st pe tm ps a b d, k.kd = some (.loop st pe tm ps a b d) → ∃ st' pe', k'.kd = some (.loop st' pe' tm ps a b d)) : Stat bs (bs.set i k') := fun j c t st pe tm ps a b d hj => by
  by_cases e : i = j
  · subst e
    rw [hk] at hj
    cases hj
    obtain ⟨st', pe', h'⟩ := h st pe tm ps a b d rfl
    obtain ⟨c', t', kd⟩ := k'
    simp only at h'
    subst h'
    exact ⟨c', t', st', pe', by rw [List.getElem?_set_self (List.getElem?_eq_some_iff.1 hk).1]⟩
  · exact ⟨c, t, st, pe, by rw [List.getElem?_set_ne e]; exact hj⟩
def StEx (ex : Ex) : Prop := ∀ ro c s, (ex ro c s).All fun p => Stat s.bs p.2.bs
abbrev St2 (s : St) (t : T (SV × St)) : Prop := t.All fun p => Stat s.bs p.2.bs
theorem put_bs (s : St) (o : Oper) (v : SV) : (put s o v).bs = s.bs := rfl
theorem assume_bs (s : St) (g : B) (t : Bool) : (assume s g t).bs = s.bs := rfl
theorem newS_st (s : St) (cells : List CV) (ty : TypeId) (v : Nat → SV) : St2 s (newS s cells ty v) := by
  unfold newS; split
  · exact Stat.app _ _
  · trivial
theorem storeS_st (tb : Tb) (s : St) (t : TypeId) (a : K) (v : PV) : St2 s (storeS tb s t a v) := by
  unfold storeS
  split
  · split
    · rename_i hk
      split
      · exact Stat.set hk (fun _ _ _ _ _ _ _ h => by cases h)
      · trivial
    · trivial
  · trivial
theorem bslS_st (tb : Tb) (s : St) (t : TypeId) (len : Nat) (l : List (Nat × PV)) : St2 s (bslS tb s t len l) := by
  unfold bslS
  split
  · split
    · split
      · trivial
      · split
        · exact newS_st ..
        · trivial
    · trivial
  · trivial
theorem closeS_st : ∀ (l : List Nat) (bs b2 : List Blk), closeS l bs = some b2 → Stat bs b2
  | [], bs, b2, h => by cases h; exact Stat.refl _
  | d :: l, bs, b2, h => by
    simp only [closeS] at h
    split at h
    · rename_i hd
      exact (Stat.set hd (fun _ _ _ _ _ _ _ h => by cases h)).trans (closeS_st l _ _ h)
    · cases h
theorem shut_st {s s' : St} (h : Stat s.bs s'.bs) (v : SV) : Stat s.bs (shut s s' v).2.bs := by
  unfold shut; simp only; split
  · exact h.take
  · exact h
theorem loopAt_st {s s1 : St} {l st : Nat} {pe : Option (Option Code)} (h : loopAt s l st pe = some s1) : Stat s.bs s1.bs := by
  unfold loopAt at h
  split at h
  · rename_i hb
    cases h
    exact Stat.set hb (fun _ _ _ _ _ _ _ h => by cases h; exact ⟨_, _, rfl⟩)
  · cases h
section
variable {ex : Ex} (hex : StEx ex) (tb : Tb) (C : List Con)
include hex
theorem callS_st (s : St) (g : FuncId) (args : List PV) : St2 s (callS ex tb C s g args) := by
  unfold callS
  split
  · split
    · split
      · split
        · split
          · exact Stat.refl _
          · trivial
        · trivial
      · trivial
    · split
      · split
        · rename_i c _
          rw [fSp_eq]
          unfold St2
          rw [T.All_bind]
          refine T.All_mono ?_ _ (hex none c _)
          intro p hp
          split
          · trivial
          · split
            · rename_i hcl
              split
              · exact shut_st (s := s) (Stat.trans (x := s.bs) hp (closeS_st _ _ _ hcl)) _
              · trivial
            · trivial
        · trivial
      · trivial
  · trivial
theorem yieldS_st (s : St) (l : Nat) (args : List PV) : St2 s (yieldS ex s l args) := by
  unfold yieldS
  split
  · split
    · split
      · rw [fSp_eq]
        unfold St2
        rw [T.All_bind]
        refine T.All_mono ?_ _ (hex _ _ _)
        intro p hp
        split
        · split
          · rename_i h1
            rw [fMem_eq, T.All_bind]
            refine T.All_mono ?_ _ (hex _ _ _)
            intro q hq
            split
            · rename_i h2
              exact shut_st (s := s) (Stat.trans (x := s.bs) hp ((loopAt_st h1).trans (hq.trans (loopAt_st h2)))) _
            · trivial
          · trivial
        · trivial
      · trivial
    · trivial
  · trivial
theorem effOp_st (rd : Bool) (s : St) (o : Oper) : St2 s (effOp ex tb C rd s o) := by
  unfold effOp
  split
  · split
    · exact newS_st ..
    · trivial
  · split
    · exact newS_st ..
    · trivial
  · split
    · exact bslS_st ..
    · trivial
  · split
    · exact storeS_st ..
    · trivial
  · split
    · exact ⟨Stat.refl _, Stat.refl _⟩
    · trivial
  · split
    · split
      · unfold divT
        split
        · rw [assumeK_eq]; exact ⟨trivial, Stat.refl _⟩
        · rw [assumeK_eq]; exact ⟨trivial, Stat.refl _⟩
        · trivial
      · trivial
    · trivial
  · split
    · split
      · split
        · exact callS_st hex tb C ..
        · trivial
      · split
        · exact yieldS_st hex ..
        · trivial
      · trivial
    · trivial
  · trivial
theorem doOp_st (rd : Bool) (s : St) (o : Oper) : St2 s (doOp ex tb C rd s o) := by
  unfold doOp
  split
  · exact Stat.refl _
  · exact effOp_st hex tb C ..
omit hex in
theorem putT_st {B : List Blk} {o : Oper} {t : T (SV × St)} (h : t.All fun p => Stat B p.2.bs) : (putT o t).All fun s => Stat B s.bs := by
  rw [putT_eq, T.All_bind]
  exact T.All_mono (fun p hp => hp) _ h
theorem opS_st (rd : Bool) (ops : Array Oper) (s : St) (o : Oper) : (opS ex tb C rd ops s o).All fun s' => Stat s.bs s'.bs := by
  unfold opS
  split
  · rw [putK_eq]; exact Stat.refl _
  · split
    · trivial
    · exact putT_st (doOp_st hex tb C ..)
    · rw [putK_eq]; exact Stat.refl _
    · rename_i g _ _ _
      have h1 : (T.ite g (putT o (assumeK s g true fun s => doOp ex tb C rd s o)) (assumeK s g false fun s => putK s o undefS)).All fun s' => Stat s.bs s'.bs := by
        rw [assumeK_eq, assumeK_eq, putK_eq]
        exact ⟨putT_st (doOp_st hex tb C rd (assume s g true) o), Stat.refl _⟩
      unfold specS
      split
      · split
        · rw [putK_eq]; exact Stat.refl _
        · exact h1
      · exact h1
theorem seqS_st (rd : Bool) (ops : Array Oper) : ∀ (l : List Nat) (s : St), (seqS ex tb C rd ops l s).All fun s' => Stat s.bs s'.bs
  | [], s => Stat.refl _
  | i :: l, s => by
    simp only [seqS]
    split
    · trivial
    · rw [T.All_bind]
      exact T.All_mono (fun s' hs' => T.All_mono (fun s2 h2 => hs'.trans h2) _ (seqS_st rd ops l s')) _ (opS_st hex tb C rd ops s _)
omit hex in
theorem allOf_st {B : List Blk} {f : Nat → T St} (h : ∀ i, (f i).All fun s => Stat B s.bs) : ∀ l : List Nat, (allOf f l).All fun s => Stat B s.bs
  | [] => trivial
  | [i] => h i
  | i :: j :: l => by
    simp only [allOf, fT_eq fSt_eq]
    unfold mergeT
    split
    · exact h i
    · exact ⟨h i, allOf_st h (j :: l)⟩
theorem drawnS_st (ops : Array Oper) (inf : List RI) (mem : List (Option Blk)) : ∀ (f : Nat) (listed : List Bool) (s : St), (drawnS ex tb C ops inf mem f listed s).All fun s' => Stat s.bs s'.bs
  | 0, listed, s => by
    simp only [drawnS]
    split
    · exact Stat.refl _
    · trivial
  | f + 1, listed, s => by
    simp only [drawnS, fL_eq fBool_eq, fL_eq fNat_eq]
    split
    · exact Stat.refl _
    · split
      · split
        · rw [putK_eq]
          exact drawnS_st ops inf mem f _ (put s _ _)
        · trivial
      · refine allOf_st (fun i => ?_) _
        split
        · rw [T.All_bind]
          refine T.All_mono (fun s' hs' => ?_) _ (opS_st hex tb C false ops s _)
          split
          · exact T.All_mono (fun s2 h2 => hs'.trans h2) _ (drawnS_st ops inf mem f _ s')
          · trivial
        · trivial
theorem regS_st (ops : Array Oper) (draw : Bool) (s : St) : (regS ex tb C ops draw s).All fun s' => Stat s.bs s'.bs := by
  unfold regS
  simp only
  split
  · split
    · rw [fL_eq fRI_eq]; exact drawnS_st hex tb C ..
    · trivial
  · exact seqS_st hex tb C ..
theorem loopS_st (ro : Option Nat) (body : Code) : ∀ (f : Nat) (s : St), (loopS ex ro body f s).All fun p => Stat s.bs p.2.bs
  | 0, s => trivial
  | f + 1, s => by
    simp only [loopS]
    rw [T.All_bind]
    refine T.All_mono (fun p hp => ?_) _ (hex ro body s)
    split
    · exact T.All_mono (fun q hq => hp.trans hq) _ (loopS_st ro body f p.2)
    · exact hp
theorem afterS_st (ro : Option Nat) (l : Nat) (p : SV × St) : (afterS ex ro l p).All fun q => Stat p.2.bs q.2.bs := by
  unfold afterS
  split
  · trivial
  · split
    · rename_i h
      split
      · exact loopAt_st h
      · exact T.All_mono (fun q hq => (loopAt_st h).trans hq) _ (hex ro _ _)
    · trivial
  · trivial
omit hex in
theorem enterS_st {ro : Option Nat} {s s1 : St} {ps : Array Tmp} {assign body : Code} {l : Nat} (h : enterS ro s ps assign body = some (l, s1)) : Stat s.bs s1.bs := by
  unfold enterS at h
  obtain ⟨t, b, n, d⟩ := s
  simp only at h
  split at h
  · cases h; exact Stat.app _ _
  · split at h
    · cases h; exact Stat.app _ _
    · cases h
theorem rangeS_st (ro : Option Nat) (s : St) (f : Operand) (ps : Array Tmp) (assign body : Code) : (rangeS ex tb C ro s f ps assign body).All fun p => Stat s.bs p.2.bs := by
  unfold rangeS
  split
  · split
    · split
      · split
        · rename_i h
          rw [fMem_eq, T.All_bind]
          refine T.All_mono (fun p hp => ?_) _ (callS_st hex tb C _ _ _)
          exact T.All_mono (fun q hq => (enterS_st h).trans (hp.trans hq)) _ (afterS_st hex ro _ p)
        · trivial
      · trivial
    · trivial
  · trivial
end
end Go.Sx

/- A symbolic executor: loops with an invariant. -/
namespace Go.Sx
open Go.RowKit
set_option linter.unusedVariables false
set_option linter.unusedSimpArgs false
/-- The number of the first region. -/
def firstId : Code → Option Nat
  | .region id _ _ => some id
  | .seq a b => match firstId a with
    | some i => some i
    | none => firstId b
  | .cond _ a b => match firstId a with
    | some i => some i
    | none => firstId b
  | .block _ b => firstId b
  | .loop b => firstId b
  | .scope b => firstId b
  | .rangeFunc _ _ a b => match firstId a with
    | some i => some i
    | none => firstId b
  | _ => none
/-- The slots that are written. -/
def dstL : Code → List Nat
  | .region _ ops _ => ops.toList.filterMap (·.dst)
  | .seq a b => dstL a ++ dstL b
  | .cond _ a b => dstL a ++ dstL b
  | .block _ b => dstL b
  | .loop b => dstL b
  | .scope b => dstL b
  | _ => []
def tmpIx : List Loc → Nat → Nat → Option Nat
  | [], _, _ => none
  | .tmp j :: l, i, k => if Nat.beq i j then some k else tmpIx l i (k + 1)
  | .cell _ _ :: l, i, k => tmpIx l i (k + 1)
def celIx : List Loc → Nat → Nat → Nat → Option Nat
  | [], _, _, _ => none
  | .tmp _ :: l, b, j, k => celIx l b j (k + 1)
  | .cell c i :: l, b, j, k => if Nat.beq b c && Nat.beq j i then some k else celIx l b j (k + 1)
def varOf (x : CV) (v : Nat) : CV := match x with
  | .k (.int k _) => .k (.int k (.var v))
  | .k (.bool _) => .k (.bool (.not (.eq (.var v) (.lit 0))))
  | x => x
def genT (L : List Loc) (ds : List Nat) (v0 nv : Nat) : Nat → List SV → List SV
  | _, [] => []
  | i, x :: l => (match tmpIx L i 0 with
    | some k => (match x with
      | .p (.c c) => .p (.c (varOf c (v0 + k)))
      | x => x)
    | none => if has ds i then .u (v0 + (nv + i)) else x) :: genT L ds v0 nv (i + 1) l
def genC (L : List Loc) (v0 b : Nat) : Nat → List CV → List CV
  | _, [] => []
  | j, x :: l => (match celIx L b j 0 with
    | some k => varOf x (v0 + k)
    | none => x) :: genC L v0 b (j + 1) l
def genB (L : List Loc) (v0 : Nat) : Nat → List Blk → List Blk
  | _, [] => []
  | b, ⟨cs, t, none⟩ :: l => ⟨genC L v0 b 0 cs, t, none⟩ :: genB L v0 (b + 1) l
  | b, x :: l => x :: genB L v0 (b + 1) l
def genS (L : List Loc) (ds : List Nat) (bnd : List (Int × Int)) (s : St) : St :=
  ⟨genT L ds s.bnd.v.length L.length 0 s.tmps, genB L s.bnd.v.length 0 s.bs, cat s.bnd (bnd ++ List.replicate s.tmps.length (0, 0)), s.df⟩
def kindQ : CV → CV → Bool
  | .k (.int k _), .k (.int l _) => Nat.beq (kq k) (kq l)
  | .k (.bool _), .k (.bool _) => true
  | _, _ => false
def chkT (L : List Loc) (ds : List Nat) : Nat → List SV → List SV → Bool
  | _, [], [] => true
  | i, x :: l, y :: r => (match tmpIx L i 0 with
    | some _ => (match x, y with
      | .p (.c a), .p (.c b) => kindQ a b
      | _, _ => false)
    | none => has ds i || eqSV x y) && chkT L ds (i + 1) l r
  | _, _, _ => false
def chkC (L : List Loc) (b : Nat) : Nat → List CV → List CV → Bool
  | _, [], [] => true
  | j, x :: l, y :: r => (match celIx L b j 0 with
    | some _ => kindQ x y
    | none => eqC x y) && chkC L b (j + 1) l r
  | _, _, _ => false
def chkB (L : List Loc) : Nat → List Blk → List Blk → Bool
  | _, [], _ => true
  | b, ⟨cs, t, none⟩ :: l, ⟨cs', t', none⟩ :: r => Nat.beq t t' && chkC L b 0 cs cs' && chkB L (b + 1) l r
  | b, ⟨_, _, some (.dfr o)⟩ :: l, ⟨_, _, some (.dfr o')⟩ :: r => (o == o') && chkB L (b + 1) l r
  | b, ⟨_, _, some (.loop st none _ _ _ _ _)⟩ :: l, ⟨_, _, some (.loop st' none _ _ _ _ _)⟩ :: r => Nat.beq st st' && chkB L (b + 1) l r
  | _, _, _ => false
def chkS (L : List Loc) (ds : List Nat) (s s' : St) : Bool := chkT L ds 0 s.tmps s'.tmps && chkB L 0 s.bs s'.bs && eqNs s'.df s.df
/-- What lies at a place. -/
def atLoc (s : St) : Loc → Option K
  | .tmp i => match s.tmps[i]? with
    | some (.p (.c (.k x))) => some x
    | _ => none
  | .cell b j => match s.bs[b]? with
    | some ⟨cs, _, none⟩ => match cs[j]? with
      | some (.k x) => some x
      | _ => none
    | _ => none
def valsT {α : Type} (s : St) : List Loc → (List E → T α) → T α
  | [], k => k []
  | l :: L, k => match atLoc s l with
    | some (.int _ e) => valsT s L fun es => k (e :: es)
    | some (.bool (.lit true)) => valsT s L fun es => k (.lit 1 :: es)
    | some (.bool (.lit false)) => valsT s L fun es => k (.lit 0 :: es)
    | some (.bool b) => .ite b (valsT s L fun es => k (.lit 1 :: es)) (valsT s L fun es => k (.lit 0 :: es))
    | _ => .fail
def valAt (r : List Int) : K → Int → Prop
  | .int _ e, y => e.den r = y
  | .bool b, y => b.den r = !decide (y = 0)
  | _, _ => False
def LocVal (r : List Int) (s : St) : List Loc → List Int → Prop
  | [], [] => True
  | l :: L, y :: ys => (∃ x, atLoc s l = some x ∧ valAt r x y) ∧ LocVal r s L ys
  | _, _ => False
theorem LocVal.len {r : List Int} {s : St} : ∀ {L : List Loc} {ys : List Int}, LocVal r s L ys → ys.length = L.length
  | [], [], _ => rfl
  | l :: L, y :: ys, h => by simp [LocVal.len h.2]
  | [], _ :: _, h => h.elim
  | _ :: _, [], h => h.elim
theorem valsT_den {α : Type} {C : List Con} {Φ : List Int → α → Prop} {r : List Int} {s : St} : ∀ (L : List Loc) (k : List E → T α), (valsT s L k).den C Φ r →
    ∃ xs : List E, LocVal r s L (xs.map (E.den r)) ∧ (k xs).den C Φ r
  | [], k, h => ⟨[], trivial, h⟩
  | l :: L, k, h => by
    simp only [valsT] at h
    split at h
    · rename_i e hl
      obtain ⟨xs, h1, h2⟩ := valsT_den L _ h
      exact ⟨e :: xs, ⟨⟨_, hl, rfl⟩, h1⟩, h2⟩
    · rename_i hl
      obtain ⟨xs, h1, h2⟩ := valsT_den L _ h
      exact ⟨.lit 1 :: xs, ⟨⟨_, hl, rfl⟩, h1⟩, h2⟩
    · rename_i hl
      obtain ⟨xs, h1, h2⟩ := valsT_den L _ h
      exact ⟨.lit 0 :: xs, ⟨⟨_, hl, rfl⟩, h1⟩, h2⟩
    · rename_i b _ _ hl
      simp only [T.den, B.prop_iff] at h
      cases hb : b.den r with
      | true =>
        obtain ⟨xs, h1, h2⟩ := valsT_den L _ (h.1 hb)
        exact ⟨.lit 1 :: xs, ⟨⟨_, hl, by simp [valAt, hb, E.den]⟩, h1⟩, h2⟩
      | false =>
        obtain ⟨xs, h1, h2⟩ := valsT_den L _ (h.2 (by simp [hb]))
        exact ⟨.lit 0 :: xs, ⟨⟨_, hl, by simp [valAt, hb, E.den]⟩, h1⟩, h2⟩
    · exact h.elim
theorem tmpIx_val {r : List Int} {s : St} {i : Nat} : ∀ {L : List Loc} {ys : List Int} {k0 k : Nat}, LocVal r s L ys → tmpIx L i k0 = some k → ∃ x, atLoc s (.tmp i) = some x ∧ k0 ≤ k ∧ k < k0 + ys.length ∧ valAt r x (ys.getD (k - k0) 0)
  | [], _, _, _, _, h => by cases h
  | _ :: _, [], _, _, h, _ => h.elim
  | .tmp j :: L, y :: ys, k0, k, hv, h => by
    simp only [tmpIx] at h
    split at h
    · rename_i hb
      cases h
      have e := Nat.eq_of_beq_eq_true hb
      subst e
      obtain ⟨x, h1, h2⟩ := hv.1
      exact ⟨x, h1, Nat.le_refl _, by simp, by simpa using h2⟩
    · obtain ⟨x, h1, h2, h3, h4⟩ := tmpIx_val hv.2 h
      refine ⟨x, h1, by omega, by simp; omega, ?_⟩
      have e : k - k0 = (k - (k0 + 1)) + 1 := by omega
      rw [e]; simpa using h4
  | .cell b j :: L, y :: ys, k0, k, hv, h => by
    simp only [tmpIx] at h
    obtain ⟨x, h1, h2, h3, h4⟩ := tmpIx_val hv.2 h
    refine ⟨x, h1, by omega, by simp; omega, ?_⟩
    have e : k - k0 = (k - (k0 + 1)) + 1 := by omega
    rw [e]; simpa using h4
theorem celIx_val {r : List Int} {s : St} {b i : Nat} : ∀ {L : List Loc} {ys : List Int} {k0 k : Nat}, LocVal r s L ys → celIx L b i k0 = some k → ∃ x, atLoc s (.cell b i) = some x ∧ k0 ≤ k ∧ k < k0 + ys.length ∧ valAt r x (ys.getD (k - k0) 0)
  | [], _, _, _, _, h => by cases h
  | _ :: _, [], _, _, h, _ => h.elim
  | .cell c j :: L, y :: ys, k0, k, hv, h => by
    simp only [celIx] at h
    split at h
    · rename_i hb
      cases h
      simp only [Bool.and_eq_true] at hb
      have e := Nat.eq_of_beq_eq_true hb.1
      have e' := Nat.eq_of_beq_eq_true hb.2
      subst e e'
      obtain ⟨x, h1, h2⟩ := hv.1
      exact ⟨x, h1, Nat.le_refl _, by simp, by simpa using h2⟩
    · obtain ⟨x, h1, h2, h3, h4⟩ := celIx_val hv.2 h
      refine ⟨x, h1, by omega, by simp; omega, ?_⟩
      have e : k - k0 = (k - (k0 + 1)) + 1 := by omega
      rw [e]; simpa using h4
  | .tmp j :: L, y :: ys, k0, k, hv, h => by
    simp only [celIx] at h
    obtain ⟨x, h1, h2, h3, h4⟩ := celIx_val hv.2 h
    refine ⟨x, h1, by omega, by simp; omega, ?_⟩
    have e : k - k0 = (k - (k0 + 1)) + 1 := by omega
    rw [e]; simpa using h4
/-- A place with a variable means what lies there. -/
theorem varOf_den {n n1 : Env} {x y : CV} {z : K} {v : Nat} (hk : kindQ x y = true) (hy : y = .k z) (hv : valAt n.r z (n1.r.getD v 0)) : (varOf x v).den n1 = y.den n := by
  subst hy
  unfold kindQ at hk
  split at hk
  · rename_i k e l f heq
    cases heq
    simp only [varOf, CV.den, K.den, E.den]
    rw [kq_ok hk]
    simp only [valAt] at hv
    rw [hv]
  · rename_i b c heq
    cases heq
    simp only [varOf, CV.den, K.den, B.den, E.den]
    simp only [valAt] at hv
    rw [hv]
    rfl
  · cases hk
theorem genT_den {n0 n n1 : Env} (h0 : Ext n0 n) (h1 : Ext n0 n1) {L : List Loc} {ds : List Nat} {v0 nv : Nat} : ∀ (xs ys : List SV) (i : Nat), chkT L ds i xs ys = true → xs.all (wfS n0.r.length n0.b.length) = true →
    (∀ j y, ys[j]? = some y → n1.u.getD (v0 + (nv + (i + j))) undef = y.den n) → (∀ j k, tmpIx L (i + j) 0 = some k → ∃ z, (∀ y, ys[j]? = some y → y = .p (.c (.k z))) ∧ valAt n.r z (n1.r.getD (v0 + k) 0)) →
    (genT L ds v0 nv i xs).map (SV.den n1) = ys.map (SV.den n)
  | [], [], i, h, hw, hu, hl => rfl
  | [], _ :: _, i, h, hw, hu, hl => by cases h
  | _ :: _, [], i, h, hw, hu, hl => by cases h
  | x :: xs, y :: ys, i, h, hw, hu, hl => by
    simp only [chkT, Bool.and_eq_true] at h
    simp only [List.all_cons, Bool.and_eq_true] at hw
    have ih := genT_den h0 h1 (v0 := v0) (nv := nv) xs ys (i + 1) h.2 hw.2 (fun j y hj => by
      have := hu (j + 1) y (by simpa using hj)
      rw [show i + 1 + j = i + (j + 1) by omega]; exact this) (fun j k hj => by
      have := hl (j + 1) k (by rw [show i + (j + 1) = i + 1 + j by omega]; exact hj)
      simpa using this)
    simp only [genT, List.map_cons, ih]
    congr 1
    have h2 := h.1
    split
    · rename_i k hk
      rw [hk] at h2
      simp only at h2
      obtain ⟨z, hz, hv⟩ := hl 0 k hk
      have hy := hz y rfl
      split at h2
      · rename_i a b
        simp only [SV.den, PV.den]
        exact varOf_den h2 (by cases hy; rfl) hv
      · cases h2
    · rename_i hk
      rw [hk] at h2
      simp only [Bool.or_eq_true] at h2
      split
      · exact hu 0 y rfl
      · rename_i hds
        rcases h2 with h2 | h2
        · exact absurd h2 hds
        · rw [← eqSV_ok h2, wfS_den h1 x hw.1, wfS_den h0 x hw.1]
theorem genC_den {n0 n n1 : Env} (h0 : Ext n0 n) (h1 : Ext n0 n1) {L : List Loc} {v0 b : Nat} : ∀ (xs ys : List CV) (i : Nat), chkC L b i xs ys = true → xs.all (wfC n0.r.length n0.b.length) = true →
    (∀ j k, celIx L b (i + j) 0 = some k → ∃ z, (∀ y, ys[j]? = some y → y = .k z) ∧ valAt n.r z (n1.r.getD (v0 + k) 0)) →
    (genC L v0 b i xs).map (CV.den n1) = ys.map (CV.den n)
  | [], [], i, h, hw, hl => rfl
  | [], _ :: _, i, h, hw, hl => by cases h
  | _ :: _, [], i, h, hw, hl => by cases h
  | x :: xs, y :: ys, i, h, hw, hl => by
    simp only [chkC, Bool.and_eq_true] at h
    simp only [List.all_cons, Bool.and_eq_true] at hw
    have ih := genC_den h0 h1 (v0 := v0) (b := b) xs ys (i + 1) h.2 hw.2 (fun j k hj => by
      have := hl (j + 1) k (by rw [show i + (j + 1) = i + 1 + j by omega]; exact hj)
      simpa using this)
    simp only [genC, List.map_cons, ih]
    congr 1
    have h2 := h.1
    split
    · rename_i k hk
      rw [hk] at h2
      obtain ⟨z, hz, hv⟩ := hl 0 k hk
      exact varOf_den h2 (hz y rfl) hv
    · rename_i hk
      rw [hk] at h2
      simp only at h2
      rw [← eqC_ok h2, wfC_den h1 x hw.1, wfC_den h0 x hw.1]
theorem genB_len (L : List Loc) (v0 : Nat) : ∀ (b : Nat) (l : List Blk), (genB L v0 b l).length = l.length
  | _, [] => rfl
  | b, ⟨cs, t, none⟩ :: l => by simp [genB, genB_len L v0 (b + 1) l]
  | b, ⟨cs, t, some q⟩ :: l => by simp [genB, genB_len L v0 (b + 1) l]
/-- A block, as it is laid anew. -/
theorem genB_at {n0 n n1 : Env} (h0 : Ext n0 n) (h1 : Ext n0 n1) (hb1 : n1.b = n0.b) {L : List Loc} {v0 : Nat} {o : Nat → Option Obj} : ∀ (xs ys : List Blk) (b : Nat), chkB L b xs ys = true → xs.all (wfBlk n0.r.length n0.b.length) = true →
    Stat xs ys → (∀ (j : Nat) (y : Blk), ys[j]? = some y → y.at n (o j)) →
    (∀ i j k, celIx L (b + i) j 0 = some k → ∃ z, (∀ cs t y, ys[i]? = some ⟨cs, t, none⟩ → cs[j]? = some y → y = .k z) ∧ valAt n.r z (n1.r.getD (v0 + k) 0)) →
    ∀ (j : Nat) (y : Blk), (genB L v0 b xs)[j]? = some y → y.at n1 (o j)
  | [], ys, b, h, hw, hst, ho, hl, j, y, hj => by simp [genB] at hj
  | x :: xs, [], b, h, hw, hst, ho, hl, j, y, hj => by
    obtain ⟨cs, t, kd⟩ := x
    rcases kd with _ | (_ | _) <;> simp [chkB] at h
  | x :: xs, y' :: ys, b, h, hw, hst, ho, hl, j, y, hj => by
    simp only [List.all_cons, Bool.and_eq_true] at hw
    have hst' : Stat xs ys := fun j c t st pe tm ps a b d hj => hst (j + 1) c t st pe tm ps a b d (by simpa using hj)
    have tail : chkB L (b + 1) xs ys = true → ∀ (j : Nat) (y : Blk), (genB L v0 (b + 1) xs)[j]? = some y → y.at n1 (o (j + 1)) := fun h2 => by
      refine genB_at h0 h1 hb1 (o := fun j => o (j + 1)) xs ys (b + 1) h2 hw.2 hst' (fun j y hj => ho (j + 1) y (by simpa using hj)) fun i j k hk => ?_
      have := hl (i + 1) j k (by rw [show b + (i + 1) = b + 1 + i by omega]; exact hk)
      simpa using this
    obtain ⟨cs, t, kd⟩ := x
    obtain ⟨cs', t', kd'⟩ := y'
    cases kd with
    | none =>
      cases kd' with
      | some q => simp [chkB] at h
      | none =>
        simp only [chkB, Bool.and_eq_true] at h
        simp only [genB] at hj
        cases j with
        | succ j => simp only [List.getElem?_cons_succ] at hj; exact tail h.2 j y hj
        | zero =>
          simp only [List.getElem?_cons_zero, Option.some.injEq] at hj
          subst hj
          have h3 := ho 0 _ rfl
          simp only [Blk.at, Blk.obj] at h3 ⊢
          rw [h3, Nat.eq_of_beq_eq_true h.1.1]
          have hwc := hw.1
          simp only [wfBlk, Bool.and_true] at hwc
          rw [genC_den h0 h1 cs cs' 0 h.1.2 hwc fun j k hk => ?_]
          obtain ⟨z, hz, hv⟩ := hl 0 j k (by simpa using hk)
          exact ⟨z, fun y hy => hz cs' t' y rfl hy, hv⟩
    | some q =>
      have hj' : (⟨cs, t, some q⟩ :: genB L v0 (b + 1) xs)[j]? = some y := by simpa [genB] using hj
      have fin : chkB L (b + 1) xs ys = true → (⟨cs, t, some q⟩ : Blk).at n1 (o 0) → y.at n1 (o j) := fun h2 h3 => by
        cases j with
        | succ j => simp only [List.getElem?_cons_succ] at hj'; exact tail h2 j y hj'
        | zero => simp only [List.getElem?_cons_zero, Option.some.injEq] at hj'; subst hj'; exact h3
      have hwq : wfBlk n0.r.length n0.b.length ⟨cs, t, some q⟩ = true := hw.1
      cases q with
      | dfr d =>
        cases kd' with
        | none => simp [chkB] at h
        | some q' =>
          cases q' with
          | loop => simp [chkB] at h
          | dfr d' =>
            simp only [chkB, Bool.and_eq_true, beq_iff_eq] at h
            refine fin h.2 ?_
            have h3 := ho 0 _ rfl
            rw [← h.1] at h3
            obtain ⟨fn, h4⟩ := h3
            refine ⟨fn, ?_⟩
            rw [h4]
            cases d <;> rfl
      | loop st pe tm ps a bd d =>
        cases kd' with
        | none => cases pe <;> simp [chkB] at h
        | some q' =>
          cases q' with
          | dfr => cases pe <;> simp [chkB] at h
          | loop st' pe' tm' ps' a' bd' d' =>
            cases pe with
            | some c => simp [chkB] at h
            | none =>
              cases pe' with
              | some c => simp [chkB] at h
              | none =>
                simp only [chkB, Bool.and_eq_true] at h
                refine fin h.2 ?_
                have h3 := ho 0 _ rfl
                obtain ⟨c2, t2, st2, pe2, h4⟩ := hst 0 cs t st none tm ps a bd d rfl
                simp only [List.getElem?_cons_zero, Option.some.injEq] at h4
                injection h4 with e1 e2 e3
                injection e3 with e3
                injection e3 with f1 f2 f3 f4 f5 f6 f7
                subst f3 f4 f5 f6 f7
                rw [(wfBlk_at h1 _ _ hwq), ← wfBlk_at h0 _ _ hwq]
                rw [← Nat.eq_of_beq_eq_true h.1] at h3
                exact h3
theorem inB_len : ∀ {xs : List Int} {b : List (Int × Int)}, inB xs b → xs.length = b.length
  | [], [], _ => rfl
  | x :: l, y :: t, h => by simp [inB_len h.2.2]
  | [], _ :: _, h => h.elim
  | _ :: _, [], h => h.elim
theorem inB_ok (m : Nat) : ∀ {xs : List Int} {b : List (Int × Int)}, inB xs b → BndOk (xs ++ List.replicate m 0) ⟨b ++ List.replicate m (0, 0), [], []⟩
  | [], [], _ => by
    refine ⟨by simp, fun i => ?_, fun f hf => (by cases hf), fun b hb => (by cases hb)⟩
    simp only [lo, hi, List.nil_append, List.getD_eq_getElem?_getD, List.getElem?_replicate]
    split <;> simp
  | x :: l, y :: t, h => by
    have ih := inB_ok m h.2.2
    refine ⟨by simp [inB_len h.2.2], fun i => ?_, fun f hf => (by cases hf), fun b hb => (by cases hb)⟩
    cases i with
    | zero => exact ⟨h.1, h.2.1⟩
    | succ i => simpa [lo, hi] using ih.var i
  | [], _ :: _, h => h.elim
  | _ :: _, [], h => h.elim
def findLp : List Con → Option Nat → Nat → Nat → Option (Nat × Con × Lp)
  | [], _, _, _ => none
  | c :: l, id, nt, k => match c.lp, id with
    | some p, some i => if Nat.beq p.id i && Nat.beq p.nt nt then some (k, c, p) else findLp l id nt (k + 1)
    | _, _ => findLp l id nt (k + 1)
theorem findLp_ok : ∀ {C : List Con} {id : Option Nat} {nt k i : Nat} {c : Con} {p : Lp}, findLp C id nt k = some (i, c, p) → k ≤ i ∧ C[i - k]? = some c
  | [], _, _, _, _, _, _, h => by cases h
  | x :: l, id, nt, k, i, c, p, h => by
    have next : findLp l id nt (k + 1) = some (i, c, p) → k ≤ i ∧ (x :: l)[i - k]? = some c := fun h => by
      have ⟨h1, h2⟩ := findLp_ok h
      refine ⟨by omega, ?_⟩
      rw [show i - k = (i - (k + 1)) + 1 by omega]; simpa using h2
    simp only [findLp] at h
    split at h
    · split at h
      · cases h; exact ⟨Nat.le_refl _, by simp⟩
      · exact next h
    · exact next h
def loopI (ex : Ex) (ro : Option Nat) (body : Code) (s : St) (i : Nat) (c : Con) (p : Lp) (ds : List Nat) : T (X × St) :=
  if wfSt s && chkS p.locs ds s s then
    valsT s p.locs fun xs => .lop i xs s.tmps.length ((fSt (genS p.locs ds c.bnd s) (ex ro body)).bind fun q => match q.1 with
      | .nrm => if chkS p.locs ds s q.2 then valsT q.2 p.locs fun xs => .chk i s.bnd.v.length xs else .fail
      | _ => .ret q)
  else .fail
def loopC (ex : Ex) (C : List Con) (ro : Option Nat) (body : Code) (s : St) : T (X × St) :=
  match findLp C (firstId body) s.tmps.length 0 with
  | none => loopS ex ro body 100000 s
  | some (i, c, p) => fL fNat (dstL body) fun ds => loopI ex ro body s i c p ds
section
variable {P : Program} {tb : Tb} {C : List Con} {N : Nat} {w0 : World} {σ : List (Option Addr × Nat)} {τ : List Value}
/-- Memory of which only what was there is looked at. -/
theorem Mem.inst {n0 n n1 : Env} {s s' : St} {w : World} {L : List Loc} {v0 : Nat} (h : Mem N n s'.bs w) (h0 : Ext n0 n) (h1 : Ext n0 n1) (hb1 : n1.b = n0.b) (hl0 : n0.b.length = s.bs.length) (hw : s.bs.all (wfBlk n0.r.length n0.b.length) = true)
    (hc : chkB L 0 s.bs s'.bs = true) (hst : Stat s.bs s'.bs) (hl : ∀ b j k, celIx L b j 0 = some k → ∃ z, atLoc s' (.cell b j) = some z ∧ valAt n.r z (n1.r.getD (v0 + k) 0)) :
    Mem N n1 (genB L v0 0 s.bs) w := by
  have pre : ∀ i x, n1.b[i]? = some x → n.b[i]? = some x := fun i x hi => by
    rw [hb1] at hi
    obtain ⟨t, ht⟩ := h0.b
    rw [← ht, List.getElem?_append_left (List.getElem?_eq_some_iff.1 hi).1]; exact hi
  have key := genB_at (n := n) h0 h1 hb1 (L := L) (v0 := v0) (o := fun j => w.heap[n.b.getD j 0]?) s.bs s'.bs 0 hc hw hst (fun j y hj => (h.2.2 j y hj).2) (fun i j k hk => by
    obtain ⟨z, hz, hv⟩ := hl i j k (by simpa using hk)
    refine ⟨z, fun cs t y h1 h2 => ?_, hv⟩
    simp only [atLoc, h1, h2] at hz
    split at hz
    · rename_i x hx; cases hx; cases hz; rfl
    · cases hz)
  refine ⟨by rw [genB_len, hb1, hl0], fun i j x hi hj => h.2.1 i j x (pre i x hi) (pre j x hj), fun i b hi => ?_⟩
  have hlt : i < s.bs.length := by rw [← genB_len L v0 0]; exact (List.getElem?_eq_some_iff.1 hi).1
  have hlt0 : i < n0.b.length := by rw [hl0]; exact hlt
  have e : n.b.getD i 0 = n1.b.getD i 0 := by rw [hb1]; exact getD_prefix h0.b hlt0 0
  rw [← e]
  refine ⟨?_, key i b hi⟩
  have hls : s'.bs[i]? ≠ none := fun hn => by
    have h2 := h.1
    have h3 := h0.b.length_le
    have := List.getElem?_eq_none_iff.1 hn
    omega
  cases hq : s'.bs[i]? with
  | none => exact absurd hq hls
  | some y => exact (h.2.2 i y hq).1
theorem chkT_len {L : List Loc} {ds : List Nat} : ∀ (xs ys : List SV) (i : Nat), chkT L ds i xs ys = true → xs.length = ys.length
  | [], [], _, _ => rfl
  | [], _ :: _, _, h => by cases h
  | _ :: _, [], _, h => by cases h
  | x :: xs, y :: ys, i, h => by
    simp only [chkT, Bool.and_eq_true] at h
    simp [chkT_len xs ys (i + 1) h.2]
/-- A state that is as the head of the loop is, with other numbers. -/
theorem Rep.inst {n0 n : Env} {s s' : St} {a0 a : Act} {wh w : World} {L : List Loc} {ds : List Nat} {ys : List Int} {bnd : List (Int × Int)} (h0 : Rep N w0 n0 s a0 wh) (hw : wfSt s = true) (h : Rep N w0 n s' a w) (he : Ext n0 n)
    (hc : chkS L ds s s' = true) (hst : Stat s.bs s'.bs) (hv : LocVal n.r s' L ys) (hb : inB ys bnd) :
    ∃ n1, Ext n0 n1 ∧ n1.r = n0.r ++ (ys ++ List.replicate s.tmps.length 0) ∧ n1.b = n0.b ∧ Rep N w0 n1 (genS L ds bnd s) a w := by
  simp only [wfSt, Bool.and_eq_true] at hw
  rw [← h0.lens.1, ← h0.lens.2] at hw
  simp only [chkS, Bool.and_eq_true] at hc
  have hlt := chkT_len _ _ _ hc.1.1
  have hat : a.tmps.toList.length = s.tmps.length := by rw [h.tmps]; simp [hlt]
  have hyl := hv.len
  have hus : (List.replicate ys.length undef ++ a.tmps.toList).length = (ys ++ List.replicate s.tmps.length 0).length := by
    simp only [List.length_append, List.length_replicate, hat]
  have hx := Ext.more n0 (ys ++ List.replicate s.tmps.length 0) (List.replicate ys.length undef ++ a.tmps.toList) hus
  have hr1 : ∀ k, k < ys.length → (n0.more _ _ hus).r.getD (n0.r.length + k) 0 = ys.getD k 0 := fun k hk => by
    simp only [Env.more, List.getD_eq_getElem?_getD]
    rw [List.getElem?_append_right (by omega), show n0.r.length + k - n0.r.length = k by omega, List.getElem?_append_left hk]
  refine ⟨n0.more _ _ hus, hx, rfl, rfl, ?_, ?_, h.below, ?_⟩
  · exact cat_ok h0.bnd (inB_ok _ hb)
  · refine h.mem.inst he hx rfl h0.lens.2 hw.1.2 hc.1.2 hst fun b j k hk => ?_
    obtain ⟨x, h1, h2, h3, h4⟩ := celIx_val hv hk
    refine ⟨x, h1, ?_⟩
    rw [← h0.lens.1, hr1 k (by omega)]
    simpa using h4
  · have ea : a.tmps = ((genT L ds s.bnd.v.length L.length 0 s.tmps).map (SV.den (n0.more _ _ hus))).toArray := by
      refine h.tmps.trans ?_
      congr 1
      refine (genT_den he hx s.tmps s'.tmps 0 hc.1.1 hw.1.1 (fun j y hj => ?_) (fun j k hk => ?_)).symm
      · have hj' : j < s'.tmps.length := (List.getElem?_eq_some_iff.1 hj).1
        have e1 : (a.tmps.toList)[j]? = some (y.den n) := by rw [h.tmps]; simp [hj]
        simp only [Env.more, List.getD_eq_getElem?_getD]
        rw [← h0.lens.1, ← n0.hu, List.getElem?_append_right (by omega), ← hyl]
        rw [List.getElem?_append_right (by simp)]
        simp only [List.length_replicate]
        rw [show n0.u.length + (ys.length + (0 + j)) - n0.u.length - ys.length = j by omega, e1]
        rfl
      · obtain ⟨x, h1, h2, h3, h4⟩ := tmpIx_val hv hk
        refine ⟨x, fun y hy => ?_, ?_⟩
        · simp only [atLoc, Nat.zero_add, hy] at h1
          split at h1
          · rename_i z hz; cases hz; cases h1; rfl
          · cases h1
        · rw [← h0.lens.1, hr1 k (by omega)]
          simpa using h4
    have ed : a.defers = (s.df.map fun b => ({ target := .collected ((n0.more _ _ hus).b.getD b 0), args := #[] } : Deferred)) := by
      have h2 : a.defers = s'.df.map fun b => ({ target := .collected (n.b.getD b 0), args := #[] } : Deferred) := by rw [h.act]
      rw [h2, eqNs_ok hc.2]
      exact wfDf he s.df hw.2
    simp only [genS]
    rw [← ea, ← ed]
theorem loopI_ok {ex : Ex} (hex : Snd P C N w0 σ τ ex) (hsx : StEx ex) {ro : Option Nat} {body : Code} {A : Option Nat} {s : St} {n0 : Env} {a0 : Act} {wh : World} {i : Nat} {c : Con} {p : Lp} {ds : List Nat} {Q : Exit → Act → World → Prop} {Φ : List Int → X × St → Prop}
    (hns : n0.s = σ) (hnt : n0.t = τ) (hro : ∀ l, ro = some l → l < n0.b.length) (hA : A = ro.map fun l => n0.b.getD l 0) (h0 : Rep N w0 n0 s a0 wh) (hw : wfSt s = true) (hci : C[i]? = some c)
    (hd : ∀ ys : List Int, ys.length = p.locs.length → inB ys c.bnd → c.pre (n0.r ++ ys) → ((ex ro body (genS p.locs ds c.bnd s)).bind fun q => match q.1 with
      | .nrm => if chkS p.locs ds s q.2 then valsT q.2 p.locs fun xs => .chk i s.bnd.v.length xs else .fail
      | _ => .ret q).den C Φ (n0.r ++ (ys ++ List.replicate s.tmps.length 0)))
    (hK : ∀ n' x s' a' w', Ext n0 n' → Rep N w0 n' s' a' w' → Φ n'.r (x, s') → Q x.exit a' w') :
    ∀ (f : Nat) (n1 : Env) (ys : List Int) (a : Act) (w : World), ys.length = p.locs.length → Ext n0 n1 → n1.r = n0.r ++ (ys ++ List.replicate s.tmps.length 0) → n1.b = n0.b → Rep N w0 n1 (genS p.locs ds c.bnd s) a w → c.pre (n0.r ++ ys) → inB ys c.bnd → c.mea (n0.r ++ ys) < f →
    Code.roundsIn (Wd A) 0 P body Q f a w
  | 0, n1, ys, a, w, _, _, _, _, _, _, _, hm => by omega
  | f + 1, n1, ys, a, w, hyl, he1, hr1, hb1, hr, hpre, hin, hm => by
    rw [roundsIn_succ]
    have hd1 := hd ys hyl hin hpre
    rw [← hr1, T.den_bind] at hd1
    have hd2 := T.All_den _ _ (hsx ro body (genS p.locs ds c.bnd s)) hd1
    have eA : A = ro.map fun l => n1.b.getD l 0 := by rw [hb1]; exact hA
    rw [eA]
    refine hex ro body _ n1 a w _ _ (he1.s.trans hns) (he1.t.trans hnt) (ro_lt he1 hro) hr hd2 fun n' x s' a' w' he hr' hφ => ?_
    have he' := he1.trans he
    obtain ⟨hφ, hst⟩ := hφ
    cases x with
    | nrm =>
      simp only at hφ hst
      split at hφ
      · rename_i hc
        obtain ⟨xs, hv, hq⟩ := valsT_den _ _ hφ
        simp only [T.den, hci] at hq
        obtain ⟨q1, q2, q3⟩ := hq
        have hl := hv.len
        have t1 : n'.r.take s.bnd.v.length = n0.r := by
          obtain ⟨t, ht⟩ := he'.r
          rw [← ht, ← h0.lens.1, List.take_left]
        have t2 : n'.r.take (s.bnd.v.length + xs.length) = n0.r ++ ys := by
          obtain ⟨t, ht⟩ := he.r
          rw [← ht, hr1]
          have e1 : s.bnd.v.length + xs.length = (n0.r ++ ys).length := by
            simp only [List.length_map] at hl
            rw [List.length_append, hyl, hl, h0.lens.1]
          rw [e1, ← List.append_assoc, List.append_assoc, List.take_left]
        rw [t1] at q1 q3
        rw [t2] at q3
        have hst' : Stat s.bs s'.bs := by
          refine Stat.trans ?_ hst
          intro j c t st pe tm ps a b d hj
          refine ⟨c, t, st, pe, ?_⟩
          have gen : ∀ (l : List Blk) (b0 j : Nat), l[j]? = some ⟨c, t, some (.loop st pe tm ps a b d)⟩ → (genB p.locs s.bnd.v.length b0 l)[j]? = some ⟨c, t, some (.loop st pe tm ps a b d)⟩ := by
            intro l
            induction l with
            | nil => intro b0 j hj; simp at hj
            | cons x l ih =>
              intro b0 j hj
              obtain ⟨cs, ty, kd⟩ := x
              cases j with
              | zero =>
                simp only [List.getElem?_cons_zero, Option.some.injEq] at hj
                injection hj with e1 e2 e3
                subst e1 e2 e3
                rfl
              | succ j =>
                simp only [List.getElem?_cons_succ] at hj
                cases kd <;> simp only [genB, List.getElem?_cons_succ] <;> exact ih _ _ hj
          exact gen _ _ _ hj
        obtain ⟨n2, e1, e2, e3, e4⟩ := Rep.inst (bnd := c.bnd) h0 hw hr' he' hc hst' hv q2
        have ih := loopI_ok hex hsx hns hnt hro hA h0 hw hci hd hK f n2 _ a' w' hl e1 e2 e3 e4 q1 q2 (by omega)
        rw [← eA]
        exact ih
      · exact hφ.elim
    | ext id => exact hK n' (.ext id) s' a' w' he' hr' hφ
    | ret => exact hK n' .ret s' a' w' he' hr' hφ
theorem valsT_st {α : Type} {p : α → Prop} {s : St} : ∀ (L : List Loc) (k : List E → T α), (∀ xs, (k xs).All p) → (valsT s L k).All p
  | [], k, h => h []
  | l :: L, k, h => by
    simp only [valsT]
    split
    · exact valsT_st L _ fun xs => h _
    · exact valsT_st L _ fun xs => h _
    · exact valsT_st L _ fun xs => h _
    · exact ⟨valsT_st L _ fun xs => h _, valsT_st L _ fun xs => h _⟩
    · trivial
theorem genB_stat (L : List Loc) (v0 : Nat) : ∀ (l : List Blk) (b0 : Nat), Stat l (genB L v0 b0 l)
  | [], b0 => Stat.refl _
  | ⟨cs, ty, kd⟩ :: l, b0 => by
    intro j c t st pe tm ps a b d hj
    cases j with
    | zero =>
      simp only [List.getElem?_cons_zero, Option.some.injEq] at hj
      injection hj with e1 e2 e3
      subst e1 e2 e3
      exact ⟨_, _, _, _, rfl⟩
    | succ j =>
      simp only [List.getElem?_cons_succ] at hj
      obtain ⟨c', t', st', pe', h⟩ := genB_stat L v0 l (b0 + 1) j c t st pe tm ps a b d hj
      refine ⟨c', t', st', pe', ?_⟩
      cases kd <;> simpa only [genB, List.getElem?_cons_succ] using h
theorem loopC_st {ex : Ex} (hex : StEx ex) (ro : Option Nat) (body : Code) (s : St) : (loopC ex C ro body s).All fun p => Stat s.bs p.2.bs := by
  unfold loopC
  split
  · exact loopS_st hex ro body _ s
  · rename_i i c p _
    rw [fL_eq fNat_eq]
    unfold loopI
    split
    · refine valsT_st _ _ fun xs => ?_
      simp only [T.All, fSt_eq]
      rw [T.All_bind]
      refine T.All_mono (fun q hq => ?_) _ (hex ro body (genS p.locs (dstL body) c.bnd s))
      have hq' := (genB_stat p.locs s.bnd.v.length s.bs 0).trans hq
      split
      · split
        · exact valsT_st _ _ fun xs => trivial
        · trivial
      · exact hq'
    · trivial
theorem loopC_ok {ex : Ex} (hex : Snd P C N w0 σ τ ex) (hsx : StEx ex) {ro : Option Nat} {body : Code} {Q : Exit → Act → World → Prop} {s : St} {n : Env} {a : Act} {w : World} {Φ : List Int → X × St → Prop}
    (hns : n.s = σ) (hnt : n.t = τ) (hro : ∀ l, ro = some l → l < n.b.length) (h : Rep N w0 n s a w) (hd : (loopC ex C ro body s).den C Φ n.r)
    (hK : ∀ n' x s' a' w', Ext n n' → Rep N w0 n' s' a' w' → Φ n'.r (x, s') → Q x.exit a' w') : (Code.loop body).wpIn (Wd (ro.map fun l => n.b.getD l 0)) 0 P Q a w := by
  unfold loopC at hd
  split at hd
  · exact wpIn_loop_rounds 100000 (loopS_ok hex 100000 s n a w Φ hns hnt hro rfl h hd hK)
  · rename_i i c p hf
    have hci := (findLp_ok hf).2
    rw [Nat.sub_zero] at hci
    rw [fL_eq fNat_eq] at hd
    unfold loopI at hd
    split at hd
    · rename_i hc
      simp only [Bool.and_eq_true] at hc
      obtain ⟨xs, hv, hq⟩ := valsT_den _ _ hd
      simp only [T.den, hci, fSt_eq] at hq
      obtain ⟨⟨q1, q2⟩, q3⟩ := hq
      obtain ⟨n1, e1, e2, e3, e4⟩ := Rep.inst (bnd := c.bnd) h hc.1 h (Ext.refl n) hc.2 (Stat.refl _) hv q2
      have hl := hv.len
      refine wpIn_loop_rounds (c.mea (n.r ++ xs.map (E.den n.r)) + 1) ?_
      exact loopI_ok hex hsx hns hnt hro rfl h hc.1 hci (fun ys h1 h2 h3 => q3 ys (by rw [h1]; simpa using hl.symm) h2 h3) hK _ n1 _ a w hl e1 e2 e3 e4 q1 q2 (Nat.lt_succ_self _)
    · exact hd.elim
end
def stepC (ex : Ex) (tb : Tb) (C : List Con) (ro : Option Nat) (c : Code) (s : St) : T (X × St) :=
  match c with
  | .skip => .ret (.nrm, s)
  | .label _ => .ret (.nrm, s)
  | .ret => .ret (.ret, s)
  | .exit id => .ret (.ext id, s)
  | .seq a b => (ex ro a s).bind fun p => match p.1 with
    | .nrm => ex ro b p.2
    | _ => .ret p
  | .cond c x y => match opB s.tmps [] c with
    | some g => fB (reB s.bnd g) fun g => match g with
      | .lit true => ex ro x s
      | .lit false => ex ro y s
      | g => .ite g (assumeK s g true (ex ro x)) (assumeK s g false (ex ro y))
    | none => .fail
  | .block id body => (ex ro body s).bind fun p => match p.1 with
    | .ext id' => .ret (if id' = id then (.nrm, p.2) else p)
    | _ => .ret p
  | .loop body => loopC ex C ro body s
  | .region _ ops draw => (regS (ex) tb C ops draw s).bind fun s' => .ret (.nrm, s')
  | .rangeFunc f ps assign body => rangeS ex tb C ro s f ps assign body
  | _ => .fail
def exec (tb : Tb) (C : List Con) (f : Nat) : Ex := Nat.rec (motive := fun _ => Ex) (fun _ _ _ => .fail) (fun _ ih => stepC ih tb C) f
theorem stepC_st {ex : Ex} (hex : StEx ex) (tb : Tb) (C : List Con) (ro : Option Nat) (c : Code) (s : St) : (stepC ex tb C ro c s).All fun p => Stat s.bs p.2.bs := by
  cases c with
  | skip => exact Stat.refl _
  | label l => exact Stat.refl _
  | ret => exact Stat.refl _
  | exit id => exact Stat.refl _
  | seq x y =>
    simp only [stepC]
    rw [T.All_bind]
    refine T.All_mono (fun p hp => ?_) _ (hex ro x s)
    split
    · exact T.All_mono (fun q hq => hp.trans hq) _ (hex ro y p.2)
    · exact hp
  | cond c x y =>
    simp only [stepC]
    split
    · rw [fB_eq]
      split
      · exact hex ro x s
      · exact hex ro y s
      · rw [assumeK_eq, assumeK_eq]
        exact ⟨hex ro x (assume s _ true), hex ro y (assume s _ false)⟩
    · trivial
  | block id body =>
    simp only [stepC]
    rw [T.All_bind]
    refine T.All_mono (fun p hp => ?_) _ (hex ro body s)
    split
    · simp only [T.All]; split <;> exact hp
    · exact hp
  | loop body => exact loopC_st hex ro body s
  | region id ops draw =>
    simp only [stepC]
    rw [T.All_bind]
    exact T.All_mono (fun p hp => hp) _ (regS_st hex tb C ops draw s)
  | rangeFunc f p x y => exact rangeS_st hex tb C ro s f p x y
  | scope b => trivial
  | goto l => trivial
  | refuse r => trivial
theorem exec_st (tb : Tb) (C : List Con) : ∀ f, StEx (exec tb C f)
  | 0 => fun ro c s => trivial
  | f + 1 => fun ro c s => stepC_st (exec_st tb C f) tb C ro c s
end Go.Sx

/- A symbolic executor: ranges over functions, code, whole calls. -/
namespace Go.Sx
open Go.RowKit
set_option linter.unusedVariables false
set_option linter.unusedSimpArgs false
section
variable {P : Program} {tb : Tb} {C : List Con} {N : Nat} {w0 : World} {σ : List (Option Addr × Nat)} {τ : List Value}
theorem rangeS_ok [TbOk P tb] {ex : Ex} (hex : Snd P C N w0 σ τ ex) (hC : ∀ c ∈ C, ConOk P N w0 σ τ c) (hN : N ≤ w0.heap.size) (hP : Fine P) {ro : Option Nat} {s : St} {f : Operand} {ps : Array Tmp} {assign body : Code} {n : Env} {a : Act} {w : World} {Φ : List Int → X × St → Prop} {Q : Exit → Act → World → Prop}
    (hns : n.s = σ) (hnt : n.t = τ) (hro : ∀ l, ro = some l → l < n.b.length) (h : Rep N w0 n s a w) (hd : (rangeS ex tb C ro s f ps assign body).den C Φ n.r)
    (hK : ∀ n' x s' a' w', Ext n n' → Rep N w0 n' s' a' w' → Φ n'.r (x, s') → Q x.exit a' w') : (Code.rangeFunc f ps assign body).wpIn (Wd (ro.map fun l => n.b.getD l 0)) 0 P Q a w := by
  unfold rangeS at hd
  split at hd
  case isFalse => exact hd.elim
  rename_i hw
  split at hd
  case h_2 => exact hd.elim
  rename_i g cap hf
  split at hd
  case isFalse => exact hd.elim
  rename_i hany
  split at hd
  case h_2 => exact hd.elim
  rename_i l s1 hent
  rw [fMem_eq, T.den_bind] at hd
  have e1 := opP_den h.tmps (asm := []) (fun g hg => by cases hg) hf
  have hfn : ∃ fn, P.funcs[g]? = some fn ∧ fn.body.isSome = true := by
    cases hq : tb.func g with
    | none => rw [hq] at hany; cases hany
    | some fn => rw [hq] at hany; exact ⟨fn, func_ok hq, hany⟩
  obtain ⟨fn0, hfn, hbody⟩ := hfn
  have hname := hP.name g fn0 hfn hbody
  have hb2 : fn0.body.isNone = false := by cases hb : fn0.body <;> simp_all
  have hw' := hw
  simp only [wfSt, Bool.and_eq_true] at hw'
  have hwt : s.tmps.all (wfS n.r.length n.b.length) = true := by rw [h.lens.1, h.lens.2]; exact hw'.1.1
  have hwb : s.bs.all (wfBlk n.r.length n.b.length) = true := by rw [h.lens.1, h.lens.2]; exact hw'.1.2
  have hwd : (s.df.all fun d => Nat.blt d n.b.length) = true := by rw [h.lens.2]; exact hw'.2
  have hN' : N ≤ w.heap.size := Nat.le_trans hN h.below.size
  have hlaid := fun fn => enterS_ok (P := P) hN h hw hro hent fn
  refine wpIn_rangeFunc fun fn _ => ?_
  obtain ⟨mark, w1, m, henter, hext, hlm, hrep⟩ := hlaid fn
  have hd' : (callS ex tb C s1 g (.c (.k (.yld l)) :: cap.map (fun k => .c (.k k)))).den C (fun r p => (afterS ex ro l p).den C Φ r) m.r := by
    have e : m.r = n.r := by
      have h1 := hrep.lens.1
      have h2 := h.lens.1
      have h3 : s1.bnd = s.bnd := by
        unfold enterS at hent
        obtain ⟨st, sb, sn, sd⟩ := s
        simp only at hent
        split at hent
        · simp only [Option.some.injEq, Prod.mk.injEq] at hent; rw [← hent.2]
        · split at hent
          · simp only [Option.some.injEq, Prod.mk.injEq] at hent; rw [← hent.2]
          · cases hent
      exact (hext.r.eq_of_length (by rw [h1, h2, h3])).symm
    rw [e]; exact hd
  have hcall := callS_ok (P := P) hex hC hN (hext.s.trans hns) (hext.t.trans hnt) hrep hd'
  have hev : a.eval f = .func (.func g) #[] (cap.map (K.den n)).toArray := by rw [e1]; rfl
  have hcap : cap.map (K.den m) = cap.map (K.den n) := by
    exact wfKs_den hext cap (opd_wf hwt hf)
  refine ⟨m.b.getD l 0, mark, w1, { target := .fn (.func g) (cap.map (K.den n)).toArray, args := #[.func (.yield (m.b.getD l 0)) #[] #[]] }, w1, g,
    #[.func (.yield (m.b.getD l 0)) #[] #[]] ++ (cap.map (K.den n)).toArray, w1, henter, ?_, fun _ _ => trivial, ?_, fun hx => by simp [Wd] at hx, ?_⟩
  · simp only [resolve, hev]
    simp [Deferred.ofValue, Act.eval]
  · simp only [invoke, callFunc, Sem.run_bind, run_program, Result.andThen_ok, hfn, hname, hb2, Bool.false_eq_true, if_false, Sem.run_pure]
  · have hargs : #[.func (.yield (m.b.getD l 0)) #[] #[]] ++ (cap.map (K.den n)).toArray = ((PV.c (.k (.yld l)) :: cap.map (fun k => PV.c (.k k))).map (PV.den m)).toArray := by
      rw [← hcap]
      have e5 : (cap.map (fun k => PV.c (.k k))).map (PV.den m) = cap.map (K.den m) := by rw [List.map_map]; rfl
      rw [List.map_cons, e5]
      apply Array.toList_inj.1
      rw [Array.toList_append]
      rfl
    rw [hargs]
    refine CallsIn.mono (F := Wd (ro.map fun l => n.b.getD l 0)) (n := 0 - 1) hcall fun e w3 ⟨m3, v, s3, he3, hr3, _, hφ, he⟩ => ?_
    rw [he]
    unfold afterS at hφ
    split at hφ
    · exact hφ.elim
    · rename_i cc tt stt pe q1 q2 q3 q4 q5 hne hrec
      split at hφ
      · rename_i s4 hl4
        obtain ⟨fn4, st4, p4, tm4, ps4, as4, bo4, d4, hx4, hrep4⟩ := loopAt_ok hr3 hl4
        have e4 : m3.b.getD l 0 = m.b.getD l 0 := getD_prefix he3.b hlm 0
        have hq := (hr3.mem.2.2 l _ hrec).2
        obtain ⟨fq, hq⟩ := hq
        rw [hx4] at hq
        have hpe : p4 = pe ∧ stOf st4 = stOf stt := by
          have := Option.some.inj hq
          injection this with this
          injection this with i1 i2
          exact ⟨i2, i1⟩
        have hnb : stOf st4 ≠ .busy := by
          rw [hpe.2]
          intro hbusy
          match stt, hne, hbusy with
          | 0, _, hb => cases hb
          | 1, hne, _ => exact hne rfl
          | 2, _, hb => cases hb
          | k + 3, _, hb => cases hb
        rw [e4] at hx4 hrep4
        refine ⟨_, _, run_endLoop hx4 hnb, ?_⟩
        simp only
        rw [hpe.1]
        have hrep5 : Rep N w0 m3 s4 { a with defers := mark ++ a.defers } (w3.putObj (m.b.getD l 0) (.loop { state := .exhausted, pending := p4, fn := fn4, tmps := (tm4.map (SV.den m3)).toArray, params := ps4, assign := as4, body := bo4, defers := m3.b.getD d4 0 })) := hrep4
        rw [hpe.1] at hrep5
        cases pe with
        | none => exact hK m3 .nrm s4 _ _ (hext.trans he3) hrep5 hφ
        | some c =>
          simp only at hφ ⊢
          rw [← ro_ext (hext.trans he3) hro]
          exact hex ro c s4 m3 _ _ Φ Q ((hext.trans he3).s.trans hns) ((hext.trans he3).t.trans hnt) (ro_lt (hext.trans he3) hro) hrep5 hφ fun n2 x2 s2 a2 w2 he2 hr2 hφ2 => hK n2 x2 s2 a2 w2 ((hext.trans he3).trans he2) hr2 hφ2
      · exact hφ.elim
    · exact hφ.elim
theorem stepC_ok [TbOk P tb] {ex : Ex} (hex : Snd P C N w0 σ τ ex) (hsx : StEx ex) (hC : ∀ c ∈ C, ConOk P N w0 σ τ c) (hN : N ≤ w0.heap.size) (hP : Fine P) : Snd P C N w0 σ τ (stepC ex tb C) := by
  intro ro c s n a w Φ Q hns hnt hro h hd hK
  cases c with
  | skip => exact wpIn_skip (hK n .nrm s a w (Ext.refl n) h hd)
  | label l => exact wpIn_label (hK n .nrm s a w (Ext.refl n) h hd)
  | ret => exact wpIn_ret (hK n .ret s a w (Ext.refl n) h hd)
  | exit id => exact wpIn_exit (hK n (.ext id) s a w (Ext.refl n) h hd)
  | seq x y =>
    simp only [stepC] at hd
    rw [T.den_bind] at hd
    refine wpIn_seq (hex ro x s n a w _ _ hns hnt hro h hd fun n' x' s' a' w' he hr hφ => ?_)
    cases x' with
    | nrm =>
      have := hex ro y s' n' a' w' Φ Q (he.s.trans hns) (he.t.trans hnt) (ro_lt he hro) hr hφ fun n2 x2 s2 a2 w2 he2 hr2 hφ2 => hK n2 x2 s2 a2 w2 (he.trans he2) hr2 hφ2
      rw [ro_ext he hro] at this
      exact this
    | ext id => exact hK n' (.ext id) s' a' w' he hr hφ
    | ret => exact hK n' .ret s' a' w' he hr hφ
  | cond c x y =>
    have ha : Asm n.r [] := fun g hg => by cases hg
    simp only [stepC] at hd
    split at hd
    case h_2 => exact hd.elim
    rename_i g hg
    rw [fB_eq] at hd
    have hev : a.eval c = .bool ((reB s.bnd g).den n.r) := by rw [opB_den h.tmps ha hg, reB_den h.bnd]
    generalize reB s.bnd g = q at *
    split at hd
    · exact wpIn_cond_true hev (hex ro x s n a w Φ Q hns hnt hro h hd hK)
    · exact wpIn_cond_false hev (hex ro y s n a w Φ Q hns hnt hro h hd hK)
    · rename_i g' _ _
      rw [assumeK_eq, assumeK_eq] at hd
      simp only [T.den, B.prop_iff] at hd
      refine wpIn_cond_split hev (fun hb => ?_) (fun hb => ?_)
      · exact hex ro x _ n a w Φ Q hns hnt hro (h.assume hb) (hd.1 hb) hK
      · exact hex ro y _ n a w Φ Q hns hnt hro (h.assume hb) (hd.2 (by simp [hb])) hK
  | block id body =>
    simp only [stepC] at hd
    rw [T.den_bind] at hd
    refine wpIn_block (hex ro body s n a w _ _ hns hnt hro h hd fun n' x' s' a' w' he hr hφ => ?_)
    cases x' with
    | nrm => exact hK n' .nrm s' a' w' he hr hφ
    | ext id' =>
      simp only [T.den] at hφ
      show (if id' = id then Q .normal a' w' else Q (.exit id') a' w')
      split
      · rename_i e; rw [if_pos e] at hφ; exact hK n' .nrm s' a' w' he hr hφ
      · rename_i e; rw [if_neg e] at hφ; exact hK n' (.ext id') s' a' w' he hr hφ
    | ret => exact hK n' .ret s' a' w' he hr hφ
  | loop body =>
    simp only [stepC] at hd
    exact loopC_ok hex hsx hns hnt hro h hd hK
  | region id ops draw =>
    simp only [stepC] at hd
    rw [T.den_bind] at hd
    exact regS_ok hex hC hN hP hns hnt h hd fun n' s' a' w' he hr hφ => hK n' .nrm s' a' w' he hr hφ
  | rangeFunc f p x y => exact rangeS_ok hex hC hN hP hns hnt hro h hd hK
  | scope b => exact hd.elim
  | goto l => exact hd.elim
  | refuse r => exact hd.elim
theorem exec_ok [TbOk P tb] (hC : ∀ c ∈ C, ConOk P N w0 σ τ c) (hN : N ≤ w0.heap.size) (hP : Fine P) : ∀ f, Snd P C N w0 σ τ (exec tb C f)
  | 0 => fun ro c s n a w Φ Q _ _ _ _ hd _ => hd.elim
  | f + 1 => stepC_ok (tb := tb) (exec_ok hC hN hP f) (exec_st tb C f) hC hN hP
end
/-- The table of a program. -/
def teOf (P : Program) (t : Nat) : Option TE := match P.underlying t, P.info? t with
  | some d, some i => some ⟨t, red d, i.size, match i.zero with | some v => ofPV v | none => none, !P.stoodInHeld t && !P.eqGuardType P.depth t⟩
  | _, _ => none
theorem teOf_ok {P : Program} {t : Nat} {e : TE} (h : teOf P t = some e) : TEOk P e := by
  unfold teOf at h
  split at h
  · rename_i d i hd hi
    cases h
    refine ⟨⟨d, hd, rfl⟩, ⟨i, hi, rfl⟩, fun z hz => ?_, fun hq => ?_⟩
    · simp only at hz
      split at hz
      · rename_i v hv; exact ⟨i, v, hi, hv, hz⟩
      · cases hz
    · simpa using hq
  · cases h
theorem tb_ok {P : Program} {ty : List TE} {fn : List (Nat × Func)} (h1 : ty.map (fun e => teOf P e.t) = ty.map some) (h2 : fn.map (fun e => P.funcs[e.1]?) = fn.map fun e => some e.2) : TbOk P ⟨ty, fn⟩ := by
  constructor
  · intro e he
    have : ∀ (l : List TE), l.map (fun e => teOf P e.t) = l.map some → ∀ e ∈ l, teOf P e.t = some e := fun l hl e he => by
      induction l with
      | nil => cases he
      | cons x r ih =>
        simp only [List.map_cons, List.cons.injEq] at hl
        rcases List.mem_cons.1 he with h | h
        · rw [h]; exact hl.1
        · exact ih hl.2 h
    exact teOf_ok (this ty h1 e he)
  · intro e he
    have : ∀ (l : List (Nat × Func)), l.map (fun e => P.funcs[e.1]?) = l.map (fun e => some e.2) → ∀ e ∈ l, P.funcs[e.1]? = some e.2 := fun l hl e he => by
      induction l with
      | nil => cases he
      | cons x r ih =>
        simp only [List.map_cons, List.cons.injEq] at hl
        rcases List.mem_cons.1 he with h | h
        · rw [h]; exact hl.1
        · exact ih hl.2 h
    exact this fn h2 e he
theorem fine_ok {P : Program} (h1 : (P.funcs.toList.all fun fn => fn.body.isNone || !(fn.name == "runtime.NumGoroutine")) = true) (h2 : P.follows .mixedOrders = true) : Fine P := by
  refine ⟨fun g fn hf hb => ?_, h2⟩
  have := List.all_eq_true.1 h1 fn (by have := Array.mem_of_getElem? hf; simpa using this)
  cases hc : fn.body with
  | none => rw [hc] at hb; cases hb
  | some c => rw [hc] at this; simpa using this
/-- Values that are known. -/
def noU : SV → Bool
  | .u _ => false
  | _ => true
section
variable {n m : Env} (hr : n.r = m.r) (hs : n.s = m.s) (ht : n.t = m.t) (hb : n.b = m.b)
include hr hs ht hb
theorem K.same (x : K) : x.den n = x.den m := by cases x <;> simp only [K.den, hr, hs, ht, hb]
theorem CV.same (x : CV) : x.den n = x.den m := by
  cases x with
  | k x => exact x.same hr hs ht hb
  | clo f a b => simp only [CV.den, funext (K.same hr hs ht hb)]
  | con v => rfl
theorem PV.same (x : PV) : x.den n = x.den m := by
  cases x with
  | c x => exact x.same hr hs ht hb
  | agg l => simp only [PV.den, funext (CV.same hr hs ht hb)]
theorem SV.same (x : SV) (hx : noU x = true) : x.den n = x.den m := by
  cases x with
  | p x => exact x.same hr hs ht hb
  | g b x => simp only [SV.den, hr, x.same hr hs ht hb]
  | tup l => simp only [SV.den, funext (PV.same hr hs ht hb)]
  | u i => cases hx
end
/-- A whole call whose result names no block. -/
def runP (tb : Tb) (C : List Con) (fuel : Nat) (f : FuncId) (args : List PV) (bnd : Bnd) : T SV :=
  (callS (exec tb C fuel) tb C ⟨[], [], bnd, []⟩ f args).bind fun p => if wfS p.2.bnd.v.length 0 p.1 && noU p.1 then .ret p.1 else .fail
def env (r : List Int) (σ : List (Option Addr × Nat)) (τ : List Value) : Env := ⟨r, σ, τ, [], r.map fun _ => undef, by simp⟩
theorem sx {P : Program} {tb : Tb} [TbOk P tb] (hP : Fine P) {C : List Con} {w : World} {σ : List (Option Addr × Nat)} {τ : List Value} (hC : ∀ c ∈ C, ConOk P w.heap.size w σ τ c) (fuel : Nat) (f : FuncId) (args : List PV) (bnd : Bnd) (r : List Int) (hb : BndOk r bnd)
    (R : Value → Prop) (hd : (runP tb C fuel f args bnd).den C (fun r v => R (v.den (env r σ τ))) r) :
    Calls P f (args.map (PV.den (env r σ τ))).toArray w fun e w' => ∃ v, e = .returned v ∧ R v ∧ Below w.heap.size w w' := by
  unfold runP at hd
  rw [T.den_bind] at hd
  have hrep : Rep w.heap.size w (env r σ τ) ⟨[], [], bnd, []⟩ ⟨#[], []⟩ w := ⟨hb, ⟨rfl, fun i j x hi => by simp [env] at hi, fun i b hi => by simp at hi⟩, Below.refl _ _, rfl⟩
  refine ((callsIn_wide (n := 0)).1 (callS_ok (P := P) (args := args) (exec_ok hC (Nat.le_refl _) hP fuel) hC (Nat.le_refl _) (n := env r σ τ) rfl rfl hrep hd)).mono fun e w' ⟨m, v, s', hm1, hm2, hm3, hφ, he⟩ => ?_
  simp only at hφ
  split at hφ
  · rename_i hw
    simp only [Bool.and_eq_true] at hw
    refine ⟨_, he, ?_, hm2.below⟩
    have hx : Ext { m with b := [] } m := ⟨rfl, rfl, List.prefix_refl _, List.nil_prefix, List.prefix_refl _⟩
    rw [wfS_den hx v (by show wfS m.r.length 0 v = true; rw [hm2.lens.1]; exact hw.1), SV.same (n := { m with b := [] }) (m := env m.r σ τ) rfl hm1.s hm1.t rfl v hw.2]
    exact hφ
  · exact hφ.elim
end Go.Sx

/- A symbolic executor: laws that answer true. -/
namespace Go.Sx
open Go.RowKit
set_option linter.unusedVariables false
set_option linter.unusedSimpArgs false
theorem bnd_in : ∀ {ys : List Int} {b : List (Int × Int)}, BndOk ys ⟨b, [], []⟩ → inB ys b
  | [], [], _ => trivial
  | [], _ :: _, h => by have := h.len; simp at this
  | _ :: _, [], h => by have := h.len; simp at this
  | x :: l, y :: t, h => by
    have h0 := h.var 0
    have ih : BndOk l ⟨t, [], []⟩ := ⟨by have := h.len; simpa using this, fun i => by have := h.var (i + 1); simpa [lo, hi] using this, fun f hf => (by cases hf), fun b hb => (by cases hb)⟩
    simp only [lo, hi, List.getD_cons_zero] at h0
    exact ⟨h0.1, h0.2, bnd_in ih⟩
theorem in_bnd {ys : List Int} {b : List (Int × Int)} (h : inB ys b) : BndOk ys ⟨b, [], []⟩ := by
  have := inB_ok 0 h
  simpa using this
theorem inB_size {ys : List Int} {b : List (Int × Int)} (h : inB ys b) : ys.length = b.length := inB_len h
/-- For all numbers that lie where they should. -/
def allB : List (Int × Int) → (List Int → Prop) → Prop
  | [], p => p []
  | b :: t, p => ∀ x, b.1 ≤ x → x ≤ b.2 → allB t fun ys => p (x :: ys)
theorem allB_in : ∀ {b : List (Int × Int)} {p : List Int → Prop}, allB b p → ∀ ys, inB ys b → p ys
  | [], p, h, [], _ => h
  | [], p, h, _ :: _, hi => hi.elim
  | _ :: _, p, h, [], hi => hi.elim
  | x :: t, p, h, y :: ys, hi => allB_in (h y hi.1 hi.2.1) ys hi.2.2
/-- A law's tree answers true. -/
def T.law (C : List Con) : T SV → List Int → Prop
  | .ret (.p (.c (.k (.bool b)))), r => b.prop r
  | .ite b t e, r => (b.prop r → t.law C r) ∧ (¬ b.prop r → e.law C r)
  | .both t e, r => t.law C r ∧ e.law C r
  | .con c xs k, r => match C[c]? with
    | none => False
    | some c => c.pre (xs.map (E.den r)) ∧ allB c.bnd fun ys => c.post (xs.map (E.den r)) ys → k.law C (r ++ ys)
  | .lop c xs m k, r => match C[c]? with
    | none => False
    | some c => (c.pre (r ++ xs.map (E.den r)) ∧ inB (xs.map (E.den r)) c.bnd) ∧ allB c.bnd fun ys => c.pre (r ++ ys) → k.law C (r ++ (ys ++ List.replicate m 0))
  | .chk c o xs, r => match C[c]? with
    | none => False
    | some c => c.pre (r.take o ++ xs.map (E.den r)) ∧ inB (xs.map (E.den r)) c.bnd ∧ c.mea (r.take o ++ xs.map (E.den r)) < c.mea (r.take (o + xs.length))
  | _, _ => False
theorem law_den {C : List Con} {σ : List (Option Addr × Nat)} {τ : List Value} (t : T SV) : ∀ r, t.law C r → t.den C (fun r v => v.den (env r σ τ) = .bool true) r := by
  induction t with
  | ret a =>
    intro r h
    unfold T.law at h
    split at h
    · rename_i b hb
      cases hb
      simp only [T.den, SV.den, PV.den, CV.den, K.den, env, (B.prop_iff _ _).1 h]
    all_goals first | (rename_i hx; cases hx; done) | exact h.elim
  | ite b t e ht he => intro r h; exact ⟨fun hb => ht r (h.1 hb), fun hb => he r (h.2 hb)⟩
  | both t e ht he => intro r h; exact ⟨ht r h.1, he r h.2⟩
  | con c xs k hk =>
    intro r h
    simp only [T.law] at h
    simp only [T.den]
    split
    · rename_i hc; rw [hc] at h; exact h.elim
    · rename_i c' hc; rw [hc] at h; exact ⟨h.1, fun ys h1 h2 h3 => hk _ (allB_in h.2 ys (bnd_in h2) h3)⟩
  | lop c xs m k hk =>
    intro r h
    simp only [T.law] at h
    simp only [T.den]
    split
    · rename_i hc; rw [hc] at h; exact h.elim
    · rename_i c' hc; rw [hc] at h; exact ⟨h.1, fun ys h1 h2 h3 => hk _ (allB_in h.2 ys h2 h3)⟩
  | chk c o xs => intro r h; exact h
  | fail => intro r h; exact h
theorem sx_law {P : Program} {tb : Tb} [TbOk P tb] (hP : Fine P) {C : List Con} {w : World} {σ : List (Option Addr × Nat)} {τ : List Value} (hC : ∀ c ∈ C, ConOk P w.heap.size w σ τ c) (fuel : Nat) (f : FuncId) (args : List PV) (bnd : Bnd) (r : List Int) (hb : BndOk r bnd)
    (hd : (runP tb C fuel f args bnd).law C r) :
    Calls P f (args.map (PV.den (env r σ τ))).toArray w fun e w' => e = .returned (.bool true) ∧ Below w.heap.size w w' :=
  (sx hP hC fuel f args bnd r hb (fun v => v = .bool true) (law_den _ r hd)).mono fun e w' ⟨v, he, hv, hB⟩ => ⟨by rw [he, hv], hB⟩
/-- The contract of a function without arguments that answers true. -/
def trueCon (f : FuncId) : Con := { f := f, args := [], res := [.one none], bnd := [(1, 1)], pre := fun _ => True, post := fun _ _ => True }
theorem trueCon_ok {P : Program} {N : Nat} {w0 : World} {σ : List (Option Addr × Nat)} {τ : List Value} {f : FuncId} (h : ∀ w, Calls P f #[] w fun e w' => e = .returned (.bool true) ∧ Below w.heap.size w w') : ConOk P N w0 σ τ (trueCon f) := by
  intro _ n args xs w _ _ ha _ _
  have e : args = [] := by
    cases args with
    | nil => rfl
    | cons x l => simp [trueCon, conArgs] at ha
  subst e
  refine (h w).mono fun e w' ⟨he, hB⟩ => ⟨[1], rfl, ⟨rfl, fun i => ?_, fun f hf => (by cases hf), fun b hb => (by cases hb)⟩, trivial, ?_, hB⟩
  · cases i with
    | zero => simp [lo, hi, trueCon]
    | succ i => simp [lo, hi, trueCon]
  · rw [he]
    simp [trueCon, resVal, resAt, RSh.at, cellAt, SV.den, PV.den, CV.den, K.den, B.den, E.den, Env.moreZ, Env.more]
theorem bnd_nil : BndOk [] ⟨[], [], []⟩ := ⟨rfl, fun i => by simp [lo, hi], fun f hf => (by cases hf), fun b hb => (by cases hb)⟩
theorem bnd_cons {x l h : Int} {r : List Int} {s : List (Int × Int)} (h1 : l ≤ x) (h2 : x ≤ h) (k : BndOk r ⟨s, [], []⟩) : BndOk (x :: r) ⟨(l, h) :: s, [], []⟩ := by
  refine ⟨by simp [k.len], fun i => ?_, fun f hf => (by cases hf), fun b hb => (by cases hb)⟩
  cases i with
  | zero => simpa [lo, hi] using ⟨h1, h2⟩
  | succ i => simpa [lo, hi] using k.var i
def I64 (x : Int) : Prop := -9223372036854775808 ≤ x ∧ x ≤ 9223372036854775807
abbrev i64b : Int × Int := (-9223372036854775808, 9223372036854775807)
abbrev vi (i : Nat) : CV := .k (.int .i64 (.var i))
/-- A struct of two numbers. -/
def Pair (v : Value) : Prop := ∃ a b : Int, v = .agg #[.int .i64 a, .int .i64 b] ∧ I64 a ∧ I64 b
theorem wf_i64 {n : Int} (h : (Lit.int .i64 n).wf = true) : I64 n := by
  simp [Lit.wf, IntKind.min, IntKind.max, IntKind.signed, IntKind.bits] at h
  exact ⟨by omega, by omega⟩
section
open Go.Deep Go.ChangeShapes Go.WideShapes
variable {H : Type} {enc : TypeId × Value → H} {P : Program} {w : World} {base : Nat} {spare : Nat → Bool} {held : Bool}
theorem fieldAt {t : TypeId} {fs : Array Field} {fuel : Nat} {cs : List Value} {x : DataW H × List MemPlace} (ht : P.underlying t = some (.struct fs)) (hone : oneCellFields P fs = true) (hC : P.cellsOf t = fs.size)
    (h : DataW.trod enc P w base spare held fuel t cs = some x) (j : Nat) (f : Field) (hj : fs[j]? = some f) :
    ∃ v y n, cs[j]? = some v ∧ DataW.trod enc P w base spare held n f.type [v] = some y := by
  obtain ⟨xs, n, _, _, hl, hxl, hg⟩ := DataW.trod_struct ht h
  obtain ⟨ho, hc⟩ := hone_of hone j f hj
  have hlt : j < fs.size := (Array.getElem?_eq_some_iff.1 hj).1
  have h1 := hg j f hj
  rw [ho, hc] at h1
  have hcs : j < cs.length := by omega
  have hx : j < xs.length := by omega
  have e : (cs.drop j).take 1 = [cs[j]] := by rw [List.drop_eq_getElem_cons hcs]; rfl
  rw [e, List.getElem?_eq_getElem hx] at h1
  exact ⟨_, _, n, List.getElem?_eq_getElem hcs, h1⟩
theorem intAt {t : TypeId} {k : IntKind} {n : Nat} {v : Value} {y : DataW H × List MemPlace} (ht : P.underlying t = some (.int k)) (h : DataW.trod enc P w base spare held n t [v] = some y) : ∃ i, v = .int k i ∧ (Lit.int k i).wf = true := by
  obtain ⟨i, hi, _, hw⟩ := DataW.trod_int ht h
  exact ⟨i, by simpa using hi, hw⟩
theorem open_pair {r : Reach} {b0 : Nat} {t : TypeId} {f0 f1 : Field} {v : Value} {d : DataW H} {p : List MemPlace} (ht : P.underlying t = some (.struct #[f0, f1])) (hone : oneCellFields P #[f0, f1] = true) (hC : P.cellsOf t = 2)
    (k0 : P.underlying f0.type = some (.int .i64)) (k1 : P.underlying f1.type = some (.int .i64)) (hv : Value.okWide P w r b0 t v) (h : DataW.Trod enc P w 0 (fun _ => true) true t v d p) : Pair v := by
  obtain ⟨cs, rfl, hsz⟩ := okWide_struct ht hv
  obtain ⟨fuel, hf⟩ := h
  obtain ⟨l⟩ := cs
  have hsz' : l.length = 2 := by rw [← hC]; simpa using hsz
  have F := fun j f hj => fieldAt ht hone hC hf j f hj
  match l, hsz' with
  | [c0, c1], _ =>
    obtain ⟨v0, y0, n0, e0, t0⟩ := F 0 _ rfl
    obtain ⟨v1, y1, n1, e1, t1⟩ := F 1 _ rfl
    simp only [Value.cells, List.getElem?_cons_zero, List.getElem?_cons_succ, Option.some.injEq] at e0 e1
    subst e0 e1
    obtain ⟨a, rfl, wa⟩ := intAt k0 t0
    obtain ⟨b, rfl, wb⟩ := intAt k1 t1
    exact ⟨a, b, rfl, wf_i64 wa, wf_i64 wb⟩
end
end Go.Sx

/- A symbolic executor: contracts, got by walking. -/
namespace Go.Sx
open Go.RowKit
set_option linter.unusedVariables false
set_option linter.unusedSimpArgs false
/-! What a result holds, as numbers. -/
def bI : Bool → Int
  | true => 1
  | false => 0
theorem bI_le (b : Bool) : 0 ≤ bI b ∧ bI b ≤ 1 := by cases b <;> simp [bI]
theorem bI_if {p : Prop} [Decidable p] : bI (decide p) = if p then 1 else 0 := by by_cases h : p <;> simp [h, bI]
def cellV (r : List Int) : Option IntKind → CV → Option Int
  | some k, .k (.int k' e) => if Nat.beq (kq k) (kq k') then some (e.den r) else none
  | none, .k (.bool b) => some (bI (b.den r))
  | _, _ => none
def cellsV (r : List Int) : List (Option IntKind) → List CV → Option (List Int)
  | [], [] => some []
  | k :: l, x :: m => match cellV r k x, cellsV r l m with
    | some y, some ys => some (y :: ys)
    | _, _ => none
  | _, _ => none
def pvV (r : List Int) : RSh → PV → Option (List Int)
  | .one k, .c x => match cellV r k x with
    | some y => some [y]
    | none => none
  | .agg ks, .agg cs => cellsV r ks cs
  | _, _ => none
def pvsV (r : List Int) : List RSh → List PV → Option (List Int)
  | [], [] => some []
  | k :: l, x :: m => match pvV r k x, pvsV r l m with
    | some y, some ys => some (y ++ ys)
    | _, _ => none
  | _, _ => none
def svV (r : List Int) : List RSh → SV → Option (List Int)
  | [k], .p x => pvV r k x
  | [_], _ => none
  | l, .tup m => pvsV r l m
  | _, _ => none
def resOk (C : Con) (xs r : List Int) (v : SV) : Prop := match svV r C.res v with
  | some ys => inB ys C.bnd ∧ C.post xs ys
  | none => False
/-- All leaves of a tree keep a contract. -/
def T.res (C : List Con) (c : Con) (xs : List Int) : T SV → List Int → Prop
  | .ret v, r => resOk c xs r v
  | .ite b t e, r => (b.prop r → t.res C c xs r) ∧ (¬ b.prop r → e.res C c xs r)
  | .both t e, r => t.res C c xs r ∧ e.res C c xs r
  | .con i zs k, r => match C[i]? with
    | none => False
    | some d => d.pre (zs.map (E.den r)) ∧ allB d.bnd fun ys => d.post (zs.map (E.den r)) ys → k.res C c xs (r ++ ys)
  | .lop i zs m k, r => match C[i]? with
    | none => False
    | some d => (d.pre (r ++ zs.map (E.den r)) ∧ inB (zs.map (E.den r)) d.bnd) ∧ allB d.bnd fun ys => d.pre (r ++ ys) → k.res C c xs (r ++ (ys ++ List.replicate m 0))
  | .chk i o zs, r => match C[i]? with
    | none => False
    | some d => d.pre (r.take o ++ zs.map (E.den r)) ∧ inB (zs.map (E.den r)) d.bnd ∧ d.mea (r.take o ++ zs.map (E.den r)) < d.mea (r.take (o + zs.length))
  | .fail, _ => False
theorem res_den {C : List Con} {c : Con} {xs : List Int} {Φ : List Int → SV → Prop} (hΦ : ∀ r v, resOk c xs r v → Φ r v) (t : T SV) : ∀ r, t.res C c xs r → t.den C Φ r := by
  induction t with
  | ret a => exact fun r h => hΦ r a h
  | ite b t e ht he => exact fun r h => ⟨fun hb => ht r (h.1 hb), fun hb => he r (h.2 hb)⟩
  | both t e ht he => exact fun r h => ⟨ht r h.1, he r h.2⟩
  | con c xs k hk =>
    intro r h
    simp only [T.res] at h
    simp only [T.den]
    split
    · rename_i hc; rw [hc] at h; exact h.elim
    · rename_i c' hc; rw [hc] at h; exact ⟨h.1, fun ys h1 h2 h3 => hk _ (allB_in h.2 ys (bnd_in h2) h3)⟩
  | lop c xs m k hk =>
    intro r h
    simp only [T.res] at h
    simp only [T.den]
    split
    · rename_i hc; rw [hc] at h; exact h.elim
    · rename_i c' hc; rw [hc] at h; exact ⟨h.1, fun ys h1 h2 h3 => hk _ (allB_in h.2 ys h2 h3)⟩
  | chk c o xs => intro r h; exact h
  | fail => intro r h; exact h
/-! The arguments of a contract, each a variable. -/
def cellsA : List (Option IntKind) → Nat → List CV
  | [], _ => []
  | k :: l, v => (match k with
    | some k => .k (.int k (.var v))
    | none => .k .nilp) :: cellsA l (v + 1)
def argsOf : List Sh → Nat → List PV
  | [], _ => []
  | .int k :: l, v => .c (.k (.int k (.var v))) :: argsOf l (v + 1)
  | .agg ks :: l, v => .agg (cellsA ks v) :: argsOf l (v + ks.length)
  | .asl i :: l, v => .c (.k (.asl i (.var v))) :: argsOf l (v + 1)
  | .atom i :: l, v => .c (.k (.atom i)) :: argsOf l v
  | .bool :: l, v => .c (.k .nilp) :: argsOf l v
theorem conCells_den {n m : Env} : ∀ (ks : List (Option IntKind)) (cs : List CV) (xs : List E) (v : Nat), conCells ks cs = some xs → (∀ i, i < xs.length → m.r.getD (v + i) 0 = (xs.getD i (.lit 0)).den n.r) →
    cs.map (CV.den n) = (cellsA ks v).map (CV.den m) ∧ xs.length = ks.length
  | [], [], xs, v, h, _ => by cases h; exact ⟨rfl, rfl⟩
  | [], _ :: _, xs, v, h, _ => by simp [conCells] at h
  | none :: l, cs, xs, v, h, _ => by cases cs <;> simp [conCells] at h
  | some k :: l, cs, xs, v, h, hv => by
    cases cs with
    | nil => simp [conCells] at h
    | cons c cs =>
      cases c with
      | clo => simp [conCells] at h
      | con => simp [conCells] at h
      | k x =>
        cases x <;> simp only [conCells] at h <;> try (cases h; done)
        rename_i k' e
        split at h
        · rename_i hk
          obtain rfl := kq_ok hk
          cases hc : conCells l cs with
          | none => rw [hc] at h; cases h
          | some ys =>
            rw [hc] at h
            cases h
            obtain ⟨h1, h2⟩ := conCells_den (n := n) (m := m) l cs ys (v + 1) hc (fun i hi => by
              have := hv (i + 1) (by simp; omega)
              rw [show v + 1 + i = v + (i + 1) by omega, this]; simp)
            refine ⟨?_, by simp [h2]⟩
            have h0 := hv 0 (by simp)
            simp only [Nat.add_zero, List.getD_cons_zero] at h0
            simp only [List.map_cons, cellsA, h1, CV.den, K.den, E.den, h0]
        · cases h
theorem conArgs_den {n m : Env} (hs : m.s = n.s) (ht : m.t = n.t) : ∀ (sh : List Sh) (as : List PV) (xs : List E) (v : Nat), conArgs sh as = some xs → (∀ i, i < xs.length → m.r.getD (v + i) 0 = (xs.getD i (.lit 0)).den n.r) →
    as.map (PV.den n) = (argsOf sh v).map (PV.den m)
  | [], [], xs, v, h, _ => rfl
  | [], _ :: _, xs, v, h, _ => by simp [conArgs] at h
  | .bool :: l, as, xs, v, h, _ => by cases as <;> simp [conArgs] at h
  | .int k :: l, as, xs, v, h, hv => by
    cases as with
    | nil => simp [conArgs] at h
    | cons a as =>
      unfold conArgs at h
      split at h
      all_goals first | (cases h; done) | skip
      · rename_i heq1 heq2; cases heq1
      · rename_i k0 l0 k' e r0 heq1 heq2
        cases heq1; cases heq2
        split at h
        · rename_i hk
          obtain rfl := kq_ok hk
          cases hc : conArgs l as with
          | none => rw [hc] at h; cases h
          | some ys =>
            rw [hc] at h; cases h
            have ih := conArgs_den hs ht l as ys (v + 1) hc (fun i hi => by
              have := hv (i + 1) (by simp; omega)
              rw [show v + 1 + i = v + (i + 1) by omega, this]; simp)
            have h0 := hv 0 (by simp)
            simp only [Nat.add_zero, List.getD_cons_zero] at h0
            simp only [List.map_cons, argsOf, ih, PV.den, CV.den, K.den, E.den, h0]
        · cases h
      all_goals (rename_i heq1 heq2; cases heq1)
  | .agg ks :: l, as, xs, v, h, hv => by
    cases as with
    | nil => simp [conArgs] at h
    | cons a as =>
      cases a with
      | c x => cases x with
        | k y => simp [conArgs] at h
        | clo => simp [conArgs] at h
        | con => simp [conArgs] at h
      | agg cs =>
        simp only [conArgs] at h
        split at h
        · rename_i p q hp hq
          cases h
          obtain ⟨h1, h2⟩ := conCells_den (n := n) (m := m) ks cs p v hp (fun i hi => by
            have := hv i (by simp; omega)
            rw [this, List.getD_eq_getElem?_getD, List.getD_eq_getElem?_getD, List.getElem?_append_left hi])
          have ih := conArgs_den hs ht l as q (v + ks.length) hq (fun i hi => by
            have := hv (ks.length + i) (by simp; omega)
            rw [show v + ks.length + i = v + (ks.length + i) by omega, this, List.getD_eq_getElem?_getD, List.getD_eq_getElem?_getD, List.getElem?_append_right (by omega)]
            congr 3; omega)
          simp only [List.map_cons, argsOf, ih, PV.den, h1]
        · cases h
  | .asl i :: l, as, xs, v, h, hv => by
    cases as with
    | nil => simp [conArgs] at h
    | cons a as =>
      unfold conArgs at h
      split at h
      all_goals first | (cases h; done) | (rename_i heq1 heq2; cases heq1; done) | skip
      rename_i i0 l0 j e r0 heq1 heq2
      cases heq1; cases heq2
      split at h
      · rename_i hk
        subst hk
        cases hc : conArgs l as with
        | none => rw [hc] at h; cases h
        | some ys =>
          rw [hc] at h; cases h
          have ih := conArgs_den hs ht l as ys (v + 1) hc (fun i hi => by
            have := hv (i + 1) (by simp; omega)
            rw [show v + 1 + i = v + (i + 1) by omega, this]; simp)
          have h0 := hv 0 (by simp)
          simp only [Nat.add_zero, List.getD_cons_zero] at h0
          simp only [List.map_cons, argsOf, ih, PV.den, CV.den, K.den, E.den, h0, hs]
      · cases h
  | .atom i :: l, as, xs, v, h, hv => by
    cases as with
    | nil => simp [conArgs] at h
    | cons a as =>
      unfold conArgs at h
      split at h
      all_goals first | (cases h; done) | (rename_i heq1 heq2; cases heq1; done) | skip
      rename_i i0 l0 j r0 heq1 heq2
      cases heq1; cases heq2
      split at h
      · rename_i hk
        subst hk
        have ih := conArgs_den hs ht l as xs v h hv
        simp only [List.map_cons, argsOf, ih, PV.den, CV.den, K.den, ht]
      · cases h
/-! Results. -/
theorem cellV_den {r : List Int} {σ : List (Option Addr × Nat)} {τ : List Value} {m : Env} {k : Option IntKind} {x : CV} {y : Int} {v : Nat} (h : cellV r k x = some y) (hv : m.r.getD v 0 = y) : x.den (env r σ τ) = (cellAt k v).den m := by
  unfold cellV at h
  split at h
  · split at h
    · rename_i hk
      obtain rfl := kq_ok hk
      cases h
      simp only [cellAt, CV.den, K.den, E.den, hv, env]
    · cases h
  · rename_i b
    cases h
    simp only [cellAt, CV.den, K.den, B.den, E.den, hv, env]
    cases b.den r <;> rfl
  · cases h
theorem cellsV_den {r : List Int} {σ : List (Option Addr × Nat)} {τ : List Value} {m : Env} : ∀ (ks : List (Option IntKind)) (cs : List CV) (ys : List Int) (v : Nat), cellsV r ks cs = some ys → (∀ i, i < ys.length → m.r.getD (v + i) 0 = ys.getD i 0) →
    cs.map (CV.den (env r σ τ)) = (cellsAt ks v).map (CV.den m) ∧ ys.length = ks.length
  | [], [], ys, v, h, _ => by cases h; exact ⟨rfl, rfl⟩
  | [], _ :: _, ys, v, h, _ => by simp [cellsV] at h
  | _ :: _, [], ys, v, h, _ => by simp [cellsV] at h
  | k :: l, x :: cs, ys, v, h, hv => by
    simp only [cellsV] at h
    split at h
    · rename_i y zs hy hz
      cases h
      obtain ⟨h1, h2⟩ := cellsV_den (σ := σ) (τ := τ) (m := m) l cs zs (v + 1) hz (fun i hi => by
        have := hv (i + 1) (by simp; omega)
        rw [show v + 1 + i = v + (i + 1) by omega, this]; simp)
      refine ⟨?_, by simp [h2]⟩
      simp only [List.map_cons, cellsAt, h1, cellV_den (σ := σ) (τ := τ) (m := m) (v := v) hy (by simpa using hv 0 (by simp))]
    · cases h
theorem pvV_den {r : List Int} {σ : List (Option Addr × Nat)} {τ : List Value} {m : Env} (k : RSh) (x : PV) (ys : List Int) (v : Nat) (h : pvV r k x = some ys) (hv : ∀ i, i < ys.length → m.r.getD (v + i) 0 = ys.getD i 0) :
    x.den (env r σ τ) = (k.at v).den m ∧ ys.length = k.size := by
  unfold pvV at h
  split at h
  · split at h
    · rename_i y hy
      cases h
      exact ⟨by simp only [PV.den, RSh.at]; exact cellV_den hy (by simpa using hv 0 (by simp)), rfl⟩
    · cases h
  · obtain ⟨h1, h2⟩ := cellsV_den (σ := σ) (τ := τ) (m := m) _ _ _ v h hv
    exact ⟨by simp only [PV.den, RSh.at, h1], h2⟩
  · cases h
theorem pvsV_den {r : List Int} {σ : List (Option Addr × Nat)} {τ : List Value} {m : Env} : ∀ (l : List RSh) (xs : List PV) (ys : List Int) (v : Nat), pvsV r l xs = some ys → (∀ i, i < ys.length → m.r.getD (v + i) 0 = ys.getD i 0) →
    xs.map (PV.den (env r σ τ)) = (resAt l v).map (PV.den m) ∧ ys.length = resSize l
  | [], [], ys, v, h, _ => by cases h; exact ⟨rfl, rfl⟩
  | [], _ :: _, ys, v, h, _ => by simp [pvsV] at h
  | _ :: _, [], ys, v, h, _ => by simp [pvsV] at h
  | k :: l, x :: xs, ys, v, h, hv => by
    simp only [pvsV] at h
    split at h
    · rename_i y zs hy hz
      cases h
      obtain ⟨h1, h2⟩ := pvV_den (σ := σ) (τ := τ) (m := m) k x y v hy (fun i hi => by
        have := hv i (by simp; omega)
        rw [this, List.getD_eq_getElem?_getD, List.getD_eq_getElem?_getD, List.getElem?_append_left hi])
      obtain ⟨h3, h4⟩ := pvsV_den (σ := σ) (τ := τ) (m := m) l xs zs (v + k.size) hz (fun i hi => by
        have := hv (k.size + i) (by simp; omega)
        rw [show v + k.size + i = v + (k.size + i) by omega, this, List.getD_eq_getElem?_getD, List.getD_eq_getElem?_getD, List.getElem?_append_right (by omega)]
        congr 2; omega)
      exact ⟨by simp only [List.map_cons, resAt, h1, h3], by simp [resSize, h2, h4]⟩
    · cases h
theorem svV_den {r : List Int} {σ : List (Option Addr × Nat)} {τ : List Value} {m : Env} (l : List RSh) (x : SV) (ys : List Int) (v : Nat) (h : svV r l x = some ys) (hv : ∀ i, i < ys.length → m.r.getD (v + i) 0 = ys.getD i 0) :
    x.den (env r σ τ) = (resVal l v).den m ∧ ys.length = resSize l := by
  unfold svV at h
  split at h
  · obtain ⟨h1, h2⟩ := pvV_den (σ := σ) (τ := τ) (m := m) _ _ _ v h hv
    exact ⟨by simp only [SV.den, resVal, resAt, h1], by simp [resSize, h2]⟩
  · cases h
  · rename_i xs _ hne
    obtain ⟨h1, h2⟩ := pvsV_den (σ := σ) (τ := τ) (m := m) _ _ _ v h hv
    refine ⟨?_, h2⟩
    have hr : resVal l v = .tup (resAt l v) := by
      unfold resVal
      split
      · rename_i y hy
        exfalso
        cases l with
        | nil => simp [resAt] at hy
        | cons k t =>
          cases t with
          | nil => exact hne k rfl
          | cons k2 t => simp [resAt] at hy
      · rfl
    rw [hr]
    simp only [SV.den, h1]
  · cases h
def argSize : List Sh → Nat
  | [] => 0
  | .agg ks :: l => ks.length + argSize l
  | .atom _ :: l => argSize l
  | _ :: l => argSize l + 1
theorem conArgs_len : ∀ (sh : List Sh) (as : List PV) (xs : List E), conArgs sh as = some xs → xs.length = argSize sh := by
  intro sh
  induction sh with
  | nil => intro as xs h; cases as <;> simp [conArgs] at h; subst h; rfl
  | cons s l ih =>
    intro as xs h
    unfold conArgs at h
    split at h
    · rename_i heq1; cases heq1
    · rename_i k0 l0 k' e r0 heq1
      cases heq1
      split at h
      · cases hc : conArgs l r0 with
        | none => rw [hc] at h; cases h
        | some ys => rw [hc] at h; cases h; simp [argSize, ih _ _ hc]
      · cases h
    · rename_i ks l0 cs r0 heq1
      cases heq1
      split at h
      · rename_i p q hp hq
        cases h
        have h1 : p.length = ks.length := (conCells_den (n := env [] [] []) (m := ⟨p.map (E.den []), [], [], [], p.map fun _ => undef, by simp⟩) ks cs p 0 hp (fun i hi => by simp [List.getD_eq_getElem?_getD, hi, env])).2
        simp [argSize, h1, ih _ _ hq]
      · cases h
    · rename_i i0 l0 j e r0 heq1
      cases heq1
      split at h
      · cases hc : conArgs l r0 with
        | none => rw [hc] at h; cases h
        | some ys => rw [hc] at h; cases h; simp [argSize, ih _ _ hc]
      · cases h
    · rename_i i0 l0 j r0 heq1
      cases heq1
      split at h
      · simp [argSize, ih _ _ h]
      · cases h
    · cases h
/-- The contract of a function whose body is walked. -/
theorem con_of_walk {P : Program} {tb : Tb} [TbOk P tb] (hP : Fine P) {σ : List (Option Addr × Nat)} {τ : List Value} {C : List Con} {c : Con} (hC : ∀ N w0, ∀ d ∈ C, ConOk P N w0 σ τ d) (fuel : Nat) (bnd : Bnd)
    (hl : argSize c.args = bnd.v.length) (h : ∀ xs : List Int, c.pre xs → xs.length = bnd.v.length → BndOk xs bnd ∧ (runP tb C fuel c.f (argsOf c.args 0) bnd).res C c xs xs) (N : Nat) (w0 : World) : ConOk P N w0 σ τ c := by
  intro _ n args xs w hs ht ha hp hB
  have hlen := (conArgs_len _ _ _ ha).trans hl
  obtain ⟨hb, hd⟩ := h _ hp (by simpa using hlen)
  have e : args.map (PV.den n) = (argsOf c.args 0).map (PV.den (env (xs.map (E.den n.r)) σ τ)) :=
    conArgs_den (m := env (xs.map (E.den n.r)) σ τ) hs.symm ht.symm c.args args xs 0 ha (fun i hi => by simp [env, List.getD_eq_getElem?_getD, hi])
  rw [e]
  refine (sx (tb := tb) hP (hC _ w) fuel c.f (argsOf c.args 0) bnd _ hb (fun v => ∃ ys, inB ys c.bnd ∧ c.post (xs.map (E.den n.r)) ys ∧ ∀ m : Env, ∀ k, (∀ i, i < ys.length → m.r.getD (k + i) 0 = ys.getD i 0) → v = (resVal c.res k).den m ∧ ys.length = resSize c.res) ?_).mono ?_
  · refine res_den (fun r v hv => ?_) _ _ hd
    unfold resOk at hv
    split at hv
    · rename_i ys hy
      exact ⟨ys, hv.1, hv.2, fun m k hk => svV_den _ _ _ k hy hk⟩
    · exact hv.elim
  · rintro e w' ⟨v, he, ⟨ys, h1, h2, h3⟩, hB'⟩
    obtain ⟨h4, h5⟩ := h3 (n.moreZ ys) n.r.length (fun i hi => by
      simp only [Env.moreZ, Env.more, List.getD_eq_getElem?_getD]
      rw [List.getElem?_append_right (by omega)]
      congr 2; omega)
    exact ⟨ys, h5, in_bnd h1, h2, by rw [he, h4], hB'⟩
theorem kb (k : IntKind) : Nat.beq (kq k) (kq k) = true := Nat.beq_refl _
theorem noCon {P : Program} {σ : List (Option Addr × Nat)} {τ : List Value} : ∀ N w0, ∀ d ∈ ([] : List Con), ConOk P N w0 σ τ d := fun N w0 d hd => by cases hd
theorem conCons {P : Program} {σ : List (Option Addr × Nat)} {τ : List Value} {c : Con} {l : List Con} (h : ∀ N w0, ConOk P N w0 σ τ c) (k : ∀ N w0, ∀ d ∈ l, ConOk P N w0 σ τ d) : ∀ N w0, ∀ d ∈ c :: l, ConOk P N w0 σ τ d := fun N w0 d hd => by
  rcases List.mem_cons.1 hd with e | e
  · rw [e]; exact h N w0
  · exact k N w0 d e
theorem lopCons {P : Program} {σ : List (Option Addr × Nat)} {τ : List Value} {c : Con} {l : List Con} (h : c.lp.isSome = true) (k : ∀ N w0, ∀ d ∈ l, ConOk P N w0 σ τ d) : ∀ N w0, ∀ d ∈ c :: l, ConOk P N w0 σ τ d :=
  conCons (fun N w0 hn => by rw [hn] at h; cases h) k
theorem w_u64 (x : Int) : IntKind.u64.wrap x = x % 18446744073709551616 := by simp [IntKind.wrap, IntKind.signed, IntKind.bits]
theorem w_u32 (x : Int) : IntKind.u32.wrap x = x % 4294967296 := by simp [IntKind.wrap, IntKind.signed, IntKind.bits]
theorem w_u16 (x : Int) : IntKind.u16.wrap x = x % 65536 := by simp [IntKind.wrap, IntKind.signed, IntKind.bits]
theorem w_u8 (x : Int) : IntKind.u8.wrap x = x % 256 := by simp [IntKind.wrap, IntKind.signed, IntKind.bits]
theorem w_i64 (x : Int) : IntKind.i64.wrap x = (x + 9223372036854775808) % 18446744073709551616 - 9223372036854775808 := by
  simp [IntKind.wrap, IntKind.signed, IntKind.bits, IntKind.min, IntKind.max]; omega
/-- A law that answers true, got by walking. -/
theorem law_res {C : List Con} {c : Con} {xs : List Int} (t : T SV) : ∀ r, t.law C r → t.den C (fun r v => True) r := fun r h => T.den_mono t r (fun _ _ _ _ => trivial) (law_den (σ := []) (τ := []) t r h)
end Go.Sx
