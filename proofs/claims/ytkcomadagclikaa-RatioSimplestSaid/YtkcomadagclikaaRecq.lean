/- DERIVED. Contracts of functions that call themselves: the body is walked though the function has a contract. -/
import Derived.Test.YtkcomadagclikaaSx3
namespace Go.Sx
open Go.RowKit
set_option linter.unusedVariables false
set_option linter.unusedSimpArgs false
section
variable {P : Program} {tb : Tb} {C : List Con} {N : Nat} {w0 : World} {σ : List (Option Addr × Nat)} {τ : List Value}
theorem callQ_ok [TbOk P tb] {ex : Ex} (hex : Snd P C N w0 σ τ ex) (hC : ∀ c ∈ C, ConOk P N w0 σ τ c) (hN : N ≤ w0.heap.size) {n : Env} {s : St} {a : Act} {w : World} {g : FuncId} {args : List PV} {Φ : List Int → SV × St → Prop}
    (hns : n.s = σ) (hnt : n.t = τ) (h : Rep N w0 n s a w) (hd : (callS ex tb [] s g args).den C Φ n.r) :
    CallsIn (Wd none) 0 P g (args.map (PV.den n)).toArray w fun e w' => ∃ m v s', Ext n m ∧ Rep N w0 m s' a w' ∧ s'.tmps = s.tmps ∧ Φ m.r (v, s') ∧ e = .returned (v.den m) := by
  unfold callS at hd
  split at hd
  · rename_i hw
    split at hd
    · rename_i h0; simp at h0
    · split at hd
      · rename_i fn hf
        split at hd
        · rename_i c hb
          rw [fSp_eq, T.den_bind] at hd
          refine callsIn_of_wp_marks (F := Wd none) (func_ok (P := P) hf) hb trivial ?_
          refine hex none c ⟨args.map SV.p ++ List.replicate (fn.ntmps - args.length) undefS, s.bs, s.bnd, []⟩ n _ w _ _ hns hnt (fun l hl => by cases hl) ?_ hd ?_
          · refine ⟨h.bnd, h.mem, h.below, ?_⟩
            simp only [List.map_append, List.map_map, List.map_replicate, undefS_den, List.size_toArray, List.length_map, List.map_nil, Act.mk.injEq, and_true]
            rw [← List.append_toArray, ← List.toArray_replicate]
            rfl
          · intro n' x s' a' w' he h' hφ
            have key : ∀ (bs : List Blk) (v : SV), closeS s'.df s'.bs = some bs → resS tb fn { s' with bs := bs } = some v → Φ n'.r (shut s { s' with bs := bs } v) →
                LeavesInM (Wd none) 0 P fn a'.tmps (fun e w' => ∃ m v s', Ext n m ∧ Rep N w0 m s' a w' ∧ s'.tmps = s.tmps ∧ Φ m.r (v, s') ∧ e = .returned (v.den m)) a'.defers .returning w' := fun bs v hcl hv hφ => by
              have e : a'.defers = s'.df.map fun b => { target := .collected (n'.b.getD b 0), args := #[] } := by rw [h'.act]
              rw [e]
              refine close_ok s'.df s'.bs bs w' hcl h'.mem h'.below fun w2 hm2 hb2 => ?_
              have h2 : Rep N w0 n' { s' with bs := bs } a' w2 := ⟨h'.bnd, hm2, hb2, h'.act⟩
              obtain ⟨m, hm1, hm2, hm3, hm4⟩ := shut_ok (v := v) h hw he h2
              refine ⟨_, resS_run h2 hv, m, (shut s { s' with bs := bs } v).1, (shut s { s' with bs := bs } v).2, hm1, hm3, ?_, ?_, ?_⟩
              · unfold shut; simp only; split <;> rfl
              · rw [hm2]; exact hφ
              · rw [hm4]
            cases x with
            | ext id => exact hφ.elim
            | nrm =>
              simp only at hφ
              split at hφ
              · rename_i bs hcl
                split at hφ
                · rename_i v hv; exact key bs v hcl hv hφ
                · exact hφ.elim
              · exact hφ.elim
            | ret =>
              simp only at hφ
              split at hφ
              · rename_i bs hcl
                split at hφ
                · rename_i v hv; exact key bs v hcl hv hφ
                · exact hφ.elim
              · exact hφ.elim
        · exact hd.elim
      · exact hd.elim
  · exact hd.elim
end
/-- A whole call, its body walked, whose result names no block. -/
def runQ (tb : Tb) (C : List Con) (fuel : Nat) (f : FuncId) (args : List PV) (bnd : Bnd) : T SV :=
  (callS (exec tb C fuel) tb [] ⟨[], [], bnd, []⟩ f args).bind fun p => if wfS p.2.bnd.v.length 0 p.1 && noU p.1 then .ret p.1 else .fail
theorem sxQ {P : Program} {tb : Tb} [TbOk P tb] (hP : Fine P) {C : List Con} {w : World} {σ : List (Option Addr × Nat)} {τ : List Value} (hC : ∀ c ∈ C, ConOk P w.heap.size w σ τ c) (fuel : Nat) (f : FuncId) (args : List PV) (bnd : Bnd) (r : List Int) (hb : BndOk r bnd)
    (R : Value → Prop) (hd : (runQ tb C fuel f args bnd).den C (fun r v => R (v.den (env r σ τ))) r) :
    Calls P f (args.map (PV.den (env r σ τ))).toArray w fun e w' => ∃ v, e = .returned v ∧ R v ∧ Below w.heap.size w w' := by
  unfold runQ at hd
  rw [T.den_bind] at hd
  have hrep : Rep w.heap.size w (env r σ τ) ⟨[], [], bnd, []⟩ ⟨#[], []⟩ w := ⟨hb, ⟨rfl, fun i j x hi => by simp [env] at hi, fun i b hi => by simp at hi⟩, Below.refl _ _, rfl⟩
  refine ((callsIn_wide (n := 0)).1 (callQ_ok (P := P) (args := args) (exec_ok hC (Nat.le_refl _) hP fuel) hC (Nat.le_refl _) (n := env r σ τ) rfl rfl hrep hd)).mono fun e w' ⟨m, v, s', hm1, hm2, hm3, hφ, he⟩ => ?_
  simp only at hφ
  split at hφ
  · rename_i hw
    simp only [Bool.and_eq_true] at hw
    refine ⟨_, he, ?_, hm2.below⟩
    have hx : Ext { m with b := [] } m := ⟨rfl, rfl, List.prefix_refl _, List.nil_prefix, List.prefix_refl _⟩
    rw [wfS_den hx v (by show wfS m.r.length 0 v = true; rw [hm2.lens.1]; exact hw.1), SV.same (n := { m with b := [] }) (m := env m.r σ τ) rfl hm1.s hm1.t rfl v hw.2]
    exact hφ
  · exact hφ.elim
/-- The contract of a function whose body is walked. -/
theorem con_of_walkQ {P : Program} {tb : Tb} [TbOk P tb] (hP : Fine P) {σ : List (Option Addr × Nat)} {τ : List Value} {C : List Con} {c : Con} (hC : ∀ N w0, ∀ d ∈ C, ConOk P N w0 σ τ d) (fuel : Nat) (bnd : Bnd)
    (hl : argSize c.args = bnd.v.length) (h : ∀ xs : List Int, c.pre xs → xs.length = bnd.v.length → BndOk xs bnd ∧ (runQ tb C fuel c.f (argsOf c.args 0) bnd).res C c xs xs) (N : Nat) (w0 : World) : ConOk P N w0 σ τ c := by
  intro _ n args xs w hs ht ha hp hB
  have hlen := (conArgs_len _ _ _ ha).trans hl
  obtain ⟨hb, hd⟩ := h _ hp (by simpa using hlen)
  have e : args.map (PV.den n) = (argsOf c.args 0).map (PV.den (env (xs.map (E.den n.r)) σ τ)) :=
    conArgs_den (m := env (xs.map (E.den n.r)) σ τ) hs.symm ht.symm c.args args xs 0 ha (fun i hi => by simp [env, List.getD_eq_getElem?_getD, hi])
  rw [e]
  refine (sxQ (tb := tb) hP (hC _ w) fuel c.f (argsOf c.args 0) bnd _ hb (fun v => ∃ ys, inB ys c.bnd ∧ c.post (xs.map (E.den n.r)) ys ∧ ∀ m : Env, ∀ k, (∀ i, i < ys.length → m.r.getD (k + i) 0 = ys.getD i 0) → v = (resVal c.res k).den m ∧ ys.length = resSize c.res) ?_).mono ?_
  · refine res_den (fun r v hv => ?_) _ _ hd
    unfold resOk at hv
    split at hv
    · rename_i ys hy
      exact ⟨ys, hv.1, hv.2, fun m k hk => svV_den _ _ _ k hy hk⟩
    · exact hv.elim
  · rintro e w' ⟨v, he, ⟨ys, h1, h2, h3⟩, hB'⟩
    obtain ⟨h4, h5⟩ := h3 (n.moreZ ys) n.r.length (fun i hi => by
      simp only [Env.moreZ, Env.more, List.getD_eq_getElem?_getD]
      rw [List.getElem?_append_right (by omega)]
      congr 2; omega)
    exact ⟨ys, h5, in_bnd h1, h2, by rw [he, h4], hB'⟩
end Go.Sx
