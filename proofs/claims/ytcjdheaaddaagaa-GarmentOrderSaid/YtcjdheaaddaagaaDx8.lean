/- DERIVED. A symbolic executor over data, proved sound; part 8. -/
import Derived.Test.YtcjdheaaddaagaaDx7
import Derived.ProofKit
import Derived.OpenShut
import Derived.DataReads
import Derived.WideShapes
import Derived.SizedLaws
/- A symbolic executor: contracts and laws, got by walking. -/
namespace Go.Dx
open Go.RowKit
set_option linter.unusedVariables false
set_option linter.unusedSimpArgs false
/-- For all data that lies where it should. -/
def allB : List VD → (List DV → Prop) → Prop
  | [], p => p []
  | .i a b :: t, p => ∀ x : Int, a ≤ x → x ≤ b → allB t fun ys => p (.n x :: ys)
  | .d (.str m) :: t, p => ∀ b : ByteArray, b.size ≤ m → allB t fun ys => p (.s b :: ys)
  | .d s :: t, p => ∀ l : List (List DV), HasSh s (.sl none 0 l) → allB t fun ys => p (.sl none 0 l :: ys)
theorem allB_in : ∀ {b : List VD} {p : List DV → Prop}, allB b p → ∀ ys, inB ys b → p ys
  | [], p, h, [], _ => h
  | [], p, h, _ :: _, hi => by simp only [inB] at hi
  | _ :: _, p, h, [], hi => by simp only [inB] at hi
  | .i a b :: t, p, h, y :: ys, hi => by
    simp only [inB] at hi
    obtain ⟨⟨x, rfl, h1, h2⟩, hi⟩ := hi
    simp only [allB] at h
    exact allB_in (h x h1 h2) ys hi
  | .d s :: t, p, h, y :: ys, hi => by
    simp only [inB] at hi
    obtain ⟨⟨h1, h2⟩, hi⟩ := hi
    cases s with
    | str m =>
      obtain ⟨b, rfl⟩ := h2
      simp only [allB] at h
      simp only [HasSh, DV.str] at h1
      exact allB_in (h b h1) ys hi
    | _ =>
      obtain ⟨l, rfl⟩ := h2
      simp only [allB] at h
      exact allB_in (h l h1) ys hi
/-- All leaves of a tree keep a contract. -/
def T.res (C : List Con) (post : List DV → Prop) : T (List E) → List DV → Prop
  | .ret es, r => post (es.map (E.top r))
  | .ite b t e, r => (b.prop r → t.res C post r) ∧ (¬ b.prop r → e.res C post r)
  | .both t e, r => t.res C post r ∧ e.res C post r
  | .con i zs k, r => match C[i]? with
    | none => False
    | some d => d.pre (zs.map (E.top r)) ∧ allB (resB d.res) fun ys => d.post (zs.map (E.top r)) ys → k.res C post (r ++ ys)
  | .lop i zs m k, r => match C[i]? with
    | none => False
    | some d => d.pre (r ++ zs.map (E.top r)) ∧ allB d.bnd fun ys => d.pre (r ++ ys) → k.res C post (r ++ (ys ++ List.replicate m (.n 0)))
  | .chk i o zs, r => match C[i]? with
    | none => False
    | some d => d.pre (r.take o ++ zs.map (E.top r)) ∧ d.mea (r.take o ++ zs.map (E.top r)) < d.mea (r.take (o + zs.length))
  | .dat f xs k, r => k.res C post (r ++ [f.fn (xs.map (E.val r))])
  | .adr x k, r => ∀ a cap, k.res C post (r ++ [.sl none 0 [[.sl a cap (x.dat r).els]]])
  | .fail, _ => False
theorem res_den {C : List Con} {post : List DV → Prop} (t : T (List E)) : ∀ r, t.res C post r → t.den C (fun r es => post (es.map (E.top r))) r := by
  induction t with
  | ret a => exact fun r h => h
  | ite b t e ht he => exact fun r h => ⟨fun hb => ht r (h.1 hb), fun hb => he r (h.2 hb)⟩
  | both t e ht he => exact fun r h => ⟨ht r h.1, he r h.2⟩
  | con c xs k hk =>
    intro r h
    simp only [T.res] at h
    simp only [T.den]
    split
    · rename_i hc; rw [hc] at h; exact h.elim
    · rename_i c' hc; rw [hc] at h; exact ⟨h.1, fun ys h1 h2 => hk _ (allB_in h.2 ys h1 h2)⟩
  | lop c xs m k hk =>
    intro r h
    simp only [T.res] at h
    simp only [T.den]
    split
    · rename_i hc; rw [hc] at h; exact h.elim
    · rename_i c' hc; rw [hc] at h; exact ⟨h.1, fun ys h1 h2 => hk _ (allB_in h.2 ys h1 h2)⟩
  | chk c o xs => intro r h; exact h
  | dat f xs k hk => exact fun r h => hk _ h
  | adr x k hk => exact fun r h a cap => hk _ (h a cap)
  | fail => intro r h; exact h
/-- A law's tree answers true. -/
def trueE (es : List DV) : Prop := es = [.n 1]
theorem noCon {P : Program} {tb : Tb} : ∀ N w0, ∀ d ∈ ([] : List Con), ConOk P tb N w0 d := fun N w0 d hd => by cases hd
theorem conCons {P : Program} {tb : Tb} {c : Con} {l : List Con} (h : ∀ N w0, ConOk P tb N w0 c) (k : ∀ N w0, ∀ d ∈ l, ConOk P tb N w0 d) : ∀ N w0, ∀ d ∈ c :: l, ConOk P tb N w0 d := fun N w0 d hd => by
  rcases List.mem_cons.1 hd with e | e
  · rw [e]; exact h N w0
  · exact k N w0 d e
theorem lopCons {P : Program} {tb : Tb} {c : Con} {l : List Con} (h : c.lp.isSome = true) (k : ∀ N w0, ∀ d ∈ l, ConOk P tb N w0 d) : ∀ N w0, ∀ d ∈ c :: l, ConOk P tb N w0 d :=
  conCons (fun N w0 hn => by rw [hn] at h; cases h) k
theorem memb_wf {q : Sz} : ∀ {xs : List PV}, xs.all (wfP q) = true → (xs.flatMap PV.cells).all (wfC q) = true := fun {xs} h => by
  refine List.all_eq_true.2 fun c hc => ?_
  obtain ⟨x, hx, hc⟩ := List.mem_flatMap.1 hc
  have := List.all_eq_true.1 h x hx
  cases x with
  | c y => simp only [PV.cells, List.mem_singleton] at hc; rw [hc]; exact this
  | agg l => simp only [PV.cells] at hc; simp only [wfP] at this; exact List.all_eq_true.1 this c hc
theorem PV.noB {m : Env} {q : Sz} {xs : List PV} (h : xs.all (wfP q) = true) (hq : nz { m with b := [] } = q) : xs.map (PV.den m) = xs.map (PV.den { m with b := [] }) := by
  have hx : Ext { m with b := [] } m := ⟨List.prefix_refl _, List.prefix_refl _, List.nil_prefix, List.prefix_refl _, rfl⟩
  exact wfPs_den hx xs (by rw [hq]; exact h)
theorem ResA.mono {N : Nat} {w : World} {Z Y : Nat → Prop} (h : ∀ g, Z g → Y g) : ∀ {L : List RC} {ys : List DV} {cs : List Value}, ResA N w Z L ys cs → ResA N w Y L ys cs
  | [], [], [], _ => by simp only [ResA]
  | x :: l, y :: ys, c :: cs, k => by
    simp only [ResA] at k ⊢
    refine ⟨?_, ResA.mono h k.2⟩
    obtain ⟨k1, k2⟩ := k.1
    refine ⟨k1, ?_⟩
    cases hs : x.s with
    | sl mx row =>
      rw [hs] at k2
      simp only at k2 ⊢
      obtain ⟨q1, q2, q3, q4⟩ := k2
      refine ⟨q1, q2, nest_mono h q3, ?_⟩
      cases ho : x.own with
      | none => rw [ho] at q4; exact q4.mono h
      | some e => rw [ho] at q4; exact q4
    | _ => rw [hs] at k2; exact k2
  | [], _ :: _, cs, k => by cases cs <;> simp only [ResA] at k
  | [], [], _ :: _, k => by simp only [ResA] at k
  | _ :: _, [], cs, k => by cases cs <;> simp only [ResA] at k
  | _ :: _, _ :: _, [], k => by simp only [ResA] at k
theorem frzN_len (x : RC) (c : CV) (ar : List Ar) : (frzN x c ar).length = ar.length := by
  unfold frzN
  split
  · rename_i z
    split
    · split
      · cases z <;> first | rfl | exact frzAr_len _ _
      · rfl
    · rfl
  · rfl
theorem frzNone_len : ∀ (L : List RC) (cs : List CV) (ar : List Ar), (frzNone L cs ar).length = ar.length
  | [], cs, ar => by cases cs <;> rfl
  | x :: l, [], ar => rfl
  | x :: l, c :: r, ar => by
    show (frzNone l r (frzN x c ar)).length = _
    rw [frzNone_len l r, frzN_len]
/-- A function, walked: what it gives. -/
theorem runC_ok {P : Program} {tb : Tb} [TbOk P tb] (hP : Fine P) {C : List Con} {c : Con} {w : World} (hG : Glb tb w) (hC : ∀ d ∈ C, ConOk P tb w.heap.size w d) (fuel : Nat) (hf : argFine c.args = true) {F : Nat → Prop} (hF : ∀ g, F g → g < w.heap.size) {xs : List DV} {vs : List Value} (ha : ArgsS w (fun g => ¬ F g) c.args xs vs) (h : (runC tb C fuel c).den C (fun r es => c.post xs (es.map (E.top r))) xs) :
    Calls P c.f vs.toArray w fun e w' => ∃ ys cs, inB ys (resB c.res) ∧ c.post xs ys ∧ ResA w.heap.size w' (Rz F (resL' c.res) cs) (resL' c.res) ys cs ∧ Apart (ownV (resL' c.res) cs) ∧ e = .returned (packR c.res cs) ∧ Below w.heap.size w w' := by
  obtain ⟨n, hn, hnf, hb, hargs, hin⟩ := begin_ok hF ha hf
  rw [← hargs]
  subst hn
  have h := runC_den h
  unfold runC0 at h
  rw [T.den_bind] at h
  refine (sx (tb := tb) hP hG hC fuel c.f (argsOf c.args) _ _ hb (fun v w' => ∃ ys cs, inB ys (resB c.res) ∧ c.post n.r ys ∧ ResA w.heap.size w' (Rz F (resL' c.res) cs) (resL' c.res) ys cs ∧ Apart (ownV (resL' c.res) cs) ∧ v = packR c.res cs) ?_).mono fun e w' ⟨v, he, ⟨ys, cs, h1, h2, h3, h4, h5⟩, hB⟩ => ⟨ys, cs, h1, h2, h3, h4, by rw [he, h5], hB⟩
  refine T.den_mono _ _ (fun r p _ hp m a w' hm hr hwf hno hrep => ?_) h
  subst hr
  split at hp
  case h_2 => exact hp.elim
  rename_i pvs hpv
  split at hp
  case isFalse => exact hp.elim
  rename_i hc
  simp only [Bool.and_eq_true] at hc
  obtain ⟨⟨hq, hws⟩, hwp⟩ := hc
  have hnz : nz { m with b := [] } = ⟨p.2.bnd.v.length, 0, p.2.ar.length⟩ := by
    have := hrep.nz
    unfold nz sz at *
    simp only [Sz.mk.injEq, List.length_nil] at this ⊢
    exact ⟨this.1, trivial, this.2.2⟩
  have hsz : sz (endS p.2 c.res pvs) = ⟨p.2.bnd.v.length, 0, p.2.ar.length⟩ := by
    simp only [sz, endS, frzNone_len, List.length_nil]
  rw [hsz] at hwp
  have hrep1 : Rep w.heap.size w { m with b := [] } { p.2 with tmps := [], bs := [], df := [] } ⟨#[], []⟩ w' := by
    refine ⟨hrep.bnd, ⟨rfl, fun i j x hi => by simp at hi, fun i b hi => by simp at hi⟩, ?_, hrep.below, rfl⟩
    exact hrep.dat.move hrep.bnd rfl (List.prefix_refl _) (fun g hg => by cases hg) (fun g _ _ => rfl) fun i S hS => .inl ⟨by rw [hrep.lens.1]; exact (List.getElem?_eq_some_iff.1 hS).1, hS⟩
  have hrep0 : Rep w.heap.size w { m with b := [] } (endS p.2 c.res pvs) ⟨#[], []⟩ w' := hrep1.frzNone (resL' c.res) (pvs.flatMap PV.cells)
  have hd : (resCells (endS p.2 c.res pvs) (endS p.2 c.res pvs) (resL' c.res) (pvs.flatMap PV.cells) fun es os _ => if nodupO os then T.ret es else .fail).den C (fun r es => c.post n.r (es.map (E.top r))) ({ m with b := [] } : Env).r := hp
  obtain ⟨m2, es, os, s2, b1, b2, b3, b4, b5⟩ := resCells_ok hrep0 (resL' c.res) (pvs.flatMap PV.cells) (Ext.refl _) rfl rfl hrep0 hws rfl (by rw [hnz]; exact memb_wf hwp) hd
  split at b2
  case isFalse => exact b2.elim
  rename_i hnd
  refine ⟨es.map (E.top m2.r), (pvs.flatMap PV.cells).map (CV.den { m with b := [] }), ?_, b2, ResA.mono (fun g hg => ⟨fun hFg => hg (.inl (.inr (by show m.f g; rw [hm.f, hnf]; exact hFg))), fun u hu hug => ?_⟩) b4, apart_ok hrep0 b5 hnd, ?_⟩
  · have gen : ∀ {L : List RC} {ys : List DV} {cs : List Value} {Z : Nat → Prop}, ResA w.heap.size w' Z L ys cs → inB ys (L.map RC.vd) := by
      intro L
      induction L with
      | nil => intro ys cs Z h; cases ys <;> cases cs <;> first | (simp only [ResA] at h; done) | simp only [List.map_nil, inB] | skip
      | cons x l ih =>
        intro ys cs Z h
        cases ys with
        | nil => cases cs <;> simp only [ResA] at h
        | cons y ys => cases cs with
          | nil => simp only [ResA] at h
          | cons c cs =>
            simp only [ResA] at h
            simp only [List.map_cons, inB]
            exact ⟨h.1.1, ih h.2⟩
    exact gen b4
  · have hx : Ext { m with b := [] } m := ⟨List.prefix_refl _, List.prefix_refl _, List.nil_prefix, List.prefix_refl _, rfl⟩
    rw [wfS_den hx p.1 (by rw [hnz]; exact hwf)]
    exact packR_den hpv hq
  · obtain ⟨i, hi⟩ := List.mem_iff_getElem?.1 hu
    obtain ⟨o, _, p2⟩ := b5.get hi
    cases o with
    | none => rw [show u = .slice none 0 0 from p2] at hug; cases hug
    | some q =>
      obtain ⟨a0, r1, r2, r3⟩ := p2
      exact hg (.inr ⟨q, a0, r1, r2, by rw [← r3]; exact hug⟩)
/-- The contract of a function whose body is walked. -/
theorem con_of_walk {P : Program} {tb : Tb} [TbOk P tb] (hP : Fine P) {C : List Con} {c : Con} (hC : ∀ N w0, ∀ d ∈ C, ConOk P tb N w0 d) (fuel : Nat) (hf : argFine c.args = true)
    (h : allB (argB c.args) fun xs => c.pre xs → (runC tb C fuel c).res C (c.post xs) xs) (N : Nat) (w0 : World) (hi : c.inp = none := by rfl) : ConOk P tb N w0 c := by
  refine fun _ => ⟨fun _ => ?_, fun q hq => by rw [hi] at hq; cases hq⟩
  intro F xs vs w hF ha hp hB hG
  obtain ⟨n, hn, _, hb, hargs, hin⟩ := begin_ok hF ha hf
  exact runC_ok (tb := tb) hP hG (hC _ w) fuel hf hF ha (res_den _ _ (allB_in h xs hin hp))
/-- A law, walked. -/
def lawCon (f : FuncId) (args : List ASh) : Con := { f := f, args := args, res := [.one ⟨.bool, none⟩], pre := fun _ => True, post := fun _ ys => ys = [.n 1] }
theorem law_of_walk {P : Program} {tb : Tb} [TbOk P tb] (hP : Fine P) {C : List Con} (hC : ∀ N w0, ∀ d ∈ C, ConOk P tb N w0 d) (fuel : Nat) (f : FuncId) (args : List ASh) (hf : argFine args = true) {w : World} (hG : Glb tb w) {xs : List DV} {vs : List Value} (ha : ArgsV w args xs vs)
    (h : (runC tb C fuel (lawCon f args)).res C (fun ys => ys = [.n 1]) xs) : Calls P f vs.toArray w fun e w' => e = .returned (.bool true) ∧ Below w.heap.size w w' := by
  refine (runC_ok (c := lawCon f args) (tb := tb) hP hG (hC _ w) fuel hf (F := fun _ => False) (fun g hg => hg.elim) (ArgsS.mono (fun g _ => id) (argsV_S ha)) (res_den _ _ h)).mono fun e w' ⟨ys, cs, h1, h2, h3, h4, h5, h6⟩ => ⟨?_, h6⟩
  have h2 : ys = [.n 1] := h2
  subst h2
  cases cs with
  | nil => simp [lawCon, resL', RSh.l, ResA] at h3
  | cons c cs => cases cs with
    | cons d cs => simp [lawCon, resL', RSh.l, ResA] at h3
    | nil =>
      simp only [lawCon, resL', RSh.l, List.flatMap_cons, List.flatMap_nil, List.append_nil, ResA, ResC, and_true] at h3
      rw [h5, h3.2]
      simp [lawCon, packR, packs, cellV, DV.int]
/-- The contract of a law without arguments that answers true. -/
theorem trueCon_ok {P : Program} {tb : Tb} {N : Nat} {w0 : World} {f : FuncId} (h : ∀ w, Glb tb w → Calls P f #[] w fun e w' => e = .returned (.bool true) ∧ Below w.heap.size w w') : ConOk P tb N w0 (lawCon f []) := by
  refine fun _ => ⟨fun _ => ?_, fun q hq => by cases hq⟩
  intro F xs vs w _ ha _ _ hG
  have e : vs = [] := by
    cases xs <;> cases vs <;> simp [lawCon, ArgsS] at ha ⊢
  subst e
  refine (h w hG).mono fun e w' ⟨he, hB⟩ => ⟨[.n 1], [.bool true], ?_, rfl, ?_, ?_, ?_, hB⟩
  · simp only [lawCon, resB, resL', RSh.l, List.flatMap_cons, List.flatMap_nil, List.append_nil, List.map_cons, List.map_nil, RC.vd, inB, and_true]
    exact ⟨1, rfl, by decide, by decide⟩
  · simp only [lawCon, resL', RSh.l, List.flatMap_cons, List.flatMap_nil, List.append_nil, ResA, and_true]
    exact ⟨⟨1, rfl, by decide, by decide⟩, by simp [cellV, DV.int]⟩
  · intro i j u v g hi
    simp [lawCon, resL', RSh.l, ownV] at hi
  · rw [he]; rfl
theorem kb (k : IntKind) : Nat.beq (kq k) (kq k) = true := Nat.beq_refl _
/-! Examples, reckoned: contracts that say their results. (ad: where data lies that is told with its place; n: how many such there were.) -/
def T.go (Q : List (List DV → List DV)) (ad : Nat → Option Addr × Nat) : T (List E) → Nat → List DV → Bool
  | .ret es, _, r => match es.map (E.top r) with
    | [.n x] => iq x 1
    | _ => false
  | .ite b t e, n, r => match b.den r with
    | true => t.go Q ad n r
    | false => e.go Q ad n r
  | .both t e, n, r => t.go Q ad n r && e.go Q ad n r
  | .con i zs k, n, r => match Q[i]? with
    | none => false
    | some q => k.go Q ad n (r ++ q (zs.map (E.top r)))
  | .dat f xs k, n, r => k.go Q ad n (r ++ [f.fn (xs.map (E.val r))])
  | .adr x k, n, r => k.go Q ad (n + 1) (r ++ [.sl none 0 [[.sl (ad n).1 (ad n).2 (x.dat r).els]]])
  | _, _, _ => false
theorem T.go_congr {Q : List (List DV → List DV)} {f g : Nat → Option Addr × Nat} (t : T (List E)) : ∀ (n : Nat) (r : List DV), (∀ m, n ≤ m → f m = g m) → t.go Q f n r = t.go Q g n r := by
  induction t with
  | ret a => intro n r _; rfl
  | ite b t e ht he => intro n r h; simp only [T.go]; split; exact ht n r h; exact he n r h
  | both t e ht he => intro n r h; simp only [T.go, ht n r h, he n r h]
  | con c xs k hk => intro n r h; simp only [T.go]; split; rfl; exact hk n _ h
  | lop c xs m k hk => intro n r h; rfl
  | chk c o xs => intro n r h; rfl
  | dat g xs k hk => intro n r h; simp only [T.go]; exact hk n _ h
  | adr x k hk => intro n r h; simp only [T.go]; rw [h n (Nat.le_refl _)]; exact hk (n + 1) _ fun m hm => h m (by omega)
  | fail => intro n r h; rfl
/-- What contracts say. -/
def SaysAll : List Con → List (List DV → List DV) → Prop
  | [], [] => True
  | c :: l, q :: t => ((∀ xs, c.pre xs) ∧ ∀ xs ys, c.post xs ys → ys = q xs) ∧ SaysAll l t
  | _, _ => False
theorem SaysAll.get : ∀ {C : List Con} {Q : List (List DV → List DV)}, SaysAll C Q → ∀ (i : Nat) (q : List DV → List DV), Q[i]? = some q → ∃ d, C[i]? = some d ∧ (∀ xs, d.pre xs) ∧ ∀ xs ys, d.post xs ys → ys = q xs
  | [], [], h, i, q, hq => by simp at hq
  | [], _ :: _, h, _, _, _ => by simp only [SaysAll] at h
  | _ :: _, [], h, _, _, _ => by simp only [SaysAll] at h
  | c :: l, p :: t, h, 0, q, hq => by
    simp only [SaysAll] at h
    simp only [List.getElem?_cons_zero, Option.some.injEq] at hq
    subst hq
    exact ⟨c, rfl, h.1.1, h.1.2⟩
  | c :: l, p :: t, h, i + 1, q, hq => by
    simp only [SaysAll] at h
    simp only [List.getElem?_cons_succ] at hq ⊢
    exact SaysAll.get h.2 i q hq
theorem allB_all : ∀ {b : List VD} {p : List DV → Prop}, (∀ ys, p ys) → allB b p
  | [], p, h => h []
  | .i a b :: t, p, h => fun x _ _ => allB_all fun ys => h _
  | .d (.str m) :: t, p, h => fun x _ => allB_all fun ys => h _
  | .d (.int ..) :: t, p, h => fun x _ => allB_all fun ys => h _
  | .d .bool :: t, p, h => fun x _ => allB_all fun ys => h _
  | .d (.sl ..) :: t, p, h => fun x _ => allB_all fun ys => h _
theorem T.go_ok {C : List Con} {Q : List (List DV → List DV)} (hS : SaysAll C Q) (t : T (List E)) : ∀ (n : Nat) (r : List DV), (∀ ad, t.go Q ad n r = true) → t.res C (fun ys => ys = [.n 1]) r := by
  induction t with
  | ret a =>
    intro n r h
    have := h fun _ => (none, 0)
    simp only [T.go] at this
    simp only [T.res]
    split at this
    · rename_i x hx; rw [hx, iq_ok this]
    · cases this
  | ite b t e ht he =>
    intro n r h
    simp only [T.res, B.prop_iff]
    refine ⟨fun hb => ht n r fun ad => ?_, fun hb => he n r fun ad => ?_⟩
    · have := h ad; simp only [T.go, hb] at this; exact this
    · have := h ad; simp only [T.go, show b.den r = false by simpa using hb] at this; exact this
  | both t e ht he =>
    intro n r h
    refine ⟨ht n r fun ad => ?_, he n r fun ad => ?_⟩
    · have := h ad; simp only [T.go, Bool.and_eq_true] at this; exact this.1
    · have := h ad; simp only [T.go, Bool.and_eq_true] at this; exact this.2
  | con c xs k hk =>
    intro n r h
    simp only [T.go] at h
    cases hq : Q[c]? with
    | none => have := h fun _ => (none, 0); rw [hq] at this; cases this
    | some q =>
      simp only [hq] at h
      obtain ⟨d, hd, hp, hy⟩ := hS.get c q hq
      simp only [T.res, hd]
      exact ⟨hp _, allB_all fun ys hys => by rw [hy _ _ hys]; exact hk n _ h⟩
  | lop c xs m k hk => intro n r h; have := h fun _ => (none, 0); cases this
  | chk c o xs => intro n r h; have := h fun _ => (none, 0); cases this
  | dat g xs k hk => intro n r h; simp only [T.res]; exact hk n _ h
  | adr x k hk =>
    intro n r h
    simp only [T.res]
    intro a cap
    refine hk (n + 1) _ fun ad => ?_
    have := h fun m => if m = n then (a, cap) else ad m
    simp only [T.go, if_pos] at this
    rw [← this]
    exact (T.go_congr k (n + 1) _ fun m hm => (if_neg (by omega)).symm)
  | fail => intro n r h; have := h fun _ => (none, 0); cases this
end Go.Dx

/- A symbolic executor: arguments that are slices, opened. -/
namespace Go.Dx
open Go.RowKit Go.ChangeShapes Go.WideShapes
set_option linter.unusedVariables false
set_option linter.unusedSimpArgs false
def fieldsT (g : TypeId → Option (List Sh)) (sz : TypeId → Option Nat) : List FD → Nat → Option (List Sh)
  | [], _ => some []
  | f :: l, o => match g f.type, sz f.type with
    | some r, some z => if Nat.beq f.offset o && Nat.beq r.length z then match fieldsT g sz l (o + z) with
      | some q => some (r ++ q)
      | none => none else none
    | _, _ => none
/-- The row of a type, its layout looked at. -/
def rowT (tb : Tb) : Nat → TypeId → Option (List Sh)
  | 0, _ => none
  | f + 1, t => match tb.und t with
    | some (.int k) => some [.int k (kmin k) (kmax k)]
    | some .bool => some [.bool]
    | some .string => some [.str 9223372036854775807]
    | some (.slice e) => match rowT tb f e, tb.size e with
      | some (x :: l), some z => if Nat.beq (x :: l).length z && Sh.fines (x :: l) then some [.sl 9223372036854775807 (x :: l)] else none
      | _, _ => none
    | some (.str fs) => match fieldsT (rowT tb f) tb.size fs 0, tb.size t with
      | some r, some z => if Nat.beq r.length z then some r else none
      | _, _ => none
    | some (.array n e) => match tb.size e, tb.size t with
      | some z, some y => if Nat.ble n 64 then match fieldsT (rowT tb f) tb.size ((List.range n).map fun i => ⟨false, e, i * z⟩) 0 with
        | some r => if Nat.beq r.length y then some r else none
        | none => none else none
      | _, _ => none
    | _ => none
theorem hasShs_app : ∀ {a b : List Sh} {x y : List DV}, HasShs a x → HasShs b y → HasShs (a ++ b) (x ++ y)
  | [], b, [], y, _, h => h
  | s :: a, b, d :: x, y, h, k => by simp only [HasShs, List.cons_append] at *; exact ⟨h.1, hasShs_app h.2 k⟩
  | [], _, _ :: _, _, h, _ => by simp only [HasShs] at h
  | _ :: _, _, [], _, h, _ => by simp only [HasShs] at h
theorem rowV_app : ∀ {a b : List Sh} {x y : List DV}, HasShs a x → rowV (a ++ b) (x ++ y) = rowV a x ++ rowV b y
  | [], b, [], y, _ => rfl
  | s :: a, b, d :: x, y, h => by simp only [HasShs] at h; simp only [rowV, List.cons_append, rowV_app h.2]
  | [], _, _ :: _, _, h => by simp only [HasShs] at h
  | _ :: _, _, [], _, h => by simp only [HasShs] at h
theorem laidL_app {w : World} {S : Nat → Prop} : ∀ {a b : List Sh} {x y : List DV}, HasShs a x → LaidL w S a x → LaidL w S b y → LaidL w S (a ++ b) (x ++ y)
  | [], b, [], y, _, _, h => h
  | s :: a, b, d :: x, y, h, k, l => by simp only [HasShs, LaidL, List.cons_append] at *; exact ⟨k.1, laidL_app h.2 k.2 l⟩
  | [], _, _ :: _, _, h, _, _ => by simp only [HasShs] at h
  | _ :: _, _, [], _, h, _, _ => by simp only [HasShs] at h
theorem pick_list {α : Type} {p : Nat → α → Prop} : ∀ (n : Nat), (∀ i, i < n → ∃ y, p i y) → ∃ l : List α, l.length = n ∧ ∀ i y, l[i]? = some y → p i y
  | 0, _ => ⟨[], rfl, fun i y h => by simp at h⟩
  | n + 1, h => by
    obtain ⟨l, h1, h2⟩ := pick_list n fun i hi => h i (by omega)
    obtain ⟨y, hy⟩ := h n (by omega)
    refine ⟨l ++ [y], by simp [h1], fun i z hz => ?_⟩
    rw [List.getElem?_append] at hz
    split at hz
    · exact h2 i z hz
    · rename_i hge
      have : i - l.length = 0 := by
        cases hk : i - l.length with
        | zero => rfl
        | succ k => rw [hk] at hz; simp at hz
      rw [this] at hz
      simp only [List.getElem?_cons_zero, Option.some.injEq] at hz
      have hi : i = n := by omega
      rw [hi, ← hz]; exact hy
theorem kmin_eq (k : IntKind) : kmin k = k.min := by cases k <;> simp [kmin, IntKind.min, IntKind.signed, IntKind.bits]
theorem kmax_eq (k : IntKind) : kmax k = k.max := by cases k <;> simp [kmax, IntKind.max, IntKind.signed, IntKind.bits]
theorem cells_of {w : World} {base n : Nat} {a : Addr} {l : List Value} (h : w.cells? base a n = some l) : l.length = n ∧ ∀ k v, l[k]? = some v → w.cell? (a.add k) = some v := by
  unfold World.cells? at h
  split at h
  · have h1 := mapM_some_length h
    refine ⟨by simpa using h1, fun k v hk => ?_⟩
    have hlt : k < n := by
      have := (List.getElem?_eq_some_iff.1 hk).1
      simp at h1; omega
    have := mapM_some_get h k k (by simp [hlt])
    rw [this, hk]
  · cases h
section
variable {H : Type} {enc : TypeId × Value → H} {P : Program} {tb : Tb} {w : World} {base : Nat} {spare : Nat → Bool} {held : Bool}
theorem cellsOf_tb [TbOk P tb] {t z : Nat} (h : tb.size t = some z) : P.cellsOf t = z := by
  obtain ⟨i, h1, h2⟩ := size_ok (P := P) h
  unfold Program.cellsOf
  rw [h1]; exact h2
theorem fields_open [TbOk P tb] {g : TypeId → Option (List Sh)} {n : Nat} {cs : List Value}
    (ih : ∀ t row, g t = some row → ∀ cs x, DataW.trod enc P w base spare held n t cs = some x → ∃ ds, HasShs row ds ∧ rowV row ds = cs ∧ LaidL w (fun _ => True) row ds) :
    ∀ (fs : List FD) (o : Nat) (row : List Sh), fieldsT g tb.size fs o = some row → (∀ fd ∈ fs, ∃ x, DataW.trod enc P w base spare held n fd.type ((cs.drop fd.offset).take (P.cellsOf fd.type)) = some x) → o + row.length ≤ cs.length →
      ∃ ds, HasShs row ds ∧ rowV row ds = (cs.drop o).take row.length ∧ LaidL w (fun _ => True) row ds
  | [], o, row, h, _, _ => by simp only [fieldsT, Option.some.injEq] at h; subst h; exact ⟨[], by simp [HasShs], by simp [rowV], by simp [LaidL]⟩
  | f :: l, o, row, h, hx, hlen => by
    simp only [fieldsT] at h
    split at h
    · rename_i r z hr hz
      split at h
      · rename_i hc
        simp only [Bool.and_eq_true] at hc
        have ho := Nat.eq_of_beq_eq_true hc.1
        have hrz := Nat.eq_of_beq_eq_true hc.2
        split at h
        · rename_i q hq
          simp only [Option.some.injEq] at h
          subst h
          obtain ⟨x, hx0⟩ := hx f (List.mem_cons_self ..)
          obtain ⟨d1, a1, a2, a3⟩ := ih _ _ hr _ _ hx0
          simp only [List.length_append] at hlen
          obtain ⟨d2, b1, b2, b3⟩ := fields_open ih l (o + z) q hq (fun fd hf => hx fd (List.mem_cons_of_mem _ hf)) (by omega)
          refine ⟨d1 ++ d2, hasShs_app a1 b1, ?_, laidL_app a1 a3 b3⟩
          rw [rowV_app a1, a2, b2, ho, cellsOf_tb (P := P) hz, List.length_append, List.take_add, List.drop_drop, hrz]
        · cases h
      · cases h
    · cases h
theorem open_row [TbOk P tb] : ∀ (f : Nat) (t : TypeId) (row : List Sh), rowT tb f t = some row → ∀ (n : Nat) (cs : List Value) (x : DataW H × List MemPlace), DataW.trod enc P w base spare held n t cs = some x →
    ∃ ds, HasShs row ds ∧ rowV row ds = cs ∧ LaidL w (fun _ => True) row ds
  | 0, t, row, h, n, cs, x, hx => by cases h
  | f + 1, t, row, h, n, cs, x, hx => by
    simp only [rowT] at h
    split at h
    · rename_i k hu
      cases h
      obtain ⟨u, hu1, hu2⟩ := und_ok (P := P) hu
      have hu' : P.underlying t = some (.int k) := by cases u <;> first | (cases hu2; exact hu1) | cases hu2
      obtain ⟨i, rfl, _, hw⟩ := DataW.trod_int hu' hx
      refine ⟨[.n i], ?_, rfl, by simp [LaidL, Laid]⟩
      simp only [HasShs, HasSh, and_true]
      simp only [Lit.wf, Bool.and_eq_true, decide_eq_true_eq] at hw
      rw [kmin_eq, kmax_eq]
      exact ⟨i, rfl, hw, hw⟩
    · rename_i hu
      cases h
      obtain ⟨u, hu1, hu2⟩ := und_ok (P := P) hu
      have hu' : P.underlying t = some .bool := by cases u <;> first | (cases hu2; exact hu1) | cases hu2
      obtain ⟨b, rfl, _⟩ := DataW.trod_bool hu' hx
      refine ⟨[.n (if b then 1 else 0)], ?_, ?_, by simp [LaidL, Laid]⟩
      · simp only [HasShs, HasSh, and_true]
        exact ⟨_, rfl, by cases b <;> decide, by cases b <;> decide⟩
      · cases b <;> simp [rowV, cellV, DV.int]
    · rename_i hu
      cases h
      obtain ⟨u, hu1, hu2⟩ := und_ok (P := P) hu
      have hu' : P.underlying t = some .string := by cases u <;> first | (cases hu2; exact hu1) | cases hu2
      obtain ⟨s, rfl, _, hs⟩ := DataW.trod_string hu' hx
      refine ⟨[.s s], ?_, rfl, by simp [LaidL, Laid]⟩
      simp only [HasShs, HasSh, and_true, DV.str]
      simp only [maxLen] at hs
      omega
    · rename_i e hu
      split at h
      · rename_i x0 l z hr hz
        split at h
        · rename_i hc
          cases h
          simp only [Bool.and_eq_true] at hc
          have hlz := Nat.eq_of_beq_eq_true hc.1
          have hu' := und_slice (P := P) hu
          rcases DataW.trod_slice hu' hx with ⟨rfl, _⟩ | ⟨a, len, cap, elems, rest, m, _, rfl, _, hb, hl, hcap, hel, hget, _, _⟩
          · refine ⟨[.sl none 0 []], ?_, rfl, ?_⟩
            · simp [HasShs, HasSh, DV.els]
            · simp only [LaidL, Laid, DV.els, and_true]
              exact ⟨⟨none, 0, rfl, Nat.le_refl _, fun h => absurd rfl h⟩, fun e he => by cases he⟩
          · rw [cellsOf_tb (P := P) hz] at hget
            have hone : ∀ i, i < len → ∃ ds, HasShs (x0 :: l) ds ∧ LaidL w (fun _ => True) (x0 :: l) ds ∧ ∃ cs', w.cells? base (a.add (i * z)) z = some cs' ∧ rowV (x0 :: l) ds = cs' := fun i hi => by
              have hg := hget i hi
              rw [List.getElem?_eq_getElem (by omega)] at hg
              obtain ⟨cs', c1, c2⟩ := Option.bind_eq_some_iff.1 hg
              obtain ⟨ds, d1, d2, d3⟩ := open_row f e _ hr m cs' _ c2
              exact ⟨ds, d1, d3, cs', c1, d2⟩
            obtain ⟨els, e1, e2⟩ := pick_list len hone
            have hsh : ∀ y ∈ els, HasShs (x0 :: l) y := fun y hy => by
              obtain ⟨i, hi⟩ := List.mem_iff_getElem?.1 hy
              exact (e2 i y hi).1
            refine ⟨[.sl (some a) cap els], ?_, ?_, ?_⟩
            · simp only [HasShs, HasSh, DV.els, and_true]
              refine ⟨?_, hsh⟩
              simp only [maxLen] at hcap
              omega
            · simp only [rowV, cellV, DV.sv, e1]
            · simp only [LaidL, Laid, DV.els, DV.sv, and_true]
              refine ⟨⟨some a, cap, by rw [e1], by rw [e1]; exact hl, fun hne => ?_⟩, fun y hy => ?_⟩
              · -- the address has no spot
                have hpos : 0 < els.length := List.length_pos_iff.2 hne
                obtain ⟨ad, off, spot⟩ := a
                have key : ∀ i k v, (els[i]?).bind (fun y => (rowV (x0 :: l) y)[k]?) = some v → w.cell? ((Addr.add ⟨ad, off, spot⟩ (i * z)).add k) = some v := fun i k v hv => by
                  cases hy : els[i]? with
                  | none => rw [hy] at hv; cases hv
                  | some y =>
                    rw [hy] at hv
                    simp only [Option.bind_some] at hv
                    obtain ⟨_, _, cs', c1, c2⟩ := e2 i y hy
                    rw [c2] at hv
                    exact (cells_of c1).2 k v hv
                have hspot : spot = none := by
                  have h0 : els[0]? = some els[0] := List.getElem?_eq_getElem hpos
                  have hrl := rowV_len (hsh _ (List.getElem_mem hpos))
                  have hk : 0 < (rowV (x0 :: l) els[0]).length := by rw [hrl]; simp
                  have := key 0 0 _ (by rw [h0]; simp only [Option.bind_some]; exact List.getElem?_eq_getElem hk)
                  simp only [Nat.zero_mul, Addr.add, if_true] at this
                  unfold World.cell? at this
                  split at this
                  · split at this
                    · cases this
                    · rename_i hs; simpa using hs
                  · cases this
                subst hspot
                refine ⟨ad, off, rfl, trivial, fun j v hj => ?_⟩
                have hzpos : 0 < z := by rw [← hlz]; simp
                have hfl := flatV_len hsh
                have hjlt : j < els.length * (x0 :: l).length := by rw [← hfl]; exact (List.getElem?_eq_some_iff.1 hj).1
                rw [hlz] at hjlt
                have hi : j / z < els.length := Nat.div_lt_of_lt_mul (by rw [Nat.mul_comm]; exact hjlt)
                have hmod := Nat.mod_lt j hzpos
                have hjd : j / z * z + j % z = j := by rw [Nat.mul_comm]; exact Nat.div_add_mod j z
                have hfg := flat_get (f := rowV (x0 :: l)) (z := z) (l := els) (fun y hy => by rw [rowV_len (hsh y hy), hlz]) (i := j / z) (j := j % z) (e := els[j / z]) (List.getElem?_eq_getElem hi) hmod
                rw [hjd] at hfg
                have hj' : (els.flatMap (rowV (x0 :: l)))[j]? = some v := hj
                rw [hfg] at hj'
                have := key (j / z) (j % z) v (by rw [List.getElem?_eq_getElem hi]; exact hj')
                rw [addr_plus, addr_plus, Nat.add_assoc, hjd] at this
                exact this
              · obtain ⟨i, hi⟩ := List.mem_iff_getElem?.1 hy
                exact (e2 i y hi).2.1
        · cases h
      · cases h
    · rename_i fs hu
      split at h
      · rename_i r z hr hz
        split at h
        · rename_i hc
          cases h
          have hlz := Nat.eq_of_beq_eq_true hc
          obtain ⟨u, hu1, hu2⟩ := und_ok (P := P) hu
          cases u with
          | struct gs =>
            simp only [red, TD.str.injEq] at hu2
            obtain ⟨xs, m, _, _, hcl, hxl, hget⟩ := DataW.trod_struct hu1 hx
            rw [cellsOf_tb (P := P) hz] at hcl
            obtain ⟨ds, d1, d2, d3⟩ := fields_open (P := P) (tb := tb) (g := rowT tb f) (n := m) (cs := cs) (fun t row ht cs x hx => open_row f t row ht m cs x hx) fs 0 row hr (fun fd hfd => by
              rw [← hu2] at hfd
              obtain ⟨fl, hfl, rfl⟩ := List.mem_map.1 hfd
              obtain ⟨i, hi⟩ := List.mem_iff_getElem?.1 hfl
              have hlt : i < xs.length := by
                rw [hxl]
                have := (List.getElem?_eq_some_iff.1 hi).1
                simpa using this
              have := hget i fl (by simpa using hi)
              rw [List.getElem?_eq_getElem hlt] at this
              exact ⟨_, this⟩) (by rw [hlz, hcl]; omega)
            refine ⟨ds, d1, ?_, d3⟩
            rw [d2, List.drop_zero, hlz, ← hcl, List.take_length]
          | _ => cases hu2
        · cases h
      · cases h
    · rename_i n' e hu
      split at h
      · rename_i z y hz hy
        split at h
        case isFalse => cases h
        split at h
        case h_2 => cases h
        rename_i r hr
        split at h
        case isFalse => cases h
        rename_i hc
        cases h
        have hlz := Nat.eq_of_beq_eq_true hc
        obtain ⟨xs, m, _, _, hcl, hxl, hget⟩ := DataW.trod_array (und_array (P := P) hu) hx
        rw [cellsOf_tb (P := P) hy] at hcl
        obtain ⟨ds, d1, d2, d3⟩ := fields_open (P := P) (tb := tb) (g := rowT tb f) (n := m) (cs := cs) (fun t row ht cs x hx => open_row f t row ht m cs x hx) _ 0 row hr (fun fd hfd => by
          obtain ⟨i, hi, rfl⟩ := List.mem_map.1 hfd
          have hi := List.mem_range.1 hi
          have := hget i hi
          rw [List.getElem?_eq_getElem (by omega), cellsOf_tb (P := P) hz] at this
          simp only [cellsOf_tb (P := P) hz]
          exact ⟨_, this⟩) (by rw [hlz, hcl]; omega)
        refine ⟨ds, d1, ?_, d3⟩
        rw [d2, List.drop_zero, hlz, ← hcl, List.take_length]
      · cases h
    · cases h
/-! Structs of numbers, bools, strings as arguments. -/
def plainRow : List Sh → Bool
  | [] => true
  | .int _ _ _ :: l => plainRow l
  | .bool :: l => plainRow l
  | .str _ :: l => plainRow l
  | _ => false
/-- Strings in a row are strings. -/
def strs : List Sh → List DV → Prop
  | .str _ :: l, d :: ds => (∃ b, d = .s b) ∧ strs l ds
  | _ :: l, _ :: ds => strs l ds
  | _, _ => True
theorem open_agg_arg [TbOk P tb] {r : Reach} {b0 : Nat} {t : TypeId} {fs : Array Field} {f : Nat} {v : Value} {d : DataW H} {p : List MemPlace} {row : List Sh} (hr : rowT tb f t = some row) (hu : P.underlying t = some (.struct fs))
    (hv : Value.okWide P w r b0 t v) (h : DataW.Trod enc P w base spare held t v d p) : ∃ ds, v = .agg (rowV row ds).toArray ∧ HasShs row ds ∧ LaidL w (fun _ => True) row ds := by
  obtain ⟨cs, rfl, hsz⟩ := okWide_struct hu hv
  obtain ⟨fuel, hf⟩ := h
  obtain ⟨ds, h1, h2, h3⟩ := open_row (P := P) (tb := tb) f t _ hr fuel _ _ hf
  refine ⟨ds, ?_, h1, h3⟩
  simp only [Value.cells] at h2
  rw [h2]
/-- Data told as what it is: strings as strings, numbers as numbers. -/
def DV.tidy : Sh → DV → DV
  | .str _, d => .s d.str
  | .sl _ _, d => .sl none 0 d.els
  | _, d => .n d.int
def tidies : List Sh → List DV → List DV
  | s :: l, d :: ds => DV.tidy s d :: tidies l ds
  | _, _ => []
theorem agg_cellsA {w : World} : ∀ {row : List Sh} {ds : List DV}, plainRow row = true → HasShs row ds → cellsA w row (tidies row ds) (rowV row ds) ∧ HasShs row (tidies row ds)
  | [], [], _, _ => by simp only [rowV, cellsA, tidies, HasShs, and_self]
  | .int k a b :: l, d :: ds, hp, h => by
    simp only [HasShs] at h
    have ih := agg_cellsA (w := w) (row := l) (ds := ds) (by simpa [plainRow] using hp) h.2
    simp only [rowV, cellsA, tidies, DV.tidy, HasShs]
    have h1 : HasSh (.int k a b) (.n d.int) := by
      have := h.1
      simp only [HasSh] at this ⊢
      obtain ⟨i, rfl, h1, h2⟩ := this
      exact ⟨i, rfl, h1, h2⟩
    exact ⟨⟨⟨h1, rfl⟩, ih.1⟩, h1, ih.2⟩
  | .bool :: l, d :: ds, hp, h => by
    simp only [HasShs] at h
    have ih := agg_cellsA (w := w) (row := l) (ds := ds) (by simpa [plainRow] using hp) h.2
    simp only [rowV, cellsA, tidies, DV.tidy, HasShs]
    have h1 : HasSh .bool (.n d.int) := by
      have := h.1
      simp only [HasSh] at this ⊢
      obtain ⟨i, rfl, h1⟩ := this
      exact ⟨i, rfl, h1⟩
    exact ⟨⟨⟨h1, rfl⟩, ih.1⟩, h1, ih.2⟩
  | .str m :: l, d :: ds, hp, h => by
    simp only [HasShs] at h
    have ih := agg_cellsA (w := w) (row := l) (ds := ds) (by simpa [plainRow] using hp) h.2
    simp only [rowV, cellsA, tidies, DV.tidy, HasShs]
    have h1 : HasSh (.str m) (.s d.str) := by
      have := h.1
      simp only [HasSh, DV.str] at this ⊢
      exact this
    exact ⟨⟨⟨h1, ⟨_, rfl⟩, rfl⟩, ih.1⟩, h1, ih.2⟩
  | .sl _ _ :: _, _, hp, _ => by cases hp
  | _ :: _, [], _, h => by simp [HasShs] at h
  | [], _ :: _, _, h => by simp [HasShs] at h
/-! What package-level variables hold. -/
mutual
def flatD : DataW H → List Value
  | .lit (.int k n) => [.int k n]
  | .lit (.bool b) => [.bool b]
  | .agg l => flatDs l
  | _ => []
def flatDs : List (DataW H) → List Value
  | [] => []
  | d :: l => flatD d ++ flatDs l
end
def numRow : List Sh → Bool
  | [] => true
  | .int _ _ _ :: l => numRow l
  | .bool :: l => numRow l
  | _ => false
theorem numRow_app : ∀ {a b : List Sh}, numRow (a ++ b) = true → numRow a = true ∧ numRow b = true
  | [], b, h => ⟨rfl, h⟩
  | .int _ _ _ :: l, b, h => by simp only [List.cons_append, numRow] at *; exact numRow_app h
  | .bool :: l, b, h => by simp only [List.cons_append, numRow] at *; exact numRow_app h
  | .str _ :: _, _, h => by cases h
  | .sl _ _ :: _, _, h => by cases h
theorem fields_flat [TbOk P tb] {g : TypeId → Option (List Sh)} {n : Nat} {cs : List Value}
    (ih : ∀ t row, g t = some row → numRow row = true → ∀ cs x, DataW.trod enc P w base spare held n t cs = some x → flatD x.1 = cs) :
    ∀ (fs : List FD) (o : Nat) (row : List Sh) (xs : List (DataW H × List MemPlace)), fieldsT g tb.size fs o = some row → numRow row = true → xs.length = fs.length →
      (∀ (i : Nat) (fd : FD), fs[i]? = some fd → DataW.trod enc P w base spare held n fd.type ((cs.drop fd.offset).take (P.cellsOf fd.type)) = xs[i]?) →
      flatDs (xs.map (·.1)) = (cs.drop o).take row.length
  | [], o, row, xs, h, _, hl, _ => by
    simp only [fieldsT, Option.some.injEq] at h; subst h
    cases xs with
    | nil => simp [flatDs]
    | cons x xs => simp at hl
  | f :: l, o, row, [], h, _, hl, _ => by simp at hl
  | f :: l, o, row, x :: xs, h, hn, hl, hx => by
    simp only [fieldsT] at h
    split at h
    · rename_i r z hr hz
      split at h
      · rename_i hc
        simp only [Bool.and_eq_true] at hc
        have ho := Nat.eq_of_beq_eq_true hc.1
        have hrz := Nat.eq_of_beq_eq_true hc.2
        split at h
        · rename_i q hq
          simp only [Option.some.injEq] at h
          subst h
          obtain ⟨n1, n2⟩ := numRow_app hn
          have hx0 := hx 0 f rfl
          have e1 := ih _ _ hr n1 _ _ hx0
          have e2 := fields_flat ih l (o + z) q xs hq n2 (by simpa using hl) fun i fd hi => hx (i + 1) fd hi
          simp only [List.map_cons, flatDs, e1, e2]
          rw [ho, cellsOf_tb (P := P) hz, List.length_append, List.take_add, List.drop_drop, hrz]
        · cases h
      · cases h
    · cases h
theorem open_flat [TbOk P tb] : ∀ (f : Nat) (t : TypeId) (row : List Sh), rowT tb f t = some row → numRow row = true → ∀ (n : Nat) (cs : List Value) (x : DataW H × List MemPlace), DataW.trod enc P w base spare held n t cs = some x → flatD x.1 = cs
  | 0, t, row, h, _, n, cs, x, hx => by cases h
  | f + 1, t, row, h, hn, n, cs, x, hx => by
    simp only [rowT] at h
    split at h
    · rename_i k hu
      obtain ⟨u, hu1, hu2⟩ := und_ok (P := P) hu
      have hu' : P.underlying t = some (.int k) := by cases u <;> first | (cases hu2; exact hu1) | cases hu2
      obtain ⟨i, rfl, e, hw⟩ := DataW.trod_int hu' hx
      rw [e]; simp only [flatD]
    · rename_i hu
      obtain ⟨u, hu1, hu2⟩ := und_ok (P := P) hu
      have hu' : P.underlying t = some .bool := by cases u <;> first | (cases hu2; exact hu1) | cases hu2
      obtain ⟨b, rfl, e⟩ := DataW.trod_bool hu' hx
      rw [e]; simp only [flatD]
    · cases h; cases hn
    · split at h
      · split at h
        · cases h; cases hn
        · cases h
      · cases h
    · rename_i fs hu
      split at h
      · rename_i r z hr hz
        split at h
        · rename_i hc
          cases h
          have hlz := Nat.eq_of_beq_eq_true hc
          obtain ⟨u, hu1, hu2⟩ := und_ok (P := P) hu
          cases u with
          | struct gs =>
            simp only [red, TD.str.injEq] at hu2
            obtain ⟨xs, m, _, e, hcl, hxl, hget⟩ := DataW.trod_struct hu1 hx
            rw [cellsOf_tb (P := P) hz] at hcl
            have := fields_flat (P := P) (tb := tb) (g := rowT tb f) (n := m) (cs := cs) (fun t row ht hn cs x hx => open_flat f t row ht hn m cs x hx) fs 0 row xs hr hn (by rw [← hu2, hxl]; simp) (fun i fd hi => by
              rw [← hu2, List.getElem?_map] at hi
              cases hg : gs.toList[i]? with
              | none => rw [hg] at hi; cases hi
              | some fl =>
                rw [hg] at hi
                cases hi
                exact hget i fl (by simpa using hg))
            rw [e]
            simp only [flatD]
            rw [this, List.drop_zero, hlz, ← hcl, List.take_length]
          | _ => cases hu2
        · cases h
      · cases h
    · rename_i n' e hu
      split at h
      · rename_i z y hz hy
        split at h
        case isFalse => cases h
        split at h
        case h_2 => cases h
        rename_i r hr
        split at h
        case isFalse => cases h
        rename_i hc
        cases h
        have hlz := Nat.eq_of_beq_eq_true hc
        obtain ⟨xs, m, _, ex, hcl, hxl, hget⟩ := DataW.trod_array (und_array (P := P) hu) hx
        rw [cellsOf_tb (P := P) hy] at hcl
        have := fields_flat (P := P) (tb := tb) (g := rowT tb f) (n := m) (cs := cs) (fun t row ht hn cs x hx => open_flat f t row ht hn m cs x hx) _ 0 row xs hr hn (by simp [hxl]) (fun i fd hi => by
          rw [List.getElem?_map] at hi
          have hlt : i < n' := by
            rcases Nat.lt_or_ge i n' with h1 | h1
            · exact h1
            · rw [List.getElem?_eq_none (by simpa using h1)] at hi; cases hi
          rw [List.getElem?_range hlt] at hi
          cases hi
          have := hget i hlt
          rw [cellsOf_tb (P := P) hz] at this
          simp only [cellsOf_tb (P := P) hz]
          exact this)
        rw [ex]
        simp only [flatD]
        rw [this, List.drop_zero, hlz, ← hcl, List.take_length]
      · cases h
    · cases h
/-- The variables that a row lists, and what the tables say. -/
def glbOk (tb : Tb) (P : Program) : List (String × DataW Unit) → List (Nat × List Value) → Prop
  | [], [] => True
  | (name, d) :: l, (g, vs) :: r => (∃ t row, P.globalNamed name = some g ∧ (P.globals[g]?).map (·.type) = some t ∧ rowT tb 20 t = some row ∧ numRow row = true ∧ flatD d = vs) ∧ glbOk tb P l r
  | _, _ => False
theorem glb_of_vars [TbOk P tb] {W : World} : ∀ {l : List (String × DataW Unit)} {r : List (Nat × List Value)} {ps : List MemPlace}, DataW.LaidVars P W l ps → glbOk tb P l r → ∀ g vs, findG r g = some vs → ∀ o x, vs[o]? = some x → W.cell? ⟨g, o, none⟩ = some x
  | [], [], ps, _, _, g, vs, h, o, x, hx => by cases h
  | [], _ :: _, ps, _, h, _, _, _, _, _, _ => by simp only [glbOk] at h
  | _ :: _, [], ps, _, h, _, _, _, _, _, _ => by simp only [glbOk] at h
  | (name, d) :: l, (g0, vs0) :: r, ps, hv, hg, g, vs, h, o, x, hx => by
    simp only [glbOk] at hg
    obtain ⟨⟨t, row, h1, h2, h3, h4, h5⟩, h6⟩ := hg
    obtain ⟨g', t', cs, fuel, p, q, k1, k2, k3, k4, k5, _⟩ := hv
    simp only [findG] at h
    split at h
    · rename_i hb
      cases h
      have hgg : g0 = g := Nat.eq_of_beq_eq_true hb
      subst hgg
      obtain rfl := Option.some.inj (h1.symm.trans k1)
      obtain rfl := Option.some.inj (h2.symm.trans k2)
      have e := open_flat (P := P) (tb := tb) 20 t row h3 h4 fuel _ _ k4
      simp only at e
      rw [h5] at e
      have := World.var?_cell k1 k3 o
      rw [this]
      rw [e] at hx
      simpa using hx
    · exact glb_of_vars k5 h6 g vs h o x hx
theorem glb_of_laid [TbOk P tb] {W : World} {l : List (String × DataW Unit)} (h : laidMet P l W) (hg : glbOk tb P l tb.gl) : Glb tb W := fun g vs hf o x hx => by
  obtain ⟨ps, hv, _⟩ := h
  exact glb_of_vars hv hg g vs hf o x hx
/-- A slice as an argument. -/
theorem open_slice_arg [TbOk P tb] {r : Reach} {b0 : Nat} {t e : TypeId} {f mx : Nat} {row : List Sh} {v : Value} {d : DataW H} {p : List MemPlace} (hr : rowT tb f t = some [.sl mx row]) (hu : P.underlying t = some (.slice e))
    (hv : Value.okWide P w r b0 t v) (h : DataW.Trod enc P w base spare held t v d p) : ∃ l, cellA w (.sl mx row) (.sl none 0 l) v := by
  obtain ⟨a, len, cap, rfl⟩ := okWide_slice hu hv
  obtain ⟨fuel, hf⟩ := h
  obtain ⟨ds, h1, h2, h3⟩ := open_row (P := P) (tb := tb) f t _ hr fuel _ _ hf
  match ds, h1 with
  | [y], h1 =>
    simp only [HasShs, and_true] at h1
    simp only [rowV, cellV, Value.cells, List.cons.injEq, and_true] at h2
    simp only [LaidL, Laid, and_true] at h3
    simp only [HasSh] at h1
    rw [h2] at h3
    exact ⟨y.els, by simp only [HasSh, DV.els]; exact h1, ⟨y.els, rfl⟩, rfl, h3.1, h3.2⟩
end
section
variable {H : Type} {enc : TypeId × Value → H} {P : Program} {tb : Tb} {w : World} {base : Nat} {spare : Nat → Bool} {held : Bool}
/-- A slice that is read is no longer than its bytes allow. -/
theorem slice_sized {t e : TypeId} {mx m : Nat} {row : List Sh} {v : Value} {d : DataW H} {p : List MemPlace} {l : List (List DV)} (hu : P.underlying t = some (.slice e)) (h : DataW.Trod enc P w base spare held t v d p)
    (hc : cellA w (.sl mx row) (.sl none 0 l) v) (hs : ∀ el sp, d = .slice el sp → (el.length + sp.length) * P.bytesOf e ≤ reachBytes) (hb : ∀ n, n * P.bytesOf e ≤ reachBytes → n ≤ m) : cellA w (.sl m row) (.sl none 0 l) v := by
  obtain ⟨h1, h2, h3, h4, h5⟩ := hc
  have key : l.length ≤ m := by
    obtain ⟨a, cap, rfl, _, _⟩ := h4
    obtain ⟨fuel, hf⟩ := h
    rcases DataW.trod_slice hu hf with ⟨hcs, _⟩ | ⟨a', len, cap', elems, rest, n, _, hcs, hx, _, _, _, hel, _⟩
    · simp only [Value.cells, List.cons.injEq, Value.slice.injEq, and_true] at hcs
      have : l.length = 0 := hcs.2.1
      omega
    · simp only [Value.cells, List.cons.injEq, Value.slice.injEq, and_true] at hcs
      have e1 : l.length = len := hcs.2.1
      have hx1 := congrArg Prod.fst hx
      have := hs _ _ hx1
      simp only [List.length_map] at this
      refine hb _ (Nat.le_trans (Nat.mul_le_mul_right _ ?_) this)
      omega
  exact ⟨⟨key, h1.2⟩, h2, h3, h4, h5⟩
end
end Go.Dx
