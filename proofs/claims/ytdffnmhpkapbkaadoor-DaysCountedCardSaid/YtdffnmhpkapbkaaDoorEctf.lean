/- DERIVED. The reference puts sets together: contracts. -/
import Derived.Test.YtdffnmhpkapbkaaDoorEcte
import Derived.Test.YtdffnmhpkapbkaaDoorEctc
import Derived.Test.YtdffnmhpkapbkaaDoorEtreei
namespace Go.Proofs.YtdffnmhpkapbkaaDoor
open Go.Dx
set_option linter.unusedVariables false
theorem ends_len : ∀ {l : Sp} {t : List Int}, (endsL t l).length ≤ t.length + 2 * l.length
  | [], t => Nat.le_refl _
  | (a, b) :: r, t => by
    have h1 := ins_len (n := a) (l := t)
    have h2 := ins_len (n := b + 1) (l := ins t a)
    have ih := ends_len (l := r) (t := ins (ins t a) (b + 1))
    show (endsL (ins (ins t a) (b + 1)) r).length ≤ t.length + 2 * (r.length + 1)
    omega
theorem mod_last {α : Type} (f : α → α) : ∀ (l : List α) (e : α), (l ++ [e]).modify l.length f = l ++ [f e]
  | [], e => rfl
  | x :: r, e => by
    have := mod_last f r e
    show (x :: (r ++ [e])).modify (r.length + 1) f = x :: (r ++ [f e])
    rw [List.modify_succ_cons, this]
set_option maxRecDepth 100000 in
theorem last_two {o : List (List DV)} (ho : HasSh spans (.sl none 0 o)) (hne : 0 < o.length) : ∃ o0 f t, o = o0 ++ [[.n f, .n t]] ∧ (-9223372036854775808 ≤ f ∧ f ≤ 9223372036854775807) ∧ (-9223372036854775808 ≤ t ∧ t ≤ 9223372036854775807) := by
  have hn : o ≠ [] := fun h => by rw [h] at hne; exact absurd hne (Nat.not_lt_zero 0)
  have e1 := List.dropLast_concat_getLast hn
  have h2 := ho.2 (o.getLast hn) (List.getLast_mem hn)
  generalize o.getLast hn = e at e1 h2
  have h2 : HasShs [i64s, i64s] e := h2
  cases e with
  | nil => exact absurd h2 (by simp [HasShs])
  | cons x r => cases r with
    | nil => exact absurd h2 (by simp [HasShs])
    | cons y r2 => cases r2 with
      | cons _ _ => exact absurd h2 (by simp [HasShs])
      | nil =>
        simp only [HasShs, HasSh] at h2
        obtain ⟨⟨f, rfl, f1, _⟩, ⟨t, rfl, t1, _⟩, _⟩ := h2
        exact ⟨o.dropLast, f, t, e1.symm, f1, t1⟩
theorem ff_mem {o : Int} {A B : Sp} {n : Int} (ha : Can 0 A) (hb : Can 0 B) : FF (chO o) A B n ↔ if o = 1 then (Mem n A ∨ Mem n B) else if o = 2 then (Mem n A ∧ Mem n B) else (Mem n A ∧ ¬ Mem n B) := by
  have h1 := stE_edges (n := n) ha
  have h2 := stE_edges (n := n) hb
  unfold FF chO
  split
  · rw [Bool.or_eq_true, h1, h2]
  · split
    · rw [Bool.and_eq_true, h1, h2]
    · rw [Bool.and_eq_true, h1, Bool.not_eq_true', ← h2, Bool.not_eq_true]
theorem ch_ff {o : Int} : chO o false false = false := by unfold chO; split <;> (try split) <;> rfl
/-- One round of the reference's. -/
theorem r_skip {F : Int → Prop} {l : Sp} {e e' : Int} (h : RI F l e) (he : e < e') (hs : ∀ n, e ≤ n → n < e' → (F n ↔ F e)) (hn : ¬ F e) : RI F l e' := h.skip (by omega) fun n h1 h2 z => hn ((hs n h1 h2).1 z)
set_option maxRecDepth 100000 in
set_option maxHeartbeats 2000000 in
theorem cUniR1_ok (N : Nat) (w0 : World) : ConOk Tryd.prog tb N w0 (cUni 24 1) := by
  refine con_of_walk (tb := tb) fine (C := [cChk 22, cEnds 46, cIn 47, lOfR2 1]) (conCons cChkR_ok (conCons cEnds_ok (conCons cIn_ok (lopCons rfl noCon)))) 100 rfl ?_ N w0
  refine fun a ha b hb _ => ?_
  have la := len_of ha (Nat.le_refl _)
  have lb := len_of hb (Nat.le_refl _)
  clear ha hb
  rw [tree_unir]
  show T.res _ (fun y => CombP 1 (.sl none 0 a) (.sl none 0 b) y) _ _
  refine res_con rfl trivial (fun e _ _ he => ?_)
  have he := chk_in (show CheckP (.sl none 0 a) [.n e] from he)
  refine res_con rfl trivial (fun f _ _ hf => ?_)
  have hf := chk_in (show CheckP (.sl none 0 b) [.n f] from hf)
  refine res_ite (fun z => ?_) fun z => ?_
  · have z : ¬ e = 0 := z
    refine res_dat (.sl none 0 []) rfl ?_
    show CombP 1 (.sl none 0 a) (.sl none 0 b) [.sl none 0 [], .n e]
    rcases he with ⟨rfl, c⟩ | ⟨rfl, c, c2⟩ | ⟨rfl, _⟩
    · exact err_long (z := [.sl none 0 []]) c
    · exact err_bad (z := [.sl none 0 []]) c c2
    · exact absurd rfl z
  have z := Classical.not_not.1 (show ¬ ¬ e = 0 from z)
  obtain ⟨ca, cb⟩ : ¬ 256 < (DV.sl none 0 a).len ∧ AllS (.sl none 0 a) (DV.sl none 0 a).len := by
    rcases he with ⟨q, _⟩ | ⟨q, _⟩ | ⟨_, q⟩
    · omega
    · omega
    · exact q
  refine res_ite (fun z2 => ?_) fun z2 => ?_
  · have z2 : ¬ f = 0 := z2
    refine res_dat (.sl none 0 []) rfl ?_
    show CombP 1 (.sl none 0 a) (.sl none 0 b) [.sl none 0 [], .n f]
    refine err_fine ca cb ?_
    rcases hf with ⟨rfl, c⟩ | ⟨rfl, c, c2⟩ | ⟨rfl, _⟩
    · exact err_long (z := [.sl none 0 []]) c
    · exact err_bad (z := [.sl none 0 []]) c c2
    · exact absurd rfl z2
  have z2 := Classical.not_not.1 (show ¬ ¬ f = 0 from z2)
  obtain ⟨da, db⟩ : ¬ 256 < (DV.sl none 0 b).len ∧ AllS (.sl none 0 b) (DV.sl none 0 b).len := by
    rcases hf with ⟨q, _⟩ | ⟨q, _⟩ | ⟨_, q⟩
    · omega
    · omega
    · exact q
  clear he hf
  have cA := ((alls_iff la).1 cb).1
  have cB := ((alls_iff lb).1 db).1
  have mA := ((alls_iff la).1 cb).2
  have mB := ((alls_iff lb).1 db).2
  refine res_dat (.sl none 0 []) rfl ?_
  refine res_con rfl (show Rgt (.sl none 0 a) ∧ (DV.sl none 0 []).len ≤ 600 from ⟨⟨by omega, cb⟩, by decide⟩) (fun t ht h1 => ?_)
  have h1 : ivl (.sl none 0 t) = endsL (ivl (.sl none 0 [])) (spn (.sl none 0 a)) := h1
  have h1 : ivl (.sl none 0 t) = endsL [] (spn (.sl none 0 a)) := h1
  have lt := len_of ht (Nat.le_refl _)
  have et : (ivl (.sl none 0 t)).length = t.length := ivl_len _
  have g1 := ends_len (l := spn (.sl none 0 a)) (t := [])
  rw [← h1, spn_len] at g1
  have g1 : (ivl (.sl none 0 t)).length ≤ 0 + 2 * a.length := g1
  refine res_con rfl (show Rgt (.sl none 0 b) ∧ (DV.sl none 0 t).len ≤ 600 from ⟨⟨by omega, db⟩, by omega⟩) (fun u hu h2 => ?_)
  have h2 : ivl (.sl none 0 u) = endsL (ivl (.sl none 0 t)) (spn (.sl none 0 b)) := h2
  have lu := len_of hu (Nat.le_refl _)
  have eu : (ivl (.sl none 0 u)).length = u.length := ivl_len _
  have g2 := ends_len (l := spn (.sl none 0 b)) (t := ivl (.sl none 0 t))
  rw [← h2, spn_len] at g2
  have g2 : (ivl (.sl none 0 u)).length ≤ (ivl (.sl none 0 t)).length + 2 * b.length := g2
  clear ht hu
  have hinc : Inc 0 (ivl (.sl none 0 u)) := by
    rw [h2, h1]
    exact ends_inc (ends_inc (show Inc 0 [] from trivial) cA (Int.le_refl _)) cB (Int.le_refl _)
  have hmem : ∀ x, x ∈ ivl (.sl none 0 u) ↔ x ∈ edges (spn (.sl none 0 a)) ∨ x ∈ edges (spn (.sl none 0 b)) := fun x => by
    rw [h2, mem_ends, h1, mem_ends]
    simp
  have hends := inc_ends hinc
  refine res_dat (.sl none 0 []) rfl ?_
  refine res_lop rfl (show RInv 1 (.sl none 0 a) (.sl none 0 b) (.sl none 0 u) (.sl none 0 []) 0 from ?_) (fun l hl i i0 i1 hI => ?_)
  · by_cases c : u.length = 0
    · exact .inr ⟨by omega, rfl, rfl⟩
    · refine .inl ⟨by omega, ⟨trivial, fun p hp => (by cases hp), fun n hn => ⟨fun q => absurd q (FF_first ch_ff hmem fun d hd => ?_), fun q => absurd q mem_nil⟩⟩, by decide⟩
      have := hends.1 d hd
      have hn : n < (ivl (.sl none 0 u)).getD 0 0 := hn
      omega
  have hI : RInv 1 (.sl none 0 a) (.sl none 0 b) (.sl none 0 u) (.sl none 0 l) i := hI
  have ll := len_of hl (Nat.le_refl _)
  have sll : (spn (.sl none 0 l)).length = l.length := spn_len _
  have iu : i ≤ 1100 := by
    rcases hI with ⟨q, _⟩ | ⟨_, q, _⟩ <;> omega
  have wi : IntKind.i64.wrap (i + 1) = i + 1 := wW (by omega) (by omega)
  refine res_ite (fun hltB => ?_) fun hge => ?_
  · have hlt : IntKind.i64.wrap (i + 1) < (DV.sl none 0 u).len := hltB
    rw [wi] at hlt
    obtain ⟨hi, hR, hlen⟩ : i < (DV.sl none 0 u).len ∧ RI (FF (chO 1) (spn (.sl none 0 a)) (spn (.sl none 0 b))) (spn (.sl none 0 l)) ((ivl (.sl none 0 u)).getD i.toNat 0) ∧ (DV.sl none 0 l).len ≤ i := by
      rcases hI with q | ⟨q, _⟩
      · exact q
      · omega
    have ei : ((i.toNat : Nat) : Int) = i := by omega
    have ge : (ivl (.sl none 0 u)).getD i.toNat 0 = (DV.sl none 0 u).at i 0 := by rw [ivl_get (show i.toNat < u.length by omega), ei]
    have ge' : (ivl (.sl none 0 u)).getD (i + 1).toNat 0 = (DV.sl none 0 u).at (i + 1) 0 := by rw [ivl_get (show (i + 1).toNat < u.length by omega), show (((i + 1).toNat : Nat) : Int) = i + 1 by omega]
    obtain ⟨gp, gq⟩ := inc_gap (i := i.toNat) hinc (by omega)
    rw [show i.toNat + 1 = (i + 1).toNat by omega, ge'] at gp gq
    rw [ge] at gp gq hR
    have e0 : 0 ≤ (DV.sl none 0 u).at i 0 ∧ (DV.sl none 0 u).at (i + 1) 0 ≤ 73049 := by
      have hm : ∀ k : Nat, k < u.length → (ivl (.sl none 0 u)).getD k 0 ∈ ivl (.sl none 0 u) := fun k hk => by
        rw [List.getD_eq_getElem?_getD, List.getElem?_eq_getElem (by omega)]
        exact List.getElem_mem ..
      refine ⟨by rw [← ge]; exact inc_mem hinc (hm _ (by omega)), ?_⟩
      have h5 := (hmem _).1 (hm (i + 1).toNat (by omega))
      rw [ge'] at h5
      have bd : ∀ {L : Sp} {x : Int}, (∀ p, p ∈ L → p.2 ≤ 73048) → Can 0 L → x ∈ edges L → x ≤ 73049 := fun {L x} h c => by
        revert c
        generalize (0 : Int) = m
        intro c hx
        induction L generalizing m with
        | nil => cases hx
        | cons p r ih =>
          obtain ⟨p1, p2⟩ := p
          have h6 := h (p1, p2) (List.mem_cons_self ..)
          have h6 : p2 ≤ 73048 := h6
          have h7 := c.1.2
          have hx : x ∈ p1 :: (p2 + 1) :: edges r := hx
          rcases List.mem_cons.1 hx with k | k
          · omega
          · rcases List.mem_cons.1 k with k | k
            · omega
            · exact ih (fun p hp => h p (List.mem_cons_of_mem _ hp)) _ c.2 k
      exact h5.elim (bd mA cA) (bd mB cB)
    have same : ∀ n, (DV.sl none 0 u).at i 0 ≤ n → n < (DV.sl none 0 u).at (i + 1) 0 → (FF (chO 1) (spn (.sl none 0 a)) (spn (.sl none 0 b)) n ↔ FF (chO 1) (spn (.sl none 0 a)) (spn (.sl none 0 b)) ((DV.sl none 0 u).at i 0)) := fun n p q => FF_same hmem gq p q
    have mea : ((DV.sl none 0 u).len - (i + 1)).toNat < ((DV.sl none 0 u).len - i).toNat := by omega
    refine res_ok (show 0 ≤ i ∧ i < (DV.sl none 0 u).len from ⟨i0, hi⟩) ?_
    refine res_con rfl trivial (fun q _ _ hq => ?_)
    have hq := yn_in (show [DV.n q] = yn _ from hq)
    have hq : (q = 1 ∧ FF (chO 1) (spn (.sl none 0 a)) (spn (.sl none 0 b)) ((DV.sl none 0 u).at i 0)) ∨ (q = 0 ∧ ¬ FF (chO 1) (spn (.sl none 0 a)) (spn (.sl none 0 b)) ((DV.sl none 0 u).at i 0)) := by
      rw [ff_mem cA cB]
      exact hq
    refine res_ite (fun w => ?_) fun w => ?_
    · have w : q = 0 := w
      have nf : ¬ FF (chO 1) (spn (.sl none 0 a)) (spn (.sl none 0 b)) ((DV.sl none 0 u).at i 0) := hq.elim (fun v => by omega) fun v => v.2
      exact res_chk rfl (show RInv 1 (.sl none 0 a) (.sl none 0 b) (.sl none 0 u) (.sl none 0 l) (i + 1) from .inl ⟨hlt, by rw [ge']; exact r_skip hR gp same nf, by omega⟩) mea
    have w : ¬ q = 0 := w
    have yf : FF (chO 1) (spn (.sl none 0 a)) (spn (.sl none 0 b)) ((DV.sl none 0 u).at i 0) := hq.elim (fun v => v.2) fun v => absurd v.1 w
    have all : ∀ n, (DV.sl none 0 u).at i 0 ≤ n → n < (DV.sl none 0 u).at (i + 1) 0 → FF (chO 1) (spn (.sl none 0 a)) (spn (.sl none 0 b)) n := fun n p q => (same n p q).2 yf
    have w1 : IntKind.i64.wrap ((DV.sl none 0 u).at (i + 1) 0 - 1) = (DV.sl none 0 u).at (i + 1) 0 - 1 := wW (by omega) (by omega)
    have app : (∀ p, p ∈ spn (.sl none 0 l) → p.2 + 1 ≠ (DV.sl none 0 u).at i 0) → T.res [cChk 22, cEnds 46, cIn 47, lOfR2 1] (fun y => CombP 1 (.sl none 0 a) (.sl none 0 b) y) (.ite (.and (.le (.lit 0) (.add (.var 9) (.lit 1))) (.lt (.add (.var 9) (.lit 1)) (.len (.var 6))))
  (.ite (.le (.add (.len (.var 8)) (.lit 1)) (.lit 8278675785607))
  (.dat (.rows 2) [(.num (.el (.var 6) (.var 9) 0)), (.num (.wrap .i64 (.sub (.el (.var 6) (.add (.var 9) (.lit 1)) 0) (.lit 1))))] (.dat .cat [(.var 8), (.var 101)] (.chk 3 8 [(.var 102), (.num (.add (.var 9) (.lit 1)))])))
  .fail)
  .fail) ([.sl none 0 a, .sl none 0 b, .n e, .n f, .sl none 0 [], .sl none 0 t, .sl none 0 u, .sl none 0 []] ++ ([.sl none 0 l, .n i] ++ List.replicate 90 (.n 0)) ++ [.n q]) := fun hl2 => by
      refine res_ok (cvh (a := 0 ≤ i + 1 ∧ i + 1 < (DV.sl none 0 u).len) (by kernel_rfl) ⟨by omega, hlt⟩) ?_
      refine res_ok (cvh (a := (DV.sl none 0 l).len + 1 ≤ 8278675785607) (by kernel_rfl) (by omega)) ?_
      refine res_dat (.sl none 0 [[.n ((DV.sl none 0 u).at i 0), .n (IntKind.i64.wrap ((DV.sl none 0 u).at (i + 1) 0 - 1))]]) (by kernel_rfl) ?_
      refine res_dat (.sl none 0 (l ++ [[.n ((DV.sl none 0 u).at i 0), .n (IntKind.i64.wrap ((DV.sl none 0 u).at (i + 1) 0 - 1))]])) (by kernel_rfl) ?_
      rw [w1]
      refine res_chk rfl (cvh (a := RInv 1 (.sl none 0 a) (.sl none 0 b) (.sl none 0 u) (.sl none 0 (l ++ [[.n ((DV.sl none 0 u).at i 0), .n ((DV.sl none 0 u).at (i + 1) 0 - 1)]])) (i + 1)) (by kernel_rfl) (.inl ⟨hlt, ?_, ?_⟩)) (cvh (a := ((DV.sl none 0 u).len - (i + 1)).toNat < ((DV.sl none 0 u).len - i).toNat) (by kernel_rfl) mea)
      · rw [ge', spn_app _ _ _ (by omega) (by omega)]
        exact hR.app e0.1 gp hl2 all
      · have : (DV.sl none 0 (l ++ [[.n ((DV.sl none 0 u).at i 0), .n ((DV.sl none 0 u).at (i + 1) 0 - 1)]])).len = (l.length + 1 : Nat) := clampL_eq (show (l ++ [[DV.n ((DV.sl none 0 u).at i 0), .n ((DV.sl none 0 u).at (i + 1) 0 - 1)]]).length ≤ 9223372036854775807 by simp; omega) |>.trans (by simp)
        omega
    refine res_ite (fun v => ?_) fun v => app ?_
    · have v := cvh (b := 0 ≤ (DV.sl none 0 l).len - 1) (by kernel_rfl) v
      obtain ⟨l0, lf, lt2, rfl, hf1, ht1⟩ := last_two hl (by omega)
      have l00 : (l0 ++ [[DV.n lf, .n lt2]]).length = l0.length + 1 := by simp
      have ra : (DV.sl none 0 (l0 ++ [[.n lf, .n lt2]])).at ((DV.sl none 0 (l0 ++ [[.n lf, .n lt2]])).len - 1) 1 = lt2 := by
        have h8 := spn_get (d := .sl none 0 (l0 ++ [[.n lf, .n lt2]])) (k := l0.length) (by show l0.length < (l0 ++ [[DV.n lf, .n lt2]]).length; omega)
        have h9 : (spn (.sl none 0 l0)).length = l0.length := spn_len _
        rw [spn_app _ _ _ hf1 ht1, List.getD_eq_getElem?_getD, List.getElem?_append_right (by omega), h9, Nat.sub_self] at h8
        have h8 : (lf, lt2) = _ := h8
        rw [ll, l00, show ((l0.length + 1 : Nat) : Int) - 1 = (l0.length : Nat) by omega]
        exact (congrArg Prod.snd h8).symm
      rw [spn_app _ _ _ hf1 ht1] at hR
      obtain ⟨_, _, c3, c4⟩ := can_take hR.can
      have lw := hR.low (lf, lt2) (List.mem_append.2 (.inr (List.mem_singleton.2 rfl)))
      have lw : lt2 + 1 ≤ (DV.sl none 0 u).at i 0 := lw
      have w2 : IntKind.i64.wrap (lt2 + 1) = lt2 + 1 := wW (by omega) (by omega)
      refine res_ok (cvh (a := 0 ≤ (DV.sl none 0 (l0 ++ [[.n lf, .n lt2]])).len - 1 ∧ (DV.sl none 0 (l0 ++ [[.n lf, .n lt2]])).len - 1 < (DV.sl none 0 (l0 ++ [[.n lf, .n lt2]])).len) (by kernel_rfl) ⟨v, by omega⟩) ?_
      refine res_ite (fun y => ?_) fun y => app ?_
      · have y := cvh (b := IntKind.i64.wrap ((DV.sl none 0 (l0 ++ [[.n lf, .n lt2]])).at ((DV.sl none 0 (l0 ++ [[.n lf, .n lt2]])).len - 1) 1 + 1) = (DV.sl none 0 u).at i 0) (by kernel_rfl) y
        rw [ra, w2] at y
        refine res_ok (cvh (a := 0 ≤ i + 1 ∧ i + 1 < (DV.sl none 0 u).len) (by kernel_rfl) ⟨by omega, hlt⟩) ?_
        refine res_dat (.sl none 0 (List.modify (l0 ++ [[DV.n lf, DV.n lt2]]) ((DV.sl none 0 (l0 ++ [[DV.n lf, DV.n lt2]])).len - 1).toNat (fun e : List DV => layG e 1 [DV.n (IntKind.i64.wrap ((DV.sl none 0 u).at (i + 1) 0 - 1))]))) (by kernel_rfl) ?_
        rw [show ((DV.sl none 0 (l0 ++ [[.n lf, .n lt2]])).len - 1).toNat = l0.length by omega, mod_last, w1]
        refine res_chk rfl (cvh (a := RInv 1 (.sl none 0 a) (.sl none 0 b) (.sl none 0 u) (.sl none 0 (l0 ++ [[.n lf, .n ((DV.sl none 0 u).at (i + 1) 0 - 1)]])) (i + 1)) (by kernel_rfl) (.inl ⟨hlt, ?_, ?_⟩)) (cvh (a := ((DV.sl none 0 u).len - (i + 1)).toNat < ((DV.sl none 0 u).len - i).toNat) (by kernel_rfl) mea)
        · rw [ge', spn_app _ _ _ hf1 (by omega)]
          have hR2 : RI (FF (chO 1) (spn (.sl none 0 a)) (spn (.sl none 0 b))) (spn (.sl none 0 l0) ++ [(lf, (DV.sl none 0 u).at i 0 - 1)]) ((DV.sl none 0 u).at i 0) := by
            rw [← y, show lt2 + 1 - 1 = lt2 by omega, y]; exact hR
          exact hR2.ext gp all
        · have : (DV.sl none 0 (l0 ++ [[.n lf, .n ((DV.sl none 0 u).at (i + 1) 0 - 1)]])).len = (l0.length + 1 : Nat) := clampL_eq (show (l0 ++ [[DV.n lf, .n ((DV.sl none 0 u).at (i + 1) 0 - 1)]]).length ≤ 9223372036854775807 by simp; omega) |>.trans (by simp)
          omega
      · have y := cvh (b := ¬ IntKind.i64.wrap ((DV.sl none 0 (l0 ++ [[.n lf, .n lt2]])).at ((DV.sl none 0 (l0 ++ [[.n lf, .n lt2]])).len - 1) 1 + 1) = (DV.sl none 0 u).at i 0) (by kernel_rfl) y
        rw [ra, w2] at y
        rw [spn_app _ _ _ hf1 ht1]
        intro p hp
        rcases List.mem_append.1 hp with k | k
        · exact hR.only p k
        · rw [List.mem_singleton.1 k]; exact y
    · have v := cvh (b := ¬ 0 ≤ (DV.sl none 0 l).len - 1) (by kernel_rfl) v
      intro p hp
      have : l = [] := List.eq_nil_of_length_eq_zero (by omega)
      rw [this] at hp
      cases hp
  · have hge : ¬ IntKind.i64.wrap (i + 1) < (DV.sl none 0 u).len := hge
    rw [wi] at hge
    have fin : Can 0 (spn (.sl none 0 l)) ∧ ∀ n, FF (chO 1) (spn (.sl none 0 a)) (spn (.sl none 0 b)) n ↔ Mem n (spn (.sl none 0 l)) := by
      rcases hI with ⟨hi, hR, _⟩ | ⟨hu0, _, hl0⟩
      · refine ⟨hR.can, fun n => ?_⟩
        by_cases c : n < (ivl (.sl none 0 u)).getD i.toNat 0
        · exact hR.mem n c
        · refine ⟨fun v => absurd v (FF_last ch_ff hmem fun d hd => ?_), fun ⟨p, hp, _, v⟩ => ?_⟩
          · have := hends.2 d hd
            rw [show (ivl (.sl none 0 u)).length - 1 = i.toNat by omega] at this
            omega
          · have := hR.low p hp
            omega
      · have : l = [] := hl0
        subst this
        refine ⟨trivial, fun n => ⟨fun v => absurd v (FF_first ch_ff hmem fun d hd => ?_), fun v => absurd v mem_nil⟩⟩
        have : (ivl (.sl none 0 u)).length = 0 := by omega
        rw [List.eq_nil_of_length_eq_zero this] at hd
        cases hd
    refine res_ite (fun v => ?_) fun v => ?_
    · have v := cvh (b := 256 < (DV.sl none 0 l).len) (by kernel_rfl) v
      refine res_dat (.sl none 0 []) (by kernel_rfl) ?_
      refine cvh (a := CombP 1 (.sl none 0 a) (.sl none 0 b) [.sl none 0 [], .n 2]) (by kernel_rfl) ?_
      exact err_fine ca cb (err_fine da db ⟨[], 2, rfl, _, fin, .inl ⟨by omega, rfl, rfl⟩⟩)
    · have v := cvh (b := ¬ 256 < (DV.sl none 0 l).len) (by kernel_rfl) v
      refine cvh (a := CombP 1 (.sl none 0 a) (.sl none 0 b) [.sl none 0 l, .n 0]) (by kernel_rfl) ?_
      exact err_fine ca cb (err_fine da db ⟨l, 0, rfl, _, fin, .inr ⟨by omega, rfl, rfl⟩⟩)
set_option maxRecDepth 100000 in
set_option maxHeartbeats 2000000 in
theorem cUniR2_ok (N : Nat) (w0 : World) : ConOk Tryd.prog tb N w0 (cUni 26 2) := by
  refine con_of_walk (tb := tb) fine (C := [cChk 22, cEnds 46, cIn 47, lOfR2 2]) (conCons cChkR_ok (conCons cEnds_ok (conCons cIn_ok (lopCons rfl noCon)))) 100 rfl ?_ N w0
  refine fun a ha b hb _ => ?_
  have la := len_of ha (Nat.le_refl _)
  have lb := len_of hb (Nat.le_refl _)
  clear ha hb
  rw [tree_meer]
  show T.res _ (fun y => CombP 2 (.sl none 0 a) (.sl none 0 b) y) _ _
  refine res_con rfl trivial (fun e _ _ he => ?_)
  have he := chk_in (show CheckP (.sl none 0 a) [.n e] from he)
  refine res_con rfl trivial (fun f _ _ hf => ?_)
  have hf := chk_in (show CheckP (.sl none 0 b) [.n f] from hf)
  refine res_ite (fun z => ?_) fun z => ?_
  · have z : ¬ e = 0 := z
    refine res_dat (.sl none 0 []) rfl ?_
    show CombP 2 (.sl none 0 a) (.sl none 0 b) [.sl none 0 [], .n e]
    rcases he with ⟨rfl, c⟩ | ⟨rfl, c, c2⟩ | ⟨rfl, _⟩
    · exact err_long (z := [.sl none 0 []]) c
    · exact err_bad (z := [.sl none 0 []]) c c2
    · exact absurd rfl z
  have z := Classical.not_not.1 (show ¬ ¬ e = 0 from z)
  obtain ⟨ca, cb⟩ : ¬ 256 < (DV.sl none 0 a).len ∧ AllS (.sl none 0 a) (DV.sl none 0 a).len := by
    rcases he with ⟨q, _⟩ | ⟨q, _⟩ | ⟨_, q⟩
    · omega
    · omega
    · exact q
  refine res_ite (fun z2 => ?_) fun z2 => ?_
  · have z2 : ¬ f = 0 := z2
    refine res_dat (.sl none 0 []) rfl ?_
    show CombP 2 (.sl none 0 a) (.sl none 0 b) [.sl none 0 [], .n f]
    refine err_fine ca cb ?_
    rcases hf with ⟨rfl, c⟩ | ⟨rfl, c, c2⟩ | ⟨rfl, _⟩
    · exact err_long (z := [.sl none 0 []]) c
    · exact err_bad (z := [.sl none 0 []]) c c2
    · exact absurd rfl z2
  have z2 := Classical.not_not.1 (show ¬ ¬ f = 0 from z2)
  obtain ⟨da, db⟩ : ¬ 256 < (DV.sl none 0 b).len ∧ AllS (.sl none 0 b) (DV.sl none 0 b).len := by
    rcases hf with ⟨q, _⟩ | ⟨q, _⟩ | ⟨_, q⟩
    · omega
    · omega
    · exact q
  clear he hf
  have cA := ((alls_iff la).1 cb).1
  have cB := ((alls_iff lb).1 db).1
  have mA := ((alls_iff la).1 cb).2
  have mB := ((alls_iff lb).1 db).2
  refine res_dat (.sl none 0 []) rfl ?_
  refine res_con rfl (show Rgt (.sl none 0 a) ∧ (DV.sl none 0 []).len ≤ 600 from ⟨⟨by omega, cb⟩, by decide⟩) (fun t ht h1 => ?_)
  have h1 : ivl (.sl none 0 t) = endsL (ivl (.sl none 0 [])) (spn (.sl none 0 a)) := h1
  have h1 : ivl (.sl none 0 t) = endsL [] (spn (.sl none 0 a)) := h1
  have lt := len_of ht (Nat.le_refl _)
  have et : (ivl (.sl none 0 t)).length = t.length := ivl_len _
  have g1 := ends_len (l := spn (.sl none 0 a)) (t := [])
  rw [← h1, spn_len] at g1
  have g1 : (ivl (.sl none 0 t)).length ≤ 0 + 2 * a.length := g1
  refine res_con rfl (show Rgt (.sl none 0 b) ∧ (DV.sl none 0 t).len ≤ 600 from ⟨⟨by omega, db⟩, by omega⟩) (fun u hu h2 => ?_)
  have h2 : ivl (.sl none 0 u) = endsL (ivl (.sl none 0 t)) (spn (.sl none 0 b)) := h2
  have lu := len_of hu (Nat.le_refl _)
  have eu : (ivl (.sl none 0 u)).length = u.length := ivl_len _
  have g2 := ends_len (l := spn (.sl none 0 b)) (t := ivl (.sl none 0 t))
  rw [← h2, spn_len] at g2
  have g2 : (ivl (.sl none 0 u)).length ≤ (ivl (.sl none 0 t)).length + 2 * b.length := g2
  clear ht hu
  have hinc : Inc 0 (ivl (.sl none 0 u)) := by
    rw [h2, h1]
    exact ends_inc (ends_inc (show Inc 0 [] from trivial) cA (Int.le_refl _)) cB (Int.le_refl _)
  have hmem : ∀ x, x ∈ ivl (.sl none 0 u) ↔ x ∈ edges (spn (.sl none 0 a)) ∨ x ∈ edges (spn (.sl none 0 b)) := fun x => by
    rw [h2, mem_ends, h1, mem_ends]
    simp
  have hends := inc_ends hinc
  refine res_dat (.sl none 0 []) rfl ?_
  refine res_lop rfl (show RInv 2 (.sl none 0 a) (.sl none 0 b) (.sl none 0 u) (.sl none 0 []) 0 from ?_) (fun l hl i i0 i1 hI => ?_)
  · by_cases c : u.length = 0
    · exact .inr ⟨by omega, rfl, rfl⟩
    · refine .inl ⟨by omega, ⟨trivial, fun p hp => (by cases hp), fun n hn => ⟨fun q => absurd q (FF_first ch_ff hmem fun d hd => ?_), fun q => absurd q mem_nil⟩⟩, by decide⟩
      have := hends.1 d hd
      have hn : n < (ivl (.sl none 0 u)).getD 0 0 := hn
      omega
  have hI : RInv 2 (.sl none 0 a) (.sl none 0 b) (.sl none 0 u) (.sl none 0 l) i := hI
  have ll := len_of hl (Nat.le_refl _)
  have sll : (spn (.sl none 0 l)).length = l.length := spn_len _
  have iu : i ≤ 1100 := by
    rcases hI with ⟨q, _⟩ | ⟨_, q, _⟩ <;> omega
  have wi : IntKind.i64.wrap (i + 1) = i + 1 := wW (by omega) (by omega)
  refine res_ite (fun hltB => ?_) fun hge => ?_
  · have hlt : IntKind.i64.wrap (i + 1) < (DV.sl none 0 u).len := hltB
    rw [wi] at hlt
    obtain ⟨hi, hR, hlen⟩ : i < (DV.sl none 0 u).len ∧ RI (FF (chO 2) (spn (.sl none 0 a)) (spn (.sl none 0 b))) (spn (.sl none 0 l)) ((ivl (.sl none 0 u)).getD i.toNat 0) ∧ (DV.sl none 0 l).len ≤ i := by
      rcases hI with q | ⟨q, _⟩
      · exact q
      · omega
    have ei : ((i.toNat : Nat) : Int) = i := by omega
    have ge : (ivl (.sl none 0 u)).getD i.toNat 0 = (DV.sl none 0 u).at i 0 := by rw [ivl_get (show i.toNat < u.length by omega), ei]
    have ge' : (ivl (.sl none 0 u)).getD (i + 1).toNat 0 = (DV.sl none 0 u).at (i + 1) 0 := by rw [ivl_get (show (i + 1).toNat < u.length by omega), show (((i + 1).toNat : Nat) : Int) = i + 1 by omega]
    obtain ⟨gp, gq⟩ := inc_gap (i := i.toNat) hinc (by omega)
    rw [show i.toNat + 1 = (i + 1).toNat by omega, ge'] at gp gq
    rw [ge] at gp gq hR
    have e0 : 0 ≤ (DV.sl none 0 u).at i 0 ∧ (DV.sl none 0 u).at (i + 1) 0 ≤ 73049 := by
      have hm : ∀ k : Nat, k < u.length → (ivl (.sl none 0 u)).getD k 0 ∈ ivl (.sl none 0 u) := fun k hk => by
        rw [List.getD_eq_getElem?_getD, List.getElem?_eq_getElem (by omega)]
        exact List.getElem_mem ..
      refine ⟨by rw [← ge]; exact inc_mem hinc (hm _ (by omega)), ?_⟩
      have h5 := (hmem _).1 (hm (i + 1).toNat (by omega))
      rw [ge'] at h5
      have bd : ∀ {L : Sp} {x : Int}, (∀ p, p ∈ L → p.2 ≤ 73048) → Can 0 L → x ∈ edges L → x ≤ 73049 := fun {L x} h c => by
        revert c
        generalize (0 : Int) = m
        intro c hx
        induction L generalizing m with
        | nil => cases hx
        | cons p r ih =>
          obtain ⟨p1, p2⟩ := p
          have h6 := h (p1, p2) (List.mem_cons_self ..)
          have h6 : p2 ≤ 73048 := h6
          have h7 := c.1.2
          have hx : x ∈ p1 :: (p2 + 1) :: edges r := hx
          rcases List.mem_cons.1 hx with k | k
          · omega
          · rcases List.mem_cons.1 k with k | k
            · omega
            · exact ih (fun p hp => h p (List.mem_cons_of_mem _ hp)) _ c.2 k
      exact h5.elim (bd mA cA) (bd mB cB)
    have same : ∀ n, (DV.sl none 0 u).at i 0 ≤ n → n < (DV.sl none 0 u).at (i + 1) 0 → (FF (chO 2) (spn (.sl none 0 a)) (spn (.sl none 0 b)) n ↔ FF (chO 2) (spn (.sl none 0 a)) (spn (.sl none 0 b)) ((DV.sl none 0 u).at i 0)) := fun n p q => FF_same hmem gq p q
    have mea : ((DV.sl none 0 u).len - (i + 1)).toNat < ((DV.sl none 0 u).len - i).toNat := by omega
    refine res_ok (show 0 ≤ i ∧ i < (DV.sl none 0 u).len from ⟨i0, hi⟩) ?_
    refine res_con rfl trivial (fun q _ _ hq => ?_)
    have hq := yn_in (show [DV.n q] = yn _ from hq)
    have hq : (q = 1 ∧ FF (chO 2) (spn (.sl none 0 a)) (spn (.sl none 0 b)) ((DV.sl none 0 u).at i 0)) ∨ (q = 0 ∧ ¬ FF (chO 2) (spn (.sl none 0 a)) (spn (.sl none 0 b)) ((DV.sl none 0 u).at i 0)) := by
      rw [ff_mem cA cB]
      exact hq
    refine res_ite (fun w => ?_) fun w => ?_
    · have w : q = 0 := w
      have nf : ¬ FF (chO 2) (spn (.sl none 0 a)) (spn (.sl none 0 b)) ((DV.sl none 0 u).at i 0) := hq.elim (fun v => by omega) fun v => v.2
      exact res_chk rfl (show RInv 2 (.sl none 0 a) (.sl none 0 b) (.sl none 0 u) (.sl none 0 l) (i + 1) from .inl ⟨hlt, by rw [ge']; exact r_skip hR gp same nf, by omega⟩) mea
    have w : ¬ q = 0 := w
    have yf : FF (chO 2) (spn (.sl none 0 a)) (spn (.sl none 0 b)) ((DV.sl none 0 u).at i 0) := hq.elim (fun v => v.2) fun v => absurd v.1 w
    have all : ∀ n, (DV.sl none 0 u).at i 0 ≤ n → n < (DV.sl none 0 u).at (i + 1) 0 → FF (chO 2) (spn (.sl none 0 a)) (spn (.sl none 0 b)) n := fun n p q => (same n p q).2 yf
    have w1 : IntKind.i64.wrap ((DV.sl none 0 u).at (i + 1) 0 - 1) = (DV.sl none 0 u).at (i + 1) 0 - 1 := wW (by omega) (by omega)
    have app : (∀ p, p ∈ spn (.sl none 0 l) → p.2 + 1 ≠ (DV.sl none 0 u).at i 0) → T.res [cChk 22, cEnds 46, cIn 47, lOfR2 2] (fun y => CombP 2 (.sl none 0 a) (.sl none 0 b) y) (.ite (.and (.le (.lit 0) (.add (.var 9) (.lit 1))) (.lt (.add (.var 9) (.lit 1)) (.len (.var 6))))
  (.ite (.le (.add (.len (.var 8)) (.lit 1)) (.lit 8278675785607))
  (.dat (.rows 2) [(.num (.el (.var 6) (.var 9) 0)), (.num (.wrap .i64 (.sub (.el (.var 6) (.add (.var 9) (.lit 1)) 0) (.lit 1))))] (.dat .cat [(.var 8), (.var 101)] (.chk 3 8 [(.var 102), (.num (.add (.var 9) (.lit 1)))])))
  .fail)
  .fail) ([.sl none 0 a, .sl none 0 b, .n e, .n f, .sl none 0 [], .sl none 0 t, .sl none 0 u, .sl none 0 []] ++ ([.sl none 0 l, .n i] ++ List.replicate 90 (.n 0)) ++ [.n q]) := fun hl2 => by
      refine res_ok (cvh (a := 0 ≤ i + 1 ∧ i + 1 < (DV.sl none 0 u).len) (by kernel_rfl) ⟨by omega, hlt⟩) ?_
      refine res_ok (cvh (a := (DV.sl none 0 l).len + 1 ≤ 8278675785607) (by kernel_rfl) (by omega)) ?_
      refine res_dat (.sl none 0 [[.n ((DV.sl none 0 u).at i 0), .n (IntKind.i64.wrap ((DV.sl none 0 u).at (i + 1) 0 - 1))]]) (by kernel_rfl) ?_
      refine res_dat (.sl none 0 (l ++ [[.n ((DV.sl none 0 u).at i 0), .n (IntKind.i64.wrap ((DV.sl none 0 u).at (i + 1) 0 - 1))]])) (by kernel_rfl) ?_
      rw [w1]
      refine res_chk rfl (cvh (a := RInv 2 (.sl none 0 a) (.sl none 0 b) (.sl none 0 u) (.sl none 0 (l ++ [[.n ((DV.sl none 0 u).at i 0), .n ((DV.sl none 0 u).at (i + 1) 0 - 1)]])) (i + 1)) (by kernel_rfl) (.inl ⟨hlt, ?_, ?_⟩)) (cvh (a := ((DV.sl none 0 u).len - (i + 1)).toNat < ((DV.sl none 0 u).len - i).toNat) (by kernel_rfl) mea)
      · rw [ge', spn_app _ _ _ (by omega) (by omega)]
        exact hR.app e0.1 gp hl2 all
      · have : (DV.sl none 0 (l ++ [[.n ((DV.sl none 0 u).at i 0), .n ((DV.sl none 0 u).at (i + 1) 0 - 1)]])).len = (l.length + 1 : Nat) := clampL_eq (show (l ++ [[DV.n ((DV.sl none 0 u).at i 0), .n ((DV.sl none 0 u).at (i + 1) 0 - 1)]]).length ≤ 9223372036854775807 by simp; omega) |>.trans (by simp)
        omega
    refine res_ite (fun v => ?_) fun v => app ?_
    · have v := cvh (b := 0 ≤ (DV.sl none 0 l).len - 1) (by kernel_rfl) v
      obtain ⟨l0, lf, lt2, rfl, hf1, ht1⟩ := last_two hl (by omega)
      have l00 : (l0 ++ [[DV.n lf, .n lt2]]).length = l0.length + 1 := by simp
      have ra : (DV.sl none 0 (l0 ++ [[.n lf, .n lt2]])).at ((DV.sl none 0 (l0 ++ [[.n lf, .n lt2]])).len - 1) 1 = lt2 := by
        have h8 := spn_get (d := .sl none 0 (l0 ++ [[.n lf, .n lt2]])) (k := l0.length) (by show l0.length < (l0 ++ [[DV.n lf, .n lt2]]).length; omega)
        have h9 : (spn (.sl none 0 l0)).length = l0.length := spn_len _
        rw [spn_app _ _ _ hf1 ht1, List.getD_eq_getElem?_getD, List.getElem?_append_right (by omega), h9, Nat.sub_self] at h8
        have h8 : (lf, lt2) = _ := h8
        rw [ll, l00, show ((l0.length + 1 : Nat) : Int) - 1 = (l0.length : Nat) by omega]
        exact (congrArg Prod.snd h8).symm
      rw [spn_app _ _ _ hf1 ht1] at hR
      obtain ⟨_, _, c3, c4⟩ := can_take hR.can
      have lw := hR.low (lf, lt2) (List.mem_append.2 (.inr (List.mem_singleton.2 rfl)))
      have lw : lt2 + 1 ≤ (DV.sl none 0 u).at i 0 := lw
      have w2 : IntKind.i64.wrap (lt2 + 1) = lt2 + 1 := wW (by omega) (by omega)
      refine res_ok (cvh (a := 0 ≤ (DV.sl none 0 (l0 ++ [[.n lf, .n lt2]])).len - 1 ∧ (DV.sl none 0 (l0 ++ [[.n lf, .n lt2]])).len - 1 < (DV.sl none 0 (l0 ++ [[.n lf, .n lt2]])).len) (by kernel_rfl) ⟨v, by omega⟩) ?_
      refine res_ite (fun y => ?_) fun y => app ?_
      · have y := cvh (b := IntKind.i64.wrap ((DV.sl none 0 (l0 ++ [[.n lf, .n lt2]])).at ((DV.sl none 0 (l0 ++ [[.n lf, .n lt2]])).len - 1) 1 + 1) = (DV.sl none 0 u).at i 0) (by kernel_rfl) y
        rw [ra, w2] at y
        refine res_ok (cvh (a := 0 ≤ i + 1 ∧ i + 1 < (DV.sl none 0 u).len) (by kernel_rfl) ⟨by omega, hlt⟩) ?_
        refine res_dat (.sl none 0 (List.modify (l0 ++ [[DV.n lf, DV.n lt2]]) ((DV.sl none 0 (l0 ++ [[DV.n lf, DV.n lt2]])).len - 1).toNat (fun e : List DV => layG e 1 [DV.n (IntKind.i64.wrap ((DV.sl none 0 u).at (i + 1) 0 - 1))]))) (by kernel_rfl) ?_
        rw [show ((DV.sl none 0 (l0 ++ [[.n lf, .n lt2]])).len - 1).toNat = l0.length by omega, mod_last, w1]
        refine res_chk rfl (cvh (a := RInv 2 (.sl none 0 a) (.sl none 0 b) (.sl none 0 u) (.sl none 0 (l0 ++ [[.n lf, .n ((DV.sl none 0 u).at (i + 1) 0 - 1)]])) (i + 1)) (by kernel_rfl) (.inl ⟨hlt, ?_, ?_⟩)) (cvh (a := ((DV.sl none 0 u).len - (i + 1)).toNat < ((DV.sl none 0 u).len - i).toNat) (by kernel_rfl) mea)
        · rw [ge', spn_app _ _ _ hf1 (by omega)]
          have hR2 : RI (FF (chO 2) (spn (.sl none 0 a)) (spn (.sl none 0 b))) (spn (.sl none 0 l0) ++ [(lf, (DV.sl none 0 u).at i 0 - 1)]) ((DV.sl none 0 u).at i 0) := by
            rw [← y, show lt2 + 1 - 1 = lt2 by omega, y]; exact hR
          exact hR2.ext gp all
        · have : (DV.sl none 0 (l0 ++ [[.n lf, .n ((DV.sl none 0 u).at (i + 1) 0 - 1)]])).len = (l0.length + 1 : Nat) := clampL_eq (show (l0 ++ [[DV.n lf, .n ((DV.sl none 0 u).at (i + 1) 0 - 1)]]).length ≤ 9223372036854775807 by simp; omega) |>.trans (by simp)
          omega
      · have y := cvh (b := ¬ IntKind.i64.wrap ((DV.sl none 0 (l0 ++ [[.n lf, .n lt2]])).at ((DV.sl none 0 (l0 ++ [[.n lf, .n lt2]])).len - 1) 1 + 1) = (DV.sl none 0 u).at i 0) (by kernel_rfl) y
        rw [ra, w2] at y
        rw [spn_app _ _ _ hf1 ht1]
        intro p hp
        rcases List.mem_append.1 hp with k | k
        · exact hR.only p k
        · rw [List.mem_singleton.1 k]; exact y
    · have v := cvh (b := ¬ 0 ≤ (DV.sl none 0 l).len - 1) (by kernel_rfl) v
      intro p hp
      have : l = [] := List.eq_nil_of_length_eq_zero (by omega)
      rw [this] at hp
      cases hp
  · have hge : ¬ IntKind.i64.wrap (i + 1) < (DV.sl none 0 u).len := hge
    rw [wi] at hge
    have fin : Can 0 (spn (.sl none 0 l)) ∧ ∀ n, FF (chO 2) (spn (.sl none 0 a)) (spn (.sl none 0 b)) n ↔ Mem n (spn (.sl none 0 l)) := by
      rcases hI with ⟨hi, hR, _⟩ | ⟨hu0, _, hl0⟩
      · refine ⟨hR.can, fun n => ?_⟩
        by_cases c : n < (ivl (.sl none 0 u)).getD i.toNat 0
        · exact hR.mem n c
        · refine ⟨fun v => absurd v (FF_last ch_ff hmem fun d hd => ?_), fun ⟨p, hp, _, v⟩ => ?_⟩
          · have := hends.2 d hd
            rw [show (ivl (.sl none 0 u)).length - 1 = i.toNat by omega] at this
            omega
          · have := hR.low p hp
            omega
      · have : l = [] := hl0
        subst this
        refine ⟨trivial, fun n => ⟨fun v => absurd v (FF_first ch_ff hmem fun d hd => ?_), fun v => absurd v mem_nil⟩⟩
        have : (ivl (.sl none 0 u)).length = 0 := by omega
        rw [List.eq_nil_of_length_eq_zero this] at hd
        cases hd
    refine res_ite (fun v => ?_) fun v => ?_
    · have v := cvh (b := 256 < (DV.sl none 0 l).len) (by kernel_rfl) v
      refine res_dat (.sl none 0 []) (by kernel_rfl) ?_
      refine cvh (a := CombP 2 (.sl none 0 a) (.sl none 0 b) [.sl none 0 [], .n 2]) (by kernel_rfl) ?_
      exact err_fine ca cb (err_fine da db ⟨[], 2, rfl, _, fin, .inl ⟨by omega, rfl, rfl⟩⟩)
    · have v := cvh (b := ¬ 256 < (DV.sl none 0 l).len) (by kernel_rfl) v
      refine cvh (a := CombP 2 (.sl none 0 a) (.sl none 0 b) [.sl none 0 l, .n 0]) (by kernel_rfl) ?_
      exact err_fine ca cb (err_fine da db ⟨l, 0, rfl, _, fin, .inr ⟨by omega, rfl, rfl⟩⟩)
set_option maxRecDepth 100000 in
set_option maxHeartbeats 2000000 in
theorem cUniR3_ok (N : Nat) (w0 : World) : ConOk Tryd.prog tb N w0 (cUni 28 3) := by
  refine con_of_walk (tb := tb) fine (C := [cChk 22, cEnds 46, cIn 47, lOfR2 3]) (conCons cChkR_ok (conCons cEnds_ok (conCons cIn_ok (lopCons rfl noCon)))) 100 rfl ?_ N w0
  refine fun a ha b hb _ => ?_
  have la := len_of ha (Nat.le_refl _)
  have lb := len_of hb (Nat.le_refl _)
  clear ha hb
  rw [tree_witr]
  show T.res _ (fun y => CombP 3 (.sl none 0 a) (.sl none 0 b) y) _ _
  refine res_con rfl trivial (fun e _ _ he => ?_)
  have he := chk_in (show CheckP (.sl none 0 a) [.n e] from he)
  refine res_con rfl trivial (fun f _ _ hf => ?_)
  have hf := chk_in (show CheckP (.sl none 0 b) [.n f] from hf)
  refine res_ite (fun z => ?_) fun z => ?_
  · have z : ¬ e = 0 := z
    refine res_dat (.sl none 0 []) rfl ?_
    show CombP 3 (.sl none 0 a) (.sl none 0 b) [.sl none 0 [], .n e]
    rcases he with ⟨rfl, c⟩ | ⟨rfl, c, c2⟩ | ⟨rfl, _⟩
    · exact err_long (z := [.sl none 0 []]) c
    · exact err_bad (z := [.sl none 0 []]) c c2
    · exact absurd rfl z
  have z := Classical.not_not.1 (show ¬ ¬ e = 0 from z)
  obtain ⟨ca, cb⟩ : ¬ 256 < (DV.sl none 0 a).len ∧ AllS (.sl none 0 a) (DV.sl none 0 a).len := by
    rcases he with ⟨q, _⟩ | ⟨q, _⟩ | ⟨_, q⟩
    · omega
    · omega
    · exact q
  refine res_ite (fun z2 => ?_) fun z2 => ?_
  · have z2 : ¬ f = 0 := z2
    refine res_dat (.sl none 0 []) rfl ?_
    show CombP 3 (.sl none 0 a) (.sl none 0 b) [.sl none 0 [], .n f]
    refine err_fine ca cb ?_
    rcases hf with ⟨rfl, c⟩ | ⟨rfl, c, c2⟩ | ⟨rfl, _⟩
    · exact err_long (z := [.sl none 0 []]) c
    · exact err_bad (z := [.sl none 0 []]) c c2
    · exact absurd rfl z2
  have z2 := Classical.not_not.1 (show ¬ ¬ f = 0 from z2)
  obtain ⟨da, db⟩ : ¬ 256 < (DV.sl none 0 b).len ∧ AllS (.sl none 0 b) (DV.sl none 0 b).len := by
    rcases hf with ⟨q, _⟩ | ⟨q, _⟩ | ⟨_, q⟩
    · omega
    · omega
    · exact q
  clear he hf
  have cA := ((alls_iff la).1 cb).1
  have cB := ((alls_iff lb).1 db).1
  have mA := ((alls_iff la).1 cb).2
  have mB := ((alls_iff lb).1 db).2
  refine res_dat (.sl none 0 []) rfl ?_
  refine res_con rfl (show Rgt (.sl none 0 a) ∧ (DV.sl none 0 []).len ≤ 600 from ⟨⟨by omega, cb⟩, by decide⟩) (fun t ht h1 => ?_)
  have h1 : ivl (.sl none 0 t) = endsL (ivl (.sl none 0 [])) (spn (.sl none 0 a)) := h1
  have h1 : ivl (.sl none 0 t) = endsL [] (spn (.sl none 0 a)) := h1
  have lt := len_of ht (Nat.le_refl _)
  have et : (ivl (.sl none 0 t)).length = t.length := ivl_len _
  have g1 := ends_len (l := spn (.sl none 0 a)) (t := [])
  rw [← h1, spn_len] at g1
  have g1 : (ivl (.sl none 0 t)).length ≤ 0 + 2 * a.length := g1
  refine res_con rfl (show Rgt (.sl none 0 b) ∧ (DV.sl none 0 t).len ≤ 600 from ⟨⟨by omega, db⟩, by omega⟩) (fun u hu h2 => ?_)
  have h2 : ivl (.sl none 0 u) = endsL (ivl (.sl none 0 t)) (spn (.sl none 0 b)) := h2
  have lu := len_of hu (Nat.le_refl _)
  have eu : (ivl (.sl none 0 u)).length = u.length := ivl_len _
  have g2 := ends_len (l := spn (.sl none 0 b)) (t := ivl (.sl none 0 t))
  rw [← h2, spn_len] at g2
  have g2 : (ivl (.sl none 0 u)).length ≤ (ivl (.sl none 0 t)).length + 2 * b.length := g2
  clear ht hu
  have hinc : Inc 0 (ivl (.sl none 0 u)) := by
    rw [h2, h1]
    exact ends_inc (ends_inc (show Inc 0 [] from trivial) cA (Int.le_refl _)) cB (Int.le_refl _)
  have hmem : ∀ x, x ∈ ivl (.sl none 0 u) ↔ x ∈ edges (spn (.sl none 0 a)) ∨ x ∈ edges (spn (.sl none 0 b)) := fun x => by
    rw [h2, mem_ends, h1, mem_ends]
    simp
  have hends := inc_ends hinc
  refine res_dat (.sl none 0 []) rfl ?_
  refine res_lop rfl (show RInv 3 (.sl none 0 a) (.sl none 0 b) (.sl none 0 u) (.sl none 0 []) 0 from ?_) (fun l hl i i0 i1 hI => ?_)
  · by_cases c : u.length = 0
    · exact .inr ⟨by omega, rfl, rfl⟩
    · refine .inl ⟨by omega, ⟨trivial, fun p hp => (by cases hp), fun n hn => ⟨fun q => absurd q (FF_first ch_ff hmem fun d hd => ?_), fun q => absurd q mem_nil⟩⟩, by decide⟩
      have := hends.1 d hd
      have hn : n < (ivl (.sl none 0 u)).getD 0 0 := hn
      omega
  have hI : RInv 3 (.sl none 0 a) (.sl none 0 b) (.sl none 0 u) (.sl none 0 l) i := hI
  have ll := len_of hl (Nat.le_refl _)
  have sll : (spn (.sl none 0 l)).length = l.length := spn_len _
  have iu : i ≤ 1100 := by
    rcases hI with ⟨q, _⟩ | ⟨_, q, _⟩ <;> omega
  have wi : IntKind.i64.wrap (i + 1) = i + 1 := wW (by omega) (by omega)
  refine res_ite (fun hltB => ?_) fun hge => ?_
  · have hlt : IntKind.i64.wrap (i + 1) < (DV.sl none 0 u).len := hltB
    rw [wi] at hlt
    obtain ⟨hi, hR, hlen⟩ : i < (DV.sl none 0 u).len ∧ RI (FF (chO 3) (spn (.sl none 0 a)) (spn (.sl none 0 b))) (spn (.sl none 0 l)) ((ivl (.sl none 0 u)).getD i.toNat 0) ∧ (DV.sl none 0 l).len ≤ i := by
      rcases hI with q | ⟨q, _⟩
      · exact q
      · omega
    have ei : ((i.toNat : Nat) : Int) = i := by omega
    have ge : (ivl (.sl none 0 u)).getD i.toNat 0 = (DV.sl none 0 u).at i 0 := by rw [ivl_get (show i.toNat < u.length by omega), ei]
    have ge' : (ivl (.sl none 0 u)).getD (i + 1).toNat 0 = (DV.sl none 0 u).at (i + 1) 0 := by rw [ivl_get (show (i + 1).toNat < u.length by omega), show (((i + 1).toNat : Nat) : Int) = i + 1 by omega]
    obtain ⟨gp, gq⟩ := inc_gap (i := i.toNat) hinc (by omega)
    rw [show i.toNat + 1 = (i + 1).toNat by omega, ge'] at gp gq
    rw [ge] at gp gq hR
    have e0 : 0 ≤ (DV.sl none 0 u).at i 0 ∧ (DV.sl none 0 u).at (i + 1) 0 ≤ 73049 := by
      have hm : ∀ k : Nat, k < u.length → (ivl (.sl none 0 u)).getD k 0 ∈ ivl (.sl none 0 u) := fun k hk => by
        rw [List.getD_eq_getElem?_getD, List.getElem?_eq_getElem (by omega)]
        exact List.getElem_mem ..
      refine ⟨by rw [← ge]; exact inc_mem hinc (hm _ (by omega)), ?_⟩
      have h5 := (hmem _).1 (hm (i + 1).toNat (by omega))
      rw [ge'] at h5
      have bd : ∀ {L : Sp} {x : Int}, (∀ p, p ∈ L → p.2 ≤ 73048) → Can 0 L → x ∈ edges L → x ≤ 73049 := fun {L x} h c => by
        revert c
        generalize (0 : Int) = m
        intro c hx
        induction L generalizing m with
        | nil => cases hx
        | cons p r ih =>
          obtain ⟨p1, p2⟩ := p
          have h6 := h (p1, p2) (List.mem_cons_self ..)
          have h6 : p2 ≤ 73048 := h6
          have h7 := c.1.2
          have hx : x ∈ p1 :: (p2 + 1) :: edges r := hx
          rcases List.mem_cons.1 hx with k | k
          · omega
          · rcases List.mem_cons.1 k with k | k
            · omega
            · exact ih (fun p hp => h p (List.mem_cons_of_mem _ hp)) _ c.2 k
      exact h5.elim (bd mA cA) (bd mB cB)
    have same : ∀ n, (DV.sl none 0 u).at i 0 ≤ n → n < (DV.sl none 0 u).at (i + 1) 0 → (FF (chO 3) (spn (.sl none 0 a)) (spn (.sl none 0 b)) n ↔ FF (chO 3) (spn (.sl none 0 a)) (spn (.sl none 0 b)) ((DV.sl none 0 u).at i 0)) := fun n p q => FF_same hmem gq p q
    have mea : ((DV.sl none 0 u).len - (i + 1)).toNat < ((DV.sl none 0 u).len - i).toNat := by omega
    refine res_ok (show 0 ≤ i ∧ i < (DV.sl none 0 u).len from ⟨i0, hi⟩) ?_
    refine res_con rfl trivial (fun q _ _ hq => ?_)
    have hq := yn_in (show [DV.n q] = yn _ from hq)
    have hq : (q = 1 ∧ FF (chO 3) (spn (.sl none 0 a)) (spn (.sl none 0 b)) ((DV.sl none 0 u).at i 0)) ∨ (q = 0 ∧ ¬ FF (chO 3) (spn (.sl none 0 a)) (spn (.sl none 0 b)) ((DV.sl none 0 u).at i 0)) := by
      rw [ff_mem cA cB]
      exact hq
    refine res_ite (fun w => ?_) fun w => ?_
    · have w : q = 0 := w
      have nf : ¬ FF (chO 3) (spn (.sl none 0 a)) (spn (.sl none 0 b)) ((DV.sl none 0 u).at i 0) := hq.elim (fun v => by omega) fun v => v.2
      exact res_chk rfl (show RInv 3 (.sl none 0 a) (.sl none 0 b) (.sl none 0 u) (.sl none 0 l) (i + 1) from .inl ⟨hlt, by rw [ge']; exact r_skip hR gp same nf, by omega⟩) mea
    have w : ¬ q = 0 := w
    have yf : FF (chO 3) (spn (.sl none 0 a)) (spn (.sl none 0 b)) ((DV.sl none 0 u).at i 0) := hq.elim (fun v => v.2) fun v => absurd v.1 w
    have all : ∀ n, (DV.sl none 0 u).at i 0 ≤ n → n < (DV.sl none 0 u).at (i + 1) 0 → FF (chO 3) (spn (.sl none 0 a)) (spn (.sl none 0 b)) n := fun n p q => (same n p q).2 yf
    have w1 : IntKind.i64.wrap ((DV.sl none 0 u).at (i + 1) 0 - 1) = (DV.sl none 0 u).at (i + 1) 0 - 1 := wW (by omega) (by omega)
    have app : (∀ p, p ∈ spn (.sl none 0 l) → p.2 + 1 ≠ (DV.sl none 0 u).at i 0) → T.res [cChk 22, cEnds 46, cIn 47, lOfR2 3] (fun y => CombP 3 (.sl none 0 a) (.sl none 0 b) y) (.ite (.and (.le (.lit 0) (.add (.var 9) (.lit 1))) (.lt (.add (.var 9) (.lit 1)) (.len (.var 6))))
  (.ite (.le (.add (.len (.var 8)) (.lit 1)) (.lit 8278675785607))
  (.dat (.rows 2) [(.num (.el (.var 6) (.var 9) 0)), (.num (.wrap .i64 (.sub (.el (.var 6) (.add (.var 9) (.lit 1)) 0) (.lit 1))))] (.dat .cat [(.var 8), (.var 101)] (.chk 3 8 [(.var 102), (.num (.add (.var 9) (.lit 1)))])))
  .fail)
  .fail) ([.sl none 0 a, .sl none 0 b, .n e, .n f, .sl none 0 [], .sl none 0 t, .sl none 0 u, .sl none 0 []] ++ ([.sl none 0 l, .n i] ++ List.replicate 90 (.n 0)) ++ [.n q]) := fun hl2 => by
      refine res_ok (cvh (a := 0 ≤ i + 1 ∧ i + 1 < (DV.sl none 0 u).len) (by kernel_rfl) ⟨by omega, hlt⟩) ?_
      refine res_ok (cvh (a := (DV.sl none 0 l).len + 1 ≤ 8278675785607) (by kernel_rfl) (by omega)) ?_
      refine res_dat (.sl none 0 [[.n ((DV.sl none 0 u).at i 0), .n (IntKind.i64.wrap ((DV.sl none 0 u).at (i + 1) 0 - 1))]]) (by kernel_rfl) ?_
      refine res_dat (.sl none 0 (l ++ [[.n ((DV.sl none 0 u).at i 0), .n (IntKind.i64.wrap ((DV.sl none 0 u).at (i + 1) 0 - 1))]])) (by kernel_rfl) ?_
      rw [w1]
      refine res_chk rfl (cvh (a := RInv 3 (.sl none 0 a) (.sl none 0 b) (.sl none 0 u) (.sl none 0 (l ++ [[.n ((DV.sl none 0 u).at i 0), .n ((DV.sl none 0 u).at (i + 1) 0 - 1)]])) (i + 1)) (by kernel_rfl) (.inl ⟨hlt, ?_, ?_⟩)) (cvh (a := ((DV.sl none 0 u).len - (i + 1)).toNat < ((DV.sl none 0 u).len - i).toNat) (by kernel_rfl) mea)
      · rw [ge', spn_app _ _ _ (by omega) (by omega)]
        exact hR.app e0.1 gp hl2 all
      · have : (DV.sl none 0 (l ++ [[.n ((DV.sl none 0 u).at i 0), .n ((DV.sl none 0 u).at (i + 1) 0 - 1)]])).len = (l.length + 1 : Nat) := clampL_eq (show (l ++ [[DV.n ((DV.sl none 0 u).at i 0), .n ((DV.sl none 0 u).at (i + 1) 0 - 1)]]).length ≤ 9223372036854775807 by simp; omega) |>.trans (by simp)
        omega
    refine res_ite (fun v => ?_) fun v => app ?_
    · have v := cvh (b := 0 ≤ (DV.sl none 0 l).len - 1) (by kernel_rfl) v
      obtain ⟨l0, lf, lt2, rfl, hf1, ht1⟩ := last_two hl (by omega)
      have l00 : (l0 ++ [[DV.n lf, .n lt2]]).length = l0.length + 1 := by simp
      have ra : (DV.sl none 0 (l0 ++ [[.n lf, .n lt2]])).at ((DV.sl none 0 (l0 ++ [[.n lf, .n lt2]])).len - 1) 1 = lt2 := by
        have h8 := spn_get (d := .sl none 0 (l0 ++ [[.n lf, .n lt2]])) (k := l0.length) (by show l0.length < (l0 ++ [[DV.n lf, .n lt2]]).length; omega)
        have h9 : (spn (.sl none 0 l0)).length = l0.length := spn_len _
        rw [spn_app _ _ _ hf1 ht1, List.getD_eq_getElem?_getD, List.getElem?_append_right (by omega), h9, Nat.sub_self] at h8
        have h8 : (lf, lt2) = _ := h8
        rw [ll, l00, show ((l0.length + 1 : Nat) : Int) - 1 = (l0.length : Nat) by omega]
        exact (congrArg Prod.snd h8).symm
      rw [spn_app _ _ _ hf1 ht1] at hR
      obtain ⟨_, _, c3, c4⟩ := can_take hR.can
      have lw := hR.low (lf, lt2) (List.mem_append.2 (.inr (List.mem_singleton.2 rfl)))
      have lw : lt2 + 1 ≤ (DV.sl none 0 u).at i 0 := lw
      have w2 : IntKind.i64.wrap (lt2 + 1) = lt2 + 1 := wW (by omega) (by omega)
      refine res_ok (cvh (a := 0 ≤ (DV.sl none 0 (l0 ++ [[.n lf, .n lt2]])).len - 1 ∧ (DV.sl none 0 (l0 ++ [[.n lf, .n lt2]])).len - 1 < (DV.sl none 0 (l0 ++ [[.n lf, .n lt2]])).len) (by kernel_rfl) ⟨v, by omega⟩) ?_
      refine res_ite (fun y => ?_) fun y => app ?_
      · have y := cvh (b := IntKind.i64.wrap ((DV.sl none 0 (l0 ++ [[.n lf, .n lt2]])).at ((DV.sl none 0 (l0 ++ [[.n lf, .n lt2]])).len - 1) 1 + 1) = (DV.sl none 0 u).at i 0) (by kernel_rfl) y
        rw [ra, w2] at y
        refine res_ok (cvh (a := 0 ≤ i + 1 ∧ i + 1 < (DV.sl none 0 u).len) (by kernel_rfl) ⟨by omega, hlt⟩) ?_
        refine res_dat (.sl none 0 (List.modify (l0 ++ [[DV.n lf, DV.n lt2]]) ((DV.sl none 0 (l0 ++ [[DV.n lf, DV.n lt2]])).len - 1).toNat (fun e : List DV => layG e 1 [DV.n (IntKind.i64.wrap ((DV.sl none 0 u).at (i + 1) 0 - 1))]))) (by kernel_rfl) ?_
        rw [show ((DV.sl none 0 (l0 ++ [[.n lf, .n lt2]])).len - 1).toNat = l0.length by omega, mod_last, w1]
        refine res_chk rfl (cvh (a := RInv 3 (.sl none 0 a) (.sl none 0 b) (.sl none 0 u) (.sl none 0 (l0 ++ [[.n lf, .n ((DV.sl none 0 u).at (i + 1) 0 - 1)]])) (i + 1)) (by kernel_rfl) (.inl ⟨hlt, ?_, ?_⟩)) (cvh (a := ((DV.sl none 0 u).len - (i + 1)).toNat < ((DV.sl none 0 u).len - i).toNat) (by kernel_rfl) mea)
        · rw [ge', spn_app _ _ _ hf1 (by omega)]
          have hR2 : RI (FF (chO 3) (spn (.sl none 0 a)) (spn (.sl none 0 b))) (spn (.sl none 0 l0) ++ [(lf, (DV.sl none 0 u).at i 0 - 1)]) ((DV.sl none 0 u).at i 0) := by
            rw [← y, show lt2 + 1 - 1 = lt2 by omega, y]; exact hR
          exact hR2.ext gp all
        · have : (DV.sl none 0 (l0 ++ [[.n lf, .n ((DV.sl none 0 u).at (i + 1) 0 - 1)]])).len = (l0.length + 1 : Nat) := clampL_eq (show (l0 ++ [[DV.n lf, .n ((DV.sl none 0 u).at (i + 1) 0 - 1)]]).length ≤ 9223372036854775807 by simp; omega) |>.trans (by simp)
          omega
      · have y := cvh (b := ¬ IntKind.i64.wrap ((DV.sl none 0 (l0 ++ [[.n lf, .n lt2]])).at ((DV.sl none 0 (l0 ++ [[.n lf, .n lt2]])).len - 1) 1 + 1) = (DV.sl none 0 u).at i 0) (by kernel_rfl) y
        rw [ra, w2] at y
        rw [spn_app _ _ _ hf1 ht1]
        intro p hp
        rcases List.mem_append.1 hp with k | k
        · exact hR.only p k
        · rw [List.mem_singleton.1 k]; exact y
    · have v := cvh (b := ¬ 0 ≤ (DV.sl none 0 l).len - 1) (by kernel_rfl) v
      intro p hp
      have : l = [] := List.eq_nil_of_length_eq_zero (by omega)
      rw [this] at hp
      cases hp
  · have hge : ¬ IntKind.i64.wrap (i + 1) < (DV.sl none 0 u).len := hge
    rw [wi] at hge
    have fin : Can 0 (spn (.sl none 0 l)) ∧ ∀ n, FF (chO 3) (spn (.sl none 0 a)) (spn (.sl none 0 b)) n ↔ Mem n (spn (.sl none 0 l)) := by
      rcases hI with ⟨hi, hR, _⟩ | ⟨hu0, _, hl0⟩
      · refine ⟨hR.can, fun n => ?_⟩
        by_cases c : n < (ivl (.sl none 0 u)).getD i.toNat 0
        · exact hR.mem n c
        · refine ⟨fun v => absurd v (FF_last ch_ff hmem fun d hd => ?_), fun ⟨p, hp, _, v⟩ => ?_⟩
          · have := hends.2 d hd
            rw [show (ivl (.sl none 0 u)).length - 1 = i.toNat by omega] at this
            omega
          · have := hR.low p hp
            omega
      · have : l = [] := hl0
        subst this
        refine ⟨trivial, fun n => ⟨fun v => absurd v (FF_first ch_ff hmem fun d hd => ?_), fun v => absurd v mem_nil⟩⟩
        have : (ivl (.sl none 0 u)).length = 0 := by omega
        rw [List.eq_nil_of_length_eq_zero this] at hd
        cases hd
    refine res_ite (fun v => ?_) fun v => ?_
    · have v := cvh (b := 256 < (DV.sl none 0 l).len) (by kernel_rfl) v
      refine res_dat (.sl none 0 []) (by kernel_rfl) ?_
      refine cvh (a := CombP 3 (.sl none 0 a) (.sl none 0 b) [.sl none 0 [], .n 2]) (by kernel_rfl) ?_
      exact err_fine ca cb (err_fine da db ⟨[], 2, rfl, _, fin, .inl ⟨by omega, rfl, rfl⟩⟩)
    · have v := cvh (b := ¬ 256 < (DV.sl none 0 l).len) (by kernel_rfl) v
      refine cvh (a := CombP 3 (.sl none 0 a) (.sl none 0 b) [.sl none 0 l, .n 0]) (by kernel_rfl) ?_
      exact err_fine ca cb (err_fine da db ⟨l, 0, rfl, _, fin, .inr ⟨by omega, rfl, rfl⟩⟩)
end Go.Proofs.YtdffnmhpkapbkaaDoor
