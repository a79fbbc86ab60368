/- DERIVED. The law on members, walked. -/
import Derived.Test.YtdffnmhpkapbkaaDoorEwlk
namespace Go.Proofs.YtdffnmhpkapbkaaDoor
open Go.Dx
set_option linter.unusedVariables false
theorem chk_gd {a : List (List DV)} {e : Int} (h : CheckP (dl a) [.n e]) (he : e = 0) : Gd a := by
  rcases chk_in h with ⟨rfl, _⟩ | ⟨rfl, _⟩ | ⟨_, q⟩
  · cases he
  · cases he
  · exact q
theorem gd_chk {a : List (List DV)} {e : Int} (h : CheckP (dl a) [.n e]) (g : Gd a) : e = 0 := by
  have := h.2.2 g.1 g.2
  simpa using this
theorem dl_len4 {l : List (List DV)} {x y z v : List DV} (hl : (dl l).len = l.length) (hb : (dl l).len ≤ 4000) : (dl (l ++ [x, y, z, v])).len = (dl l).len + 4 := by
  have : (dl (l ++ [x, y, z, v])).len = ((l ++ [x, y, z, v]).length : Nat) := clampL_eq (show (l ++ [x, y, z, v]).length ≤ 9223372036854775807 by simp; omega)
  rw [this, hl]
  simp
set_option maxRecDepth 100000 in
set_option maxHeartbeats 1000000 in
theorem walk_mem (a b : List (List DV)) (d : Int) (la : (dl a).len = a.length) (lb : (dl b).len = b.length) : (runC tb [lawCon 9 [], cChk 21, cUni 23 1, cUni 25 2, cUni 27 3, cHas 31, lAll, lAsk, cSam 29] 80 (lawCon 7 [.c spans, .c spans, .c i64s])).res [lawCon 9 [], cChk 21, cUni 23 1, cUni 25 2, cUni 27 3, cHas 31, lAll, lAsk, cSam 29] (fun ys => ys = [.n 1]) [dl a, dl b, .n d] := by
  rw [tree_lmem]
  refine res_con rfl trivial (fun z _ _ hz => ?_)
  obtain rfl : z = 1 := by
    have hz : [DV.n z] = [.n 1] := hz
    simpa using hz
  refine res_ite (fun h => absurd (show (1 : Int) = 0 from h) (by decide)) fun _ => ?_
  refine res_ite (fun h => ?_) fun _ => rfl
  have hs : ¬ (128 < (dl a).len ∨ 128 < (dl b).len) := h
  clear h
  refine res_con rfl trivial (fun e0 _ _ h0 => ?_)
  refine res_ite (fun z0 => ?_) fun _ => rfl
  have ga := chk_gd (a := a) h0 z0
  refine res_con rfl trivial (fun e1 _ _ h1 => ?_)
  refine res_ite (fun _ => rfl) fun z1 => ?_
  have gb := chk_gd (a := b) h1 (Classical.not_not.1 (show ¬ ¬ e1 = 0 from z1))
  clear h0 z0 h1 z1
  have hsum : a.length + b.length ≤ 256 := by omega
  refine res_con rfl trivial (fun u hu e2 _ _ h2 => ?_)
  refine res_con rfl trivial (fun m hm e3 _ _ h3 => ?_)
  refine res_con rfl trivial (fun w hw e4 _ _ h4 => ?_)
  have lu : (dl u).len = u.length := len_of hu (Nat.le_refl _)
  have lm : (dl m).len = m.length := len_of hm (Nat.le_refl _)
  have lw : (dl w).len = w.length := len_of hw (Nat.le_refl _)
  clear hu hm hw
  obtain ⟨rfl, gu, fu⟩ := comb_fine (o := 1) la lb lu ga gb h2 hsum
  obtain ⟨rfl, gm, fm⟩ := comb_fine (o := 2) la lb lm ga gb h3 hsum
  obtain ⟨rfl, gw, fw⟩ := comb_fine (o := 3) la lb lw ga gb h4 hsum
  clear h2 h3 h4
  obtain ⟨_, cA, mA⟩ := (gd_iff la).1 ga
  obtain ⟨_, cB, mB⟩ := (gd_iff lb).1 gb
  obtain ⟨_, cM, mM⟩ := (gd_iff lm).1 gm
  obtain ⟨_, cW, mW⟩ := (gd_iff lw).1 gw
  have au : ∀ n, Mem n (spn (dl u)) ↔ Mem n (spn (dl a)) ∨ Mem n (spn (dl b)) := fun n => by
    rw [← fu, ff_mem cA cB, if_pos rfl]
  have am : ∀ n, Mem n (spn (dl m)) ↔ Mem n (spn (dl a)) ∧ Mem n (spn (dl b)) := fun n => by
    rw [← fm, ff_mem cA cB, if_neg (by decide), if_pos rfl]
  have aw : ∀ n, Mem n (spn (dl w)) ↔ Mem n (spn (dl a)) ∧ ¬ Mem n (spn (dl b)) := fun n => by
    rw [← fw, ff_mem cA cB, if_neg (by decide), if_neg (by decide)]
  refine res_ite (fun _ => ?_) fun h => absurd (cvh (b := ¬ ¬ ((¬ (0 : Int) = 0 ∨ ¬ (0 : Int) = 0) ∨ ¬ (0 : Int) = 0)) (by kernel_rfl) h) (by simp)
  refine res_con rfl trivial (fun c0 _ _ k0 => ?_)
  obtain rfl := gd_chk (a := u) k0 gu
  refine res_ite (fun _ => ?_) fun h => absurd rfl (show ¬ (0 : Int) = 0 from h)
  refine res_con rfl trivial (fun c1 _ _ k1 => ?_)
  obtain rfl := gd_chk (a := m) k1 gm
  refine res_ite (fun _ => ?_) fun h => absurd rfl (show ¬ (0 : Int) = 0 from h)
  refine res_con rfl trivial (fun c2 _ _ k2 => ?_)
  obtain rfl := gd_chk (a := w) k2 gw
  refine res_ite (fun h => absurd rfl (show ¬ (0 : Int) = 0 from h)) fun _ => ?_
  clear k0 k1 k2
  refine res_dat (dl (a ++ b)) (by kernel_rfl) ?_
  refine res_dat (dl [[.n d]]) (by kernel_rfl) ?_
  refine res_lop rfl (cvh (a := (1 : Int) ≤ 1 + 4 * 0 ∧ (0 : Int) ≤ (dl a).len + (dl b).len) (by kernel_rfl) ⟨by decide, by omega⟩) (fun l hl i i0 i1 hI => ?_)
  have hI := cvh (b := (dl l).len ≤ 1 + 4 * i ∧ i ≤ (dl a).len + (dl b).len) (by kernel_rfl) hI
  have ll : (dl l).len = l.length := len_of hl (Nat.le_refl _)
  clear hl
  refine res_ite (fun z => ?_) fun _ => ?_
  · have z := cvh (b := i < (dl a).len + (dl b).len) (by kernel_rfl) z
    refine res_ok (cvh (a := (dl l).len + 4 ≤ 15637498706147) (by kernel_rfl) (by omega)) ?_
    refine res_dat (dl [[.n (IntKind.i64.wrap ((dl (a ++ b)).at i 0 - 1))], [.n ((dl (a ++ b)).at i 0)], [.n ((dl (a ++ b)).at i 1)], [.n (IntKind.i64.wrap ((dl (a ++ b)).at i 1 + 1))]]) (by kernel_rfl) ?_
    refine res_dat (dl (l ++ [[.n (IntKind.i64.wrap ((dl (a ++ b)).at i 0 - 1))], [.n ((dl (a ++ b)).at i 0)], [.n ((dl (a ++ b)).at i 1)], [.n (IntKind.i64.wrap ((dl (a ++ b)).at i 1 + 1))]])) (by kernel_rfl) ?_
    have e4 := dl_len4 (x := [.n (IntKind.i64.wrap ((dl (a ++ b)).at i 0 - 1))]) (y := [.n ((dl (a ++ b)).at i 0)]) (z := [.n ((dl (a ++ b)).at i 1)]) (v := [.n (IntKind.i64.wrap ((dl (a ++ b)).at i 1 + 1))]) ll (by omega)
    refine res_chk rfl (cvh (a := (dl (l ++ [[.n (IntKind.i64.wrap ((dl (a ++ b)).at i 0 - 1))], [.n ((dl (a ++ b)).at i 0)], [.n ((dl (a ++ b)).at i 1)], [.n (IntKind.i64.wrap ((dl (a ++ b)).at i 1 + 1))]])).len ≤ 1 + 4 * (i + 1) ∧ i + 1 ≤ (dl a).len + (dl b).len) (by kernel_rfl) ⟨by omega, by omega⟩) (cvh (a := ((dl a).len + (dl b).len - (i + 1)).toNat < ((dl a).len + (dl b).len - i).toNat) (by kernel_rfl) (by omega))
  refine res_lop rfl (cvh (a := (0 : Int) ≤ (dl l).len) (by kernel_rfl) (by omega)) (fun j j0 j1 hJ => ?_)
  have hJ := cvh (b := j ≤ (dl l).len) (by kernel_rfl) hJ
  refine res_ite (fun z => ?_) fun _ => ?_
  · have z := cvh (b := j < (dl l).len) (by kernel_rfl) z
    refine res_con rfl trivial (fun p _ _ hp => ?_)
    replace hp := cvh (b := [DV.n p] = yn (Mem ((dl l).at j 0) (spn (dl a)))) (by kernel_rfl) hp
    refine res_con rfl trivial (fun q _ _ hq => ?_)
    replace hq := cvh (b := [DV.n q] = yn (Mem ((dl l).at j 0) (spn (dl b)))) (by kernel_rfl) hq
    refine res_con rfl trivial (fun x _ _ hx => ?_)
    replace hx := cvh (b := [DV.n x] = yn (Mem ((dl l).at j 0) (spn (dl u)))) (by kernel_rfl) hx
    replace hp := yn_in hp
    replace hq := yn_in hq
    replace hx := yn_in hx
    rw [au] at hx
    refine res_ite (fun _ => ?_) fun h => ?_
    rotate_left
    · have h := cvh (b := ¬ ((¬ x = 0 ∧ (¬ p = 0 ∨ ¬ q = 0)) ∨ (x = 0 ∧ ¬ (¬ p = 0 ∨ ¬ q = 0)))) (by kernel_rfl) h
      exfalso
      rcases hp with ⟨rfl, hp⟩ | ⟨rfl, hp⟩ <;> rcases hq with ⟨rfl, hq⟩ | ⟨rfl, hq⟩ <;> rcases hx with ⟨rfl, hx⟩ | ⟨rfl, hx⟩ <;> simp_all
    refine res_con rfl trivial (fun y _ _ hy => ?_)
    replace hy := cvh (b := [DV.n y] = yn (Mem ((dl l).at j 0) (spn (dl m)))) (by kernel_rfl) hy
    replace hy := yn_in hy
    rw [am] at hy
    refine res_ite (fun _ => ?_) fun h => ?_
    rotate_left
    · have h := cvh (b := ¬ ((¬ y = 0 ∧ (¬ p = 0 ∧ ¬ q = 0)) ∨ (y = 0 ∧ ¬ (¬ p = 0 ∧ ¬ q = 0)))) (by kernel_rfl) h
      exfalso
      rcases hp with ⟨rfl, hp⟩ | ⟨rfl, hp⟩ <;> rcases hq with ⟨rfl, hq⟩ | ⟨rfl, hq⟩ <;> rcases hy with ⟨rfl, hy⟩ | ⟨rfl, hy⟩ <;> simp_all
    refine res_con rfl trivial (fun v _ _ hv => ?_)
    replace hv := cvh (b := [DV.n v] = yn (Mem ((dl l).at j 0) (spn (dl w)))) (by kernel_rfl) hv
    replace hv := yn_in hv
    rw [aw] at hv
    refine res_ite (fun h => ?_) fun _ => ?_
    · have h := cvh (b := ¬ ((¬ v = 0 ∧ (¬ p = 0 ∧ q = 0)) ∨ (v = 0 ∧ ¬ (¬ p = 0 ∧ q = 0)))) (by kernel_rfl) h
      exfalso
      rcases hp with ⟨rfl, hp⟩ | ⟨rfl, hp⟩ <;> rcases hq with ⟨rfl, hq⟩ | ⟨rfl, hq⟩ <;> rcases hv with ⟨rfl, hv⟩ | ⟨rfl, hv⟩ <;> simp_all
    exact res_chk rfl (cvh (a := j + 1 ≤ (dl l).len) (by kernel_rfl) (by omega)) (cvh (a := ((dl l).len - (j + 1)).toNat < ((dl l).len - j).toNat) (by kernel_rfl) (by omega))
  refine res_con rfl trivial (fun g _ e5 _ _ h5 => ?_)
  have h5 := cvh (b := CombP 1 (dl m) (dl w) [dl g, .n e5]) (by kernel_rfl) h5
  have same : spn (dl g) = spn (dl a) ∧ e5 = 0 := by
    obtain ⟨L2, e2, he, l2, ⟨q1, q2⟩, q3⟩ := (h5.2.2 gm.1 gm.2).2.2 gw.1 gw.2
    simp only [List.cons.injEq, DV.n.injEq, DV.sl.injEq, and_true, true_and] at he
    obtain ⟨rfl, rfl⟩ := he
    have el : l2 = spn (dl a) := can_uniq q1 cA fun n => by
      rw [← q2, ff_mem cM cW, if_pos rfl, am, aw]
      by_cases c : Mem n (spn (dl b)) <;> simp [c]
    have e3 : (spn (dl a)).length = a.length := spn_len _
    rcases q3 with ⟨z, _⟩ | ⟨_, rfl, r⟩
    · rw [el, e3] at z; omega
    · exact ⟨r.trans el, rfl⟩
  obtain ⟨sg, rfl⟩ := same
  refine res_ite (fun _ => ?_) fun h => absurd (cvh (b := ¬ (0 : Int) = 0) (by kernel_rfl) h) (by simp)
  refine res_con rfl trivial (fun s _ _ hs => ?_)
  have hs := cvh (b := [DV.n s] = yn (spn (dl g) = spn (dl a))) (by kernel_rfl) hs
  obtain rfl := yn_one hs sg
  exact cvh (a := [DV.n 1] = [DV.n 1]) (by kernel_rfl) rfl
end Go.Proofs.YtdffnmhpkapbkaaDoor
