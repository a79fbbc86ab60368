/- DERIVED. The law on counting, walked. -/
import Derived.Test.YtdffnmhpkapbkaaDoorEwlkb
namespace Go.Proofs.YtdffnmhpkapbkaaDoor
open Go.Dx
set_option linter.unusedVariables false
theorem cnt_gd {a : List (List DV)} {c e : Int} (la : (dl a).len = a.length) (h : CountP (dl a) [.n c, .n e]) (g : Gd a) : c = many (spn (dl a)) ∧ e = 0 := by
  have := h.2.2 g.1 g.2
  simp only [List.cons.injEq, DV.n.injEq, and_true] at this
  rw [cn_all la] at this
  exact this
theorem many_rng {a : List (List DV)} (la : (dl a).len = a.length) (g : Gd a) : many (spn (dl a)) = card (fun n => Mem n (spn (dl a))) 73049 ∧ 0 ≤ many (spn (dl a)) ∧ many (spn (dl a)) ≤ 73049 := by
  obtain ⟨_, c, m⟩ := (gd_iff la).1 g
  have e := many_hi c m
  have := card_nn (fun n => Mem n (spn (dl a))) 73049
  rw [← e] at this
  exact ⟨e, this.1, this.2⟩
set_option maxRecDepth 100000 in
set_option maxHeartbeats 1000000 in
theorem walk_cnt (a b : List (List DV)) (k : Int) (hk : -9223372036854775808 ≤ k ∧ k ≤ 9223372036854775807) (la : (dl a).len = a.length) (lb : (dl b).len = b.length) : (runC tb [lawCon 9 [], cChk 21, cUni 23 1, cUni 25 2, cUni 27 3, cHas 31, cCnt 17, cNth 19] 80 (lawCon 8 [.c spans, .c spans, .c i64s])).res [lawCon 9 [], cChk 21, cUni 23 1, cUni 25 2, cUni 27 3, cHas 31, cCnt 17, cNth 19] (fun ys => ys = [.n 1]) [dl a, dl b, .n k] := by
  rw [tree_lcnt]
  refine res_con rfl trivial (fun z _ _ hz => ?_)
  obtain rfl : z = 1 := by
    have hz : [DV.n z] = [.n 1] := hz
    simpa using hz
  refine res_ite (fun h => absurd (show (1 : Int) = 0 from h) (by decide)) fun _ => ?_
  refine res_ite (fun h => ?_) fun _ => rfl
  have hs : ¬ (128 < (dl a).len ∨ 128 < (dl b).len) := h
  clear h
  refine res_con rfl trivial (fun e0 _ _ h0 => ?_)
  refine res_ite (fun z0 => ?_) fun _ => rfl
  have ga := chk_gd (a := a) h0 z0
  refine res_con rfl trivial (fun e1 _ _ h1 => ?_)
  refine res_ite (fun _ => rfl) fun z1 => ?_
  have gb := chk_gd (a := b) h1 (Classical.not_not.1 (show ¬ ¬ e1 = 0 from z1))
  clear h0 z0 h1 z1
  have hsum : a.length + b.length ≤ 256 := by omega
  refine res_con rfl trivial (fun u hu e2 _ _ h2 => ?_)
  refine res_con rfl trivial (fun m hm e3 _ _ h3 => ?_)
  refine res_con rfl trivial (fun w hw e4 _ _ h4 => ?_)
  have lu : (dl u).len = u.length := len_of hu (Nat.le_refl _)
  have lm : (dl m).len = m.length := len_of hm (Nat.le_refl _)
  have lw : (dl w).len = w.length := len_of hw (Nat.le_refl _)
  clear hu hm hw
  obtain ⟨rfl, gu, fu⟩ := comb_fine (o := 1) la lb lu ga gb h2 hsum
  obtain ⟨rfl, gm, fm⟩ := comb_fine (o := 2) la lb lm ga gb h3 hsum
  obtain ⟨rfl, gw, fw⟩ := comb_fine (o := 3) la lb lw ga gb h4 hsum
  clear h2 h3 h4
  obtain ⟨_, cA, mA⟩ := (gd_iff la).1 ga
  obtain ⟨_, cB, mB⟩ := (gd_iff lb).1 gb
  obtain ⟨nu, cU, mU⟩ := (gd_iff lu).1 gu
  have sU : (spn (dl u)).length = u.length := spn_len _
  have au : ∀ n, Mem n (spn (dl u)) ↔ Mem n (spn (dl a)) ∨ Mem n (spn (dl b)) := fun n => by
    rw [← fu, ff_mem cA cB, if_pos rfl]
  have am : ∀ n, Mem n (spn (dl m)) ↔ Mem n (spn (dl a)) ∧ Mem n (spn (dl b)) := fun n => by
    rw [← fm, ff_mem cA cB, if_neg (by decide), if_pos rfl]
  have aw : ∀ n, Mem n (spn (dl w)) ↔ Mem n (spn (dl a)) ∧ ¬ Mem n (spn (dl b)) := fun n => by
    rw [← fw, ff_mem cA cB, if_neg (by decide), if_neg (by decide)]
  obtain ⟨ea, a0, a1⟩ := many_rng la ga
  obtain ⟨eb, b0, b1⟩ := many_rng lb gb
  obtain ⟨eu, u0, u1⟩ := many_rng lu gu
  obtain ⟨em, m0, m1⟩ := many_rng lm gm
  obtain ⟨ew, w0, w1⟩ := many_rng lw gw
  have sum : many (spn (dl u)) + many (spn (dl m)) = many (spn (dl a)) + many (spn (dl b)) := by
    have k1 := card_congr (p := fun n => Mem n (spn (dl u))) (q := fun n => Mem n (spn (dl a)) ∨ Mem n (spn (dl b))) (k := 73049) fun i _ => au (i : Int)
    have k2 := card_congr (p := fun n => Mem n (spn (dl m))) (q := fun n => Mem n (spn (dl a)) ∧ Mem n (spn (dl b))) (k := 73049) fun i _ => am (i : Int)
    have k3 := card_both (p := fun n => Mem n (spn (dl a))) (q := fun n => Mem n (spn (dl b))) 73049
    omega
  have dif : many (spn (dl w)) = many (spn (dl a)) - many (spn (dl m)) := by
    have := card_less (p := fun n => Mem n (spn (dl a))) (q := fun n => Mem n (spn (dl b))) 73049
    have k1 := card_congr (p := fun n => Mem n (spn (dl m))) (q := fun n => Mem n (spn (dl a)) ∧ Mem n (spn (dl b))) (k := 73049) fun i _ => am (i : Int)
    have k2 := card_congr (p := fun n => Mem n (spn (dl w))) (q := fun n => Mem n (spn (dl a)) ∧ ¬ Mem n (spn (dl b))) (k := 73049) fun i _ => aw (i : Int)
    omega
  clear ea eb eu em ew
  refine res_ite (fun h => absurd (cvh (b := (¬ (0 : Int) = 0 ∨ ¬ (0 : Int) = 0) ∨ ¬ (0 : Int) = 0) (by kernel_rfl) h) (by simp)) fun _ => ?_
  refine res_adr fun _ _ => res_adr fun _ _ => res_adr fun _ _ => res_adr fun _ _ => res_adr fun _ _ => ?_
  refine res_con rfl trivial (fun ca _ _ da _ _ ka => ?_)
  obtain ⟨rfl, rfl⟩ := cnt_gd la (cvh (b := CountP (dl a) [.n ca, .n da]) (by kernel_rfl) ka) ga
  refine res_ite (fun h => absurd (cvh (b := ¬ (0 : Int) = 0) (by kernel_rfl) h) (by simp)) fun _ => ?_
  refine res_con rfl trivial (fun cb _ _ db _ _ kb => ?_)
  obtain ⟨rfl, rfl⟩ := cnt_gd lb (cvh (b := CountP (dl b) [.n cb, .n db]) (by kernel_rfl) kb) gb
  refine res_ite (fun h => absurd (cvh (b := ¬ (0 : Int) = 0) (by kernel_rfl) h) (by simp)) fun _ => ?_
  refine res_con rfl trivial (fun cu _ _ du _ _ ku => ?_)
  obtain ⟨rfl, rfl⟩ := cnt_gd lu (cvh (b := CountP (dl u) [.n cu, .n du]) (by kernel_rfl) ku) gu
  refine res_ite (fun h => absurd (cvh (b := ¬ (0 : Int) = 0) (by kernel_rfl) h) (by simp)) fun _ => ?_
  refine res_con rfl trivial (fun cm _ _ dm _ _ km => ?_)
  obtain ⟨rfl, rfl⟩ := cnt_gd lm (cvh (b := CountP (dl m) [.n cm, .n dm]) (by kernel_rfl) km) gm
  refine res_ite (fun h => absurd (cvh (b := ¬ (0 : Int) = 0) (by kernel_rfl) h) (by simp)) fun _ => ?_
  refine res_con rfl trivial (fun cw _ _ dw _ _ kw => ?_)
  obtain ⟨rfl, rfl⟩ := cnt_gd lw (cvh (b := CountP (dl w) [.n cw, .n dw]) (by kernel_rfl) kw) gw
  refine res_ite (fun h => absurd (cvh (b := ¬ (0 : Int) = 0) (by kernel_rfl) h) (by simp)) fun _ => ?_
  clear ka kb ku km kw
  have cu := cn_all lu
  generalize ena : many (spn (dl a)) = na at *
  generalize enb : many (spn (dl b)) = nb2 at *
  generalize enu : many (spn (dl u)) = nu2 at *
  generalize enm : many (spn (dl m)) = nm at *
  generalize enw : many (spn (dl w)) = nw at *
  have x1 : IntKind.i64.wrap (nu2 + nm) = nu2 + nm := wW (by omega) (by omega)
  have x2 : IntKind.i64.wrap (na + nb2) = na + nb2 := wW (by omega) (by omega)
  have x3 : IntKind.i64.wrap (na - nm) = na - nm := wW (by omega) (by omega)
  refine res_ite (fun h => ?_) fun _ => ?_
  · have h := cvh (b := ¬ IntKind.i64.wrap (nu2 + nm) = IntKind.i64.wrap (na + nb2) ∨ ¬ nw = IntKind.i64.wrap (na - nm)) (by kernel_rfl) h
    rw [x1, x2, x3] at h
    exfalso
    omega
  refine res_con rfl trivial (fun day d0 d1 ok o0 o1 er _ _ hn => ?_)
  have hn := ((cvh (b := NthP (dl u) k [.n day, .n ok, .n er]) (by kernel_rfl) hn)).2.2 gu.1 gu.2
  rw [cu] at hn
  obtain ⟨n1, n2, n3⟩ := hn
  refine res_ite (fun z => ?_) fun z => ?_
  · have z := cvh (b := k < 0) (by kernel_rfl) z
    have q := n1 z
    simp only [List.cons.injEq, DV.n.injEq, and_true] at q
    obtain ⟨rfl, rfl, rfl⟩ := q
    refine res_ite (fun _ => cvh (a := [DV.n 1] = [DV.n 1]) (by kernel_rfl) rfl) fun h => absurd (cvh (b := ¬ ((1 : Int) = 1 ∧ (0 : Int) = 0)) (by kernel_rfl) h) (by simp)
  have z := cvh (b := ¬ k < 0) (by kernel_rfl) z
  have n1 := n2 (by omega)
  have n3 := n3 (by omega)
  clear n2
  by_cases c : nu2 ≤ k
  · have q := n1 c
    simp only [List.cons.injEq, DV.n.injEq, and_true] at q
    obtain ⟨rfl, rfl, rfl⟩ := q
    refine res_ite (fun h => ?_) fun _ => ?_
    · have h := cvh (b := ¬ (0 : Int) = 0 ∨ ¬ ((¬ (0 : Int) = 0 ∧ k < nu2) ∨ ((0 : Int) = 0 ∧ nu2 ≤ k))) (by kernel_rfl) h
      exfalso
      omega
    refine res_ite (fun _ => ?_) fun h => absurd (cvh (b := ¬ (0 : Int) = 0) (by kernel_rfl) h) (by simp)
    exact res_ite (fun _ => cvh (a := [DV.n 1] = [DV.n 1]) (by kernel_rfl) rfl) fun h => absurd (cvh (b := ¬ (0 : Int) = 0) (by kernel_rfl) h) (by simp)
  obtain ⟨i, i1, ⟨i2, i3⟩, q⟩ := n3 (by omega)
  simp only [List.cons.injEq, DV.n.injEq, and_true] at q
  obtain ⟨qd, rfl, rfl⟩ := q
  have iu : i < u.length := by omega
  have g := spn_get (d := dl u) (k := i) iu
  have i3' : cn (dl u) (i + 1) = cn (dl u) i + ((dl u).at i 1 - (dl u).at i 0 + 1) := rfl
  have ec : cn (dl u) i = many ((spn (dl u)).take i) := cn_take (d := dl u) (show i ≤ u.length by omega)
  have hg1 : ((spn (dl u)).getD i (0, 0)).1 = (dl u).at i 0 := by rw [g]
  have hg2 : ((spn (dl u)).getD i (0, 0)).2 = (dl u).at i 1 := by rw [g]
  obtain ⟨t1, t2, t3, t4⟩ := cut_list (l := spn (dl u)) (i := i) (d := day) (by omega) cU (by rw [hg1, hg2]; omega)
  have t5 := mem_hi t3 mU
  rw [hg1] at t1 t4
  refine res_ite (fun h => ?_) fun _ => ?_
  · have h := cvh (b := ¬ (0 : Int) = 0 ∨ ¬ ((¬ (1 : Int) = 0 ∧ k < nu2) ∨ ((1 : Int) = 0 ∧ nu2 ≤ k))) (by kernel_rfl) h
    exfalso
    omega
  refine res_ite (fun h => absurd (cvh (b := (1 : Int) = 0) (by kernel_rfl) h) (by simp)) fun _ => ?_
  refine res_con rfl trivial (fun p _ _ hp => ?_)
  obtain rfl := yn_one (cvh (b := [DV.n p] = yn (Mem day (spn (dl u)))) (by kernel_rfl) hp) t3
  refine res_ite (fun h => absurd (cvh (b := (1 : Int) = 0) (by kernel_rfl) h) (by simp)) fun _ => ?_
  refine res_dat (dl [[.n 0, .n day]]) (by kernel_rfl) ?_
  have l1 : (dl [[.n 0, .n day]]).len = ([[DV.n 0, .n day]] : List (List DV)).length := rfl
  have sd : spn (dl [[.n 0, .n day]]) = [(0, day)] := by
    have := spn_app [] 0 day (by decide) (by omega)
    exact this
  have gd : Gd [[.n 0, .n day]] := (gd_iff l1).2 ⟨Nat.le_trans (Nat.le_refl 1) (by decide), by rw [sd]; exact ⟨⟨by decide, t2⟩, trivial⟩, fun p hp => by
    rw [sd] at hp
    rw [List.mem_singleton.1 hp]
    exact t5⟩
  refine res_con rfl trivial (fun f hf ef _ _ h6 => ?_)
  have lf : (dl f).len = f.length := len_of hf (Nat.le_refl _)
  clear hf
  have h6 := cvh (b := CombP 2 (dl u) (dl [[.n 0, .n day]]) [dl f, .n ef]) (by kernel_rfl) h6
  have cut : spn (dl f) = (spn (dl u)).take i ++ [((dl u).at i 0, day)] ∧ ef = 0 := by
    obtain ⟨L2, e2, he, l2, ⟨q1, q2⟩, q3⟩ := (h6.2.2 gu.1 gu.2).2.2 gd.1 gd.2
    simp only [List.cons.injEq, DV.n.injEq, DV.sl.injEq, and_true, true_and] at he
    obtain ⟨rfl, rfl⟩ := he
    rw [sd] at q2
    have el := same_days q1 q2 t1 t4
    rcases q3 with ⟨z, _⟩ | ⟨_, rfl, r⟩
    · rw [el, List.length_append, List.length_take, List.length_singleton] at z; omega
    · exact ⟨r.trans el, rfl⟩
  obtain ⟨sf, rfl⟩ := cut
  have gf : Gd f := by
    have sl : (spn (dl f)).length = f.length := spn_len _
    rw [sf, List.length_append, List.length_take, List.length_singleton] at sl
    refine (gd_iff lf).2 ⟨by omega, by rw [sf]; exact t1, fun p hp => ?_⟩
    rw [sf] at hp
    rcases List.mem_append.1 hp with e | e
    · exact mU p (List.mem_of_mem_take e)
    · rw [List.mem_singleton.1 e]; exact t5
  refine res_con rfl trivial (fun cf _ _ df _ _ kf => ?_)
  obtain ⟨rfl, rfl⟩ := cnt_gd lf (cvh (b := CountP (dl f) [.n cf, .n df]) (by kernel_rfl) kf) gf
  have x4 : IntKind.i64.wrap (k + 1) = k + 1 := wW (by omega) (by omega)
  have x5 : many (spn (dl f)) = k + 1 := by
    rw [sf, many_app, ← ec]
    omega
  refine res_ite (fun _ => cvh (a := [DV.n 1] = [DV.n 1]) (by kernel_rfl) rfl) fun h => ?_
  have h := cvh (b := ¬ (((0 : Int) = 0 ∧ (0 : Int) = 0) ∧ many (spn (dl f)) = IntKind.i64.wrap (k + 1))) (by kernel_rfl) h
  rw [x4] at h
  exact absurd ⟨⟨rfl, rfl⟩, x5⟩ h
end Go.Proofs.YtdffnmhpkapbkaaDoor
