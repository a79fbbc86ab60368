/- DERIVED. Words multiplied and divided; ratios checked: contracts. -/
import Derived.Test.YtgaaommfemgnnaaEdiv
import Derived.Test.YtgaaommfemgnnaaEtree
namespace Go.Proofs.Ytgaaommfemgnnaa
open Go.Dx
set_option linter.unusedVariables false
set_option linter.unusedSimpArgs false
theorem res_con {C : List Con} {post : List DV → Prop} {i : Nat} {zs : List E} {k : T (List E)} {r : List DV} {d : Con} (hd : C[i]? = some d) (hp : d.pre (zs.map (E.top r))) (h : allB (resB d.res) fun ys => d.post (zs.map (E.top r)) ys → T.res C post k (r ++ ys)) : T.res C post (.con i zs k) r := by
  simp only [T.res, hd]; exact ⟨hp, h⟩
theorem res_ite {C : List Con} {post : List DV → Prop} {b : B} {t e : T (List E)} {r : List DV} (h : b.prop r → T.res C post t r) (k : ¬ b.prop r → T.res C post e r) : T.res C post (.ite b t e) r := ⟨h, k⟩
theorem res_ok {C : List Con} {post : List DV → Prop} {b : B} {t : T (List E)} {r : List DV} (h : b.prop r) (k : T.res C post t r) : T.res C post (.ite b t .fail) r := ⟨fun _ => k, fun q => absurd h q⟩
theorem res_lop {C : List Con} {post : List DV → Prop} {i m : Nat} {zs : List E} {k : T (List E)} {r : List DV} {d : Con} (hd : C[i]? = some d) (h : d.pre (r ++ zs.map (E.top r))) (q : allB d.bnd fun ys => d.pre (r ++ ys) → T.res C post k (r ++ (ys ++ List.replicate m (.n 0)))) : T.res C post (.lop i zs m k) r := by
  simp only [T.res, hd]; exact ⟨h, q⟩
theorem res_dat {C : List Con} {post : List DV → Prop} {f : DOp} {xs : List E} {k : T (List E)} {r : List DV} (v : DV) (e : f.fn (xs.map (E.val r)) = v) (h : T.res C post k (r ++ [v])) : T.res C post (.dat f xs k) r := by subst e; exact h
theorem cvh {a b : Prop} (e : a = b) (h : a) : b := by rw [← e]; exact h
theorem n_inj {x y : Int} (h : [DV.n x] = [DV.n y]) : x = y := by simpa using h
theorem wI {x : Int} (h : -9223372036854775808 ≤ x) (k : x ≤ 9223372036854775807) : IntKind.i64.wrap x = x :=
  wrap_in .i64 x (by simpa [kmin, IntKind.signed, IntKind.bits] using h) (by simpa [kmax, IntKind.signed, IntKind.bits] using k)
/-! How many bits. -/
def LenOk (i t : Int) : Prop :=
  (i = 0 ∧ t = 0) ∨ (i = 1 ∧ t = 1) ∨ (2 ≤ i ∧ i < 4 ∧ t = 2) ∨ (4 ≤ i ∧ i < 8 ∧ t = 3) ∨ (8 ≤ i ∧ i < 16 ∧ t = 4) ∨ (16 ≤ i ∧ i < 32 ∧ t = 5) ∨ (32 ≤ i ∧ i < 64 ∧ t = 6) ∨ (64 ≤ i ∧ i < 128 ∧ t = 7) ∨ (128 ≤ i ∧ i < 256 ∧ t = 8)
instance (i t : Int) : Decidable (LenOk i t) := by unfold LenOk; infer_instance
theorem len_leaf {B : ByteArray} {k x q : Int} {e : E} {r : List DV} (hB : ∀ i : Nat, i < 256 → LenOk i ((DV.s B).byte i)) (hq : e.den r = q) (h0 : 0 ≤ q) (h1 : q < 256) (fin : ∀ t, LenOk q t → (1 ≤ k + t ∧ k + t ≤ 31) ∧ 2 ^ (k + t - 1).toNat ≤ x ∧ x < 2 ^ (k + t).toNat) :
    T.res [] (fun y => 2 ^ (gi y 0 - 1).toNat ≤ x ∧ x < 2 ^ (gi y 0).toNat) (.ite (.and (.le (.lit 1) (.num (.add (.lit k) (.chr (.str B) e)))) (.le (.num (.add (.lit k) (.chr (.str B) e))) (.lit 31))) (.ret [(.num (.add (.lit k) (.chr (.str B) e)))]) .fail) r := by
  obtain ⟨n, rfl⟩ := Int.eq_ofNat_of_zero_le h0
  have ht : (E.chr (.str B) e).den r = (DV.s B).byte n := by show (DV.s B).byte (e.den r) = _; rw [hq]
  obtain ⟨f1, f2⟩ := fin _ (hB n (by omega))
  refine res_ok (show 1 ≤ k + (E.chr (.str B) e).den r ∧ k + (E.chr (.str B) e).den r ≤ 31 from by rw [ht]; exact f1) (show 2 ^ (k + (E.chr (.str B) e).den r - 1).toNat ≤ x ∧ x < 2 ^ (k + (E.chr (.str B) e).den r).toNat from by rw [ht]; exact f2)
theorem len_leaf0 {B : ByteArray} {x q : Int} {e : E} {r : List DV} (hB : ∀ i : Nat, i < 256 → LenOk i ((DV.s B).byte i)) (hq : e.den r = q) (h0 : 0 ≤ q) (h1 : q < 256) (fin : ∀ t, LenOk q t → (1 ≤ t ∧ t ≤ 31) ∧ 2 ^ (t - 1).toNat ≤ x ∧ x < 2 ^ t.toNat) :
    T.res [] (fun y => 2 ^ (gi y 0 - 1).toNat ≤ x ∧ x < 2 ^ (gi y 0).toNat) (.ite (.and (.le (.lit 1) (.num (.chr (.str B) e))) (.le (.num (.chr (.str B) e)) (.lit 31))) (.ret [(.num (.chr (.str B) e))]) .fail) r := by
  obtain ⟨n, rfl⟩ := Int.eq_ofNat_of_zero_le h0
  have ht : (E.chr (.str B) e).den r = (DV.s B).byte n := by show (DV.s B).byte (e.den r) = _; rw [hq]
  obtain ⟨f1, f2⟩ := fin _ (hB n (by omega))
  refine res_ok (show 1 ≤ (E.chr (.str B) e).den r ∧ (E.chr (.str B) e).den r ≤ 31 from by rw [ht]; exact f1) (show 2 ^ ((E.chr (.str B) e).den r - 1).toNat ≤ x ∧ x < 2 ^ ((E.chr (.str B) e).den r).toNat from by rw [ht]; exact f2)
theorem td {a d : Int} (h : 0 ≤ a) : a.tdiv d = a / d := Int.tdiv_eq_ediv_of_nonneg h
theorem tm {a d : Int} (h : 0 ≤ a) : a.tmod d = a % d := Int.tmod_eq_emod_of_nonneg h
set_option maxRecDepth 100000 in
theorem cLen_ok (N : Nat) (w0 : World) : ConOk Try.prog tb N w0 (cLen 66) := by
  refine con_of_walk (tb := tb) fine (C := []) noCon 80 rfl ?_ N w0
  refine fun x x0 x1 _ => ?_
  rw [tree_len]
  show T.res [] (fun y => 2 ^ (gi y 0 - 1).toNat ≤ x ∧ x < 2 ^ (gi y 0).toNat) _ _
  refine res_ite (fun h => ?_) fun h => ?_
  · have h : 65536 ≤ x := h
    refine res_ite (fun k => ?_) fun k => ?_
    · have k : 256 ≤ x.tdiv 65536 := k
      rw [td (by omega)] at k
      refine len_leaf (q := x / 65536 / 256) (by decide +kernel) (show (x.tdiv 65536).tdiv 256 = _ by rw [td (a := x) (by omega), td (by omega)]) (by omega) (by omega) fun t ht => ?_
      rcases ht with ⟨a, rfl⟩ | ⟨a, rfl⟩ | ⟨a, b, rfl⟩ | ⟨a, b, rfl⟩ | ⟨a, b, rfl⟩ | ⟨a, b, rfl⟩ | ⟨a, b, rfl⟩ | ⟨a, b, rfl⟩ | ⟨a, b, rfl⟩ <;> simp <;> omega
    · have k : ¬ 256 ≤ x.tdiv 65536 := k
      rw [td (by omega)] at k
      refine len_leaf (q := x / 65536) (by decide +kernel) (show x.tdiv 65536 = _ by rw [td (by omega)]) (by omega) (by omega) fun t ht => ?_
      rcases ht with ⟨a, rfl⟩ | ⟨a, rfl⟩ | ⟨a, b, rfl⟩ | ⟨a, b, rfl⟩ | ⟨a, b, rfl⟩ | ⟨a, b, rfl⟩ | ⟨a, b, rfl⟩ | ⟨a, b, rfl⟩ | ⟨a, b, rfl⟩ <;> simp <;> omega
  · have h : ¬ 65536 ≤ x := h
    refine res_ite (fun k => ?_) fun k => ?_
    · have k : 256 ≤ x := k
      refine len_leaf (q := x / 256) (by decide +kernel) (show x.tdiv 256 = _ by rw [td (by omega)]) (by omega) (by omega) fun t ht => ?_
      rcases ht with ⟨a, rfl⟩ | ⟨a, rfl⟩ | ⟨a, b, rfl⟩ | ⟨a, b, rfl⟩ | ⟨a, b, rfl⟩ | ⟨a, b, rfl⟩ | ⟨a, b, rfl⟩ | ⟨a, b, rfl⟩ | ⟨a, b, rfl⟩ <;> simp <;> omega
    · have k : ¬ 256 ≤ x := k
      refine len_leaf0 (q := x) (by decide +kernel) rfl (by omega) (by omega) fun t ht => ?_
      rcases ht with ⟨a, rfl⟩ | ⟨a, rfl⟩ | ⟨a, b, rfl⟩ | ⟨a, b, rfl⟩ | ⟨a, b, rfl⟩ | ⟨a, b, rfl⟩ | ⟨a, b, rfl⟩ | ⟨a, b, rfl⟩ | ⟨a, b, rfl⟩ <;> simp <;> omega
/-! Division. -/
theorem divI_of {hi lo D n : Int} (n1 : 1 ≤ n) (n2 : n ≤ 31) (d0 : 1 ≤ D) (dn : D < 2 ^ n.toNat) (h0 : 0 ≤ hi) (h1 : hi < D) (l0 : 0 ≤ lo) (l1 : lo ≤ 18446744073709551615) : DivI (tN n) (wN n) (2 ^ (32 - n).toNat) D hi lo := by
  obtain ⟨k, rfl⟩ := Int.eq_ofNat_of_zero_le (show 0 ≤ n by omega)
  have e1 : tN k = 2 ^ (64 - k) := by unfold tN; rw [show min ((64 : Int) - k).toNat 64 = 64 - k by omega]
  have e2 : wN k = 2 ^ k := by unfold wN; rw [show min ((64 : Int) - (64 - k)).toNat 64 = k by omega]
  have e3 : ((32 : Int) - k).toNat = 32 - k := by omega
  rw [Int.toNat_natCast] at dn
  rw [e1, e2, e3]
  refine ⟨?_, ?_, Int.pow_pos (by decide), Int.pow_pos (by decide), by omega, dn, h0, h1, l0, by omega⟩
  · rw [← Int.pow_add, show 64 - k + k = 64 by omega]; decide
  · rw [show (4294967296 : Int) = 2 ^ 32 by decide, ← Int.pow_add, show 32 - k + 32 = 64 - k by omega]
set_option maxRecDepth 100000 in
theorem cDiv64_ok (N : Nat) (w0 : World) : ConOk Try.prog tb N w0 (cDiv64 58) := by
  refine con_of_walk (tb := tb) fine (C := [cLen 66, lQ1, lQ2]) (conCons cLen_ok (lopCons rfl (lopCons rfl noCon))) 100 rfl ?_ N w0
  refine fun hi h0 h1 lo l0 l1 D d0 d1 hp => ?_
  have hp : hi < D := hp
  rw [tree_div64]
  show T.res _ (fun y => gi y 0 * D + gi y 1 = hi * 18446744073709551616 + lo ∧ 0 ≤ gi y 1 ∧ gi y 1 < D) _ _
  refine res_ite (fun h => absurd (show D ≤ hi from h) (by omega)) fun _ => ?_
  refine res_ite (fun h => ?_) fun _ => ?_
  · have h : hi = 0 := h
    show lo.tdiv D * D + lo.tmod D = hi * 18446744073709551616 + lo ∧ 0 ≤ lo.tmod D ∧ lo.tmod D < D
    rw [td l0, tm l0]
    have := Int.mul_ediv_add_emod lo D
    have e := Int.mul_comm D (lo / D)
    exact ⟨by omega, Int.emod_nonneg _ (by omega), Int.emod_lt_of_pos _ (by omega)⟩
  refine res_con rfl trivial (fun n n1 n2 hn => ?_)
  have hn : 2 ^ (n - 1).toNat ≤ D ∧ D < 2 ^ n.toNat := hn
  have I := divI_of n1 n2 d0 hn.2 h0 hp l0 l1
  have a0 : 0 < aN n D := I.ap
  have eT : IntKind.u64.wrap (D * tN n) = aN n D * 4294967296 := by
    have := I.dt; have := I.dtb; have := I.tp
    rw [wU]; unfold aN at *; omega
  have eH : IntKind.u64.wrap (hi * tN n) = hi * tN n := by
    have := I.hib; have := I.dtb; have := I.tp
    rw [wU]; omega
  have eV : IntKind.u64.wrap (lo * tN n) = u10 (tN n) (wN n) lo := by
    have := I.lo_eq; have := I.u10b
    rw [wU]; omega
  have eU : bitD 1 .u64 (hi * tN n) (lo.tdiv (wN n)) = u3N n hi lo := by
    rw [td l0]
    have := I.hib; have := I.dtb; have := I.tp; have lb := I.lob
    exact or_low h0 (by unfold tN at *; omega) lb.1 lb.2 (by omega)
  have eA : (aN n D * 4294967296).tdiv 4294967296 = aN n D := by rw [td (by omega)]; omega
  have ub := I.u32b
  have q1 := I.q1b
  have r1 := I.r1b
  have vb := I.u10b
  have wb := I.u21b
  have q0 := I.q0b
  have r0 := I.r0b
  have main := I.main
  have dt := I.dt
  have dtb := I.dtb
  have tp := I.tp
  have e1 := Int.mul_ediv_add_emod (u3N n hi lo) (aN n D)
  have e0 := Int.mul_ediv_add_emod (u2N n D hi lo) (aN n D)
  have hv : u2N n D hi lo = u3N n hi lo % aN n D * 4294967296 + u10 (tN n) (wN n) lo / 4294967296 := rfl
  change 0 ≤ u3N n hi lo ∧ u3N n hi lo < _ at ub
  change 0 ≤ u3N n hi lo / aN n D ∧ u3N n hi lo / aN n D < _ at q1
  change 0 ≤ u3N n hi lo % aN n D ∧ u3N n hi lo % aN n D < aN n D at r1
  change 0 ≤ u2N n D hi lo ∧ u2N n D hi lo < aN n D * _ at wb
  change 0 ≤ u2N n D hi lo / aN n D ∧ u2N n D hi lo / aN n D < _ at q0
  change 0 ≤ u2N n D hi lo % aN n D ∧ u2N n D hi lo % aN n D < aN n D at r0
  change (u3N n hi lo / aN n D * 4294967296 + u2N n D hi lo / aN n D) * D + (u2N n D hi lo % aN n D * 4294967296 + u10 (tN n) (wN n) lo % 4294967296) / tN n = _ ∧ 0 ≤ (u2N n D hi lo % aN n D * 4294967296 + u10 (tN n) (wN n) lo % 4294967296) / tN n ∧ (u2N n D hi lo % aN n D * 4294967296 + u10 (tN n) (wN n) lo % 4294967296) / tN n < D at main
  change D * tN n = aN n D * _ at dt
  clear I hn
  refine res_ite (fun h => absurd (cvh (b := (IntKind.u64.wrap (D * tN n)).tdiv 4294967296 = 0) (by kernel_rfl) h) (by rw [eT, eA]; omega)) fun _ => ?_
  have p1 : (bitD 1 .u64 (IntKind.u64.wrap (hi * tN n)) (lo.tdiv (wN n))).tdiv ((IntKind.u64.wrap (D * tN n)).tdiv 4294967296) = u3N n hi lo / aN n D := by
    rw [eT, eA, eH, eU, td ub.1]
  have p2 : IntKind.u64.wrap (bitD 1 .u64 (IntKind.u64.wrap (hi * tN n)) (lo.tdiv (wN n)) - IntKind.u64.wrap ((bitD 1 .u64 (IntKind.u64.wrap (hi * tN n)) (lo.tdiv (wN n))).tdiv ((IntKind.u64.wrap (D * tN n)).tdiv 4294967296) * (IntKind.u64.wrap (D * tN n)).tdiv 4294967296)) = u3N n hi lo % aN n D := by
    rw [p1, eT, eA, eH, eU, wU, wU]
    rw [Int.mul_comm (aN n D) (u3N n hi lo / aN n D)] at e1
    generalize u3N n hi lo / aN n D * aN n D = z at *
    omega
  refine res_lop rfl (cvh (a := (bitD 1 .u64 (IntKind.u64.wrap (hi * tN n)) (lo.tdiv (wN n))).tdiv ((IntKind.u64.wrap (D * tN n)).tdiv 4294967296) = u3N n hi lo / aN n D ∧ IntKind.u64.wrap (bitD 1 .u64 (IntKind.u64.wrap (hi * tN n)) (lo.tdiv (wN n)) - IntKind.u64.wrap ((bitD 1 .u64 (IntKind.u64.wrap (hi * tN n)) (lo.tdiv (wN n))).tdiv ((IntKind.u64.wrap (D * tN n)).tdiv 4294967296) * (IntKind.u64.wrap (D * tN n)).tdiv 4294967296)) = u3N n hi lo % aN n D) (by kernel_rfl) ⟨p1, p2⟩) (fun q q9 _ r _ _ hI => ?_)
  replace hI := cvh (b := q = u3N n hi lo / aN n D ∧ r = u3N n hi lo % aN n D) (by kernel_rfl) hI
  obtain ⟨eq, er⟩ := hI
  refine res_ite (fun h => ?_) fun _ => ?_
  · have h := cvh (b := 4294967296 ≤ q ∨ IntKind.u64.wrap (IntKind.u64.wrap (4294967296 * r) + (IntKind.u64.wrap (lo * tN n)).tdiv 4294967296) < q * (IntKind.u64.wrap (D * tN n)).tmod 4294967296) (by kernel_rfl) h
    exfalso
    rw [eT, tm (a := aN n D * 4294967296) (by omega), show aN n D * 4294967296 % 4294967296 = 0 by omega, Int.mul_zero, wU] at h
    omega
  have pw : IntKind.u64.wrap (IntKind.u64.wrap (IntKind.u64.wrap (bitD 1 .u64 (IntKind.u64.wrap (hi * tN n)) (lo.tdiv (wN n)) * 4294967296) + (IntKind.u64.wrap (lo * tN n)).tdiv 4294967296) - IntKind.u64.wrap (q * IntKind.u64.wrap (D * tN n))) = u2N n D hi lo := by
    have e1' : aN n D * (u3N n hi lo / aN n D) * 4294967296 = u3N n hi lo / aN n D * (aN n D * 4294967296) := by rw [Int.mul_comm (aN n D), Int.mul_assoc]
    rw [eT, eH, eU, eV, td vb.1, eq, wU, wU, wU, wU]
    generalize aN n D * (u3N n hi lo / aN n D) = y at *
    generalize u3N n hi lo / aN n D * (aN n D * 4294967296) = z at *
    omega
  have p3 : IntKind.u64.wrap (IntKind.u64.wrap (IntKind.u64.wrap (IntKind.u64.wrap (bitD 1 .u64 (IntKind.u64.wrap (hi * tN n)) (lo.tdiv (wN n)) * 4294967296) + (IntKind.u64.wrap (lo * tN n)).tdiv 4294967296) - IntKind.u64.wrap (q * IntKind.u64.wrap (D * tN n))) - IntKind.u64.wrap ((IntKind.u64.wrap (IntKind.u64.wrap (IntKind.u64.wrap (bitD 1 .u64 (IntKind.u64.wrap (hi * tN n)) (lo.tdiv (wN n)) * 4294967296) + (IntKind.u64.wrap (lo * tN n)).tdiv 4294967296) - IntKind.u64.wrap (q * IntKind.u64.wrap (D * tN n)))).tdiv ((IntKind.u64.wrap (D * tN n)).tdiv 4294967296) * (IntKind.u64.wrap (D * tN n)).tdiv 4294967296)) = u2N n D hi lo % aN n D := by
    rw [pw, eT, eA, td wb.1, wU, wU]
    rw [Int.mul_comm (aN n D) (u2N n D hi lo / aN n D)] at e0
    generalize u2N n D hi lo / aN n D * aN n D = z at *
    omega
  have p4 : (IntKind.u64.wrap (IntKind.u64.wrap (IntKind.u64.wrap (bitD 1 .u64 (IntKind.u64.wrap (hi * tN n)) (lo.tdiv (wN n)) * 4294967296) + (IntKind.u64.wrap (lo * tN n)).tdiv 4294967296) - IntKind.u64.wrap (q * IntKind.u64.wrap (D * tN n)))).tdiv ((IntKind.u64.wrap (D * tN n)).tdiv 4294967296) = u2N n D hi lo / aN n D := by
    rw [pw, eT, eA, td wb.1]
  refine res_dat (.n (IntKind.u64.wrap (IntKind.u64.wrap (IntKind.u64.wrap (IntKind.u64.wrap (bitD 1 .u64 (IntKind.u64.wrap (hi * tN n)) (lo.tdiv (wN n)) * 4294967296) + (IntKind.u64.wrap (lo * tN n)).tdiv 4294967296) - IntKind.u64.wrap (q * IntKind.u64.wrap (D * tN n))) - IntKind.u64.wrap ((IntKind.u64.wrap (IntKind.u64.wrap (IntKind.u64.wrap (bitD 1 .u64 (IntKind.u64.wrap (hi * tN n)) (lo.tdiv (wN n)) * 4294967296) + (IntKind.u64.wrap (lo * tN n)).tdiv 4294967296) - IntKind.u64.wrap (q * IntKind.u64.wrap (D * tN n)))).tdiv ((IntKind.u64.wrap (D * tN n)).tdiv 4294967296) * (IntKind.u64.wrap (D * tN n)).tdiv 4294967296)))) (by kernel_rfl) ?_
  rw [p3]
  refine res_lop rfl (cvh (a := u2N n D hi lo % aN n D = u2N n D hi lo % aN n D ∧ (IntKind.u64.wrap (IntKind.u64.wrap (IntKind.u64.wrap (bitD 1 .u64 (IntKind.u64.wrap (hi * tN n)) (lo.tdiv (wN n)) * 4294967296) + (IntKind.u64.wrap (lo * tN n)).tdiv 4294967296) - IntKind.u64.wrap (q * IntKind.u64.wrap (D * tN n)))).tdiv ((IntKind.u64.wrap (D * tN n)).tdiv 4294967296) = u2N n D hi lo / aN n D) (by kernel_rfl) ⟨rfl, p4⟩) (fun r' _ _ p p9 _ hJ => ?_)
  replace hJ := cvh (b := r' = u2N n D hi lo % aN n D ∧ p = u2N n D hi lo / aN n D) (by kernel_rfl) hJ
  obtain ⟨er', ep⟩ := hJ
  refine res_ite (fun h => ?_) fun _ => ?_
  · have h := cvh (b := 4294967296 ≤ p ∨ IntKind.u64.wrap (IntKind.u64.wrap (4294967296 * r') + (IntKind.u64.wrap (lo * tN n)).tmod 4294967296) < p * (IntKind.u64.wrap (D * tN n)).tmod 4294967296) (by kernel_rfl) h
    exfalso
    rw [eT, tm (a := aN n D * 4294967296) (by omega), show aN n D * 4294967296 % 4294967296 = 0 by omega, Int.mul_zero, wU] at h
    omega
  have p5 : (IntKind.u64.wrap (IntKind.u64.wrap (IntKind.u64.wrap (IntKind.u64.wrap (IntKind.u64.wrap (IntKind.u64.wrap (bitD 1 .u64 (IntKind.u64.wrap (hi * tN n)) (lo.tdiv (wN n)) * 4294967296) + (IntKind.u64.wrap (lo * tN n)).tdiv 4294967296) - IntKind.u64.wrap (q * IntKind.u64.wrap (D * tN n))) * 4294967296) + (IntKind.u64.wrap (lo * tN n)).tmod 4294967296) - IntKind.u64.wrap (p * IntKind.u64.wrap (D * tN n)))).tdiv (tN n) = (u2N n D hi lo % aN n D * 4294967296 + u10 (tN n) (wN n) lo % 4294967296) / tN n := by
    have e0' : aN n D * (u2N n D hi lo / aN n D) * 4294967296 = u2N n D hi lo / aN n D * (aN n D * 4294967296) := by rw [Int.mul_comm (aN n D), Int.mul_assoc]
    have : IntKind.u64.wrap (IntKind.u64.wrap (IntKind.u64.wrap (u2N n D hi lo * 4294967296) + (IntKind.u64.wrap (lo * tN n)).tmod 4294967296) - IntKind.u64.wrap (p * IntKind.u64.wrap (D * tN n))) = u2N n D hi lo % aN n D * 4294967296 + u10 (tN n) (wN n) lo % 4294967296 := by
      rw [eT, eV, tm vb.1, ep, wU, wU, wU, wU]
      generalize aN n D * (u2N n D hi lo / aN n D) = y at *
      generalize u2N n D hi lo / aN n D * (aN n D * 4294967296) = z at *
      omega
    rw [pw, this, td (by omega)]
  refine res_dat (.n ((IntKind.u64.wrap (IntKind.u64.wrap (IntKind.u64.wrap (IntKind.u64.wrap (IntKind.u64.wrap (IntKind.u64.wrap (bitD 1 .u64 (IntKind.u64.wrap (hi * tN n)) (lo.tdiv (wN n)) * 4294967296) + (IntKind.u64.wrap (lo * tN n)).tdiv 4294967296) - IntKind.u64.wrap (q * IntKind.u64.wrap (D * tN n))) * 4294967296) + (IntKind.u64.wrap (lo * tN n)).tmod 4294967296) - IntKind.u64.wrap (p * IntKind.u64.wrap (D * tN n)))).tdiv (tN n))) (by kernel_rfl) ?_
  rw [p5]
  refine cvh (a := (q * 4294967296 + p) * D + (u2N n D hi lo % aN n D * 4294967296 + u10 (tN n) (wN n) lo % 4294967296) / tN n = hi * 18446744073709551616 + lo ∧ 0 ≤ (u2N n D hi lo % aN n D * 4294967296 + u10 (tN n) (wN n) lo % 4294967296) / tN n ∧ (u2N n D hi lo % aN n D * 4294967296 + u10 (tN n) (wN n) lo % 4294967296) / tN n < D) (by kernel_rfl) ?_
  rw [eq, ep]
  exact main
end Go.Proofs.Ytgaaommfemgnnaa
