/- DERIVED. Ranges of stores: arithmetic; steps of a walk's tree. -/
import Derived.Test.YtljggpbkggkcaaaDcon
namespace Go.Proofs.Ytljggpbkggkcaaa
open Go.Dx
set_option linter.unusedVariables false
set_option linter.unusedSimpArgs false
theorem res_con {C : List Con} {post : List DV → Prop} {i : Nat} {zs : List E} {k : T (List E)} {r : List DV} {d : Con} (hd : C[i]? = some d) (hp : d.pre (zs.map (E.top r))) (h : allB (resB d.res) fun ys => d.post (zs.map (E.top r)) ys → T.res C post k (r ++ ys)) : T.res C post (.con i zs k) r := by
  simp only [T.res, hd]; exact ⟨hp, h⟩
theorem res_ite {C : List Con} {post : List DV → Prop} {b : B} {t e : T (List E)} {r : List DV} (h : b.prop r → T.res C post t r) (k : ¬ b.prop r → T.res C post e r) : T.res C post (.ite b t e) r := ⟨h, k⟩
theorem res_both {C : List Con} {post : List DV → Prop} {t e : T (List E)} {r : List DV} (h : T.res C post t r) (k : T.res C post e r) : T.res C post (.both t e) r := ⟨h, k⟩
theorem res_ok {C : List Con} {post : List DV → Prop} {b : B} {t : T (List E)} {r : List DV} (h : b.prop r) (k : T.res C post t r) : T.res C post (.ite b t .fail) r := ⟨fun _ => k, fun q => absurd h q⟩
theorem res_chk {C : List Con} {post : List DV → Prop} {i o : Nat} {zs : List E} {r : List DV} {d : Con} (hd : C[i]? = some d) (h : d.pre (r.take o ++ zs.map (E.top r))) (k : d.mea (r.take o ++ zs.map (E.top r)) < d.mea (r.take (o + zs.length))) : T.res C post (.chk i o zs) r := by
  simp only [T.res, hd]; exact ⟨h, k⟩
theorem res_lop {C : List Con} {post : List DV → Prop} {i m : Nat} {zs : List E} {k : T (List E)} {r : List DV} {d : Con} (hd : C[i]? = some d) (h : d.pre (r ++ zs.map (E.top r))) (q : allB d.bnd fun ys => d.pre (r ++ ys) → T.res C post k (r ++ (ys ++ List.replicate m (.n 0)))) : T.res C post (.lop i zs m k) r := by
  simp only [T.res, hd]; exact ⟨h, q⟩
theorem res_dat {C : List Con} {post : List DV → Prop} {f : DOp} {xs : List E} {k : T (List E)} {r : List DV} (v : DV) (e : f.fn (xs.map (E.val r)) = v) (h : T.res C post k (r ++ [v])) : T.res C post (.dat f xs k) r := by subst e; exact h
theorem res_adr {C : List Con} {post : List DV → Prop} {x : E} {k : T (List E)} {r : List DV} (l : List (List DV)) (e : (x.dat r).els = l) (h : ∀ a cap, T.res C post k (r ++ [.sl none 0 [[.sl a cap l]]])) : T.res C post (.adr x k) r := by subst e; exact h
theorem len_nn (d : DV) : 0 ≤ d.len := d.len_rng.1
theorem n_inj {x y : Int} (h : [DV.n x] = [DV.n y]) : x = y := by simpa using h
theorem wI {x : Int} (h : -9223372036854775808 ≤ x) (k : x ≤ 9223372036854775807) : IntKind.i64.wrap x = x :=
  wrap_in .i64 x (by simpa [kmin, IntKind.signed, IntKind.bits] using h) (by simpa [kmax, IntKind.signed, IntKind.bits] using k)
theorem persOk_succ {P : DV} {x : Int} (h0 : 0 ≤ x) (h : persOk P x.toNat) (hx : perOk P x) : persOk P (x + 1).toNat := fun k hk => by
  by_cases e : k < x.toNat
  · exact h k e
  · rw [show (k : Int) = x by omega]; exact hx
theorem per_at {c : CO} {k : Int} (h : rightC c) (k0 : 0 ≤ k) (k1 : k < c.P.len) : perOk c.P k := by
  have := h.2 k.toNat (by omega)
  rwa [show ((k.toNat : Nat) : Int) = k by omega] at this
theorem not_per {c : CO} {k : Int} (k0 : 0 ≤ k) (k1 : k < c.P.len) (h : ¬ perOk c.P k) : ¬ rightC c := fun q => h (per_at q k0 k1)
theorem chk_long {c : CO} (h : 64 < c.P.len) : [DV.n 2] = [DV.n (chkF c)] := by unfold chkF; rw [if_pos h]
theorem chk_bad {c : CO} (h : ¬ 64 < c.P.len) (k : ¬ rightC c) : [DV.n 390] = [DV.n (chkF c)] := by unfold chkF; rw [if_neg h, if_neg k]
theorem chk_fine {c : CO} (h : ¬ 64 < c.P.len) (k : rightC c) : [DV.n 0] = [DV.n (chkF c)] := by unfold chkF; rw [if_neg h, if_pos k]
theorem chk_in {c : CO} {x : Int} (h : [DV.n x] = [DV.n (chkF c)]) : x = chkF c ∧ ((x = 0 ∧ chkF c = 0 ∧ c.P.len ≤ 64 ∧ rightC c) ∨ (x ≠ 0 ∧ chkF c ≠ 0)) := by
  have h := n_inj h
  refine ⟨h, ?_⟩
  unfold chkF at *
  split at h
  · rename_i c1; exact .inr ⟨by omega, by rw [if_pos c1]; decide⟩
  · rename_i c1
    split at h
    · rename_i c2; exact .inl ⟨h, by rw [if_neg c1, if_pos c2], by omega, c2⟩
    · rename_i c2; exact .inr ⟨by omega, by rw [if_neg c1, if_neg c2]; decide⟩
/-- A range that the robust stores may have. -/
def good (x : Int × Int) : Prop := ((0 ≤ x.1 ∧ x.1 ≤ 1099511627776) ∧ 0 ≤ x.2 ∧ x.2 ≤ 1099511627776) ∧ (x.1 ≤ x.2 ∨ (x.1 = 1 ∧ x.2 = 0))
theorem good_none : good (1, 0) := by unfold good; decide
theorem bef_good {cap : Int} {P : DV} {t : Int} {x : Int × Int} (h0 : 0 ≤ cap) (h1 : cap ≤ 1099511627776) (hp : perOk P t) (hx : good x) : good (befF cap P t x) := by
  unfold perOk okN at hp
  unfold befF
  dsimp only
  have ht : (if x.2 = cap then x.2 + P.at t 4 else x.2) = x.2 ∨ (if x.2 = cap then x.2 + P.at t 4 else x.2) = x.2 + P.at t 4 := by split <;> simp
  generalize (if x.2 = cap then x.2 + P.at t 4 else x.2) = top at *
  by_cases c1 : x.1 > x.2
  · rw [if_pos c1]; exact good_none
  · rw [if_neg c1]
    by_cases c2 : max 0 (x.1 - P.at t 0) > top - P.at t 1
    · rw [if_pos c2]; exact good_none
    · rw [if_neg c2]
      by_cases c3 : max 0 (x.1 - P.at t 0) + P.at t 2 > min (top - P.at t 1 + P.at t 3) cap
      · rw [if_pos c3]; exact good_none
      · rw [if_neg c3]
        unfold good at *
        dsimp only
        omega
theorem robK_good {c : CO} (h : rightC c) : ∀ k : Nat, (k : Int) ≤ c.P.len → good (robK c k)
  | 0, _ => by
    have := h.1
    unfold good robK
    dsimp only
    omega
  | k + 1, hk => by
    have := h.1
    exact bef_good (by omega) (by omega) (per_at h (by omega) (by omega)) (robK_good h k (by omega))
/-- A step, as the program makes it. -/
theorem bef_none {cap : Int} {P : DV} {t lo hi top : Int} (hg : good (lo, hi)) (ht : top = if hi = cap then hi + P.at t 4 else hi) (h : ((lo = 1 ∧ hi = 0) ∨ top - P.at t 1 < max 0 (lo - P.at t 0)) ∨ min (top - P.at t 1 + P.at t 3) cap < max 0 (lo - P.at t 0) + P.at t 2) : befF cap P t (lo, hi) = (1, 0) := by
  unfold befF
  dsimp only
  rw [← ht]
  by_cases c1 : lo > hi
  · rw [if_pos c1]
  · rw [if_neg c1]
    by_cases c2 : max 0 (lo - P.at t 0) > top - P.at t 1
    · rw [if_pos c2]
    · rw [if_neg c2, if_pos (by unfold good at hg; dsimp only at hg; omega)]
theorem bef_some {cap : Int} {P : DV} {t lo hi top : Int} (hg : good (lo, hi)) (ht : top = if hi = cap then hi + P.at t 4 else hi) (h : ¬ (((lo = 1 ∧ hi = 0) ∨ top - P.at t 1 < max 0 (lo - P.at t 0)) ∨ min (top - P.at t 1 + P.at t 3) cap < max 0 (lo - P.at t 0) + P.at t 2)) : befF cap P t (lo, hi) = (max 0 (lo - P.at t 0) + P.at t 2, min (top - P.at t 1 + P.at t 3) cap) := by
  unfold good at hg
  dsimp only at hg
  unfold befF
  dsimp only
  rw [← ht, if_neg (by omega), if_neg (by omega), if_neg (by omega)]
theorem rowsK_succ (c : CO) (n : Nat) : rowsK c (n + 1) = rowsK c n ++ [[.n (robK c n).1, .n (robK c n).2]] := by
  unfold rowsK; rw [List.range_succ, List.map_append]; rfl
theorem rowsK_len (c : CO) (n : Nat) : (rowsK c n).length = n := by unfold rowsK; simp
theorem rowsK_get {c : CO} {n k : Nat} (h : k < n) : (rowsK c n)[k]? = some [.n (robK c k).1, .n (robK c k).2] := by
  unfold rowsK; rw [List.getElem?_map, List.getElem?_range h]; rfl
theorem rowsF_get {c : CO} {k : Nat} (h : k < c.P.len.toNat + 1) : (rowsF c)[k]? = some [.n (rob c k).1, .n (rob c k).2] := by
  unfold rowsF; rw [List.getElem?_map, List.getElem?_range h]; rfl
theorem rowsF_len (c : CO) : (rowsF c).length = c.P.len.toNat + 1 := by unfold rowsF; simp
theorem rob_row {c : CO} {k : Nat} (h : k < c.P.len.toNat + 1) : (rowsK c (c.P.len.toNat + 1))[c.P.len.toNat + 1 - 1 - k]? = some [.n (rob c k).1, .n (rob c k).2] := by
  rw [rowsK_get (by omega)]
  unfold rob
  have := len_nn c.P
  rw [show c.P.len.toNat + 1 - 1 - k = (c.P.len - (k : Int)).toNat by omega]
/-- Turned round. -/
theorem rev_end {c : CO} {els : List (List DV)} {a : Nat} (h : revP (rowsK c (c.P.len.toNat + 1)) els a) (ha : c.P.len.toNat ≤ 2 * a) : els = rowsF c := by
  apply List.ext_getElem?
  intro k
  obtain ⟨h1, h2⟩ := h
  rw [rowsK_len] at h1 h2
  by_cases hk : k < c.P.len.toNat + 1
  · rw [h2 k hk, rowsF_get hk]
    split
    · exact rob_row hk
    · rename_i q
      have : k = c.P.len.toNat + 1 - 1 - k := by omega
      rw [← rob_row hk, ← this]
  · rw [List.getElem?_eq_none (by omega), List.getElem?_eq_none (by rw [rowsF_len]; omega)]
end Go.Proofs.Ytljggpbkggkcaaa
