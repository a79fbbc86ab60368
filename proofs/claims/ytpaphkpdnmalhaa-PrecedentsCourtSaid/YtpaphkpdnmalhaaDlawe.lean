/- DERIVED. The law of what follows a fortiori, walked. -/
import Derived.Test.YtpaphkpdnmalhaaDlawb
import Derived.Test.YtpaphkpdnmalhaaDtreeh
import Derived.KernelRfl
namespace Go.Proofs.Ytpaphkpdnmalhaa
open Go.Dx Go.RowKit
set_option linter.unusedVariables false
set_option linter.unusedSimpArgs false
theorem conv {a b : Prop} (e : a = b) (h : a) : b := by rw [← e]; exact h
theorem res_lop_of {C : List Con} {post : List DV → Prop} {i m : Nat} {zs : List E} {k : T (List E)} {r : List DV} {d : Con} (hd : C[i]? = some d) (p : Prop) (e : d.pre (r ++ zs.map (E.top r)) = p) (h : p) (q : allB d.bnd fun ys => d.pre (r ++ ys) → T.res C post k (r ++ (ys ++ List.replicate m (.n 0)))) : T.res C post (.lop i zs m k) r :=
  res_lop hd (by rw [e]; exact h) q
theorem res_chk_of {C : List Con} {post : List DV → Prop} {i o : Nat} {zs : List E} {r : List DV} {d : Con} (hd : C[i]? = some d) (p : Prop) (m n : Nat) (e : d.pre (r.take o ++ zs.map (E.top r)) = p) (h : p) (e1 : d.mea (r.take o ++ zs.map (E.top r)) = m) (e2 : d.mea (r.take (o + zs.length)) = n) (k : m < n) : T.res C post (.chk i o zs) r :=
  res_chk hd (by rw [e]; exact h) (by rw [e1, e2]; exact k)
set_option maxHeartbeats 8000000 in
set_option maxRecDepth 100000 in
theorem PrecedentsFortiori_any (v0 v1 : Value) (a b : Int) (w : World) (hG : Glb tb w) (g0 : BookA w v0) (g1 : ∃ d, cellA w ints (.sl none 0 d) v1) (ha : 0 ≤ a ∧ a ≤ 4294967295) (hb : 0 ≤ b ∧ b ≤ 255) :
    Calls Try.prog 5 #[v0, v1, .int .u32 a, .int .u8 b] w fun e w' => e = .returned (.bool true) ∧ Below w.heap.size w w' := by
  obtain ⟨S, C, c0, rfl, h0⟩ := g0
  obtain ⟨f, h1⟩ := g1
  have ca := cell_u32 (w := w) ha
  have cb := cell_byte (w := w) hb
  refine law_of_walk (tb := tb) (P := Try.prog) fine (C := [lawCon 9 [], cRight 22, cBinds 15, cFavR 23, cMay 17, lSome2]) (conCons cSane_ok (conCons cRight_ok (conCons cBinds_ok (conCons cFavR_ok (conCons cMay_ok (lopCons rfl noCon)))))) 400 5 [.agg book, .c ints, aU, aB] rfl (w := w) hG
    (xs := [.sl none 0 S, .sl none 0 C, .sl none 0 f, .n a, .n b]) ?_ ?_
  · exact ⟨_, [.sl none 0 f, .n a, .n b], c0, rfl, rfl, h0, h1, ca, cb, by simp [ArgsV]⟩
  clear h0 h1 ca cb
  rw [tree_lfor2]
  refine res_con rfl trivial (fun z z0 z1 hz => ?_)
  obtain rfl := n_inj (show [DV.n z] = [DV.n 1] from hz)
  refine res_ite (fun h => absurd (show (1 : Int) = 0 from h) (by decide)) fun _ => ?_
  refine res_con rfl trivial (fun r _ _ hr => ?_)
  refine res_ite (fun _ => rfl) fun q => ?_
  obtain ⟨hc, hf⟩ := right_in (S := .sl none 0 S) (C := .sl none 0 C) (f := .sl none 0 f) hr q
  clear hr
  have hS : (DV.sl none 0 S).len ≤ 32 := (chk_zero hc).1.1
  refine res_con rfl trivial (fun a1 _ _ a2 _ _ a3 _ _ h1 => ?_)
  have h1 : [DV.n a1, .n a2, .n a3] = BindsF (.sl none 0 S) (.sl none 0 C) (.sl none 0 f) 0 := h1
  refine res_con rfl (show setP (DV.sl none 0 S).len (.sl none 0 f) (DV.sl none 0 f).len.toNat ∧ (DV.sl none 0 S).len ≤ 32 from ⟨hf, hS⟩) (fun L hL h2 => ?_)
  have h2 : [DV.sl none 0 L] = [favs (.sl none 0 S) (.sl none 0 f) 1] := h2
  simp only [List.cons.injEq, DV.sl.injEq, and_true, true_and] at h2
  refine res_con rfl trivial (fun b1 _ _ b2 _ _ b3 _ _ h3 => ?_)
  have h3 : [DV.n b1, .n b2, .n b3] = MayF (.sl none 0 S) (.sl none 0 C) (.sl none 0 f) (.sl none 0 L) 1 := h3
  have eL : DV.sl none 0 L = favs (.sl none 0 S) (.sl none 0 f) 1 := by rw [h2]
  obtain ⟨k1, k2, k3⟩ := bound_may (side := 0) hc hf (by decide) h1 (show _ = MayF (.sl none 0 S) (.sl none 0 C) (.sl none 0 f) (favs (.sl none 0 S) (.sl none 0 f) 1) 1 by rw [← eL]; exact h3)
  have k3 : (a2 = 1 ∧ b2 = 0 ∧ ∃ i, i < (DV.sl none 0 C).len.toNat ∧ mayP (.sl none 0 C) (.sl none 0 f) (favs (.sl none 0 S) (.sl none 0 f) 1) 1 i) ∨ (a2 = 0 ∧ b2 = 1) := k3
  have sL := (favs_rea (S := .sl none 0 S) (side := 1) hf).1
  have l0 := len_nn (.sl none 0 L)
  have lL : (DV.sl none 0 L).len ≤ (DV.sl none 0 S).len := by rw [eL]; exact set_card (len_nn _) sL
  refine res_ite (fun z => ?_) fun _ => ?_
  · have z : (¬ a3 = 0 ∨ ¬ b3 = 0) ∨ ((¬ a2 = 0 ∧ ¬ b2 = 0) ∨ (a2 = 0 ∧ b2 = 0)) := z
    exfalso
    rcases k3 with ⟨x, y, _⟩ | ⟨x, y⟩ <;> omega
  refine res_dat (.sl none 0 []) rfl ?_
  refine res_lop_of rfl ((0 : Int) ≤ (DV.sl none 0 L).len ∧ partP (.sl none 0 L) (.sl none 0 []) 0) (by kernel_rfl) ⟨l0, part_nil _⟩ (fun o ho i i0 i1 hI => ?_)
  obtain ⟨hi, hp⟩ := conv (b := i ≤ (DV.sl none 0 L).len ∧ partP (.sl none 0 L) (.sl none 0 o) i.toNat) (by kernel_rfl) hI
  have ei : ((i.toNat : Nat) : Int) = i := by omega
  have lo : (DV.sl none 0 o).len ≤ i := by have := hp.1; omega
  have lo' : (DV.sl none 0 o).len = o.length := clampL_eq (show o.length ≤ 9223372036854775807 from ho.1)
  clear ho
  refine res_ite (fun hlt => ?_) fun hge => ?_
  · have hlt := conv (b := i < (DV.sl none 0 L).len) (by kernel_rfl) hlt
    have mea : ((DV.sl none 0 L).len - (i + 1)).toNat < ((DV.sl none 0 L).len - i).toNat := by omega
    have en : (i + 1).toNat = i.toNat + 1 := by omega
    refine res_ite (fun _ => ?_) fun _ => ?_
    · refine res_ok (conv (a := (DV.sl none 0 o).len + 1 ≤ 15637498706147) (by kernel_rfl) (by omega)) ?_
      refine res_dat (.sl none 0 [[.n ((DV.sl none 0 L).at i 0)]]) (by kernel_rfl) ?_
      refine res_dat (.sl none 0 (o ++ [[.n ((DV.sl none 0 L).at i 0)]])) (by kernel_rfl) ?_
      refine res_chk_of rfl (i + 1 ≤ (DV.sl none 0 L).len ∧ partP (.sl none 0 L) (.sl none 0 (o ++ [[.n ((DV.sl none 0 L).at i 0)]])) (i + 1).toNat) ((DV.sl none 0 L).len - (i + 1)).toNat ((DV.sl none 0 L).len - i).toNat (by kernel_rfl) ⟨by omega, ?_⟩ (by kernel_rfl) (by kernel_rfl) mea
      have e : (DV.sl none 0 L).at i 0 = el (.sl none 0 L) i.toNat := by unfold el; rw [ei]
      rw [en, e]
      exact part_add (F := (DV.sl none 0 S).len) (by rw [eL]; exact sL) (by omega) (by omega) hp
    · exact res_chk_of rfl (i + 1 ≤ (DV.sl none 0 L).len ∧ partP (.sl none 0 L) (.sl none 0 o) (i + 1).toNat) ((DV.sl none 0 L).len - (i + 1)).toNat ((DV.sl none 0 L).len - i).toNat (by kernel_rfl) ⟨by omega, by rw [en]; exact part_skip hp⟩ (by kernel_rfl) (by kernel_rfl) mea
  rw [eL] at hp hi
  refine res_con rfl trivial (fun d1 _ _ d2 _ _ d3 _ _ h4 => ?_)
  have h4 := conv (b := [DV.n d1, .n d2, .n d3] = MayF (.sl none 0 S) (.sl none 0 C) (.sl none 0 f) (.sl none 0 o) 1) (by kernel_rfl) h4
  obtain ⟨m1, m2⟩ := less_may (b' := b2) hc hf (by decide) (n := i.toNat) (by omega) hp h4 (k3.elim (fun v => Or.inl v.2) fun v => Or.inr v.2)
  refine res_ite (fun z => ?_) fun _ => ?_
  · have z := conv (b := ¬ d3 = 0 ∨ (¬ d2 = 0 ∧ b2 = 0)) (by kernel_rfl) z
    exfalso
    rcases z with z | ⟨z, y⟩
    · exact z m1
    · exact z (m2 y)
  clear h1 h2 h3 eL k1 k2 k3 sL l0 lL hi hp ei lo lo' h4 m1 m2 hge
  refine res_con rfl trivial (fun a1 _ _ a2 _ _ a3 _ _ h1 => ?_)
  have h1 : [DV.n a1, .n a2, .n a3] = BindsF (.sl none 0 S) (.sl none 0 C) (.sl none 0 f) 1 := h1
  refine res_con rfl (show setP (DV.sl none 0 S).len (.sl none 0 f) (DV.sl none 0 f).len.toNat ∧ (DV.sl none 0 S).len ≤ 32 from ⟨hf, hS⟩) (fun L hL h2 => ?_)
  have h2 : [DV.sl none 0 L] = [favs (.sl none 0 S) (.sl none 0 f) 0] := h2
  simp only [List.cons.injEq, DV.sl.injEq, and_true, true_and] at h2
  refine res_con rfl trivial (fun b1 _ _ b2 _ _ b3 _ _ h3 => ?_)
  have h3 : [DV.n b1, .n b2, .n b3] = MayF (.sl none 0 S) (.sl none 0 C) (.sl none 0 f) (.sl none 0 L) 0 := h3
  have eL : DV.sl none 0 L = favs (.sl none 0 S) (.sl none 0 f) 0 := by rw [h2]
  obtain ⟨k1, k2, k3⟩ := bound_may (side := 1) hc hf (by decide) h1 (show _ = MayF (.sl none 0 S) (.sl none 0 C) (.sl none 0 f) (favs (.sl none 0 S) (.sl none 0 f) 0) 0 by rw [← eL]; exact h3)
  have k3 : (a2 = 1 ∧ b2 = 0 ∧ ∃ i, i < (DV.sl none 0 C).len.toNat ∧ mayP (.sl none 0 C) (.sl none 0 f) (favs (.sl none 0 S) (.sl none 0 f) 0) 0 i) ∨ (a2 = 0 ∧ b2 = 1) := k3
  have sL := (favs_rea (S := .sl none 0 S) (side := 0) hf).1
  have l0 := len_nn (.sl none 0 L)
  have lL : (DV.sl none 0 L).len ≤ (DV.sl none 0 S).len := by rw [eL]; exact set_card (len_nn _) sL
  refine res_ite (fun z => ?_) fun _ => ?_
  · have z : (¬ a3 = 0 ∨ ¬ b3 = 0) ∨ ((¬ a2 = 0 ∧ ¬ b2 = 0) ∨ (a2 = 0 ∧ b2 = 0)) := z
    exfalso
    rcases k3 with ⟨x, y, _⟩ | ⟨x, y⟩ <;> omega
  refine res_dat (.sl none 0 []) rfl ?_
  refine res_lop_of rfl ((0 : Int) ≤ (DV.sl none 0 L).len ∧ partP (.sl none 0 L) (.sl none 0 []) 0) (by kernel_rfl) ⟨l0, part_nil _⟩ (fun o ho i i0 i1 hI => ?_)
  obtain ⟨hi, hp⟩ := conv (b := i ≤ (DV.sl none 0 L).len ∧ partP (.sl none 0 L) (.sl none 0 o) i.toNat) (by kernel_rfl) hI
  have ei : ((i.toNat : Nat) : Int) = i := by omega
  have lo : (DV.sl none 0 o).len ≤ i := by have := hp.1; omega
  have lo' : (DV.sl none 0 o).len = o.length := clampL_eq (show o.length ≤ 9223372036854775807 from ho.1)
  clear ho
  refine res_ite (fun hlt => ?_) fun hge => ?_
  · have hlt := conv (b := i < (DV.sl none 0 L).len) (by kernel_rfl) hlt
    have mea : ((DV.sl none 0 L).len - (i + 1)).toNat < ((DV.sl none 0 L).len - i).toNat := by omega
    have en : (i + 1).toNat = i.toNat + 1 := by omega
    refine res_ite (fun _ => ?_) fun _ => ?_
    · refine res_ok (conv (a := (DV.sl none 0 o).len + 1 ≤ 15637498706147) (by kernel_rfl) (by omega)) ?_
      refine res_dat (.sl none 0 [[.n ((DV.sl none 0 L).at i 0)]]) (by kernel_rfl) ?_
      refine res_dat (.sl none 0 (o ++ [[.n ((DV.sl none 0 L).at i 0)]])) (by kernel_rfl) ?_
      refine res_chk_of rfl (i + 1 ≤ (DV.sl none 0 L).len ∧ partP (.sl none 0 L) (.sl none 0 (o ++ [[.n ((DV.sl none 0 L).at i 0)]])) (i + 1).toNat) ((DV.sl none 0 L).len - (i + 1)).toNat ((DV.sl none 0 L).len - i).toNat (by kernel_rfl) ⟨by omega, ?_⟩ (by kernel_rfl) (by kernel_rfl) mea
      have e : (DV.sl none 0 L).at i 0 = el (.sl none 0 L) i.toNat := by unfold el; rw [ei]
      rw [en, e]
      exact part_add (F := (DV.sl none 0 S).len) (by rw [eL]; exact sL) (by omega) (by omega) hp
    · exact res_chk_of rfl (i + 1 ≤ (DV.sl none 0 L).len ∧ partP (.sl none 0 L) (.sl none 0 o) (i + 1).toNat) ((DV.sl none 0 L).len - (i + 1)).toNat ((DV.sl none 0 L).len - i).toNat (by kernel_rfl) ⟨by omega, by rw [en]; exact part_skip hp⟩ (by kernel_rfl) (by kernel_rfl) mea
  rw [eL] at hp hi
  refine res_con rfl trivial (fun d1 _ _ d2 _ _ d3 _ _ h4 => ?_)
  have h4 := conv (b := [DV.n d1, .n d2, .n d3] = MayF (.sl none 0 S) (.sl none 0 C) (.sl none 0 f) (.sl none 0 o) 0) (by kernel_rfl) h4
  obtain ⟨m1, m2⟩ := less_may (b' := b2) hc hf (by decide) (n := i.toNat) (by omega) hp h4 (k3.elim (fun v => Or.inl v.2) fun v => Or.inr v.2)
  refine res_ite (fun z => ?_) fun _ => rfl
  · have z := conv (b := ¬ d3 = 0 ∨ (¬ d2 = 0 ∧ b2 = 0)) (by kernel_rfl) z
    exfalso
    rcases z with z | ⟨z, y⟩
    · exact z m1
    · exact z (m2 y)
end Go.Proofs.Ytpaphkpdnmalhaa
