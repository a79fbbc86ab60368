/- DERIVED. Checks of wells: the contracts, proved. -/
import Derived.Test.YtcidomlhmdefaaaDmath
import Derived.Test.YtcidomlhmdefaaaDtree
namespace Go.Proofs.Ytcidomlhmdefaaa
open Go.Dx
set_option linter.unusedVariables false
set_option linter.unusedSimpArgs false
theorem cLit_ok (N : Nat) (w0 : World) : ConOk Try.prog tb N w0 (cLit 34) := by
  refine con_of_walk (tb := tb) fine (C := [lLit 18 9]) (lopCons rfl noCon) 80 rfl ?_ N w0
  refine fun L hL _ => ?_
  clear hL
  rw [tree_lit]
  show T.res _ (fun y => y = [.n (if litP (.sl none 0 L) (DV.sl none 0 L).len.toNat then 1 else 0)]) _ _
  have l0 := len_nn (.sl none 0 L)
  refine res_lop rfl (show (0 : Int) ≤ (DV.sl none 0 L).len ∧ litP (.sl none 0 L) (0 : Int).toNat from ⟨l0, fun k hk => absurd hk (Nat.not_lt_zero k)⟩) (fun i i0 i1 hI => ?_)
  obtain ⟨hi, hl⟩ : i ≤ (DV.sl none 0 L).len ∧ litP (.sl none 0 L) i.toNat := hI
  refine res_ite (fun hlt => ?_) fun hge => ?_
  · have hlt : i < (DV.sl none 0 L).len := hlt
    refine res_ite (fun q => no (lit_no i0 hlt q)) fun q => ?_
    have q : ¬ ¬ (0 ≤ (DV.sl none 0 L).at i 0 ∧ (DV.sl none 0 L).at i 0 ≤ 1073741824) := q
    refine res_chk rfl (show i + 1 ≤ (DV.sl none 0 L).len ∧ litP (.sl none 0 L) (i + 1).toNat from ⟨by omega, litP_succ i0 hl (Classical.not_not.1 q)⟩) ?_
    show ((DV.sl none 0 L).len - (i + 1)).toNat < ((DV.sl none 0 L).len - i).toNat
    omega
  · have hge : ¬ i < (DV.sl none 0 L).len := hge
    exact yes (by rw [show (DV.sl none 0 L).len = i by omega]; exact hl)
theorem cLitR_ok (N : Nat) (w0 : World) : ConOk Try.prog tb N w0 (cLit 36) := by
  refine con_of_walk (tb := tb) fine (C := [lLit 22 3]) (lopCons rfl noCon) 80 rfl ?_ N w0
  refine fun L hL _ => ?_
  clear hL
  rw [tree_litR]
  show T.res _ (fun y => y = [.n (if litP (.sl none 0 L) (DV.sl none 0 L).len.toNat then 1 else 0)]) _ _
  have l0 := len_nn (.sl none 0 L)
  refine res_lop rfl (show (0 : Int) ≤ (DV.sl none 0 L).len ∧ litP (.sl none 0 L) (0 : Int).toNat from ⟨l0, fun k hk => absurd hk (Nat.not_lt_zero k)⟩) (fun i i0 i1 hI => ?_)
  obtain ⟨hi, hl⟩ : i ≤ (DV.sl none 0 L).len ∧ litP (.sl none 0 L) i.toNat := hI
  refine res_ite (fun hlt => ?_) fun hge => ?_
  · have hlt : i < (DV.sl none 0 L).len := hlt
    refine res_ite (fun q => no (lit_no i0 hlt fun y => ?_)) fun q => ?_
    · have q : (DV.sl none 0 L).at i 0 < 0 ∨ 1073741824 < (DV.sl none 0 L).at i 0 := q
      omega
    have q : ¬ ((DV.sl none 0 L).at i 0 < 0 ∨ 1073741824 < (DV.sl none 0 L).at i 0) := q
    refine res_chk rfl (show i + 1 ≤ (DV.sl none 0 L).len ∧ litP (.sl none 0 L) (i + 1).toNat from ⟨by omega, litP_succ i0 hl (by omega)⟩) ?_
    show ((DV.sl none 0 L).len - (i + 1)).toNat < ((DV.sl none 0 L).len - i).toNat
    omega
  · have hge : ¬ i < (DV.sl none 0 L).len := hge
    exact yes (by rw [show (DV.sl none 0 L).len = i by omega]; exact hl)
theorem sum_big {w : WO} {x : Int} (h0 : 0 ≤ x) (h1 : x < w.K.len) (h : w.d < sumK w (x + 1).toNat) : ¬ kernP w := fun q => by
  have := sumN_mono (f := el w.K) (n := (x + 1).toNat) (m := w.K.len.toNat) (fun i hi => (q.2.2.1 i hi).1) (by omega)
  have := q.2.2.2
  unfold sumK at *
  omega
theorem cIsW_ok (N : Nat) (w0 : World) : ConOk Try.prog tb N w0 (cIsW 26) := by
  refine con_of_walk (tb := tb) fine (C := [lIsW]) (lopCons rfl noCon) 80 rfl ?_ N w0
  refine fun f _ _ r _ _ d _ _ K hK a _ _ b _ _ _ => ?_
  clear hK
  rw [tree_isw]
  show T.res _ (fun y => y = [.n (if isW ⟨f, r, d, .sl none 0 K⟩ a b then 1 else 0)]) _ _
  have l0 := len_nn (.sl none 0 K)
  refine res_ite (fun q => no fun y => ?_) fun q => ?_
  · have q : (((((f < 0 ∨ a ≤ f) ∨ r < 0) ∨ b ≤ r) ∨ d < 1) ∨ 1048576 < d) ∨ (DV.sl none 0 K).len = 0 := q
    obtain ⟨⟨⟨y1, y2⟩, y3, y4⟩, ⟨y5, y6⟩, y7, _⟩ := y
    dsimp only at y1 y2 y3 y4 y5 y6 y7
    omega
  have q : ¬ ((((((f < 0 ∨ a ≤ f) ∨ r < 0) ∨ b ≤ r) ∨ d < 1) ∨ 1048576 < d) ∨ (DV.sl none 0 K).len = 0) := q
  refine res_lop rfl (show (0 : Int) ≤ (DV.sl none 0 K).len ∧ kOk ⟨f, r, d, .sl none 0 K⟩ (0 : Int).toNat ∧ (0 : Int) = sumK ⟨f, r, d, .sl none 0 K⟩ (0 : Int).toNat ∧ (0 : Int) ≤ d from ⟨l0, fun k hk => absurd hk (Nat.not_lt_zero k), rfl, by omega⟩) (fun i i0 i1 s s0 s1 hI => ?_)
  obtain ⟨hi, hk, hs, hsd⟩ : i ≤ (DV.sl none 0 K).len ∧ kOk ⟨f, r, d, .sl none 0 K⟩ i.toNat ∧ s = sumK ⟨f, r, d, .sl none 0 K⟩ i.toNat ∧ s ≤ d := hI
  refine res_ite (fun hlt => ?_) fun hge => ?_
  · have hlt : i < (DV.sl none 0 K).len := hlt
    have hn : sumK ⟨f, r, d, .sl none 0 K⟩ (i + 1).toNat = s + (DV.sl none 0 K).at i 0 := by rw [hs]; exact sumN_next i0
    refine res_ite (fun y => ?_) fun y => no fun z => kOk_no (w := ⟨f, r, d, .sl none 0 K⟩) i0 hlt y z.2
    have y : 0 ≤ (DV.sl none 0 K).at i 0 ∧ (DV.sl none 0 K).at i 0 ≤ d := y
    refine res_ite (fun z => no fun v => sum_big (w := ⟨f, r, d, .sl none 0 K⟩) i0 hlt (by rw [hn]; exact z) v.2) fun z => ?_
    have z : ¬ d < s + (DV.sl none 0 K).at i 0 := z
    refine res_chk rfl (show i + 1 ≤ (DV.sl none 0 K).len ∧ kOk ⟨f, r, d, .sl none 0 K⟩ (i + 1).toNat ∧ s + (DV.sl none 0 K).at i 0 = sumK ⟨f, r, d, .sl none 0 K⟩ (i + 1).toNat ∧ s + (DV.sl none 0 K).at i 0 ≤ d from ⟨by omega, kOk_succ i0 hk y, hn.symm, by omega⟩) ?_
    show ((DV.sl none 0 K).len - (i + 1)).toNat < ((DV.sl none 0 K).len - i).toNat
    omega
  · have hge : ¬ i < (DV.sl none 0 K).len := hge
    have ei : (DV.sl none 0 K).len = i := by omega
    refine yes ⟨⟨⟨by dsimp only; omega, by dsimp only; omega⟩, by dsimp only; omega, by dsimp only; omega⟩, ⟨by dsimp only; omega, by dsimp only; omega⟩, by dsimp only; omega, ?_, ?_⟩
    · show kOk _ (DV.sl none 0 K).len.toNat
      rw [ei]; exact hk
    · show sumK _ (DV.sl none 0 K).len.toNat ≤ d
      rw [ei, ← hs]; exact hsd
theorem cKern_ok (N : Nat) (w0 : World) : ConOk Try.prog tb N w0 (cKern 28) := by
  refine con_of_walk (tb := tb) fine (C := [lKern]) (lopCons rfl noCon) 80 rfl ?_ N w0
  refine fun f _ _ r _ _ d _ _ K hK hpre => ?_
  clear hK
  have hpre : (DV.sl none 0 K).len ≤ 64 := hpre
  rw [tree_kern]
  show T.res _ (fun y => y = [.n (if kernP ⟨f, r, d, .sl none 0 K⟩ then 1 else 0)]) _ _
  have l0 := len_nn (.sl none 0 K)
  refine res_ite (fun q => no fun y => ?_) fun q => ?_
  · have q : (d < 1 ∨ 1048576 < d) ∨ (DV.sl none 0 K).len = 0 := q
    obtain ⟨⟨y5, y6⟩, y7, _⟩ := y
    dsimp only at y5 y6 y7
    omega
  have q : ¬ ((d < 1 ∨ 1048576 < d) ∨ (DV.sl none 0 K).len = 0) := q
  refine res_lop rfl (show (0 : Int) ≤ (DV.sl none 0 K).len ∧ kOk ⟨f, r, d, .sl none 0 K⟩ (0 : Int).toNat ∧ (0 : Int) = sumK ⟨f, r, d, .sl none 0 K⟩ (0 : Int).toNat from ⟨l0, fun k hk => absurd hk (Nat.not_lt_zero k), rfl⟩) (fun s s0 s1 i i0 i1 hI => ?_)
  obtain ⟨hi, hk, hs⟩ : i ≤ (DV.sl none 0 K).len ∧ kOk ⟨f, r, d, .sl none 0 K⟩ i.toNat ∧ s = sumK ⟨f, r, d, .sl none 0 K⟩ i.toNat := hI
  have hb : s ≤ i.toNat * 1048576 := by
    rw [hs]; exact sumN_bound fun j hj => by
      have h9 : el (.sl none 0 K) j ≤ d := (hk j hj).2
      show el (.sl none 0 K) j ≤ 1048576
      omega
  refine res_ite (fun hlt => ?_) fun hge => ?_
  · have hlt : i < (DV.sl none 0 K).len := hlt
    have hn : sumK ⟨f, r, d, .sl none 0 K⟩ (i + 1).toNat = s + (DV.sl none 0 K).at i 0 := by rw [hs]; exact sumN_next i0
    refine res_ite (fun y => no fun z => kOk_no (w := ⟨f, r, d, .sl none 0 K⟩) i0 hlt (fun v => ?_) z) fun y => ?_
    · have y : (DV.sl none 0 K).at i 0 < 0 ∨ d < (DV.sl none 0 K).at i 0 := y
      dsimp only at v
      omega
    have y : ¬ ((DV.sl none 0 K).at i 0 < 0 ∨ d < (DV.sl none 0 K).at i 0) := y
    have ew : IntKind.i64.wrap (s + (DV.sl none 0 K).at i 0) = s + (DV.sl none 0 K).at i 0 := wI (by omega) (by omega)
    refine res_ok (show 0 ≤ IntKind.i64.wrap (s + (DV.sl none 0 K).at i 0) ∧ IntKind.i64.wrap (s + (DV.sl none 0 K).at i 0) ≤ 9223372036854775807 by rw [ew]; omega) ?_
    refine res_chk rfl (show i + 1 ≤ (DV.sl none 0 K).len ∧ kOk ⟨f, r, d, .sl none 0 K⟩ (i + 1).toNat ∧ IntKind.i64.wrap (s + (DV.sl none 0 K).at i 0) = sumK ⟨f, r, d, .sl none 0 K⟩ (i + 1).toNat from ⟨by omega, kOk_succ i0 hk ⟨by dsimp only; omega, by dsimp only; omega⟩, by rw [ew, hn]⟩) ?_
    show ((DV.sl none 0 K).len - (i + 1)).toNat < ((DV.sl none 0 K).len - i).toNat
    omega
  · have hge : ¬ i < (DV.sl none 0 K).len := hge
    have ei : (DV.sl none 0 K).len = i := by omega
    refine res_ite (fun z => yes ⟨⟨by dsimp only; omega, by dsimp only; omega⟩, by dsimp only; omega, ?_, ?_⟩) fun z => no fun y => z ?_
    · show kOk _ (DV.sl none 0 K).len.toNat
      rw [ei]; exact hk
    · show sumK _ (DV.sl none 0 K).len.toNat ≤ d
      rw [ei, ← hs]; exact z
    · have := y.2.2.2
      show s ≤ d
      rw [hs, ← ei]; exact this
theorem chk_long {w : WO} {p : DV} (h : 64 < w.K.len ∨ 400 < p.len) : [DV.n 2] = [DV.n (chkF w p)] := by unfold chkF; rw [if_pos h]
theorem chk_bad {w : WO} {p : DV} (h : ¬ (64 < w.K.len ∨ 400 < p.len)) (k : ¬ (isW w 600 64 ∧ litP p p.len.toNat)) : [DV.n 420] = [DV.n (chkF w p)] := by unfold chkF; rw [if_neg h, if_neg k]
theorem chk_fine {w : WO} {p : DV} (h : ¬ (64 < w.K.len ∨ 400 < p.len)) (k : isW w 600 64 ∧ litP p p.len.toNat) : [DV.n 0] = [DV.n (chkF w p)] := by unfold chkF; rw [if_neg h, if_pos k]
theorem cChk_ok (N : Nat) (w0 : World) : ConOk Try.prog tb N w0 (cChk 29) := by
  refine con_of_walk (tb := tb) fine (C := [cIsW 26, cLit 34]) (conCons cIsW_ok (conCons cLit_ok noCon)) 80 rfl ?_ N w0
  refine fun f _ _ r _ _ d _ _ K hK p hp _ => ?_
  clear hK hp
  rw [tree_chk]
  show T.res _ (fun y => y = [.n (chkF ⟨f, r, d, .sl none 0 K⟩ (.sl none 0 p))]) _ _
  refine res_ite (fun q => chk_long q) fun q => ?_
  refine res_con rfl trivial (fun a _ _ ha => ?_)
  have ha := if_in (c := isW ⟨f, r, d, .sl none 0 K⟩ 600 64) (show [DV.n a] = _ from ha)
  refine res_ite (fun y => ?_) fun y => chk_bad q fun z => ?_
  · have y : ¬ a = 0 := y
    refine res_con rfl trivial (fun b _ _ hb => ?_)
    have hb := if_in (c := litP (.sl none 0 p) (DV.sl none 0 p).len.toNat) (show [DV.n b] = _ from hb)
    refine res_ite (fun z => chk_bad q fun v => ?_) fun z => chk_fine q ⟨(ha.resolve_right fun v => y v.1).2, (hb.resolve_right fun v => z v.1).2⟩
    exact (hb.resolve_left fun u => u.1 z).2 v.2
  · have y : ¬ ¬ a = 0 := y
    exact (ha.resolve_left fun u => y u.1).2 z.1
theorem cChkR_ok (N : Nat) (w0 : World) : ConOk Try.prog tb N w0 (cChk 31) := by
  refine con_of_walk (tb := tb) fine (C := [cKern 28, cLit 36]) (conCons cKern_ok (conCons cLitR_ok noCon)) 80 rfl ?_ N w0
  refine fun f _ _ r _ _ d _ _ K hK p hp _ => ?_
  clear hK hp
  rw [tree_chkR]
  show T.res _ (fun y => y = [.n (chkF ⟨f, r, d, .sl none 0 K⟩ (.sl none 0 p))]) _ _
  refine res_ite (fun q => chk_long q) fun q => ?_
  have q2 : ¬ (64 < (DV.sl none 0 K).len ∨ 400 < (DV.sl none 0 p).len) := q
  refine res_ite (fun u => ?_) fun u => chk_bad q fun z => u ?_
  · have u : ¬ (((f < 0 ∨ 600 ≤ f) ∨ r < 0) ∨ 64 ≤ r) := u
    refine res_con rfl (show (DV.sl none 0 K).len ≤ 64 by omega) (fun a _ _ ha => ?_)
    have ha := if_in (c := kernP ⟨f, r, d, .sl none 0 K⟩) (show [DV.n a] = _ from ha)
    refine res_ite (fun y => ?_) fun y => chk_bad q fun z => ?_
    · have y : ¬ a = 0 := y
      refine res_con rfl trivial (fun b _ _ hb => ?_)
      have hb := if_in (c := litP (.sl none 0 p) (DV.sl none 0 p).len.toNat) (show [DV.n b] = _ from hb)
      refine res_ite (fun z => chk_bad q fun v => ?_) fun z => chk_fine q ⟨⟨⟨⟨by dsimp only; omega, by dsimp only; omega⟩, by dsimp only; omega, by dsimp only; omega⟩, (ha.resolve_right fun v => y v.1).2⟩, (hb.resolve_right fun v => z v.1).2⟩
      exact (hb.resolve_left fun u => u.1 z).2 v.2
    · have y : ¬ ¬ a = 0 := y
      exact (ha.resolve_left fun u => y u.1).2 z.1.2
  · show ¬ (((f < 0 ∨ 600 ≤ f) ∨ r < 0) ∨ 64 ≤ r)
    obtain ⟨⟨⟨z1, z2⟩, z3, z4⟩, _⟩ := z.1
    dsimp only at z1 z2 z3 z4
    omega
end Go.Proofs.Ytcidomlhmdefaaa
