/- DERIVED. The law of debts together, walked. -/
import Derived.Test.YtcidomlhmdefaaaDlawb
import Derived.Test.YtcidomlhmdefaaaDtreee
namespace Go.Proofs.Ytcidomlhmdefaaa
open Go.Dx Go.RowKit
set_option linter.unusedVariables false
set_option linter.unusedSimpArgs false
theorem isw_of {w : WO} {p : DV} (hc : chkF w p = 0) : isW w 600 64 := by
  unfold chkF at hc
  by_cases c1 : 64 < w.K.len ∨ 400 < p.len
  · rw [if_pos c1] at hc; exact absurd hc (by decide)
  rw [if_neg c1] at hc
  by_cases c2 : isW w 600 64 ∧ litP p p.len.toNat
  · exact c2.1
  · rw [if_neg c2] at hc; exact absurd hc (by decide)
theorem chk_same {w : WO} {p q : DV} (hc : chkF w p = 0) (h1 : q.len ≤ 400) (h2 : litP q q.len.toNat) : chkF w q = 0 := by
  have := (chk_val hc).K1
  unfold chkF
  rw [if_neg (by omega), if_pos ⟨isw_of hc, h2⟩]
theorem gEl (g : Nat → Int) {n k : Nat} (h : k < n) (h0 : -9223372036854775808 ≤ g k) (h1 : g k ≤ 9223372036854775807) : el (.sl none 0 (gRows g n)) k = g k := gAt g h h0 h1
set_option maxHeartbeats 8000000 in
set_option maxRecDepth 100000 in
theorem WellsTogether_any (v0 v1 v2 : Value) (w : World) (hG : Glb tb w) (g0 : WellA w v0) (g1 : ∃ d, cellA w ints (.sl none 0 d) v1) (g2 : ∃ d, cellA w ints (.sl none 0 d) v2) :
    Calls Try.prog 7 #[v0, v1, v2] w fun e w' => e = .returned (.bool true) ∧ Below w.heap.size w w' := by
  obtain ⟨f, r, d, K, c0, rfl, h0⟩ := g0
  obtain ⟨p, h1⟩ := g1
  obtain ⟨q, h2⟩ := g2
  refine law_of_walk (tb := tb) (P := Try.prog) fine (C := [lawCon 10 [], cOwe 15, cSums 20, xBoth, xTog]) (conCons cSane_ok (conCons cOwe_ok (conCons cSums_ok (lopCons rfl (lopCons rfl noCon))))) 80 7 [.agg well, .c ints, .c ints] rfl (w := w) hG
    (xs := [.n f, .n r, .n d, .sl none 0 K, .sl none 0 p, .sl none 0 q]) ?_ ?_
  · exact ⟨_, [.sl none 0 p, .sl none 0 q], c0, rfl, rfl, h0, h1, h2, by simp [ArgsV]⟩
  clear h0 h1 h2
  rw [tree_ltog]
  refine res_con rfl trivial (fun z z0 z1 hz => ?_)
  obtain rfl := n_inj (show [DV.n z] = [DV.n 1] from hz)
  refine res_ite (fun h => absurd (show (1 : Int) = 0 from h) (by decide)) fun _ => res_ite (fun _ => rfl) fun hfew => ?_
  have hfew : ¬ (¬ (((DV.sl none 0 p).len ≤ 30 ∨ 400 < (DV.sl none 0 p).len ∧ (DV.sl none 0 p).len ≤ 1000) ∧ ((DV.sl none 0 K).len ≤ 20 ∨ 64 < (DV.sl none 0 K).len ∧ (DV.sl none 0 K).len ≤ 200)) ∨ ¬ (DV.sl none 0 p).len = (DV.sl none 0 q).len) := hfew
  have hpq : (DV.sl none 0 p).len = (DV.sl none 0 q).len := Classical.byContradiction fun y => hfew (.inr y)
  clear hfew
  refine res_con rfl trivial (fun a ha e _ _ h1 => res_con rfl trivial (fun b hb e2 _ _ h2 => ?_))
  clear ha hb
  have h1 : [DV.sl none 0 a, .n e] = OwedF ⟨f, r, d, .sl none 0 K⟩ (.sl none 0 p) := h1
  have h2 : [DV.sl none 0 b, .n e2] = OwedF ⟨f, r, d, .sl none 0 K⟩ (.sl none 0 q) := h2
  refine res_ite (fun _ => rfl) fun y => ?_
  have y : ¬ (¬ e = 0 ∨ ¬ e2 = 0) := y
  obtain ⟨_, hc, ha⟩ := (owed_in h1).resolve_left fun z => y (.inl z.1)
  obtain ⟨_, hc2, hb⟩ := (owed_in h2).resolve_left fun z => y (.inr z.1)
  have hv := chk_val hc
  have hv2 := chk_val hc2
  have l0 := len_nn (.sl none 0 p)
  have hp1 : (DV.sl none 0 p).len ≤ 400 := hv.p1
  have hlit := hv.lit
  have hlit2 := hv2.lit
  have hdays : ∀ Q : DV, Q.len = (DV.sl none 0 p).len → days ⟨f, r, d, .sl none 0 K⟩ Q = days ⟨f, r, d, .sl none 0 K⟩ (.sl none 0 p) := fun Q h => by unfold days; rw [h]
  have hn := days_le hv
  rw [hdays _ hpq.symm] at hb
  generalize hw : WO.mk f r d (.sl none 0 K) = w at *
  generalize hD : days w (.sl none 0 p) = n at *
  refine res_dat (.sl none 0 []) rfl (res_lop rfl (show (0 : Int) ≤ (DV.sl none 0 p).len ∧ [] = gRows (fun k => el (.sl none 0 p) k + el (.sl none 0 q) k) (0 : Int).toNat ∧ bothP (.sl none 0 p) (.sl none 0 q) (0 : Int).toNat from ⟨l0, rfl, fun k hk => absurd hk (Nat.not_lt_zero k)⟩) (fun c hcS i i0 i1 hI => ?_))
  clear hcS
  obtain ⟨hi, hcc, hbo⟩ : i ≤ (DV.sl none 0 p).len ∧ c = gRows (fun k => el (.sl none 0 p) k + el (.sl none 0 q) k) i.toNat ∧ bothP (.sl none 0 p) (.sl none 0 q) i.toNat := hI
  have lc : (DV.sl none 0 c).len = i := by rw [hcc, gLen _ (by omega)]; omega
  have ei : ((i.toNat : Nat) : Int) = i := by omega
  refine res_ite (fun hlt => ?_) fun hge => ?_
  · have hlt : i < (DV.sl none 0 p).len := hlt
    have x1 := hlit i.toNat (by omega)
    have x2 := hlit2 i.toNat (by omega)
    unfold el at x1 x2
    rw [ei] at x1 x2
    refine res_ite (fun _ => ?_) fun z => absurd (show 0 ≤ (DV.sl none 0 p).at i 0 from x1.1) z
    refine res_ok (show 0 ≤ i ∧ i < (DV.sl none 0 q).len by omega) ?_
    refine res_ite (fun _ => res_ite (fun _ => rfl) fun z => absurd (show 0 ≤ (DV.sl none 0 q).at i 0 from x2.1) z) fun z => ?_
    have z : ¬ (((DV.sl none 0 q).at i 0 < 0 ∨ 1073741824 < (DV.sl none 0 p).at i 0) ∨ 1073741824 - (DV.sl none 0 p).at i 0 < (DV.sl none 0 q).at i 0) := z
    refine res_ok (show (DV.sl none 0 c).len + 1 ≤ 15637498706147 by omega) ?_
    refine res_dat (.sl none 0 [[.n ((DV.sl none 0 p).at i 0 + (DV.sl none 0 q).at i 0)]]) rfl ?_
    refine res_dat (.sl none 0 (c ++ [[.n ((DV.sl none 0 p).at i 0 + (DV.sl none 0 q).at i 0)]])) rfl ?_
    refine res_chk rfl (show i + 1 ≤ (DV.sl none 0 p).len ∧ c ++ [[DV.n ((DV.sl none 0 p).at i 0 + (DV.sl none 0 q).at i 0)]] = gRows (fun k => el (.sl none 0 p) k + el (.sl none 0 q) k) (i + 1).toNat ∧ bothP (.sl none 0 p) (.sl none 0 q) (i + 1).toNat from ⟨by omega, ?_, fun j hj => ?_⟩) ?_
    · rw [show (i + 1).toNat = i.toNat + 1 by omega, gRows_succ, hcc]
      unfold el; rw [ei]
    · by_cases q : j < i.toNat
      · exact hbo j q
      · unfold el; rw [show (j : Int) = i by omega]; omega
    · show ((DV.sl none 0 p).len - (i + 1)).toNat < ((DV.sl none 0 p).len - i).toNat
      omega
  have hge : ¬ i < (DV.sl none 0 p).len := hge
  have lcp : (DV.sl none 0 c).len = (DV.sl none 0 p).len := by omega
  have eC : ∀ k, k < (DV.sl none 0 c).len.toNat → el (.sl none 0 c) k = el (.sl none 0 p) k + el (.sl none 0 q) k := fun k hk => by
    have := hbo k (by omega)
    rw [hcc]; exact gEl _ (show k < i.toNat by omega) (by omega) (by omega)
  have hcC : chkF w (.sl none 0 c) = 0 := chk_same hc (by omega) fun k hk => by
    have := hbo k (by omega)
    rw [eC k hk]; omega
  have hvC := chk_val hcC
  refine res_con rfl trivial (fun o ho e3 _ _ h3 => ?_)
  clear ho
  have h3 : [DV.sl none 0 o, .n e3] = OwedF (WO.mk f r d (.sl none 0 K)) (.sl none 0 c) := h3
  rw [hw] at h3
  obtain ⟨he3, _, ho⟩ := (owed_in h3).resolve_left fun y => y.1 (by rw [y.2.2]; exact hcC)
  rw [hdays _ lcp] at ho
  have la : (DV.sl none 0 a).len = n := by rw [ha]; exact gLen _ (by omega)
  have lb : (DV.sl none 0 b).len = n := by rw [hb]; exact gLen _ (by omega)
  have lo : (DV.sl none 0 o).len = n := by rw [ho]; exact gLen _ (by omega)
  refine res_ite (fun y => ?_) fun _ => ?_
  · have y : (¬ e3 = 0 ∨ ¬ (DV.sl none 0 a).len = (DV.sl none 0 o).len) ∨ ¬ (DV.sl none 0 b).len = (DV.sl none 0 o).len := y
    omega
  refine res_con rfl (show (DV.sl none 0 a).len ≤ 500 by omega) (fun x hx b1 _ _ hx1 => ?_)
  refine res_con rfl (show (DV.sl none 0 b).len ≤ 500 by omega) (fun y hy b2 _ _ hy1 => ?_)
  refine res_con rfl (show (DV.sl none 0 o).len ≤ 500 by omega) (fun z hz b3 _ _ hz1 => ?_)
  clear hx hy hz
  obtain ⟨hb1, hx⟩ := sums_in (show [DV.sl none 0 x, .n b1] = SumsF (.sl none 0 a) from hx1) (ow_sumsOk hv ha (by omega))
  obtain ⟨hb2, hy⟩ := sums_in (show [DV.sl none 0 y, .n b2] = SumsF (.sl none 0 b) from hy1) (ow_sumsOk hv2 hb (by omega))
  obtain ⟨hb3, hz⟩ := sums_in (show [DV.sl none 0 z, .n b3] = SumsF (.sl none 0 o) from hz1) (ow_sumsOk hvC ho (by omega))
  rw [show (DV.sl none 0 a).len.toNat = n by omega] at hx
  rw [show (DV.sl none 0 b).len.toNat = n by omega] at hy
  rw [show (DV.sl none 0 o).len.toNat = n by omega] at hz
  have lx : (DV.sl none 0 x).len = n := by rw [hx]; exact gLen _ (by omega)
  have ly : (DV.sl none 0 y).len = n := by rw [hy]; exact gLen _ (by omega)
  have lz : (DV.sl none 0 z).len = n := by rw [hz]; exact gLen _ (by omega)
  refine res_ite (fun u => ?_) fun _ => ?_
  · have u : (b1 = 0 ∨ b2 = 0) ∨ b3 = 0 := u
    omega
  refine res_lop rfl (show (0 : Int) ≤ (DV.sl none 0 z).len by omega) (fun k k0 k1 hk => ?_)
  have hk : k ≤ (DV.sl none 0 z).len := hk
  refine res_ite (fun hlt => ?_) fun _ => rfl
  have hlt : k < (DV.sl none 0 z).len := hlt
  have ek : ((k.toNat : Nat) : Int) = k := by omega
  have hkn : k.toNat < n := by omega
  have px := ow_pre hv ha hkn
  have py := ow_pre hv2 hb hkn
  have pz := ow_pre hvC ho hkn
  have bx := unt_bound hv k.toNat
  have by' := unt_bound hv2 k.toNat
  have bz := unt_bound hvC k.toNat
  have ax := gAt (preF (.sl none 0 a)) (n := n) (k := k.toNat) hkn (by omega) (by omega)
  have ay := gAt (preF (.sl none 0 b)) (n := n) (k := k.toNat) hkn (by omega) (by omega)
  have az := gAt (preF (.sl none 0 o)) (n := n) (k := k.toNat) hkn (by omega) (by omega)
  rw [← hx, ek, px] at ax
  rw [← hy, ek, py] at ay
  rw [← hz, ek, pz] at az
  have hb := unt_both hv hv2 hvC (by omega) (by omega) eC k.toNat
  have w1 : IntKind.i64.wrap ((DV.sl none 0 x).at k 0 + (DV.sl none 0 y).at k 0) = untF w (.sl none 0 p) k.toNat + untF w (.sl none 0 q) k.toNat := by rw [ax, ay]; exact wI (by omega) (by omega)
  have w2 : IntKind.i64.wrap (IntKind.i64.wrap ((DV.sl none 0 x).at k 0 + (DV.sl none 0 y).at k 0) + 1) = untF w (.sl none 0 p) k.toNat + untF w (.sl none 0 q) k.toNat + 1 := by rw [w1]; exact wI (by omega) (by omega)
  have mea : ((DV.sl none 0 z).len - (k + 1)).toNat < ((DV.sl none 0 z).len - k).toNat := by omega
  have prek : k + 1 ≤ (DV.sl none 0 z).len := by omega
  have bad : ¬ (¬ (DV.sl none 0 z).at k 0 = IntKind.i64.wrap ((DV.sl none 0 x).at k 0 + (DV.sl none 0 y).at k 0) ∧ ¬ (DV.sl none 0 z).at k 0 = IntKind.i64.wrap (IntKind.i64.wrap ((DV.sl none 0 x).at k 0 + (DV.sl none 0 y).at k 0) + 1)) := by
    rw [w2, w1, az]; omega
  refine res_both (res_ok (show 0 ≤ k ∧ k < (DV.sl none 0 x).len by omega) (res_ok (show 0 ≤ k ∧ k < (DV.sl none 0 y).len by omega) ?_)) (res_ok (show 0 ≤ k ∧ k < (DV.sl none 0 y).len by omega) (res_ok (show 0 ≤ k ∧ k < (DV.sl none 0 x).len by omega) ?_))
  · exact res_ite (fun u => absurd u bad) fun _ => res_chk rfl prek mea
  · exact res_ite (fun u => absurd u bad) fun _ => res_chk rfl prek mea
end Go.Proofs.Ytcidomlhmdefaaa
