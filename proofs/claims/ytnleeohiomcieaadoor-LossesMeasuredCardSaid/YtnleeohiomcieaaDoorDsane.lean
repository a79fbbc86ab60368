/- DERIVED. What sane answers. -/
import Derived.Test.YtnleeohiomcieaaDoorDsp
import Derived.Test.YtnleeohiomcieaaDoorDctc
import Derived.Test.YtnleeohiomcieaaDoorDtsane
import Derived.Test.YtnleeohiomcieaaDoorDlaw
import Derived.Test.YtnleeohiomcieaaDoorRows
import Derived.KernelRfl
import Derived.OpenShut
namespace Go.Proofs.YtnleeohiomcieaaDoor
open Go.Dx
set_option linter.unusedVariables false
set_option linter.unusedSimpArgs false
theorem EvapP.fine {s : Svy} {dl : Int} {y : List DV} (h : EvapP s dl y) (k : ¬ Long s) (l : RightS s) (m : Dly dl) : (eHs s dl < eLs s dl → y = [.n 0, .n 0, .n 210]) ∧ (¬ eHs s dl < eLs s dl → y = [.n (eLs s dl), .n (eHs s dl), .n 0]) := h.2.2.2 k l m
theorem SeepP.fine {s : Svy} {dl : Int} {y : List DV} (h : SeepP s dl y) (k : ¬ Long s) (l : RightS s) (m : Dly dl) : (sHs s dl < sLs s dl → y = [.n 0, .n 0, .n 0, .n 0, .n 210]) ∧ (¬ sHs s dl < sLs s dl → y = [.n (mN (sLs s dl)), .n (mD (sLs s dl)), .n (mN (sHs s dl)), .n (mD (sHs s dl)), .n 0]) := h.2.2.2 k l m
theorem val_of {n d : Int} (h1 : 1 ≤ d) (h2 : d ≤ 1073741824) (h3 : -1073741824 ≤ n) (h4 : n ≤ 1073741824) (h5 : gcdI n d = 1) : Val n d := ⟨h1, h2, h3, h4, h5⟩
def sv0 : Svy := { su := 100, so := 1, n0 := 1, d0 := 2, n1 := 1, d1 := 1, pa := DV.sl none 0 [[DV.n 24, DV.n 48]], po := DV.sl none 0 [[DV.n 1048576, DV.n 2, DV.n 256, DV.n 4096]] }
def sv1 : Svy := { su := 0, so := 0, n0 := 0, d0 := 0, n1 := 0, d1 := 0, pa := DV.sl none 0 [], po := DV.sl none 0 [] }
def rc0 : Rch := { el := 1, eh := 2, n0 := 0, d0 := 1, n1 := 1, d1 := 10 }
def rc1 : Rch := { el := 0, eh := 0, n0 := 1, d0 := 1, n1 := 1, d1 := 1 }
theorem sv0_long : ¬ Long sv0 := fun h => by
  rcases h with h | h
  · exact absurd h (by decide +kernel)
  · exact absurd h (by decide +kernel)
theorem sv1_long : ¬ Long sv1 := fun h => by
  rcases h with h | h
  · exact absurd h (by decide +kernel)
  · exact absurd h (by decide +kernel)
theorem sv0_right : RightS sv0 := by
  refine ⟨⟨⟨⟨by decide, by decide⟩, by decide, by decide⟩, ⟨val_of (by decide) (by decide) (by decide) (by decide) (by decide +kernel), val_of (by decide) (by decide) (by decide) (by decide) (by decide +kernel), by decide, by decide, by decide⟩, by decide, by decide⟩, fun k h0 h1 => ?_, fun k h0 h1 => ?_⟩
  · have e : sv0.pa.len = 1 := by decide +kernel
    obtain rfl : k = 0 := by omega
    exact ⟨⟨by decide +kernel, by decide +kernel⟩, by decide +kernel⟩
  · have e : sv0.po.len = 1 := by decide +kernel
    obtain rfl : k = 0 := by omega
    exact ⟨⟨⟨by decide +kernel, by decide +kernel⟩, by decide +kernel, by decide +kernel⟩, ⟨by decide +kernel, by decide +kernel⟩, by decide +kernel⟩
theorem sv1_right : ¬ RightS sv1 := fun h => absurd h.1.2.1.1.1 (by decide)
theorem rc0_ok : OkR rc0 := ⟨⟨by decide, by decide, by decide⟩, val_of (by decide) (by decide) (by decide) (by decide) (by decide +kernel), val_of (by decide) (by decide) (by decide) (by decide) (by decide +kernel), by decide, by decide, by decide⟩
theorem rc1_ok : OkR rc1 := ⟨⟨by decide, by decide, by decide⟩, val_of (by decide) (by decide) (by decide) (by decide) (by decide +kernel), val_of (by decide) (by decide) (by decide) (by decide) (by decide +kernel), by decide, by decide, by decide⟩
theorem cSane_ok (N : Nat) (w0 : World) : ConOk Tryd.prog tb N w0 (lawCon 11 []) := trueCon_ok fun w hG => by
  refine law_of_walk (tb := tb) (P := Tryd.prog) fine (C := [cEvap 13, cSeep 15, cLostX 17, cWayX 19 false, cWayX 21 true, cNeed 23 false, cNeed 25 true, cMost 27]) (conCons cEvap_ok (conCons cSeep_ok (conCons cLostX_ok (conCons cWorstX_ok (conCons cBestX_ok (conCons cNeedW_ok (conCons cNeedB_ok (conCons cMost_ok noCon)))))))) 400 11 [] rfl (w := w) hG (xs := []) (vs := []) (by simp only [ArgsV]) ?_
  rw [tree_sane]
  simp only [T.res, B.prop, E.den, E.dat, E.top, E.val, E.isD, DV.canon, DV.int, DOp.fn, chunk, List.getElem?_cons_zero, List.getElem?_cons_succ, List.getD_cons_zero, List.getD_cons_succ, List.getD_nil, List.map_cons, List.map_nil, List.cons_append, List.nil_append, allB, resB, resL', RSh.l, RC.vd, List.flatMap_cons, List.flatMap_nil, List.append_nil, List.length_cons, List.length_nil, Nat.zero_add, Nat.reduceAdd, List.take_succ_cons, List.take_zero, List.drop_succ_cons, List.drop_zero, rch, svy, ev, dv, cEvap, cSeep, cLostX, cWayX, cNeed, cMost]
  refine ⟨trivial, fun a1 _ _ a2 _ _ a3 _ _ ha => ⟨trivial, fun b1 _ _ b2 _ _ b3 _ _ b4 _ _ b5 _ _ hb => ⟨trivial, fun c1 _ _ c2 _ _ c3 _ _ hc => ⟨trivial, fun d1 _ _ d2 _ _ d3 _ _ d4 _ _ d5 _ _ hd => ?_⟩⟩⟩⟩
  have ha := (EvapP.fine (s := sv0) ha sv0_long sv0_right ⟨by decide, by decide⟩).2 (by decide +kernel)
  have hb := (SeepP.fine (s := sv0) hb sv0_long sv0_right ⟨by decide, by decide⟩).2 (by decide +kernel)
  have hc : [DV.n c1, DV.n c2, DV.n c3] = [.n 0, .n 0, .n 210] := hc.2.1 sv1_long sv1_right
  have hd : [DV.n d1, DV.n d2, DV.n d3, DV.n d4, DV.n d5] = [.n 0, .n 0, .n 0, .n 0, .n 1] := hd.2.2.1 sv0_long sv0_right fun q => absurd q.1 (by decide)
  rw [show eLs sv0 1 = 5 by decide +kernel, show eHs sv0 1 = 20 by decide +kernel] at ha
  rw [show mN (sLs sv0 1) = 1 by decide +kernel, show mD (sLs sv0 1) = 8192 by decide +kernel, show mN (sHs sv0 1) = 1 by decide +kernel, show mD (sHs sv0 1) = 2048 by decide +kernel] at hb
  simp only [List.cons.injEq, DV.n.injEq, and_true] at ha hb hc hd
  obtain ⟨rfl, rfl, rfl⟩ := ha
  obtain ⟨rfl, rfl, rfl, rfl, rfl⟩ := hb
  obtain ⟨rfl, rfl, rfl⟩ := hc
  obtain ⟨rfl, rfl, rfl, rfl, rfl⟩ := hd
  refine ⟨fun k => absurd k (by decide), fun _ => ⟨trivial, fun e1 _ _ e2 _ _ e3 _ _ he => ⟨trivial, fun f1 _ _ f2 _ _ hf => ⟨trivial, fun g1 _ _ g2 _ _ hg => ⟨trivial, fun h1 _ _ h2 _ _ h3 _ _ hh => ⟨trivial, fun i1 _ _ i2 _ _ i3 _ _ hi => ⟨trivial, fun j1 _ _ j2 _ _ hj => ⟨trivial, fun k1 _ _ k2 _ _ hk => ⟨trivial, fun l1 _ _ l2 _ _ l3 _ _ hl => ?_⟩⟩⟩⟩⟩⟩⟩⟩⟩
  have l15 : Lit 15 := ⟨by decide, by decide⟩
  have l11 : Lit 11 := ⟨by decide, by decide⟩
  have he : [DV.n e1, DV.n e2, DV.n e3] = [.n (loF rc0 15), .n (hiF rc0 15), .n 0] := he.2.2 rc0_ok l15
  have hf : [DV.n f1, DV.n f2] = [.n (worst rc0 15), .n 0] := hf.2.2 rc0_ok l15
  have hg : [DV.n g1, DV.n g2] = [.n (best rc0 15), .n 0] := hg.2.2 rc0_ok l15
  have hk : [DV.n k1, DV.n k2] = [.n 0, .n 1] := hk.2.1 rc0_ok fun q => absurd q.1 (by decide)
  rw [show loF rc0 15 = 1 by decide +kernel, show hiF rc0 15 = 4 by decide +kernel] at he
  rw [show worst rc0 15 = 11 by decide +kernel] at hf
  rw [show best rc0 15 = 14 by decide +kernel] at hg
  simp only [List.cons.injEq, DV.n.injEq, and_true] at he hf hg hk
  obtain ⟨rfl, rfl, rfl⟩ := he
  obtain ⟨rfl, rfl⟩ := hf
  obtain ⟨rfl, rfl⟩ := hg
  obtain ⟨rfl, rfl⟩ := hk
  have hn : h1 = 15 ∧ h2 = 1 ∧ h3 = 0 := by
    rcases need_in (r := rc0) hh with ⟨q, _⟩ | ⟨_, q, _⟩ | ⟨_, _, e, L, ls, q⟩
    · exact absurd rc0_ok q
    · exact absurd l11 q
    · have a := lst_iff ls (v := 15) l15
      have b := lst_iff ls (v := 14) ⟨by decide, by decide⟩
      rw [show wayF false rc0 15 = 11 by decide +kernel] at a
      rw [show wayF false rc0 14 = 10 by decide +kernel] at b
      omega
  have hr : i1 = 12 ∧ i2 = 1 ∧ i3 = 0 := by
    rcases need_in (r := rc0) hi with ⟨q, _⟩ | ⟨_, q, _⟩ | ⟨_, _, e, L, ls, q⟩
    · exact absurd rc0_ok q
    · exact absurd l11 q
    · have a := lst_iff ls (v := 12) ⟨by decide, by decide⟩
      have b := lst_iff ls (v := 11) l11
      rw [show wayF true rc0 12 = 11 by decide +kernel] at a
      rw [show wayF true rc0 11 = 10 by decide +kernel] at b
      omega
  have hm : j1 = 15 ∧ j2 = 0 := by
    rcases most_in (r := rc0) hj with ⟨q, _⟩ | ⟨_, q, _⟩ | ⟨_, _, e, L, ls, q⟩
    · exact absurd rc0_ok q
    · exact absurd l11 q
    · have a := lst_iff ls (v := 16) ⟨by decide, by decide⟩
      have b := lst_iff ls (v := 15) l15
      rw [show wayF false rc0 16 = 12 by decide +kernel] at a
      rw [show wayF false rc0 15 = 11 by decide +kernel] at b
      omega
  have hz : l2 = 0 ∧ l3 = 0 := by
    rcases need_in (r := rc1) hl with ⟨q, _⟩ | ⟨_, q, _⟩ | ⟨_, _, e, L, ls, q⟩
    · exact absurd rc1_ok q
    · exact absurd ⟨by decide, by decide⟩ q
    · have a := lst_iff ls (v := 1073741824) ⟨by decide, by decide⟩
      rw [show wayF false rc1 1073741824 = 0 by decide +kernel] at a
      omega
  obtain ⟨rfl, rfl, rfl⟩ := hn
  obtain ⟨rfl, rfl, rfl⟩ := hr
  obtain ⟨rfl, rfl⟩ := hm
  obtain ⟨rfl, rfl⟩ := hz
  exact ⟨fun k => absurd k (by decide), fun _ => ⟨fun _ => trivial, fun k => absurd (by decide) k⟩⟩
/-- What the row's list says of the package-level variable. -/
theorem glb {W : World} (h : laidMet Tryd.prog [("acequia/losses.soils", Rows.laid_acequia_losses_soils)] W) : Glb tb W :=
  glb_of_laid (P := Tryd.prog) (tb := tb) h ⟨⟨67, [i64s, i64s, i64s, i64s, i64s, i64s, i64s, i64s, i64s, i64s, i64s, i64s], by kernel_rfl, by kernel_rfl, by kernel_rfl, by kernel_rfl, by kernel_rfl⟩, trivial⟩
set_option maxRecDepth 100000 in
/-- A reach that comes as an argument. -/
theorem reach_arg {H : Type} {enc : TypeId × Value → H} {w : World} {base : Nat} {spare : Nat → Bool} {held : Bool} {r : Reach} {b0 : Nat} {v : Value} {d : DataW H} {p : List MemPlace}
    (hv : Value.okWide Tryd.prog w r b0 40 v) (h : DataW.Trod enc Tryd.prog w base spare held 40 v d p) : ReachA w v := by
  obtain ⟨ds, rfl, hs, _⟩ := open_agg_arg (P := Tryd.prog) (tb := tb) (f := 20) (row := reach) (by kernel_rfl) Tryd.underlying40 hv h
  exact reach_of hs
theorem int_arg {a : Int} (h : (Go.Lit.int .i64 a).wf = true) : IntA (.int .i64 a) := by
  refine ⟨a, rfl, ?_⟩
  simp [Go.Lit.wf, IntKind.min, IntKind.max, IntKind.signed, IntKind.bits] at h
  exact ⟨by omega, by omega⟩
end Go.Proofs.YtnleeohiomcieaaDoor
