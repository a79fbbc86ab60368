/- DERIVED. The examples, reckoned. -/
import Derived.Test.YtdhdpgdifphfkaaEctd
import Derived.Test.YtdhdpgdifphfkaaEtreee
import Derived.Test.YtdhdpgdifphfkaaEtreef
import Derived.OpenShut
namespace Go.Proofs.Ytdhdpgdifphfkaa
open Go.Dx Go.RowKit
set_option linter.unusedVariables false
set_option linter.unusedSimpArgs false
theorem pad_len {b : List Int} (h : b.length ≤ 128) : (padL b).length = 128 := by
  unfold padL
  rw [List.length_append, List.length_take, List.length_replicate]; omega
theorem run_write {s : Sec} {p : Pen} {l t k : Int} {b : List Int} (h : runD (s, p, l, t)) (hk : inD (s, p, l, t) k) (hb : b.length ≤ 128) (n : ¬ p.length = 4096) : runD (s, p ++ [(k, padL b)], l, t) := by
  obtain ⟨⟨⟨h1, h2, h3⟩, h4, h5⟩, h6⟩ := h
  refine ⟨⟨⟨h1, ?_, h3⟩, h4, fun x hx => ?_⟩, h6⟩
  · simp only [List.length_append, List.length_cons, List.length_nil] at h2 ⊢
    omega
  · rcases List.mem_append.1 hx with m | m
    · exact h5 x m
    · rw [List.mem_singleton.1 m]; exact ⟨hk, pad_len hb⟩
theorem run_stop {s : Sec} {p : Pen} {l t m : Int} (h : runD (s, p, l, t)) (hm : 0 ≤ m ∧ m ≤ 65536) : runD (s, p, m, t) := by
  obtain ⟨⟨⟨h1, h2, h3⟩, h4, h5⟩, h6⟩ := h
  exact ⟨⟨⟨h1, h2, by simp only; omega, hm.2⟩, h4, h5⟩, h6⟩
theorem run_res {s : Sec} {p : Pen} {l t : Int} (h : okD (s, p, l, t)) : runD (s, [], -1, 0) := by
  obtain ⟨⟨h1, h2, h3⟩, h4, h5⟩ := h
  exact ⟨⟨⟨h1, by simp, by simp⟩, h4, fun x hx => (by cases hx)⟩, rfl⟩
theorem byte_at {z : List (List DV)} (h : HasSh bytes (.sl none 0 z)) {k : Int} (h0 : 0 ≤ k) (h1 : k < z.length) : (numsOf z).getD k.toNat 0 = (DV.sl none 0 z).at k 0 := by
  have h2 : k.toNat < z.length := by omega
  simp only [HasSh, DV.els] at h
  have he := h.2 _ (List.getElem_mem h2)
  have e0 : (DV.sl none 0 z).els.getD k.toNat [] = z[k.toNat] := by
    show z.getD k.toNat [] = _
    rw [List.getD_eq_getElem?_getD, List.getElem?_eq_getElem h2]; rfl
  rw [List.getD_eq_getElem?_getD]
  show ((z.map _)[k.toNat]?).getD 0 = (((DV.sl none 0 z).els.getD k.toNat []).getD 0 (.n 0)).cint
  rw [List.getElem?_map, List.getElem?_eq_getElem h2, e0]
  match z[k.toNat], he with
  | [a], he =>
    simp only [HasShs, HasSh, and_true] at he
    obtain ⟨x, rfl, hx, _⟩ := he
    exact (clampB_i64 (x := x) (by omega) (by omega)).symm
  | [], he => simp [HasShs] at he
  | _ :: _ :: _, he => simp [HasShs] at he
set_option maxRecDepth 100000 in
theorem dbl_as (c : Int) : numsOf (((List.replicate (128 : Int).toNat [DV.n 0]).modify (0 : Int).toNat fun e => layG e 0 [.n c]).modify (64 : Int).toNat fun e => layG e 0 [.n c]) = dblL c := by
  rfl
set_option maxRecDepth 100000 in
theorem cDbl_ok (N : Nat) (w0 : World) : ConOk Try.prog tb N w0 cDbl := by
  refine con_of_walk (tb := tb) fine (C := []) noCon 120 rfl ?_ N w0
  refine fun c _ _ _ => ?_
  rw [tree_dbl]
  refine res_dat (.sl none 0 (List.replicate (128 : Int).toNat [.n 0])) (by kernel_rfl) ?_
  refine res_dat (.sl none 0 ((List.replicate (128 : Int).toNat [.n 0]).modify (0 : Int).toNat fun e => layG e 0 [.n c])) (by kernel_rfl) ?_
  refine res_dat (.sl none 0 (((List.replicate (128 : Int).toNat [.n 0]).modify (0 : Int).toNat fun e => layG e 0 [.n c]).modify (64 : Int).toNat fun e => layG e 0 [.n c])) (by kernel_rfl) ?_
  exact cv (dbl_as c) (by kernel_rfl)
abbrev dk (S P : List (List DV)) (l t : Int) : D4 := (secs (.sl none 0 S), pens (.sl none 0 P), l, t)
theorem d5_in {d d' : D4} {e e' : Int} (h : ((d, e) : D4 × Int) = (d', e')) : d = d' ∧ e = e' := ⟨(Prod.mk.inj h).1, (Prod.mk.inj h).2⟩
theorem b5_in {d d' : List Int} {e e' : Int} (h : ((d, e) : List Int × Int) = (d', e')) : d = d' ∧ e = e' := ⟨(Prod.mk.inj h).1, (Prod.mk.inj h).2⟩
def s7 : List Int := padL [7]
def s8 : List Int := padL (dblL 8)
def x2 : D4 := ([zero128, zero128], [], -1, 0)
set_option maxRecDepth 100000 in
theorem x2_run : runD x2 := by
  refine ⟨⟨⟨⟨by decide, by decide⟩, by decide, by decide⟩, fun s hs => ?_, fun p hp => (by cases hp)⟩, rfl⟩
  have hs : s ∈ [zero128, zero128] := hs
  simp only [List.mem_cons, List.not_mem_nil, or_false, or_self] at hs
  rw [hs]; rfl
set_option maxRecDepth 100000 in
theorem dbl_len : (dblL 8).length = 128 := rfl
set_option maxRecDepth 100000 in
theorem sane_walk (w : World) (hG : Glb tb w) : Calls Try.prog 10 #[] w fun e w' => e = .returned (.bool true) ∧ Below w.heap.size w w' := by
  refine law_of_walk (tb := tb) (P := Try.prog) fine (C := [cNew 12, cWrite 19, cRead 21, cStop 25, cSync 23, cRes 17, cChk 15, cDbl]) (conCons cNew_ok (conCons cWrite_ok (conCons cRead_ok (conCons cStop_ok (conCons cSync_ok (conCons cRes_ok (conCons cChk_ok (conCons cDbl_ok noCon)))))))) 400 10 [] rfl (w := w) hG (xs := []) (by simp [ArgsV]) ?_
  rw [tree_sane]
  have in2 : ∀ k, 0 ≤ k → k < 2 → inD x2 k := fun k a b => ⟨a, b⟩
  refine res_con rfl trivial (fun S0 _ P0 _ l0 _ _ t0 _ _ e0 _ _ h0 => ?_)
  have h0 := (d5_in ((cv h0 (by kernel_rfl : _ = (((dk S0 P0 l0 t0, e0) : D4 × Int) = newQ 0))).trans (new_no (by decide)).symm)).2
  refine res_con rfl trivial (fun S1 hS1 P1 hP1 l1 _ _ t1 _ _ e1 _ _ h1 => ?_)
  obtain ⟨d1, h1⟩ := d5_in ((cv h1 (by kernel_rfl : _ = (((dk S1 P1 l1 t1, e1) : D4 × Int) = newQ 2))).trans (new_yes (by decide)).symm)
  have d1 : dk S1 P1 l1 t1 = x2 := d1
  refine res_dat (.sl none 0 [[.n 7]]) (by kernel_rfl) (res_con rfl trivial (fun S2 hS2 P2 hP2 l2 _ _ t2 _ _ e2 _ _ h2 => ?_))
  have h2 := cv h2 (by kernel_rfl : _ = (((dk S2 P2 l2 t2, e2) : D4 × Int) = writeQ (dk S1 P1 l1 t1) 1 [7]))
  rw [d1] at h2
  obtain ⟨d2, h2⟩ := d5_in (h2.trans (write_yes ⟨x2_run, in2 1 (by decide) (by decide)⟩ (by decide) (by decide)).symm)
  have d2 : dk S2 P2 l2 t2 = ([zero128, zero128], [(1, s7)], -1, 0) := d2
  have r2 : runD ([zero128, zero128], [(1, s7)], -1, 0) := run_write (b := [7]) x2_run (in2 1 (by decide) (by decide)) (by decide) (by decide)
  refine res_con rfl trivial (fun b3 hb3 e3 _ _ h3 => ?_)
  have h3 := cv h3 (by kernel_rfl : _ = (((numsOf b3, e3) : List Int × Int) = readQ (dk S2 P2 l2 t2) 1))
  rw [d2] at h3
  obtain ⟨b3e, h3⟩ := b5_in (h3.trans (read_yes ⟨r2, in2 1 (by decide) (by decide)⟩).symm)
  have b3e : numsOf b3 = s7 := b3e
  refine res_con rfl trivial (fun b4 hb4 e4 _ _ h4 => ?_)
  have h4 := cv h4 (by kernel_rfl : _ = (((numsOf b4, e4) : List Int × Int) = readQ (dk S1 P1 l1 t1) 2))
  rw [d1] at h4
  have h4 := (b5_in (h4.trans (read_no fun m => by have := m.2.2; exact absurd this (by decide)).symm)).2
  refine res_dat (.sl none 0 (List.replicate (129 : Int).toNat [.n 0])) (by kernel_rfl) (res_con rfl trivial (fun S5 _ P5 _ l5 _ _ t5 _ _ e5 _ _ h5 => ?_))
  have h5 := cv h5 (by kernel_rfl : _ = (((dk S5 P5 l5 t5, e5) : D4 × Int) = writeQ (dk S1 P1 l1 t1) 0 (numsOf (List.replicate (129 : Int).toNat [.n 0]))))
  rw [d1] at h5
  have h5 := (d5_in (h5.trans (write_arg ⟨x2_run, in2 0 (by decide) (by decide)⟩ (by rw [numsOf, List.length_map, List.length_replicate]; decide)).symm)).2
  refine res_con rfl trivial (fun S6 hS6 P6 hP6 l6 _ _ t6 _ _ e6 _ _ h6 => ?_)
  have h6 := cv h6 (by kernel_rfl : _ = (((dk S6 P6 l6 t6, e6) : D4 × Int) = stopQ (dk S2 P2 l2 t2) 1))
  rw [d2] at h6
  obtain ⟨d6, h6⟩ := d5_in (h6.trans (stop_yes r2 (by decide)).symm)
  have d6 : dk S6 P6 l6 t6 = ([zero128, zero128], [(1, s7)], 1, 0) := d6
  have r6 : runD ([zero128, zero128], [(1, s7)], 1, 0) := run_stop r2 (by decide)
  refine res_con rfl trivial (fun b7 hb7 h7 => ?_)
  have h7 : numsOf b7 = dblL 8 := cv h7 (by kernel_rfl)
  refine res_con rfl trivial (fun S8 hS8 P8 hP8 l8 _ _ t8 _ _ e8 _ _ h8 => ?_)
  have h8 := cv h8 (by kernel_rfl : _ = (((dk S8 P8 l8 t8, e8) : D4 × Int) = writeQ (dk S6 P6 l6 t6) 0 (numsOf b7)))
  rw [d6, h7] at h8
  obtain ⟨d8, h8⟩ := d5_in (h8.trans (write_yes ⟨r6, in2 0 (by decide) (by decide)⟩ (by rw [dbl_len]; decide) (by decide)).symm)
  have d8 : dk S8 P8 l8 t8 = ([zero128, zero128], [(1, s7), (0, s8)], 1, 0) := d8
  have r8 : runD ([zero128, zero128], [(1, s7), (0, s8)], 1, 0) := run_write (b := dblL 8) r6 (in2 0 (by decide) (by decide)) (by rw [dbl_len]; decide) (by decide)
  refine res_con rfl trivial (fun S9 hS9 P9 hP9 l9 _ _ t9 _ _ e9 _ _ h9 => ?_)
  have h9 := cv h9 (by kernel_rfl : _ = (((dk S9 P9 l9 t9, e9) : D4 × Int) = syncQ (dk S8 P8 l8 t8)))
  rw [d8] at h9
  obtain ⟨d9, h9⟩ := d5_in (h9.trans (sync_stop r8 (by decide)).symm)
  have d9 : dk S9 P9 l9 t9 = ([s8.take 64 ++ zero128.drop 64, s7], [], 0, 1) := d9
  have t9e : t9 = 1 := congrArg (fun d : D4 => d.2.2.2) d9
  refine res_ite (fun k => ?_) fun _ => ?_
  · have k : ((((((((¬ e0 = 1 ∨ ¬ e1 = 0) ∨ ¬ e2 = 0) ∨ ¬ e3 = 0) ∨ ¬ e4 = 40) ∨ ¬ e5 = 1) ∨ ¬ e6 = 0) ∨ ¬ e8 = 0) ∨ ¬ e9 = 40) ∨ t9 = 0 := cv k (by kernel_rfl)
    omega
  refine res_con rfl trivial (fun Sa hSa Pa hPa la _ _ ta _ _ ha => ?_)
  have ha := cv ha (by kernel_rfl : _ = (dk Sa Pa la ta = resQ (dk S9 P9 l9 t9)))
  rw [d9] at ha
  have ra : runD ([s8.take 64 ++ zero128.drop 64, s7], [], -1, 0) := by
    refine ⟨⟨⟨⟨by decide, by decide⟩, by decide, by decide⟩, fun s hs => ?_, fun p hp => (by cases hp)⟩, rfl⟩
    have hs : s ∈ [s8.take 64 ++ zero128.drop 64, s7] := hs
    simp only [List.mem_cons, List.not_mem_nil, or_false] at hs
    rcases hs with hs | hs <;> rw [hs] <;> rfl
  have ha : dk Sa Pa la ta = ([s8.take 64 ++ zero128.drop 64, s7], [], -1, 0) := ha
  refine res_con rfl trivial (fun bb hbb eb _ _ hb => ?_)
  have hb := cv hb (by kernel_rfl : _ = (((numsOf bb, eb) : List Int × Int) = readQ (dk Sa Pa la ta) 1))
  rw [ha] at hb
  obtain ⟨bbe, hb⟩ := b5_in (hb.trans (read_yes ⟨ra, ⟨by decide, by decide⟩⟩).symm)
  have bbe : numsOf bb = s7 := bbe
  refine res_con rfl trivial (fun bc hbc ec _ _ hc => ?_)
  have hc := cv hc (by kernel_rfl : _ = (((numsOf bc, ec) : List Int × Int) = readQ (dk Sa Pa la ta) 0))
  rw [ha] at hc
  obtain ⟨bce, hc⟩ := b5_in (hc.trans (read_yes ⟨ra, ⟨by decide, by decide⟩⟩).symm)
  have bce : numsOf bc = s8.take 64 ++ zero128.drop 64 := bce
  refine res_con rfl trivial (fun Sd hSd Pd hPd ld _ _ td _ _ hd => ?_)
  have hd := cv hd (by kernel_rfl : _ = (dk Sd Pd ld td = resQ (dk S2 P2 l2 t2)))
  rw [d2] at hd
  have hd : dk Sd Pd ld td = x2 := hd
  refine res_con rfl trivial (fun bf hbf ef _ _ hf => ?_)
  have hf := cv hf (by kernel_rfl : _ = (((numsOf bf, ef) : List Int × Int) = readQ (dk Sd Pd ld td) 1))
  rw [hd] at hf
  obtain ⟨bfe, hf⟩ := b5_in (hf.trans (read_yes ⟨x2_run, in2 1 (by decide) (by decide)⟩).symm)
  have bfe : numsOf bf = zero128 := bfe
  have l3 : b3.length = 128 := by have := congrArg List.length b3e; rw [numsOf, List.length_map] at this; exact this
  have lb : bb.length = 128 := by have := congrArg List.length bbe; rw [numsOf, List.length_map] at this; exact this
  have lc : bc.length = 128 := by have := congrArg List.length bce; rw [numsOf, List.length_map] at this; exact this
  have lf : bf.length = 128 := by have := congrArg List.length bfe; rw [numsOf, List.length_map] at this; exact this
  have v3 := byte_at hb3 (k := 0) (by decide) (by omega)
  have vb := byte_at hbb (k := 0) (by decide) (by omega)
  have vc := byte_at hbc (k := 0) (by decide) (by omega)
  have vc2 := byte_at hbc (k := 64) (by decide) (by omega)
  have vf := byte_at hbf (k := 0) (by decide) (by omega)
  rw [b3e] at v3
  rw [bbe] at vb
  rw [bce] at vc vc2
  rw [bfe] at vf
  have v3 : (7 : Int) = (DV.sl none 0 b3).at 0 0 := v3
  have vb : (7 : Int) = (DV.sl none 0 bb).at 0 0 := vb
  have vc : (8 : Int) = (DV.sl none 0 bc).at 0 0 := vc
  have vc2 : (0 : Int) = (DV.sl none 0 bc).at 64 0 := vc2
  have vf : (0 : Int) = (DV.sl none 0 bf).at 0 0 := vf
  have n3 := len_of hb3 (Nat.le_refl _)
  have nb := len_of hbb (Nat.le_refl _)
  have nc := len_of hbc (Nat.le_refl _)
  have nf := len_of hbf (Nat.le_refl _)
  refine res_ite (fun _ => ?_) fun k => absurd (cv (⟨⟨⟨⟨⟨⟨⟨⟨⟨⟨⟨hb, hc⟩, hf⟩, by omega⟩, v3.symm⟩, by omega⟩, vb.symm⟩, by omega⟩, vc.symm⟩, vc2.symm⟩, by omega⟩, vf.symm⟩ : ((((((((((eb = 0 ∧ ec = 0) ∧ ef = 0) ∧ (DV.sl none 0 b3).len = 128) ∧ (DV.sl none 0 b3).at 0 0 = 7) ∧ (DV.sl none 0 bb).len = 128) ∧ (DV.sl none 0 bb).at 0 0 = 7) ∧ (DV.sl none 0 bc).len = 128) ∧ (DV.sl none 0 bc).at 0 0 = 8) ∧ (DV.sl none 0 bc).at 64 0 = 0) ∧ (DV.sl none 0 bf).len = 128) ∧ (DV.sl none 0 bf).at 0 0 = 0) (by kernel_rfl)) k
  refine res_dat (.sl none 0 []) rfl (res_dat (.sl none 0 []) rfl (res_con rfl trivial (fun c _ _ hc' => ?_)))
  have hc' := (chk_in (cv hc' (by kernel_rfl : _ = ([DV.n c] = [.n (chkF nil4)])))).resolve_left fun m => by have := m.2.1.1.1; exact absurd this (by decide)
  refine res_ite (fun _ => ?_) fun k => absurd (cv hc'.1 (by kernel_rfl)) k
  refine res_dat (.sl none 0 []) rfl (res_dat (.sl none 0 []) rfl (res_con rfl trivial (fun Sg _ Pg _ lg _ _ tg _ _ hg => ?_)))
  have hg := cv hg (by kernel_rfl : _ = (dk Sg Pg lg tg = resQ nil4))
  have hg : lg = -1 := congrArg (fun d : D4 => d.2.2.1) hg
  exact res_ite (fun _ => rfl) fun k => absurd (cv hg (by kernel_rfl)) k
theorem cSane_ok (N : Nat) (w0 : World) : ConOk Try.prog tb N w0 (lawCon 10 []) := trueCon_ok sane_walk
end Go.Proofs.Ytdhdpgdifphfkaa
