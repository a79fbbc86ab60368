/- DERIVED. What happens: the contract, proved. -/
import Derived.Test.YtmphcgafegmheaaDcte
import Derived.Test.YtmphcgafegmheaaDtreed
namespace Go.Proofs.Ytmphcgafegmheaa
open Go.Dx
set_option linter.unusedVariables false
set_option linter.unusedSimpArgs false
section
variable {k : Int} {q : List P3} {a : List (Int × Int)} {i x y d : Int} {n : Net} {p : P3}
theorem hap_0 (hk : k = 0) (h : n = sendQ q a (x, y, [d])) : hapR k q a i x y d n zero := ⟨fun _ => ⟨rfl, h⟩, fun e => by omega, fun e => by omega, fun e => by omega, fun e => by omega, fun e => by omega⟩
theorem hap_1 (hk : k = 1) (h : (p, n) = delQ q a i) : hapR k q a i x y d n p := ⟨fun e => by omega, fun _ => h, fun e => by omega, fun e => by omega, fun e => by omega, fun e => by omega⟩
theorem hap_2 (hk : k = 2) (h : n = losQ q a i) : hapR k q a i x y d n zero := ⟨fun e => by omega, fun e => by omega, fun _ => ⟨rfl, h⟩, fun e => by omega, fun e => by omega, fun e => by omega⟩
theorem hap_3 (hk : k = 3) (h : n = repQ q a i) : hapR k q a i x y d n zero := ⟨fun e => by omega, fun e => by omega, fun e => by omega, fun _ => ⟨rfl, h⟩, fun e => by omega, fun e => by omega⟩
theorem hap_4 (hk : k = 4) (h : cutQ q a x y True n) : hapR k q a i x y d n zero := ⟨fun e => by omega, fun e => by omega, fun e => by omega, fun e => by omega, fun _ => ⟨rfl, h⟩, fun e => by omega⟩
theorem hap_5 (hk : k = 5) (h : cutQ q a x y False n) : hapR k q a i x y d n zero := ⟨fun e => by omega, fun e => by omega, fun e => by omega, fun e => by omega, fun e => by omega, fun _ => ⟨rfl, h⟩⟩
end
set_option maxRecDepth 100000 in
theorem cHap_ok (N : Nat) (w0 : World) : ConOk Try.prog tb N w0 (cHap 27) := by
  refine con_of_walk (tb := tb) fine (C := [cSend 11, cDel 20, cLos 23, cRep 25, cCut 18]) (conCons cSend_ok (conCons cDel_ok (conCons cLos_ok (conCons cRep_ok (conCons cCut_ok noCon))))) 200 rfl ?_ N w0
  refine fun Q hQ A hA kd kd0 kd1 t t0 t1 x x0 x1 y y0 y1 d d0 d1 _ => ?_
  have lQ := len_of hQ (Nat.le_refl _)
  have pQ := pks_len Q
  have kd0 : 0 ≤ kd := kd0
  have m0 := Int.tmod_nonneg 6 kd0
  have m1 := Int.tmod_lt_of_pos kd (show (0 : Int) < 6 by decide)
  rw [tree_hap]
  show T.res _ (fun z => hapR (Int.tmod kd 6) (pks (.sl none 0 Q)) (prs (.sl none 0 A)) (atF (pks (.sl none 0 Q)) t) (Int.tmod x 24) (Int.tmod y 24) d (pks (gd z 0), prs (gd z 1), gi z 5) (pk3 z 2)) _ _
  refine res_ite (fun hl => ?_) fun hl => ?_
  · have hl : 0 < (DV.sl none 0 Q).len := hl
    have hat : Int.tmod t (DV.sl none 0 Q).len = atF (pks (.sl none 0 Q)) t := by unfold atF; rw [if_pos (by omega), lQ, ← pQ]
    refine res_ite (fun k0 => ?_) fun k0 => ?_
    · have k0 : Int.tmod kd 6 = 0 := k0
      refine res_dat (.sl none 0 [[.n d]]) rfl (res_con rfl trivial (fun q' hq' a' ha' e _ _ hw => ?_))
      have hw := cv hw (by kernel_rfl : _ = (((pks (.sl none 0 q'), prs (.sl none 0 a'), e) : Net) = sendQ (pks (.sl none 0 Q)) (prs (.sl none 0 A)) (Int.tmod x 24, Int.tmod y 24, [d])))
      refine res_dat (.sl none 0 []) rfl ?_
      exact cv (hap_0 k0 hw : hapR (Int.tmod kd 6) (pks (.sl none 0 Q)) (prs (.sl none 0 A)) (atF (pks (.sl none 0 Q)) t) (Int.tmod x 24) (Int.tmod y 24) d (pks (.sl none 0 q'), prs (.sl none 0 a'), e) zero) (by kernel_rfl)
    have k0 : ¬ Int.tmod kd 6 = 0 := k0
    refine res_ite (fun k1 => ?_) fun k1 => ?_
    · have k1 : Int.tmod kd 6 = 1 := k1
      refine res_con rfl trivial (fun f _ _ g _ _ z hz q' hq' a' ha' e _ _ hw => ?_)
      have hw := cv hw (by kernel_rfl : _ = ((((f, g, numsOf z), pks (.sl none 0 q'), prs (.sl none 0 a'), e) : P3 × Net) = delQ (pks (.sl none 0 Q)) (prs (.sl none 0 A)) (Int.tmod t (DV.sl none 0 Q).len)))
      rw [hat] at hw
      exact cv (hap_1 k1 hw : hapR (Int.tmod kd 6) (pks (.sl none 0 Q)) (prs (.sl none 0 A)) (atF (pks (.sl none 0 Q)) t) (Int.tmod x 24) (Int.tmod y 24) d (pks (.sl none 0 q'), prs (.sl none 0 a'), e) (f, g, numsOf z)) (by kernel_rfl)
    have k1 : ¬ Int.tmod kd 6 = 1 := k1
    refine res_ite (fun k2 => ?_) fun k2 => ?_
    · have k2 : Int.tmod kd 6 = 2 := k2
      refine res_con rfl trivial (fun q' hq' a' ha' e _ _ hw => ?_)
      have hw := cv hw (by kernel_rfl : _ = (((pks (.sl none 0 q'), prs (.sl none 0 a'), e) : Net) = losQ (pks (.sl none 0 Q)) (prs (.sl none 0 A)) (Int.tmod t (DV.sl none 0 Q).len)))
      rw [hat] at hw
      refine res_dat (.sl none 0 []) rfl ?_
      exact cv (hap_2 k2 hw : hapR (Int.tmod kd 6) (pks (.sl none 0 Q)) (prs (.sl none 0 A)) (atF (pks (.sl none 0 Q)) t) (Int.tmod x 24) (Int.tmod y 24) d (pks (.sl none 0 q'), prs (.sl none 0 a'), e) zero) (by kernel_rfl)
    have k2 : ¬ Int.tmod kd 6 = 2 := k2
    refine res_ite (fun k3 => ?_) fun k3 => ?_
    · have k3 : Int.tmod kd 6 = 3 := k3
      refine res_con rfl trivial (fun q' hq' a' ha' e _ _ hw => ?_)
      have hw := cv hw (by kernel_rfl : _ = (((pks (.sl none 0 q'), prs (.sl none 0 a'), e) : Net) = repQ (pks (.sl none 0 Q)) (prs (.sl none 0 A)) (Int.tmod t (DV.sl none 0 Q).len)))
      rw [hat] at hw
      refine res_dat (.sl none 0 []) rfl ?_
      exact cv (hap_3 k3 hw : hapR (Int.tmod kd 6) (pks (.sl none 0 Q)) (prs (.sl none 0 A)) (atF (pks (.sl none 0 Q)) t) (Int.tmod x 24) (Int.tmod y 24) d (pks (.sl none 0 q'), prs (.sl none 0 a'), e) zero) (by kernel_rfl)
    have k3 : ¬ Int.tmod kd 6 = 3 := k3
    refine res_ite (fun k4 => ?_) fun k4 => ?_
    · have k4 : Int.tmod kd 6 = 4 := k4
      refine res_con rfl trivial (fun q' hq' a' ha' e _ _ hw => ?_)
      have hw := cv hw (by kernel_rfl : _ = cutQ (pks (.sl none 0 Q)) (prs (.sl none 0 A)) (Int.tmod x 24) (Int.tmod y 24) ((1 : Int) = 1) (pks (.sl none 0 q'), prs (.sl none 0 a'), e))
      rw [show ((1 : Int) = 1) = True from eq_self _] at hw
      refine res_dat (.sl none 0 []) rfl ?_
      exact cv (hap_4 k4 hw : hapR (Int.tmod kd 6) (pks (.sl none 0 Q)) (prs (.sl none 0 A)) (atF (pks (.sl none 0 Q)) t) (Int.tmod x 24) (Int.tmod y 24) d (pks (.sl none 0 q'), prs (.sl none 0 a'), e) zero) (by kernel_rfl)
    · have k4 : ¬ Int.tmod kd 6 = 4 := k4
      refine res_con rfl trivial (fun q' hq' a' ha' e _ _ hw => ?_)
      have hw := cv hw (by kernel_rfl : _ = cutQ (pks (.sl none 0 Q)) (prs (.sl none 0 A)) (Int.tmod x 24) (Int.tmod y 24) ((0 : Int) = 1) (pks (.sl none 0 q'), prs (.sl none 0 a'), e))
      rw [show ((0 : Int) = 1) = False from propext ⟨fun h => by omega, fun h => h.elim⟩] at hw
      refine res_dat (.sl none 0 []) rfl ?_
      exact cv (hap_5 (by omega) hw : hapR (Int.tmod kd 6) (pks (.sl none 0 Q)) (prs (.sl none 0 A)) (atF (pks (.sl none 0 Q)) t) (Int.tmod x 24) (Int.tmod y 24) d (pks (.sl none 0 q'), prs (.sl none 0 a'), e) zero) (by kernel_rfl)
  · have hl : ¬ 0 < (DV.sl none 0 Q).len := hl
    have hat : (0 : Int) = atF (pks (.sl none 0 Q)) t := by unfold atF; rw [if_neg (by omega)]
    refine res_ite (fun k0 => ?_) fun k0 => ?_
    · have k0 : Int.tmod kd 6 = 0 := k0
      refine res_dat (.sl none 0 [[.n d]]) rfl (res_con rfl trivial (fun q' hq' a' ha' e _ _ hw => ?_))
      have hw := cv hw (by kernel_rfl : _ = (((pks (.sl none 0 q'), prs (.sl none 0 a'), e) : Net) = sendQ (pks (.sl none 0 Q)) (prs (.sl none 0 A)) (Int.tmod x 24, Int.tmod y 24, [d])))
      refine res_dat (.sl none 0 []) rfl ?_
      exact cv (hap_0 k0 hw : hapR (Int.tmod kd 6) (pks (.sl none 0 Q)) (prs (.sl none 0 A)) (atF (pks (.sl none 0 Q)) t) (Int.tmod x 24) (Int.tmod y 24) d (pks (.sl none 0 q'), prs (.sl none 0 a'), e) zero) (by kernel_rfl)
    have k0 : ¬ Int.tmod kd 6 = 0 := k0
    refine res_ite (fun k1 => ?_) fun k1 => ?_
    · have k1 : Int.tmod kd 6 = 1 := k1
      refine res_con rfl trivial (fun f _ _ g _ _ z hz q' hq' a' ha' e _ _ hw => ?_)
      have hw := cv hw (by kernel_rfl : _ = ((((f, g, numsOf z), pks (.sl none 0 q'), prs (.sl none 0 a'), e) : P3 × Net) = delQ (pks (.sl none 0 Q)) (prs (.sl none 0 A)) ((0 : Int))))
      rw [hat] at hw
      exact cv (hap_1 k1 hw : hapR (Int.tmod kd 6) (pks (.sl none 0 Q)) (prs (.sl none 0 A)) (atF (pks (.sl none 0 Q)) t) (Int.tmod x 24) (Int.tmod y 24) d (pks (.sl none 0 q'), prs (.sl none 0 a'), e) (f, g, numsOf z)) (by kernel_rfl)
    have k1 : ¬ Int.tmod kd 6 = 1 := k1
    refine res_ite (fun k2 => ?_) fun k2 => ?_
    · have k2 : Int.tmod kd 6 = 2 := k2
      refine res_con rfl trivial (fun q' hq' a' ha' e _ _ hw => ?_)
      have hw := cv hw (by kernel_rfl : _ = (((pks (.sl none 0 q'), prs (.sl none 0 a'), e) : Net) = losQ (pks (.sl none 0 Q)) (prs (.sl none 0 A)) ((0 : Int))))
      rw [hat] at hw
      refine res_dat (.sl none 0 []) rfl ?_
      exact cv (hap_2 k2 hw : hapR (Int.tmod kd 6) (pks (.sl none 0 Q)) (prs (.sl none 0 A)) (atF (pks (.sl none 0 Q)) t) (Int.tmod x 24) (Int.tmod y 24) d (pks (.sl none 0 q'), prs (.sl none 0 a'), e) zero) (by kernel_rfl)
    have k2 : ¬ Int.tmod kd 6 = 2 := k2
    refine res_ite (fun k3 => ?_) fun k3 => ?_
    · have k3 : Int.tmod kd 6 = 3 := k3
      refine res_con rfl trivial (fun q' hq' a' ha' e _ _ hw => ?_)
      have hw := cv hw (by kernel_rfl : _ = (((pks (.sl none 0 q'), prs (.sl none 0 a'), e) : Net) = repQ (pks (.sl none 0 Q)) (prs (.sl none 0 A)) ((0 : Int))))
      rw [hat] at hw
      refine res_dat (.sl none 0 []) rfl ?_
      exact cv (hap_3 k3 hw : hapR (Int.tmod kd 6) (pks (.sl none 0 Q)) (prs (.sl none 0 A)) (atF (pks (.sl none 0 Q)) t) (Int.tmod x 24) (Int.tmod y 24) d (pks (.sl none 0 q'), prs (.sl none 0 a'), e) zero) (by kernel_rfl)
    have k3 : ¬ Int.tmod kd 6 = 3 := k3
    refine res_ite (fun k4 => ?_) fun k4 => ?_
    · have k4 : Int.tmod kd 6 = 4 := k4
      refine res_con rfl trivial (fun q' hq' a' ha' e _ _ hw => ?_)
      have hw := cv hw (by kernel_rfl : _ = cutQ (pks (.sl none 0 Q)) (prs (.sl none 0 A)) (Int.tmod x 24) (Int.tmod y 24) ((1 : Int) = 1) (pks (.sl none 0 q'), prs (.sl none 0 a'), e))
      rw [show ((1 : Int) = 1) = True from eq_self _] at hw
      refine res_dat (.sl none 0 []) rfl ?_
      exact cv (hap_4 k4 hw : hapR (Int.tmod kd 6) (pks (.sl none 0 Q)) (prs (.sl none 0 A)) (atF (pks (.sl none 0 Q)) t) (Int.tmod x 24) (Int.tmod y 24) d (pks (.sl none 0 q'), prs (.sl none 0 a'), e) zero) (by kernel_rfl)
    · have k4 : ¬ Int.tmod kd 6 = 4 := k4
      refine res_con rfl trivial (fun q' hq' a' ha' e _ _ hw => ?_)
      have hw := cv hw (by kernel_rfl : _ = cutQ (pks (.sl none 0 Q)) (prs (.sl none 0 A)) (Int.tmod x 24) (Int.tmod y 24) ((0 : Int) = 1) (pks (.sl none 0 q'), prs (.sl none 0 a'), e))
      rw [show ((0 : Int) = 1) = False from propext ⟨fun h => by omega, fun h => h.elim⟩] at hw
      refine res_dat (.sl none 0 []) rfl ?_
      exact cv (hap_5 (by omega) hw : hapR (Int.tmod kd 6) (pks (.sl none 0 Q)) (prs (.sl none 0 A)) (atF (pks (.sl none 0 Q)) t) (Int.tmod x 24) (Int.tmod y 24) d (pks (.sl none 0 q'), prs (.sl none 0 a'), e) zero) (by kernel_rfl)
end Go.Proofs.Ytmphcgafegmheaa
