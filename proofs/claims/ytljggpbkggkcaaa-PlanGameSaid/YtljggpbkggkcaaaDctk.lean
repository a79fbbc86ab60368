/- DERIVED. A course with other demands: the contract, proved. -/
import Derived.Test.YtljggpbkggkcaaaDctj
import Derived.Test.YtljggpbkggkcaaaDconf
import Derived.Test.YtljggpbkggkcaaaDtreeq
namespace Go.Proofs.Ytljggpbkggkcaaa
open Go.Dx
set_option linter.unusedVariables false
set_option linter.unusedSimpArgs false
set_option maxHeartbeats 4000000 in
set_option maxRecDepth 100000 in
theorem cDem_ok (N : Nat) (w0 : World) : ConOk Try.prog tb N w0 (cDem 31) := by
  refine con_of_walk (tb := tb) fine (C := [lDem]) (lopCons rfl noCon) 80 rfl ?_ N w0
  refine fun cap _ _ st _ _ fl _ _ P hP S hS n n0' n1' hpre => ?_
  obtain ⟨⟨hls, hlen⟩, ⟨n0, n1⟩, hsh⟩ : ((DV.sl none 0 S).len = (DV.sl none 0 P).len ∧ (DV.sl none 0 P).len ≤ 64) ∧ (0 ≤ n ∧ n ≤ 1048577) ∧ shOk (.sl none 0 S) (DV.sl none 0 S).len.toNat := hpre
  have hPl : P.length ≤ 9223372036854775807 := hP.1
  clear hP hS
  rw [tree_dem]
  have l0 := len_nn (.sl none 0 P)
  show T.res [lDem] (fun y => y = [.n cap, .n st, .n fl, .sl none 0 (setK P (.sl none 0 S) n (DV.sl none 0 P).len.toNat)]) _ _
  refine res_ok (show (DV.sl none 0 P).len ≤ 3432621667203 by omega) ?_
  refine res_lop rfl (show (0 : Int) ≤ (DV.sl none 0 P).len ∧ P = setK P (.sl none 0 S) n (0 : Int).toNat from ⟨l0, rfl⟩) (fun i i0 i1 L hLs hK => ?_)
  clear hLs
  obtain ⟨hi2, hL⟩ : i ≤ (DV.sl none 0 P).len ∧ L = setK P (.sl none 0 S) n i.toNat := hK
  have hLl : (DV.sl none 0 L).len = (DV.sl none 0 P).len := by
    show clampL L.length = clampL P.length
    rw [hL, setK_len]
  refine res_ite (fun hil => ?_) fun hil => ?_
  · have hil : i < (DV.sl none 0 P).len := hil
    have hsi := hsh i.toNat (by omega)
    rw [show ((i.toNat : Nat) : Int) = i by omega] at hsi
    have b0 : 0 ≤ n * (DV.sl none 0 S).at i 0 := Int.mul_nonneg n0 hsi.1
    have b1 : n * (DV.sl none 0 S).at i 0 ≤ 1048577 * 1048576 := Int.mul_le_mul n1 hsi.2 hsi.1 (by decide)
    have ew : IntKind.i64.wrap (n * (DV.sl none 0 S).at i 0) = n * (DV.sl none 0 S).at i 0 := wI (by omega) (by omega)
    refine res_ok (show 0 ≤ i ∧ i < (DV.sl none 0 S).len by omega) (res_ok (show 0 ≤ i ∧ i < (DV.sl none 0 L).len by omega) ?_)
    refine res_dat (.sl none 0 (L.modify i.toNat fun e => layG e 2 [.n (IntKind.i64.wrap (n * (DV.sl none 0 S).at i 0))])) rfl ?_
    refine res_chk rfl (show i + 1 ≤ (DV.sl none 0 P).len ∧ L.modify i.toNat (fun e => layG e 2 [.n (IntKind.i64.wrap (n * (DV.sl none 0 S).at i 0))]) = setK P (.sl none 0 S) n (i + 1).toNat from ⟨by omega, ?_⟩) ?_
    · rw [ew, show (i + 1).toNat = i.toNat + 1 by omega]
      show _ = (setK P (.sl none 0 S) n i.toNat).modify i.toNat fun e => layG e 2 [.n (n * (DV.sl none 0 S).at i.toNat 0)]
      rw [hL, show ((i.toNat : Nat) : Int) = i by omega]
    · show ((DV.sl none 0 P).len - (i + 1)).toNat < ((DV.sl none 0 P).len - i).toNat
      omega
  have hil : ¬ i < (DV.sl none 0 P).len := hil
  rw [show i.toNat = (DV.sl none 0 P).len.toNat by omega] at hL
  show [DV.n cap, .n st, .n fl, .sl none 0 L] = _
  rw [hL]
end Go.Proofs.Ytljggpbkggkcaaa
