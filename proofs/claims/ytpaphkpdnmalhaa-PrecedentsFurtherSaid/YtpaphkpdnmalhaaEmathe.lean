/- DERIVED. How the law of further factors goes. -/
import Derived.Test.YtpaphkpdnmalhaaEmathd
import Derived.Test.YtpaphkpdnmalhaaEctf
import Derived.Test.YtpaphkpdnmalhaaEsane
import Derived.KernelRfl
namespace Go.Proofs.Ytpaphkpdnmalhaa
open Go.Dx Go.RowKit
set_option linter.unusedVariables false
set_option linter.unusedSimpArgs false
theorem cvh {a b : Prop} (e : a = b) (h : a) : b := by rw [← e]; exact h
theorem lop_of {C : List Con} {post : List DV → Prop} {i m : Nat} {zs : List E} {k : T (List E)} {r : List DV} {d : Con} (hd : C[i]? = some d) (p : Prop) (e : d.pre (r ++ zs.map (E.top r)) = p) (h : p) (q : allB d.bnd fun ys => d.pre (r ++ ys) → T.res C post k (r ++ (ys ++ List.replicate m (.n 0)))) : T.res C post (.lop i zs m k) r :=
  res_lop hd (by rw [e]; exact h) q
theorem chk_of {C : List Con} {post : List DV → Prop} {i o : Nat} {zs : List E} {r : List DV} {d : Con} (hd : C[i]? = some d) (p : Prop) (m n : Nat) (e : d.pre (r.take o ++ zs.map (E.top r)) = p) (h : p) (e1 : d.mea (r.take o ++ zs.map (E.top r)) = m) (e2 : d.mea (r.take (o + zs.length)) = n) (k : m < n) : T.res C post (.chk i o zs) r :=
  res_chk hd (by rw [e]; exact h) (by rw [e1, e2]; exact k)
theorem adr_of {C : List Con} {post : List DV → Prop} {x : E} {k : T (List E)} {r : List DV} (h : ∀ a cap, T.res C post k (r ++ [.sl none 0 [[.sl a cap (x.dat r).els]]])) : T.res C post (.adr x k) r := h
theorem right_of {S C f : DV} {r : Int} (h : gi [DV.n r] 0 ≠ 0 → chkF S C = 0 ∧ f.len ≤ 60 ∧ setP S.len f f.len.toNat) (k : ¬ r = 0) : chkF S C = 0 ∧ setP S.len f f.len.toNat := by
  have k : gi [DV.n r] 0 ≠ 0 := k
  exact ⟨(h k).1, (h k).2.2⟩
theorem one_all {f : DV} {x : Int} (h : 0 ≤ x ∧ x ≤ 9223372036854775807) : allP (.sl none 0 [[.n x]]) f ↔ memP f x := by
  have e0 : el (.sl none 0 [[.n x]]) 0 = x := clampB_id (x := x) (by omega)
  have e1 : (DV.sl none 0 [[.n x]]).len.toNat = 1 := rfl
  refine ⟨fun k => ?_, fun k i hi => ?_⟩
  · have := k 0 (by rw [e1]; decide)
    rwa [e0] at this
  · rw [e1] at hi
    obtain rfl : i = 0 := by omega
    rw [e0]; exact k
theorem add_step {n x : Int} {f : DV} (h0 : 0 ≤ x) : addL n f (x + 1).toNat = if x = n ∨ memP f x then addL n f x.toNat ++ [[.n x]] else addL n f x.toNat := by
  rw [show (x + 1).toNat = x.toNat + 1 by omega]
  show (if ((x.toNat : Nat) : Int) = n ∨ memP f ((x.toNat : Nat) : Int) then addL n f x.toNat ++ [[.n ((x.toNat : Nat) : Int)]] else addL n f x.toNat) = _
  rw [show ((x.toNat : Nat) : Int) = x by omega]
end Go.Proofs.Ytpaphkpdnmalhaa
