/- DERIVED. The program puts sets together: contracts. -/
import Derived.Test.YtdffnmhpkapbkaaDoorEstep
import Derived.Test.YtdffnmhpkapbkaaDoorEtreeh
namespace Go.Proofs.YtdffnmhpkapbkaaDoor
open Go.Dx
set_option linter.unusedVariables false
theorem op1 {q A B : Int} (h : q = 1 ↔ A = 1 ∨ B = 1) : q = 1 ↔ OpP 1 A B := h.trans ⟨fun z => ⟨fun _ => z, fun y => absurd y (by decide), fun y => absurd y (by decide)⟩, fun z => z.1 rfl⟩
theorem op2 {q A B : Int} (h : q = 1 ↔ A = 1 ∧ B = 1) : q = 1 ↔ OpP 2 A B := h.trans ⟨fun z => ⟨fun y => absurd y (by decide), fun _ => z, fun y => absurd y (by decide)⟩, fun z => z.2.1 rfl⟩
theorem op3 {q A B : Int} (h : q = 1 ↔ A = 1 ∧ ¬ B = 1) : q = 1 ↔ OpP 3 A B := h.trans ⟨fun z => ⟨fun y => absurd y (by decide), fun y => absurd y (by decide), fun _ => z⟩, fun z => z.2.2 rfl⟩
set_option maxRecDepth 100000 in
set_option maxHeartbeats 4000000 in
theorem cUni1_ok (N : Nat) (w0 : World) : ConOk Tryd.prog tb N w0 (cUni 23 1) := by
  refine con_of_walk (tb := tb) fine (C := [cChk 21, cEdg 49, lCom 1]) (conCons cChk_ok (conCons cEdg_ok (lopCons rfl noCon))) 200 rfl ?_ N w0
  refine fun a ha b hb _ => ?_
  have la := len_of ha (Nat.le_refl _)
  have lb := len_of hb (Nat.le_refl _)
  clear ha hb
  rw [tree_uni]
  show T.res _ (fun y => CombP 1 (.sl none 0 a) (.sl none 0 b) y) _ _
  refine res_con rfl trivial (fun e _ _ he => ?_)
  have he := chk_in (show CheckP (.sl none 0 a) [.n e] from he)
  refine res_ite (fun z => ?_) fun z => ?_
  · have z : ¬ e = 0 := z
    refine res_dat (.sl none 0 []) rfl ?_
    show CombP 1 (.sl none 0 a) (.sl none 0 b) [.sl none 0 [], .n e]
    rcases he with ⟨rfl, c⟩ | ⟨rfl, c, c2⟩ | ⟨rfl, _⟩
    · exact err_long (z := [.sl none 0 []]) c
    · exact err_bad (z := [.sl none 0 []]) c c2
    · exact absurd rfl z
  have z := Classical.not_not.1 (show ¬ ¬ e = 0 from z)
  obtain ⟨ca, cb⟩ : ¬ 256 < (DV.sl none 0 a).len ∧ AllS (.sl none 0 a) (DV.sl none 0 a).len := by
    rcases he with ⟨q, _⟩ | ⟨q, _⟩ | ⟨_, q⟩
    · omega
    · omega
    · exact q
  refine res_con rfl trivial (fun f _ _ hf => ?_)
  have hf := chk_in (show CheckP (.sl none 0 b) [.n f] from hf)
  refine res_ite (fun z2 => ?_) fun z2 => ?_
  · have z2 : ¬ f = 0 := z2
    refine res_dat (.sl none 0 []) rfl ?_
    show CombP 1 (.sl none 0 a) (.sl none 0 b) [.sl none 0 [], .n f]
    refine err_fine ca cb ?_
    rcases hf with ⟨rfl, c⟩ | ⟨rfl, c, c2⟩ | ⟨rfl, _⟩
    · exact err_long (z := [.sl none 0 []]) c
    · exact err_bad (z := [.sl none 0 []]) c c2
    · exact absurd rfl z2
  have z2 := Classical.not_not.1 (show ¬ ¬ f = 0 from z2)
  obtain ⟨da, db⟩ : ¬ 256 < (DV.sl none 0 b).len ∧ AllS (.sl none 0 b) (DV.sl none 0 b).len := by
    rcases hf with ⟨q, _⟩ | ⟨q, _⟩ | ⟨_, q⟩
    · omega
    · omega
    · exact q
  clear he hf z z2
  have cA := ((alls_iff la).1 cb).1
  have cB := ((alls_iff lb).1 db).1
  have mA := ((alls_iff la).1 cb).2
  have mB := ((alls_iff lb).1 db).2
  refine res_con rfl (show Rgt (.sl none 0 a) from ⟨by omega, cb⟩) (fun t ht h1 => ?_)
  have h1 : ivl (.sl none 0 t) = edges (spn (.sl none 0 a)) := h1
  have lt := len_of ht (Nat.le_refl _)
  refine res_con rfl (show Rgt (.sl none 0 b) from ⟨by omega, db⟩) (fun u hu h2 => ?_)
  have h2 : ivl (.sl none 0 u) = edges (spn (.sl none 0 b)) := h2
  have lu := len_of hu (Nat.le_refl _)
  clear ht hu
  refine res_dat (.sl none 0 []) rfl ?_
  refine res_lop rfl (show CInv 1 (dl a) (dl b) (dl t) (dl u) 0 0 (dl []) 0 from c_start h1 h2 lt lu (by omega) (by omega) cA cB mA mB) (fun x hx y hy day d0 d1 A a0 a1 B b0 b1 l hl q q0 q1 hI => ?_)
  clear h1 h2 lt lu
  have hI : CInv 1 (dl a) (dl b) (dl x) (dl y) A B (dl l) q := hI
  have lx : (dl x).len = x.length := len_of hx (Nat.le_refl _)
  have ly : (dl y).len = y.length := len_of hy (Nat.le_refl _)
  have ll : (dl l).len = l.length := len_of hl (Nat.le_refl _)
  have bx : x.length ≤ 9223372036854775807 := hx.1
  have bY : y.length ≤ 9223372036854775807 := hy.1
  have lx1 : (dl (x.drop 1)).len = (x.drop 1).length := clampL_eq (show (x.drop 1).length ≤ 9223372036854775807 by rw [List.length_drop]; omega)
  have ly1 : (dl (y.drop 1)).len = (y.drop 1).length := clampL_eq (show (y.drop 1).length ≤ 9223372036854775807 by rw [List.length_drop]; omega)
  rw [List.length_drop] at lx1 ly1
  clear hx hy
  have hA : 0 ≤ A ∧ A ≤ 1 := ⟨a0, a1⟩
  have hB : 0 ≤ B ∧ B ≤ 1 := ⟨b0, b1⟩
  have hq : 0 ≤ q ∧ q ≤ 1 := ⟨q0, q1⟩
  have l9 : (dl l).len ≤ 1100 := by
    obtain ⟨_, _, _, h, _⟩ := hI
    omega
  have l0 : q = 1 → 1 ≤ (dl l).len := c_pos ll hI
  clear a0 a1 b0 b1 q0 q1 d0 d1
  refine res_ite (fun z => ?_) fun z => ?_
  · have h0 := cvh (b := ((0 < (dl x).len) ∨ (0 < (dl y).len))) (by kernel_rfl) z
    clear z
    refine res_ite (fun h1 => ?_) fun h1 => ?_
    ·replace h1 := cvh (b := (((dl x).len = 0) ∨ ((0 < (dl y).len) ∧ ((dl y).at 0 0 < (dl x).at 0 0)))) (by kernel_rfl) h1
     refine res_ok (cvh (a := (((0 : Int) ≤ 0) ∧ (0 < (dl y).len))) (by kernel_rfl) (by omega)) ?_
     refine res_ite (fun h2 => ?_) fun h2 => ?_
     ·replace h2 := cvh (b := ((0 < (dl x).len) ∧ ((dl x).at 0 0 = (dl y).at 0 0))) (by kernel_rfl) h2
      refine res_dat (dl ((x.take (dl x).len.toNat).drop (1 : Int).toNat)) (by kernel_rfl) ?_
      rw [sub_one lx]
      refine res_dat (dl ((y.take (dl y).len.toNat).drop (1 : Int).toNat)) (by kernel_rfl) ?_
      rw [sub_one ly]
      have kx : ∀ A', A' = 1 - A → Pas x (x.drop 1) A A' ((dl y).at 0 0) := fun A' h => .inr ⟨rfl, h, by omega, by omega⟩
      have ky : ∀ B', B' = 1 - B → Pas y (y.drop 1) B B' ((dl y).at 0 0) := fun B' h => .inr ⟨rfl, h, by omega, by omega⟩
      have km : (dl (x.drop 1)).len + (dl (y.drop 1)).len < (dl x).len + (dl y).len := by omega
      have km2 : ((dl (x.drop 1)).len + (dl (y.drop 1)).len).toNat < ((dl x).len + (dl y).len).toNat := by omega
      clear h0 h1 h2
      have cs := fun A' B' l' q' (k1 : A' = 1 - A) (k2 : B' = 1 - B) k3 (k4 : Lst l l' q q' ((dl y).at 0 0)) => c_step (by decide) lx ly hl hA hB hq hI (kx A' k1) (ky B' k2) km (op1 k3) k4
      refine res_ite (fun h3 => ?_) fun h3 => ?_
      ·replace h3 := cvh (b := (((A = 0) ∨ (B = 0)) ∧ (q = 0))) (by kernel_rfl) h3
       refine res_ok (cvh (a := ((dl l).len + 1 ≤ 8278675785607)) (by kernel_rfl) (by omega)) ?_
       refine res_dat (dl [[.n ((dl y).at 0 0), .n 0]]) (by kernel_rfl) ?_
       refine res_dat (dl (l ++ [[.n ((dl y).at 0 0), .n 0]])) (by kernel_rfl) ?_
       refine res_ite (fun h4 => ?_) fun h4 => ?_
       ·replace h4 := cvh (b := (A = 0)) (by kernel_rfl) h4
        refine res_ite (fun h5 => ?_) fun h5 => ?_
        ·replace h5 := cvh (b := (B = 0)) (by kernel_rfl) h5
         refine res_ite (fun h6 => ?_) fun h6 => ?_
         ·replace h6 := cvh (b := ((A = 0) ∨ (B = 0))) (by kernel_rfl) h6
          exact res_chk rfl (cvh (by kernel_rfl) (cs (1) (1) _ 1 (by omega) (by omega) (by omega) (.inr (.inl ⟨rfl, by omega, by omega⟩)))) (cvh (by kernel_rfl) km2)
         ·replace h6 := cvh (b := ¬ ((A = 0) ∨ (B = 0))) (by kernel_rfl) h6
          exact res_chk rfl (cvh (by kernel_rfl) (cs (1) (1) _ 0 (by omega) (by omega) (by omega) (.inr (.inl ⟨rfl, by omega, by omega⟩)))) (cvh (by kernel_rfl) km2)
        ·replace h5 := cvh (b := ¬ (B = 0)) (by kernel_rfl) h5
         refine res_ite (fun h6 => ?_) fun h6 => ?_
         ·replace h6 := cvh (b := ((A = 0) ∨ (B = 0))) (by kernel_rfl) h6
          exact res_chk rfl (cvh (by kernel_rfl) (cs (1) (0) _ 1 (by omega) (by omega) (by omega) (.inr (.inl ⟨rfl, by omega, by omega⟩)))) (cvh (by kernel_rfl) km2)
         ·replace h6 := cvh (b := ¬ ((A = 0) ∨ (B = 0))) (by kernel_rfl) h6
          exact res_chk rfl (cvh (by kernel_rfl) (cs (1) (0) _ 0 (by omega) (by omega) (by omega) (.inr (.inl ⟨rfl, by omega, by omega⟩)))) (cvh (by kernel_rfl) km2)
       ·replace h4 := cvh (b := ¬ (A = 0)) (by kernel_rfl) h4
        refine res_ite (fun h5 => ?_) fun h5 => ?_
        ·replace h5 := cvh (b := (B = 0)) (by kernel_rfl) h5
         refine res_ite (fun h6 => ?_) fun h6 => ?_
         ·replace h6 := cvh (b := ((A = 0) ∨ (B = 0))) (by kernel_rfl) h6
          exact res_chk rfl (cvh (by kernel_rfl) (cs (0) (1) _ 1 (by omega) (by omega) (by omega) (.inr (.inl ⟨rfl, by omega, by omega⟩)))) (cvh (by kernel_rfl) km2)
         ·replace h6 := cvh (b := ¬ ((A = 0) ∨ (B = 0))) (by kernel_rfl) h6
          exact res_chk rfl (cvh (by kernel_rfl) (cs (0) (1) _ 0 (by omega) (by omega) (by omega) (.inr (.inl ⟨rfl, by omega, by omega⟩)))) (cvh (by kernel_rfl) km2)
        ·replace h5 := cvh (b := ¬ (B = 0)) (by kernel_rfl) h5
         refine res_ite (fun h6 => ?_) fun h6 => ?_
         ·replace h6 := cvh (b := ((A = 0) ∨ (B = 0))) (by kernel_rfl) h6
          exact res_chk rfl (cvh (by kernel_rfl) (cs (0) (0) _ 1 (by omega) (by omega) (by omega) (.inr (.inl ⟨rfl, by omega, by omega⟩)))) (cvh (by kernel_rfl) km2)
         ·replace h6 := cvh (b := ¬ ((A = 0) ∨ (B = 0))) (by kernel_rfl) h6
          exact res_chk rfl (cvh (by kernel_rfl) (cs (0) (0) _ 0 (by omega) (by omega) (by omega) (.inr (.inl ⟨rfl, by omega, by omega⟩)))) (cvh (by kernel_rfl) km2)
      ·replace h3 := cvh (b := ¬ (((A = 0) ∨ (B = 0)) ∧ (q = 0))) (by kernel_rfl) h3
       refine res_ite (fun h4 => ?_) fun h4 => ?_
       ·replace h4 := cvh (b := (¬ ((A = 0) ∨ (B = 0)) ∧ ¬ (q = 0))) (by kernel_rfl) h4
        refine res_ok (cvh (a := ((0 ≤ (dl l).len - 1) ∧ ((dl l).len - 1 < (dl l).len))) (by kernel_rfl) (by omega)) ?_
        refine res_dat (dl (l.modify ((dl l).len - 1).toNat (fun e : List DV => layG e 1 [DV.n (IntKind.i64.wrap ((dl y).at 0 0 - 1))]))) (by kernel_rfl) ?_
        refine res_ite (fun h5 => ?_) fun h5 => ?_
        ·replace h5 := cvh (b := (A = 0)) (by kernel_rfl) h5
         refine res_ite (fun h6 => ?_) fun h6 => ?_
         ·replace h6 := cvh (b := (B = 0)) (by kernel_rfl) h6
          refine res_ite (fun h7 => ?_) fun h7 => ?_
          ·replace h7 := cvh (b := ((A = 0) ∨ (B = 0))) (by kernel_rfl) h7
           exact res_chk rfl (cvh (by kernel_rfl) (cs (1) (1) _ 1 (by omega) (by omega) (by omega) (.inr (.inr ⟨rfl, by omega, by omega⟩)))) (cvh (by kernel_rfl) km2)
          ·replace h7 := cvh (b := ¬ ((A = 0) ∨ (B = 0))) (by kernel_rfl) h7
           exact res_chk rfl (cvh (by kernel_rfl) (cs (1) (1) _ 0 (by omega) (by omega) (by omega) (.inr (.inr ⟨rfl, by omega, by omega⟩)))) (cvh (by kernel_rfl) km2)
         ·replace h6 := cvh (b := ¬ (B = 0)) (by kernel_rfl) h6
          refine res_ite (fun h7 => ?_) fun h7 => ?_
          ·replace h7 := cvh (b := ((A = 0) ∨ (B = 0))) (by kernel_rfl) h7
           exact res_chk rfl (cvh (by kernel_rfl) (cs (1) (0) _ 1 (by omega) (by omega) (by omega) (.inr (.inr ⟨rfl, by omega, by omega⟩)))) (cvh (by kernel_rfl) km2)
          ·replace h7 := cvh (b := ¬ ((A = 0) ∨ (B = 0))) (by kernel_rfl) h7
           exact res_chk rfl (cvh (by kernel_rfl) (cs (1) (0) _ 0 (by omega) (by omega) (by omega) (.inr (.inr ⟨rfl, by omega, by omega⟩)))) (cvh (by kernel_rfl) km2)
        ·replace h5 := cvh (b := ¬ (A = 0)) (by kernel_rfl) h5
         refine res_ite (fun h6 => ?_) fun h6 => ?_
         ·replace h6 := cvh (b := (B = 0)) (by kernel_rfl) h6
          refine res_ite (fun h7 => ?_) fun h7 => ?_
          ·replace h7 := cvh (b := ((A = 0) ∨ (B = 0))) (by kernel_rfl) h7
           exact res_chk rfl (cvh (by kernel_rfl) (cs (0) (1) _ 1 (by omega) (by omega) (by omega) (.inr (.inr ⟨rfl, by omega, by omega⟩)))) (cvh (by kernel_rfl) km2)
          ·replace h7 := cvh (b := ¬ ((A = 0) ∨ (B = 0))) (by kernel_rfl) h7
           exact res_chk rfl (cvh (by kernel_rfl) (cs (0) (1) _ 0 (by omega) (by omega) (by omega) (.inr (.inr ⟨rfl, by omega, by omega⟩)))) (cvh (by kernel_rfl) km2)
         ·replace h6 := cvh (b := ¬ (B = 0)) (by kernel_rfl) h6
          refine res_ite (fun h7 => ?_) fun h7 => ?_
          ·replace h7 := cvh (b := ((A = 0) ∨ (B = 0))) (by kernel_rfl) h7
           exact res_chk rfl (cvh (by kernel_rfl) (cs (0) (0) _ 1 (by omega) (by omega) (by omega) (.inr (.inr ⟨rfl, by omega, by omega⟩)))) (cvh (by kernel_rfl) km2)
          ·replace h7 := cvh (b := ¬ ((A = 0) ∨ (B = 0))) (by kernel_rfl) h7
           exact res_chk rfl (cvh (by kernel_rfl) (cs (0) (0) _ 0 (by omega) (by omega) (by omega) (.inr (.inr ⟨rfl, by omega, by omega⟩)))) (cvh (by kernel_rfl) km2)
       ·replace h4 := cvh (b := ¬ (¬ ((A = 0) ∨ (B = 0)) ∧ ¬ (q = 0))) (by kernel_rfl) h4
        refine res_ite (fun h5 => ?_) fun h5 => ?_
        ·replace h5 := cvh (b := (A = 0)) (by kernel_rfl) h5
         refine res_ite (fun h6 => ?_) fun h6 => ?_
         ·replace h6 := cvh (b := (B = 0)) (by kernel_rfl) h6
          refine res_ite (fun h7 => ?_) fun h7 => ?_
          ·replace h7 := cvh (b := ((A = 0) ∨ (B = 0))) (by kernel_rfl) h7
           exact res_chk rfl (cvh (by kernel_rfl) (cs (1) (1) _ 1 (by omega) (by omega) (by omega) (.inl ⟨rfl, by omega⟩))) (cvh (by kernel_rfl) km2)
          ·replace h7 := cvh (b := ¬ ((A = 0) ∨ (B = 0))) (by kernel_rfl) h7
           exact res_chk rfl (cvh (by kernel_rfl) (cs (1) (1) _ 0 (by omega) (by omega) (by omega) (.inl ⟨rfl, by omega⟩))) (cvh (by kernel_rfl) km2)
         ·replace h6 := cvh (b := ¬ (B = 0)) (by kernel_rfl) h6
          refine res_ite (fun h7 => ?_) fun h7 => ?_
          ·replace h7 := cvh (b := ((A = 0) ∨ (B = 0))) (by kernel_rfl) h7
           exact res_chk rfl (cvh (by kernel_rfl) (cs (1) (0) _ 1 (by omega) (by omega) (by omega) (.inl ⟨rfl, by omega⟩))) (cvh (by kernel_rfl) km2)
          ·replace h7 := cvh (b := ¬ ((A = 0) ∨ (B = 0))) (by kernel_rfl) h7
           exact res_chk rfl (cvh (by kernel_rfl) (cs (1) (0) _ 0 (by omega) (by omega) (by omega) (.inl ⟨rfl, by omega⟩))) (cvh (by kernel_rfl) km2)
        ·replace h5 := cvh (b := ¬ (A = 0)) (by kernel_rfl) h5
         refine res_ite (fun h6 => ?_) fun h6 => ?_
         ·replace h6 := cvh (b := (B = 0)) (by kernel_rfl) h6
          refine res_ite (fun h7 => ?_) fun h7 => ?_
          ·replace h7 := cvh (b := ((A = 0) ∨ (B = 0))) (by kernel_rfl) h7
           exact res_chk rfl (cvh (by kernel_rfl) (cs (0) (1) _ 1 (by omega) (by omega) (by omega) (.inl ⟨rfl, by omega⟩))) (cvh (by kernel_rfl) km2)
          ·replace h7 := cvh (b := ¬ ((A = 0) ∨ (B = 0))) (by kernel_rfl) h7
           exact res_chk rfl (cvh (by kernel_rfl) (cs (0) (1) _ 0 (by omega) (by omega) (by omega) (.inl ⟨rfl, by omega⟩))) (cvh (by kernel_rfl) km2)
         ·replace h6 := cvh (b := ¬ (B = 0)) (by kernel_rfl) h6
          refine res_ite (fun h7 => ?_) fun h7 => ?_
          ·replace h7 := cvh (b := ((A = 0) ∨ (B = 0))) (by kernel_rfl) h7
           exact res_chk rfl (cvh (by kernel_rfl) (cs (0) (0) _ 1 (by omega) (by omega) (by omega) (.inl ⟨rfl, by omega⟩))) (cvh (by kernel_rfl) km2)
          ·replace h7 := cvh (b := ¬ ((A = 0) ∨ (B = 0))) (by kernel_rfl) h7
           exact res_chk rfl (cvh (by kernel_rfl) (cs (0) (0) _ 0 (by omega) (by omega) (by omega) (.inl ⟨rfl, by omega⟩))) (cvh (by kernel_rfl) km2)
     ·replace h2 := cvh (b := ¬ ((0 < (dl x).len) ∧ ((dl x).at 0 0 = (dl y).at 0 0))) (by kernel_rfl) h2
      refine res_dat (dl ((y.take (dl y).len.toNat).drop (1 : Int).toNat)) (by kernel_rfl) ?_
      rw [sub_one ly]
      have kx : ∀ A', A' = A → Pas x x A A' ((dl y).at 0 0) := fun A' h => .inl ⟨rfl, h, by omega⟩
      have ky : ∀ B', B' = 1 - B → Pas y (y.drop 1) B B' ((dl y).at 0 0) := fun B' h => .inr ⟨rfl, h, by omega, by omega⟩
      have km : (dl x).len + (dl (y.drop 1)).len < (dl x).len + (dl y).len := by omega
      have km2 : ((dl x).len + (dl (y.drop 1)).len).toNat < ((dl x).len + (dl y).len).toNat := by omega
      clear h0 h1 h2
      have cs := fun A' B' l' q' (k1 : A' = A) (k2 : B' = 1 - B) k3 (k4 : Lst l l' q q' ((dl y).at 0 0)) => c_step (by decide) lx ly hl hA hB hq hI (kx A' k1) (ky B' k2) km (op1 k3) k4
      refine res_ite (fun h3 => ?_) fun h3 => ?_
      ·replace h3 := cvh (b := ((¬ (A = 0) ∨ (B = 0)) ∧ (q = 0))) (by kernel_rfl) h3
       refine res_ok (cvh (a := ((dl l).len + 1 ≤ 8278675785607)) (by kernel_rfl) (by omega)) ?_
       refine res_dat (dl [[.n ((dl y).at 0 0), .n 0]]) (by kernel_rfl) ?_
       refine res_dat (dl (l ++ [[.n ((dl y).at 0 0), .n 0]])) (by kernel_rfl) ?_
       refine res_ite (fun h4 => ?_) fun h4 => ?_
       ·replace h4 := cvh (b := (B = 0)) (by kernel_rfl) h4
        refine res_ite (fun h5 => ?_) fun h5 => ?_
        ·replace h5 := cvh (b := (¬ (A = 0) ∨ (B = 0))) (by kernel_rfl) h5
         exact res_chk rfl (cvh (by kernel_rfl) (cs (A) (1) _ 1 (by omega) (by omega) (by omega) (.inr (.inl ⟨rfl, by omega, by omega⟩)))) (cvh (by kernel_rfl) km2)
        ·replace h5 := cvh (b := ¬ (¬ (A = 0) ∨ (B = 0))) (by kernel_rfl) h5
         exact res_chk rfl (cvh (by kernel_rfl) (cs (A) (1) _ 0 (by omega) (by omega) (by omega) (.inr (.inl ⟨rfl, by omega, by omega⟩)))) (cvh (by kernel_rfl) km2)
       ·replace h4 := cvh (b := ¬ (B = 0)) (by kernel_rfl) h4
        refine res_ite (fun h5 => ?_) fun h5 => ?_
        ·replace h5 := cvh (b := (¬ (A = 0) ∨ (B = 0))) (by kernel_rfl) h5
         exact res_chk rfl (cvh (by kernel_rfl) (cs (A) (0) _ 1 (by omega) (by omega) (by omega) (.inr (.inl ⟨rfl, by omega, by omega⟩)))) (cvh (by kernel_rfl) km2)
        ·replace h5 := cvh (b := ¬ (¬ (A = 0) ∨ (B = 0))) (by kernel_rfl) h5
         exact res_chk rfl (cvh (by kernel_rfl) (cs (A) (0) _ 0 (by omega) (by omega) (by omega) (.inr (.inl ⟨rfl, by omega, by omega⟩)))) (cvh (by kernel_rfl) km2)
      ·replace h3 := cvh (b := ¬ ((¬ (A = 0) ∨ (B = 0)) ∧ (q = 0))) (by kernel_rfl) h3
       refine res_ite (fun h4 => ?_) fun h4 => ?_
       ·replace h4 := cvh (b := (¬ (¬ (A = 0) ∨ (B = 0)) ∧ ¬ (q = 0))) (by kernel_rfl) h4
        refine res_ok (cvh (a := ((0 ≤ (dl l).len - 1) ∧ ((dl l).len - 1 < (dl l).len))) (by kernel_rfl) (by omega)) ?_
        refine res_dat (dl (l.modify ((dl l).len - 1).toNat (fun e : List DV => layG e 1 [DV.n (IntKind.i64.wrap ((dl y).at 0 0 - 1))]))) (by kernel_rfl) ?_
        refine res_ite (fun h5 => ?_) fun h5 => ?_
        ·replace h5 := cvh (b := (B = 0)) (by kernel_rfl) h5
         refine res_ite (fun h6 => ?_) fun h6 => ?_
         ·replace h6 := cvh (b := (¬ (A = 0) ∨ (B = 0))) (by kernel_rfl) h6
          exact res_chk rfl (cvh (by kernel_rfl) (cs (A) (1) _ 1 (by omega) (by omega) (by omega) (.inr (.inr ⟨rfl, by omega, by omega⟩)))) (cvh (by kernel_rfl) km2)
         ·replace h6 := cvh (b := ¬ (¬ (A = 0) ∨ (B = 0))) (by kernel_rfl) h6
          exact res_chk rfl (cvh (by kernel_rfl) (cs (A) (1) _ 0 (by omega) (by omega) (by omega) (.inr (.inr ⟨rfl, by omega, by omega⟩)))) (cvh (by kernel_rfl) km2)
        ·replace h5 := cvh (b := ¬ (B = 0)) (by kernel_rfl) h5
         refine res_ite (fun h6 => ?_) fun h6 => ?_
         ·replace h6 := cvh (b := (¬ (A = 0) ∨ (B = 0))) (by kernel_rfl) h6
          exact res_chk rfl (cvh (by kernel_rfl) (cs (A) (0) _ 1 (by omega) (by omega) (by omega) (.inr (.inr ⟨rfl, by omega, by omega⟩)))) (cvh (by kernel_rfl) km2)
         ·replace h6 := cvh (b := ¬ (¬ (A = 0) ∨ (B = 0))) (by kernel_rfl) h6
          exact res_chk rfl (cvh (by kernel_rfl) (cs (A) (0) _ 0 (by omega) (by omega) (by omega) (.inr (.inr ⟨rfl, by omega, by omega⟩)))) (cvh (by kernel_rfl) km2)
       ·replace h4 := cvh (b := ¬ (¬ (¬ (A = 0) ∨ (B = 0)) ∧ ¬ (q = 0))) (by kernel_rfl) h4
        refine res_ite (fun h5 => ?_) fun h5 => ?_
        ·replace h5 := cvh (b := (B = 0)) (by kernel_rfl) h5
         refine res_ite (fun h6 => ?_) fun h6 => ?_
         ·replace h6 := cvh (b := (¬ (A = 0) ∨ (B = 0))) (by kernel_rfl) h6
          exact res_chk rfl (cvh (by kernel_rfl) (cs (A) (1) _ 1 (by omega) (by omega) (by omega) (.inl ⟨rfl, by omega⟩))) (cvh (by kernel_rfl) km2)
         ·replace h6 := cvh (b := ¬ (¬ (A = 0) ∨ (B = 0))) (by kernel_rfl) h6
          exact res_chk rfl (cvh (by kernel_rfl) (cs (A) (1) _ 0 (by omega) (by omega) (by omega) (.inl ⟨rfl, by omega⟩))) (cvh (by kernel_rfl) km2)
        ·replace h5 := cvh (b := ¬ (B = 0)) (by kernel_rfl) h5
         refine res_ite (fun h6 => ?_) fun h6 => ?_
         ·replace h6 := cvh (b := (¬ (A = 0) ∨ (B = 0))) (by kernel_rfl) h6
          exact res_chk rfl (cvh (by kernel_rfl) (cs (A) (0) _ 1 (by omega) (by omega) (by omega) (.inl ⟨rfl, by omega⟩))) (cvh (by kernel_rfl) km2)
         ·replace h6 := cvh (b := ¬ (¬ (A = 0) ∨ (B = 0))) (by kernel_rfl) h6
          exact res_chk rfl (cvh (by kernel_rfl) (cs (A) (0) _ 0 (by omega) (by omega) (by omega) (.inl ⟨rfl, by omega⟩))) (cvh (by kernel_rfl) km2)
    ·replace h1 := cvh (b := ¬ (((dl x).len = 0) ∨ ((0 < (dl y).len) ∧ ((dl y).at 0 0 < (dl x).at 0 0)))) (by kernel_rfl) h1
     refine res_dat (dl ((x.take (dl x).len.toNat).drop (1 : Int).toNat)) (by kernel_rfl) ?_
     rw [sub_one lx]
     refine res_ite (fun h2 => ?_) fun h2 => ?_
     ·replace h2 := cvh (b := ((0 < (dl y).len) ∧ ((dl y).at 0 0 = (dl x).at 0 0))) (by kernel_rfl) h2
      refine res_dat (dl ((y.take (dl y).len.toNat).drop (1 : Int).toNat)) (by kernel_rfl) ?_
      rw [sub_one ly]
      have kx : ∀ A', A' = 1 - A → Pas x (x.drop 1) A A' ((dl x).at 0 0) := fun A' h => .inr ⟨rfl, h, by omega, by omega⟩
      have ky : ∀ B', B' = 1 - B → Pas y (y.drop 1) B B' ((dl x).at 0 0) := fun B' h => .inr ⟨rfl, h, by omega, by omega⟩
      have km : (dl (x.drop 1)).len + (dl (y.drop 1)).len < (dl x).len + (dl y).len := by omega
      have km2 : ((dl (x.drop 1)).len + (dl (y.drop 1)).len).toNat < ((dl x).len + (dl y).len).toNat := by omega
      clear h0 h1 h2
      have cs := fun A' B' l' q' (k1 : A' = 1 - A) (k2 : B' = 1 - B) k3 (k4 : Lst l l' q q' ((dl x).at 0 0)) => c_step (by decide) lx ly hl hA hB hq hI (kx A' k1) (ky B' k2) km (op1 k3) k4
      refine res_ite (fun h3 => ?_) fun h3 => ?_
      ·replace h3 := cvh (b := (((A = 0) ∨ (B = 0)) ∧ (q = 0))) (by kernel_rfl) h3
       refine res_ok (cvh (a := ((dl l).len + 1 ≤ 8278675785607)) (by kernel_rfl) (by omega)) ?_
       refine res_dat (dl [[.n ((dl x).at 0 0), .n 0]]) (by kernel_rfl) ?_
       refine res_dat (dl (l ++ [[.n ((dl x).at 0 0), .n 0]])) (by kernel_rfl) ?_
       refine res_ite (fun h4 => ?_) fun h4 => ?_
       ·replace h4 := cvh (b := (A = 0)) (by kernel_rfl) h4
        refine res_ite (fun h5 => ?_) fun h5 => ?_
        ·replace h5 := cvh (b := (B = 0)) (by kernel_rfl) h5
         refine res_ite (fun h6 => ?_) fun h6 => ?_
         ·replace h6 := cvh (b := ((A = 0) ∨ (B = 0))) (by kernel_rfl) h6
          exact res_chk rfl (cvh (by kernel_rfl) (cs (1) (1) _ 1 (by omega) (by omega) (by omega) (.inr (.inl ⟨rfl, by omega, by omega⟩)))) (cvh (by kernel_rfl) km2)
         ·replace h6 := cvh (b := ¬ ((A = 0) ∨ (B = 0))) (by kernel_rfl) h6
          exact res_chk rfl (cvh (by kernel_rfl) (cs (1) (1) _ 0 (by omega) (by omega) (by omega) (.inr (.inl ⟨rfl, by omega, by omega⟩)))) (cvh (by kernel_rfl) km2)
        ·replace h5 := cvh (b := ¬ (B = 0)) (by kernel_rfl) h5
         refine res_ite (fun h6 => ?_) fun h6 => ?_
         ·replace h6 := cvh (b := ((A = 0) ∨ (B = 0))) (by kernel_rfl) h6
          exact res_chk rfl (cvh (by kernel_rfl) (cs (1) (0) _ 1 (by omega) (by omega) (by omega) (.inr (.inl ⟨rfl, by omega, by omega⟩)))) (cvh (by kernel_rfl) km2)
         ·replace h6 := cvh (b := ¬ ((A = 0) ∨ (B = 0))) (by kernel_rfl) h6
          exact res_chk rfl (cvh (by kernel_rfl) (cs (1) (0) _ 0 (by omega) (by omega) (by omega) (.inr (.inl ⟨rfl, by omega, by omega⟩)))) (cvh (by kernel_rfl) km2)
       ·replace h4 := cvh (b := ¬ (A = 0)) (by kernel_rfl) h4
        refine res_ite (fun h5 => ?_) fun h5 => ?_
        ·replace h5 := cvh (b := (B = 0)) (by kernel_rfl) h5
         refine res_ite (fun h6 => ?_) fun h6 => ?_
         ·replace h6 := cvh (b := ((A = 0) ∨ (B = 0))) (by kernel_rfl) h6
          exact res_chk rfl (cvh (by kernel_rfl) (cs (0) (1) _ 1 (by omega) (by omega) (by omega) (.inr (.inl ⟨rfl, by omega, by omega⟩)))) (cvh (by kernel_rfl) km2)
         ·replace h6 := cvh (b := ¬ ((A = 0) ∨ (B = 0))) (by kernel_rfl) h6
          exact res_chk rfl (cvh (by kernel_rfl) (cs (0) (1) _ 0 (by omega) (by omega) (by omega) (.inr (.inl ⟨rfl, by omega, by omega⟩)))) (cvh (by kernel_rfl) km2)
        ·replace h5 := cvh (b := ¬ (B = 0)) (by kernel_rfl) h5
         refine res_ite (fun h6 => ?_) fun h6 => ?_
         ·replace h6 := cvh (b := ((A = 0) ∨ (B = 0))) (by kernel_rfl) h6
          exact res_chk rfl (cvh (by kernel_rfl) (cs (0) (0) _ 1 (by omega) (by omega) (by omega) (.inr (.inl ⟨rfl, by omega, by omega⟩)))) (cvh (by kernel_rfl) km2)
         ·replace h6 := cvh (b := ¬ ((A = 0) ∨ (B = 0))) (by kernel_rfl) h6
          exact res_chk rfl (cvh (by kernel_rfl) (cs (0) (0) _ 0 (by omega) (by omega) (by omega) (.inr (.inl ⟨rfl, by omega, by omega⟩)))) (cvh (by kernel_rfl) km2)
      ·replace h3 := cvh (b := ¬ (((A = 0) ∨ (B = 0)) ∧ (q = 0))) (by kernel_rfl) h3
       refine res_ite (fun h4 => ?_) fun h4 => ?_
       ·replace h4 := cvh (b := (¬ ((A = 0) ∨ (B = 0)) ∧ ¬ (q = 0))) (by kernel_rfl) h4
        refine res_ok (cvh (a := ((0 ≤ (dl l).len - 1) ∧ ((dl l).len - 1 < (dl l).len))) (by kernel_rfl) (by omega)) ?_
        refine res_dat (dl (l.modify ((dl l).len - 1).toNat (fun e : List DV => layG e 1 [DV.n (IntKind.i64.wrap ((dl x).at 0 0 - 1))]))) (by kernel_rfl) ?_
        refine res_ite (fun h5 => ?_) fun h5 => ?_
        ·replace h5 := cvh (b := (A = 0)) (by kernel_rfl) h5
         refine res_ite (fun h6 => ?_) fun h6 => ?_
         ·replace h6 := cvh (b := (B = 0)) (by kernel_rfl) h6
          refine res_ite (fun h7 => ?_) fun h7 => ?_
          ·replace h7 := cvh (b := ((A = 0) ∨ (B = 0))) (by kernel_rfl) h7
           exact res_chk rfl (cvh (by kernel_rfl) (cs (1) (1) _ 1 (by omega) (by omega) (by omega) (.inr (.inr ⟨rfl, by omega, by omega⟩)))) (cvh (by kernel_rfl) km2)
          ·replace h7 := cvh (b := ¬ ((A = 0) ∨ (B = 0))) (by kernel_rfl) h7
           exact res_chk rfl (cvh (by kernel_rfl) (cs (1) (1) _ 0 (by omega) (by omega) (by omega) (.inr (.inr ⟨rfl, by omega, by omega⟩)))) (cvh (by kernel_rfl) km2)
         ·replace h6 := cvh (b := ¬ (B = 0)) (by kernel_rfl) h6
          refine res_ite (fun h7 => ?_) fun h7 => ?_
          ·replace h7 := cvh (b := ((A = 0) ∨ (B = 0))) (by kernel_rfl) h7
           exact res_chk rfl (cvh (by kernel_rfl) (cs (1) (0) _ 1 (by omega) (by omega) (by omega) (.inr (.inr ⟨rfl, by omega, by omega⟩)))) (cvh (by kernel_rfl) km2)
          ·replace h7 := cvh (b := ¬ ((A = 0) ∨ (B = 0))) (by kernel_rfl) h7
           exact res_chk rfl (cvh (by kernel_rfl) (cs (1) (0) _ 0 (by omega) (by omega) (by omega) (.inr (.inr ⟨rfl, by omega, by omega⟩)))) (cvh (by kernel_rfl) km2)
        ·replace h5 := cvh (b := ¬ (A = 0)) (by kernel_rfl) h5
         refine res_ite (fun h6 => ?_) fun h6 => ?_
         ·replace h6 := cvh (b := (B = 0)) (by kernel_rfl) h6
          refine res_ite (fun h7 => ?_) fun h7 => ?_
          ·replace h7 := cvh (b := ((A = 0) ∨ (B = 0))) (by kernel_rfl) h7
           exact res_chk rfl (cvh (by kernel_rfl) (cs (0) (1) _ 1 (by omega) (by omega) (by omega) (.inr (.inr ⟨rfl, by omega, by omega⟩)))) (cvh (by kernel_rfl) km2)
          ·replace h7 := cvh (b := ¬ ((A = 0) ∨ (B = 0))) (by kernel_rfl) h7
           exact res_chk rfl (cvh (by kernel_rfl) (cs (0) (1) _ 0 (by omega) (by omega) (by omega) (.inr (.inr ⟨rfl, by omega, by omega⟩)))) (cvh (by kernel_rfl) km2)
         ·replace h6 := cvh (b := ¬ (B = 0)) (by kernel_rfl) h6
          refine res_ite (fun h7 => ?_) fun h7 => ?_
          ·replace h7 := cvh (b := ((A = 0) ∨ (B = 0))) (by kernel_rfl) h7
           exact res_chk rfl (cvh (by kernel_rfl) (cs (0) (0) _ 1 (by omega) (by omega) (by omega) (.inr (.inr ⟨rfl, by omega, by omega⟩)))) (cvh (by kernel_rfl) km2)
          ·replace h7 := cvh (b := ¬ ((A = 0) ∨ (B = 0))) (by kernel_rfl) h7
           exact res_chk rfl (cvh (by kernel_rfl) (cs (0) (0) _ 0 (by omega) (by omega) (by omega) (.inr (.inr ⟨rfl, by omega, by omega⟩)))) (cvh (by kernel_rfl) km2)
       ·replace h4 := cvh (b := ¬ (¬ ((A = 0) ∨ (B = 0)) ∧ ¬ (q = 0))) (by kernel_rfl) h4
        refine res_ite (fun h5 => ?_) fun h5 => ?_
        ·replace h5 := cvh (b := (A = 0)) (by kernel_rfl) h5
         refine res_ite (fun h6 => ?_) fun h6 => ?_
         ·replace h6 := cvh (b := (B = 0)) (by kernel_rfl) h6
          refine res_ite (fun h7 => ?_) fun h7 => ?_
          ·replace h7 := cvh (b := ((A = 0) ∨ (B = 0))) (by kernel_rfl) h7
           exact res_chk rfl (cvh (by kernel_rfl) (cs (1) (1) _ 1 (by omega) (by omega) (by omega) (.inl ⟨rfl, by omega⟩))) (cvh (by kernel_rfl) km2)
          ·replace h7 := cvh (b := ¬ ((A = 0) ∨ (B = 0))) (by kernel_rfl) h7
           exact res_chk rfl (cvh (by kernel_rfl) (cs (1) (1) _ 0 (by omega) (by omega) (by omega) (.inl ⟨rfl, by omega⟩))) (cvh (by kernel_rfl) km2)
         ·replace h6 := cvh (b := ¬ (B = 0)) (by kernel_rfl) h6
          refine res_ite (fun h7 => ?_) fun h7 => ?_
          ·replace h7 := cvh (b := ((A = 0) ∨ (B = 0))) (by kernel_rfl) h7
           exact res_chk rfl (cvh (by kernel_rfl) (cs (1) (0) _ 1 (by omega) (by omega) (by omega) (.inl ⟨rfl, by omega⟩))) (cvh (by kernel_rfl) km2)
          ·replace h7 := cvh (b := ¬ ((A = 0) ∨ (B = 0))) (by kernel_rfl) h7
           exact res_chk rfl (cvh (by kernel_rfl) (cs (1) (0) _ 0 (by omega) (by omega) (by omega) (.inl ⟨rfl, by omega⟩))) (cvh (by kernel_rfl) km2)
        ·replace h5 := cvh (b := ¬ (A = 0)) (by kernel_rfl) h5
         refine res_ite (fun h6 => ?_) fun h6 => ?_
         ·replace h6 := cvh (b := (B = 0)) (by kernel_rfl) h6
          refine res_ite (fun h7 => ?_) fun h7 => ?_
          ·replace h7 := cvh (b := ((A = 0) ∨ (B = 0))) (by kernel_rfl) h7
           exact res_chk rfl (cvh (by kernel_rfl) (cs (0) (1) _ 1 (by omega) (by omega) (by omega) (.inl ⟨rfl, by omega⟩))) (cvh (by kernel_rfl) km2)
          ·replace h7 := cvh (b := ¬ ((A = 0) ∨ (B = 0))) (by kernel_rfl) h7
           exact res_chk rfl (cvh (by kernel_rfl) (cs (0) (1) _ 0 (by omega) (by omega) (by omega) (.inl ⟨rfl, by omega⟩))) (cvh (by kernel_rfl) km2)
         ·replace h6 := cvh (b := ¬ (B = 0)) (by kernel_rfl) h6
          refine res_ite (fun h7 => ?_) fun h7 => ?_
          ·replace h7 := cvh (b := ((A = 0) ∨ (B = 0))) (by kernel_rfl) h7
           exact res_chk rfl (cvh (by kernel_rfl) (cs (0) (0) _ 1 (by omega) (by omega) (by omega) (.inl ⟨rfl, by omega⟩))) (cvh (by kernel_rfl) km2)
          ·replace h7 := cvh (b := ¬ ((A = 0) ∨ (B = 0))) (by kernel_rfl) h7
           exact res_chk rfl (cvh (by kernel_rfl) (cs (0) (0) _ 0 (by omega) (by omega) (by omega) (.inl ⟨rfl, by omega⟩))) (cvh (by kernel_rfl) km2)
     ·replace h2 := cvh (b := ¬ ((0 < (dl y).len) ∧ ((dl y).at 0 0 = (dl x).at 0 0))) (by kernel_rfl) h2
      have kx : ∀ A', A' = 1 - A → Pas x (x.drop 1) A A' ((dl x).at 0 0) := fun A' h => .inr ⟨rfl, h, by omega, by omega⟩
      have ky : ∀ B', B' = B → Pas y y B B' ((dl x).at 0 0) := fun B' h => .inl ⟨rfl, h, by omega⟩
      have km : (dl (x.drop 1)).len + (dl y).len < (dl x).len + (dl y).len := by omega
      have km2 : ((dl (x.drop 1)).len + (dl y).len).toNat < ((dl x).len + (dl y).len).toNat := by omega
      clear h0 h1 h2
      have cs := fun A' B' l' q' (k1 : A' = 1 - A) (k2 : B' = B) k3 (k4 : Lst l l' q q' ((dl x).at 0 0)) => c_step (by decide) lx ly hl hA hB hq hI (kx A' k1) (ky B' k2) km (op1 k3) k4
      refine res_ite (fun h3 => ?_) fun h3 => ?_
      ·replace h3 := cvh (b := (((A = 0) ∨ ¬ (B = 0)) ∧ (q = 0))) (by kernel_rfl) h3
       refine res_ok (cvh (a := ((dl l).len + 1 ≤ 8278675785607)) (by kernel_rfl) (by omega)) ?_
       refine res_dat (dl [[.n ((dl x).at 0 0), .n 0]]) (by kernel_rfl) ?_
       refine res_dat (dl (l ++ [[.n ((dl x).at 0 0), .n 0]])) (by kernel_rfl) ?_
       refine res_ite (fun h4 => ?_) fun h4 => ?_
       ·replace h4 := cvh (b := (A = 0)) (by kernel_rfl) h4
        refine res_ite (fun h5 => ?_) fun h5 => ?_
        ·replace h5 := cvh (b := ((A = 0) ∨ ¬ (B = 0))) (by kernel_rfl) h5
         exact res_chk rfl (cvh (by kernel_rfl) (cs (1) (B) _ 1 (by omega) (by omega) (by omega) (.inr (.inl ⟨rfl, by omega, by omega⟩)))) (cvh (by kernel_rfl) km2)
        ·replace h5 := cvh (b := ¬ ((A = 0) ∨ ¬ (B = 0))) (by kernel_rfl) h5
         exact res_chk rfl (cvh (by kernel_rfl) (cs (1) (B) _ 0 (by omega) (by omega) (by omega) (.inr (.inl ⟨rfl, by omega, by omega⟩)))) (cvh (by kernel_rfl) km2)
       ·replace h4 := cvh (b := ¬ (A = 0)) (by kernel_rfl) h4
        refine res_ite (fun h5 => ?_) fun h5 => ?_
        ·replace h5 := cvh (b := ((A = 0) ∨ ¬ (B = 0))) (by kernel_rfl) h5
         exact res_chk rfl (cvh (by kernel_rfl) (cs (0) (B) _ 1 (by omega) (by omega) (by omega) (.inr (.inl ⟨rfl, by omega, by omega⟩)))) (cvh (by kernel_rfl) km2)
        ·replace h5 := cvh (b := ¬ ((A = 0) ∨ ¬ (B = 0))) (by kernel_rfl) h5
         exact res_chk rfl (cvh (by kernel_rfl) (cs (0) (B) _ 0 (by omega) (by omega) (by omega) (.inr (.inl ⟨rfl, by omega, by omega⟩)))) (cvh (by kernel_rfl) km2)
      ·replace h3 := cvh (b := ¬ (((A = 0) ∨ ¬ (B = 0)) ∧ (q = 0))) (by kernel_rfl) h3
       refine res_ite (fun h4 => ?_) fun h4 => ?_
       ·replace h4 := cvh (b := (¬ ((A = 0) ∨ ¬ (B = 0)) ∧ ¬ (q = 0))) (by kernel_rfl) h4
        refine res_ok (cvh (a := ((0 ≤ (dl l).len - 1) ∧ ((dl l).len - 1 < (dl l).len))) (by kernel_rfl) (by omega)) ?_
        refine res_dat (dl (l.modify ((dl l).len - 1).toNat (fun e : List DV => layG e 1 [DV.n (IntKind.i64.wrap ((dl x).at 0 0 - 1))]))) (by kernel_rfl) ?_
        refine res_ite (fun h5 => ?_) fun h5 => ?_
        ·replace h5 := cvh (b := (A = 0)) (by kernel_rfl) h5
         refine res_ite (fun h6 => ?_) fun h6 => ?_
         ·replace h6 := cvh (b := ((A = 0) ∨ ¬ (B = 0))) (by kernel_rfl) h6
          exact res_chk rfl (cvh (by kernel_rfl) (cs (1) (B) _ 1 (by omega) (by omega) (by omega) (.inr (.inr ⟨rfl, by omega, by omega⟩)))) (cvh (by kernel_rfl) km2)
         ·replace h6 := cvh (b := ¬ ((A = 0) ∨ ¬ (B = 0))) (by kernel_rfl) h6
          exact res_chk rfl (cvh (by kernel_rfl) (cs (1) (B) _ 0 (by omega) (by omega) (by omega) (.inr (.inr ⟨rfl, by omega, by omega⟩)))) (cvh (by kernel_rfl) km2)
        ·replace h5 := cvh (b := ¬ (A = 0)) (by kernel_rfl) h5
         refine res_ite (fun h6 => ?_) fun h6 => ?_
         ·replace h6 := cvh (b := ((A = 0) ∨ ¬ (B = 0))) (by kernel_rfl) h6
          exact res_chk rfl (cvh (by kernel_rfl) (cs (0) (B) _ 1 (by omega) (by omega) (by omega) (.inr (.inr ⟨rfl, by omega, by omega⟩)))) (cvh (by kernel_rfl) km2)
         ·replace h6 := cvh (b := ¬ ((A = 0) ∨ ¬ (B = 0))) (by kernel_rfl) h6
          exact res_chk rfl (cvh (by kernel_rfl) (cs (0) (B) _ 0 (by omega) (by omega) (by omega) (.inr (.inr ⟨rfl, by omega, by omega⟩)))) (cvh (by kernel_rfl) km2)
       ·replace h4 := cvh (b := ¬ (¬ ((A = 0) ∨ ¬ (B = 0)) ∧ ¬ (q = 0))) (by kernel_rfl) h4
        refine res_ite (fun h5 => ?_) fun h5 => ?_
        ·replace h5 := cvh (b := (A = 0)) (by kernel_rfl) h5
         refine res_ite (fun h6 => ?_) fun h6 => ?_
         ·replace h6 := cvh (b := ((A = 0) ∨ ¬ (B = 0))) (by kernel_rfl) h6
          exact res_chk rfl (cvh (by kernel_rfl) (cs (1) (B) _ 1 (by omega) (by omega) (by omega) (.inl ⟨rfl, by omega⟩))) (cvh (by kernel_rfl) km2)
         ·replace h6 := cvh (b := ¬ ((A = 0) ∨ ¬ (B = 0))) (by kernel_rfl) h6
          exact res_chk rfl (cvh (by kernel_rfl) (cs (1) (B) _ 0 (by omega) (by omega) (by omega) (.inl ⟨rfl, by omega⟩))) (cvh (by kernel_rfl) km2)
        ·replace h5 := cvh (b := ¬ (A = 0)) (by kernel_rfl) h5
         refine res_ite (fun h6 => ?_) fun h6 => ?_
         ·replace h6 := cvh (b := ((A = 0) ∨ ¬ (B = 0))) (by kernel_rfl) h6
          exact res_chk rfl (cvh (by kernel_rfl) (cs (0) (B) _ 1 (by omega) (by omega) (by omega) (.inl ⟨rfl, by omega⟩))) (cvh (by kernel_rfl) km2)
         ·replace h6 := cvh (b := ¬ ((A = 0) ∨ ¬ (B = 0))) (by kernel_rfl) h6
          exact res_chk rfl (cvh (by kernel_rfl) (cs (0) (B) _ 0 (by omega) (by omega) (by omega) (.inl ⟨rfl, by omega⟩))) (cvh (by kernel_rfl) km2)
  · have h0 := cvh (b := ¬ ((0 < (dl x).len) ∨ (0 < (dl y).len))) (by kernel_rfl) z
    have fin := c_done (by omega) (by omega) hI
    have sll : (spn (dl l)).length = l.length := spn_len _
    refine res_ite (fun v => ?_) fun v => ?_
    · have v := cvh (b := 256 < (dl l).len) (by kernel_rfl) v
      refine res_dat (.sl none 0 []) (by kernel_rfl) ?_
      refine cvh (a := CombP 1 (.sl none 0 a) (.sl none 0 b) [.sl none 0 [], .n 2]) (by kernel_rfl) ?_
      exact err_fine ca cb (err_fine da db ⟨[], 2, rfl, _, fin, .inl ⟨by omega, rfl, rfl⟩⟩)
    · have v := cvh (b := ¬ 256 < (dl l).len) (by kernel_rfl) v
      refine cvh (a := CombP 1 (.sl none 0 a) (.sl none 0 b) [.sl none 0 l, .n 0]) (by kernel_rfl) ?_
      exact err_fine ca cb (err_fine da db ⟨l, 0, rfl, _, fin, .inr ⟨by omega, rfl, rfl⟩⟩)
end Go.Proofs.YtdffnmhpkapbkaaDoor
