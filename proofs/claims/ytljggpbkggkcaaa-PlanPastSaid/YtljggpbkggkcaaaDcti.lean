/- DERIVED. The greatest firm demand: the contract, proved. -/
import Derived.Test.YtljggpbkggkcaaaDcth
import Derived.Test.YtljggpbkggkcaaaDtreej
import Derived.Test.YtljggpbkggkcaaaDtreek
namespace Go.Proofs.Ytljggpbkggkcaaa
open Go.Dx
set_option linter.unusedVariables false
set_option linter.unusedSimpArgs false
theorem isr_fine {c : CO} (h : rightC c) : [DV.n 1] = [DV.n (if rightC c then 1 else 0)] := by rw [if_pos h]
theorem cIsR_ok (N : Nat) (w0 : World) : ConOk Try.prog tb N w0 (cIsR 35) := by
  refine con_of_walk (tb := tb) fine (C := [lChk]) (lopCons rfl noCon) 80 rfl ?_ N w0
  refine fun cap _ _ st _ _ fl _ _ P hP _ => ?_
  clear hP
  rw [tree_isr]
  have l0 := len_nn (.sl none 0 P)
  show T.res [lChk] (fun y => y = [.n (if rightC ⟨cap, st, fl, .sl none 0 P⟩ then 1 else 0)]) _ _
  have bad : ∀ q : ¬ rightC ⟨cap, st, fl, .sl none 0 P⟩, [DV.n 0] = [DV.n (if rightC ⟨cap, st, fl, .sl none 0 P⟩ then 1 else 0)] := fun q => by rw [if_neg q]
  refine res_ite (fun k => bad fun q => ?_) fun k1 => res_ite (fun k => bad fun q => ?_) fun k2 => res_ite (fun k => bad fun q => ?_) fun k3 => ?_
  · have k : cap < 0 ∨ 1099511627776 < cap := k
    have := q.1; dsimp only at this; omega
  · have k : st < 0 ∨ cap < st := k
    have := q.1; dsimp only at this; omega
  · have k : fl < 0 ∨ cap < fl := k
    have := q.1; dsimp only at this; omega
  have k1 : ¬ (cap < 0 ∨ 1099511627776 < cap) := k1
  have k2 : ¬ (st < 0 ∨ cap < st) := k2
  have k3 : ¬ (fl < 0 ∨ cap < fl) := k3
  refine res_lop rfl (show (0 : Int) ≤ (DV.sl none 0 P).len ∧ persOk (.sl none 0 P) (0 : Int).toNat from ⟨l0, fun k hk => absurd hk (by simp)⟩) ?_
  refine fun x x0 _ hI => ?_
  obtain ⟨hx, hp⟩ : x ≤ (DV.sl none 0 P).len ∧ persOk (.sl none 0 P) x.toNat := hI
  refine res_ite (fun hlt => ?_) fun hge => isr_fine ?_
  case refine_2 =>
    have hge : ¬ x < (DV.sl none 0 P).len := hge
    refine ⟨⟨by dsimp only; omega, by dsimp only; omega, by dsimp only; omega⟩, ?_⟩
    dsimp only
    rw [show (DV.sl none 0 P).len.toNat = x.toNat by omega]; exact hp
  have hlt : x < (DV.sl none 0 P).len := hlt
  generalize hL : DV.sl none 0 P = L at *
  have bad2 : ¬ perOk L x → [DV.n 0] = [DV.n (if rightC ⟨cap, st, fl, L⟩ then 1 else 0)] := fun q => bad (not_per (c := ⟨cap, st, fl, L⟩) x0 hlt q)
  subst hL
  refine res_ite (fun k => bad2 fun q => ?_) fun j1 => res_ite (fun k => bad2 fun q => ?_) fun j2 => res_ite (fun k => bad2 fun q => ?_) fun j3 => res_ite (fun k => bad2 fun q => ?_) fun j4 => res_ite (fun k => bad2 fun q => ?_) fun j5 => ?_
  · have k : (DV.sl none 0 P).at x 1 < 0 ∨ 1099511627776 < (DV.sl none 0 P).at x 1 := k
    unfold perOk okN at q; omega
  · have k : (DV.sl none 0 P).at x 3 < 0 ∨ 1099511627776 < (DV.sl none 0 P).at x 3 := k
    unfold perOk okN at q; omega
  · have k : (DV.sl none 0 P).at x 4 < 0 ∨ 1099511627776 < (DV.sl none 0 P).at x 4 := k
    unfold perOk okN at q; omega
  · have k : (DV.sl none 0 P).at x 0 < 0 ∨ (DV.sl none 0 P).at x 1 < (DV.sl none 0 P).at x 0 := k
    unfold perOk okN at q; omega
  · have k : (DV.sl none 0 P).at x 2 < 0 ∨ (DV.sl none 0 P).at x 3 < (DV.sl none 0 P).at x 2 := k
    unfold perOk okN at q; omega
  have j1 : ¬ ((DV.sl none 0 P).at x 1 < 0 ∨ 1099511627776 < (DV.sl none 0 P).at x 1) := j1
  have j2 : ¬ ((DV.sl none 0 P).at x 3 < 0 ∨ 1099511627776 < (DV.sl none 0 P).at x 3) := j2
  have j3 : ¬ ((DV.sl none 0 P).at x 4 < 0 ∨ 1099511627776 < (DV.sl none 0 P).at x 4) := j3
  have j4 : ¬ ((DV.sl none 0 P).at x 0 < 0 ∨ (DV.sl none 0 P).at x 1 < (DV.sl none 0 P).at x 0) := j4
  have j5 : ¬ ((DV.sl none 0 P).at x 2 < 0 ∨ (DV.sl none 0 P).at x 3 < (DV.sl none 0 P).at x 2) := j5
  refine res_chk rfl ?_ ?_
  · show x + 1 ≤ (DV.sl none 0 P).len ∧ persOk (.sl none 0 P) (x + 1).toNat
    exact ⟨by omega, persOk_succ x0 hp (by unfold perOk okN; omega)⟩
  · show ((DV.sl none 0 P).len - (x + 1)).toNat < ((DV.sl none 0 P).len - x).toNat
    omega
theorem firm_bad {c : CO} {S : DV} {e : Int} (h : chkF c ≠ 0) (hs : e = chkF c) : [DV.n 0, .n 0, .n e] = FirmF c S := by
  unfold FirmF; rw [if_pos h, hs]
theorem firm_shape {c : CO} {S : DV} (h : chkF c = 0) (k : S.len ≠ c.P.len ∨ ¬ shOk S S.len.toNat) : [DV.n 0, .n 0, .n 390] = FirmF c S := by
  unfold FirmF; rw [if_neg (by omega), if_pos k]
theorem firm_none {c : CO} {S : DV} (h : chkF c = 0) (k : ¬ (S.len ≠ c.P.len ∨ ¬ shOk S S.len.toNat)) (q : firstF c S = 0) : [DV.n 0, .n 0, .n 0] = FirmF c S := by
  unfold FirmF; rw [if_neg (by omega), if_neg k, if_pos q]
theorem firm_some {c : CO} {S : DV} {x : Int} (h : chkF c = 0) (k : ¬ (S.len ≠ c.P.len ∨ ¬ shOk S S.len.toNat)) (q : firstF c S ≠ 0) (hx : x = firstF c S - 1) : [DV.n x, .n 1, .n 0] = FirmF c S := by
  unfold FirmF; rw [if_neg (by omega), if_neg k, if_neg q, hx]
theorem setK_len (els : List (List DV)) (S : DV) (n : Int) : ∀ i : Nat, (setK els S n i).length = els.length
  | 0 => rfl
  | i + 1 => by
    show ((setK els S n i).modify i _).length = _
    rw [mod_len, setK_len els S n i]
theorem bs_end {p : Int → Prop} [DecidablePred p] {lo hi : Int} (h : ¬ lo < hi) : ∀ f : Nat, bs p f lo hi = lo
  | 0 => rfl
  | f + 1 => by unfold bs; rw [if_neg h]
theorem bs_yes {p : Int → Prop} [DecidablePred p] {lo hi F : Int} {f : Nat} (h : lo < hi) (hf : hi - lo < 2 ^ f) (hb : bs p f lo hi = F) (q : p ((lo + hi) / 2)) : (lo + hi) / 2 + 1 ≤ hi ∧ ∃ f, hi - ((lo + hi) / 2 + 1) < 2 ^ f ∧ bs p f ((lo + hi) / 2 + 1) hi = F := by
  cases f with
  | zero => simp at hf; omega
  | succ f =>
    unfold bs at hb
    rw [if_pos h, if_pos q] at hb
    refine ⟨by omega, f, ?_, hb⟩
    rw [Int.pow_succ] at hf
    omega
theorem bs_no {p : Int → Prop} [DecidablePred p] {lo hi F : Int} {f : Nat} (h : lo < hi) (hf : hi - lo < 2 ^ f) (hb : bs p f lo hi = F) (q : ¬ p ((lo + hi) / 2)) : lo ≤ (lo + hi) / 2 ∧ ∃ f, (lo + hi) / 2 - lo < 2 ^ f ∧ bs p f lo ((lo + hi) / 2) = F := by
  cases f with
  | zero => simp at hf; omega
  | succ f =>
    unfold bs at hb
    rw [if_pos h, if_neg q] at hb
    refine ⟨by omega, f, ?_, hb⟩
    rw [Int.pow_succ] at hf
    omega
theorem shOk_succ {S : DV} {x : Int} (h0 : 0 ≤ x) (h : shOk S x.toNat) (hx : 0 ≤ S.at x 0 ∧ S.at x 0 ≤ 1048576) : shOk S (x + 1).toNat := fun k hk => by
  by_cases e : k < x.toNat
  · exact h k e
  · rw [show (k : Int) = x by omega]; exact hx
set_option maxHeartbeats 4000000 in
theorem cFirm_ok (N : Nat) (w0 : World) : ConOk Try.prog tb N w0 (cFirm 23) := by
  refine con_of_walk (tb := tb) fine (C := [cChk 14, cIsR 35, cRobOf 33, lWith 6, lFirm 28, lFst 28]) (conCons cChk_ok (conCons cIsR_ok (conCons cRobOf_ok (lopCons rfl (lopCons rfl (lopCons rfl noCon)))))) 80 rfl ?_ N w0
  refine fun cap _ _ st _ _ fl _ _ P hP S hS _ => ?_
  have hPl : P.length ≤ 9223372036854775807 := hP.1
  clear hP hS
  rw [tree_firm]
  have l0 := len_nn (.sl none 0 P)
  have ll : (DV.sl none 0 P).len = P.length := clampL_eq hPl
  have s0 := len_nn (.sl none 0 S)
  show T.res [cChk 14, cIsR 35, cRobOf 33, lWith 6, lFirm 28, lFst 28] (fun y => y = FirmF ⟨cap, st, fl, .sl none 0 P⟩ (.sl none 0 S)) _ _
  refine res_con rfl trivial (fun e _ _ he => ?_)
  have he : [DV.n e] = [DV.n (chkF ⟨cap, st, fl, .sl none 0 P⟩)] := he
  obtain ⟨es, hs⟩ := chk_in he
  refine res_ite (fun h => ?_) fun h => ?_
  · have h : ¬ e = 0 := h
    exact firm_bad (by omega) es
  have h : ¬ ¬ e = 0 := h
  rcases hs with ⟨hz, hc0, hlen, hr⟩ | q
  case inr => exact absurd q.1 h
  have hlen : (DV.sl none 0 P).len ≤ 64 := hlen
  refine res_ite (fun k => ?_) fun k => firm_shape hc0 (.inl k)
  have k : (DV.sl none 0 S).len = (DV.sl none 0 P).len := k
  refine res_lop rfl (show (0 : Int) ≤ (DV.sl none 0 S).len ∧ shOk (.sl none 0 S) (0 : Int).toNat from ⟨s0, fun k hk => absurd hk (by simp)⟩) (fun x x0 _ hI => ?_)
  obtain ⟨hx, hp⟩ : x ≤ (DV.sl none 0 S).len ∧ shOk (.sl none 0 S) x.toNat := hI
  refine res_ite (fun hlt => ?_) fun hge => ?_
  · have hlt : x < (DV.sl none 0 S).len := hlt
    refine res_ite (fun q => firm_shape hc0 (.inr fun z => ?_)) fun q => ?_
    · have q : (DV.sl none 0 S).at x 0 < 0 ∨ 1048576 < (DV.sl none 0 S).at x 0 := q
      have := z x.toNat (by omega)
      rw [show ((x.toNat : Nat) : Int) = x by omega] at this
      omega
    · have q : ¬ ((DV.sl none 0 S).at x 0 < 0 ∨ 1048576 < (DV.sl none 0 S).at x 0) := q
      refine res_chk rfl (show x + 1 ≤ (DV.sl none 0 S).len ∧ shOk (.sl none 0 S) (x + 1).toNat from ⟨by omega, shOk_succ x0 hp (by omega)⟩) ?_
      show ((DV.sl none 0 S).len - (x + 1)).toNat < ((DV.sl none 0 S).len - x).toNat
      omega
  have hge : ¬ x < (DV.sl none 0 S).len := hge
  have hsh : shOk (.sl none 0 S) (DV.sl none 0 S).len.toNat := by rw [show (DV.sl none 0 S).len.toNat = x.toNat by omega]; exact hp
  have hgood : ¬ ((DV.sl none 0 S).len ≠ (CO.mk cap st fl (.sl none 0 P)).P.len ∨ ¬ shOk (.sl none 0 S) (DV.sl none 0 S).len.toNat) := fun z => z.elim (fun z => z k) (fun z => z hsh)
  refine res_lop rfl (show (0 : Int) ≤ 1048577 ∧ ∃ f, (1048577 : Int) - 0 < 2 ^ f ∧ bs (met ⟨cap, st, fl, .sl none 0 P⟩ (.sl none 0 S)) f 0 1048577 = firstF ⟨cap, st, fl, .sl none 0 P⟩ (.sl none 0 S) from ⟨by decide, 21, by decide, rfl⟩) (fun lo lo0 lo1 hi hi0 hi1 hJ => ?_)
  obtain ⟨hle, f, hf, hb⟩ : lo ≤ hi ∧ ∃ f, hi - lo < 2 ^ f ∧ bs (met ⟨cap, st, fl, .sl none 0 P⟩ (.sl none 0 S)) f lo hi = firstF ⟨cap, st, fl, .sl none 0 P⟩ (.sl none 0 S) := hJ
  refine res_ite (fun hlt => ?_) fun hge2 => ?_
  case refine_2 =>
    have hge2 : ¬ lo < hi := hge2
    have e1 : firstF ⟨cap, st, fl, .sl none 0 P⟩ (.sl none 0 S) = lo := by rw [← hb, bs_end hge2]
    refine res_ite (fun z => ?_) fun z => ?_
    · have z : lo = 0 := z
      exact firm_none hc0 hgood (by omega)
    · have z : ¬ lo = 0 := z
      exact firm_some hc0 hgood (by omega) (show lo - 1 = _ by omega)
  have hlt : lo < hi := hlt
  have hq : Int.tdiv (lo + hi) 2 = (lo + hi) / 2 := Int.tdiv_eq_ediv_of_nonneg (by omega)
  have yes : met ⟨cap, st, fl, .sl none 0 P⟩ (.sl none 0 S) ((lo + hi) / 2) → Int.tdiv (lo + hi) 2 + 1 ≤ hi ∧ ∃ f, hi - (Int.tdiv (lo + hi) 2 + 1) < 2 ^ f ∧ bs (met ⟨cap, st, fl, .sl none 0 P⟩ (.sl none 0 S)) f (Int.tdiv (lo + hi) 2 + 1) hi = firstF ⟨cap, st, fl, .sl none 0 P⟩ (.sl none 0 S) := fun q => by rw [hq]; exact bs_yes hlt hf hb q
  have no : ¬ met ⟨cap, st, fl, .sl none 0 P⟩ (.sl none 0 S) ((lo + hi) / 2) → lo ≤ Int.tdiv (lo + hi) 2 ∧ ∃ f, Int.tdiv (lo + hi) 2 - lo < 2 ^ f ∧ bs (met ⟨cap, st, fl, .sl none 0 P⟩ (.sl none 0 S)) f lo (Int.tdiv (lo + hi) 2) = firstF ⟨cap, st, fl, .sl none 0 P⟩ (.sl none 0 S) := fun q => by rw [hq]; exact bs_no hlt hf hb q
  have my : (hi - (Int.tdiv (lo + hi) 2 + 1)).toNat < (hi - lo).toNat := by rw [hq]; omega
  have mn : (Int.tdiv (lo + hi) 2 - lo).toNat < (hi - lo).toNat := by rw [hq]; omega
  clear hb hf
  refine res_ite (fun hn => res_both ?_ ?_) fun hn => ?_
  · have hn : (DV.sl none 0 P).len = 0 := hn
    have hP0 : P = [] := List.eq_nil_of_length_eq_zero (by omega)
    refine res_dat (.sl none 0 []) rfl ?_
    refine res_lop rfl (show (0 : Int) ≤ (DV.sl none 0 P).len ∧ [] = setK P (.sl none 0 S) ((lo + hi) / 2) (0 : Int).toNat from ⟨l0, hP0.symm⟩) (fun i i0 i1 L hLs hK => ?_)
    clear hLs
    obtain ⟨hi2, hL⟩ : i ≤ (DV.sl none 0 P).len ∧ L = setK P (.sl none 0 S) ((lo + hi) / 2) i.toNat := hK
    have hLl : (DV.sl none 0 L).len = (DV.sl none 0 P).len := by
      show clampL L.length = clampL P.length
      rw [hL, setK_len]
    rw [show i.toNat = (DV.sl none 0 P).len.toNat by omega] at hL
    refine res_con rfl trivial (fun b _ _ hB => ?_)
    have hB : [DV.n b] = [DV.n (if rightC ⟨cap, st, fl, .sl none 0 L⟩ then 1 else 0)] := hB
    have hB := n_inj hB
    have hd : CO.mk cap st fl (.sl none 0 L) = dem ⟨cap, st, fl, .sl none 0 P⟩ (.sl none 0 S) ((lo + hi) / 2) := by rw [hL]; rfl
    refine res_ite (fun z => ?_) fun z => ?_
    · have z : ¬ b = 0 := z
      have hR : rightC ⟨cap, st, fl, .sl none 0 L⟩ := Classical.byContradiction fun q => z (by rw [hB, if_neg q])
      refine res_con rfl (show (DV.sl none 0 L).len ≤ 64 ∧ rightC ⟨cap, st, fl, .sl none 0 L⟩ from ⟨by rw [hLl]; exact hlen, hR⟩) (fun c1 _ _ c2 _ _ c3 _ _ P' hP' M hM hO => ?_)
      clear hP' hM
      have hO : [DV.n c1, .n c2, .n c3, .sl none 0 P', .sl none 0 M] = [DV.n cap, .n st, .n fl, .sl none 0 L, .sl none 0 (rowsF ⟨cap, st, fl, .sl none 0 L⟩)] := hO
      simp only [List.cons.injEq, DV.sl.injEq, DV.n.injEq, true_and, and_true] at hO
      have hM := hO.2.2.2.2
      have lM : (DV.sl none 0 M).len = ((DV.sl none 0 L).len.toNat + 1 : Nat) := len_of (by rw [hM, rowsF_len]) (by omega)
      have g0 := row_at hR hM (t := 0) (by omega) (by show 0 ≤ (DV.sl none 0 L).len; omega)
      refine res_ok (show (0 : Int) ≤ 0 ∧ 0 < (DV.sl none 0 M).len by omega) ?_
      refine res_ite (fun y => res_chk rfl (yes ?_) my) fun y => res_chk rfl (no fun q => y ?_) mn
      · have y : (DV.sl none 0 M).at 0 0 ≤ st ∧ st ≤ (DV.sl none 0 M).at 0 1 := y
        rw [g0.1, g0.2] at y
        unfold met; rw [← hd]
        exact ⟨hR, y⟩
      · unfold met at q; rw [← hd] at q
        show (DV.sl none 0 M).at 0 0 ≤ st ∧ st ≤ (DV.sl none 0 M).at 0 1
        rw [g0.1, g0.2]; exact q.2
    · have z : ¬ ¬ b = 0 := z
      refine res_chk rfl (no fun q => z fun hz => ?_) mn
      unfold met at q; rw [← hd] at q
      rw [hB, if_pos q.1] at hz
      exact absurd hz (by decide)
  · clear hn
    refine res_ok (show (DV.sl none 0 P).len ≤ 3432621667203 by omega) ?_
    refine res_lop rfl (show (0 : Int) ≤ (DV.sl none 0 P).len ∧ P = setK P (.sl none 0 S) ((lo + hi) / 2) (0 : Int).toNat from ⟨l0, rfl⟩) (fun i i0 i1 L hLs hK => ?_)
    clear hLs
    obtain ⟨hi2, hL⟩ : i ≤ (DV.sl none 0 P).len ∧ L = setK P (.sl none 0 S) ((lo + hi) / 2) i.toNat := hK
    have hLl : (DV.sl none 0 L).len = (DV.sl none 0 P).len := by
      show clampL L.length = clampL P.length
      rw [hL, setK_len]
    refine res_ite (fun hil => ?_) fun hil => ?_
    · have hil : i < (DV.sl none 0 P).len := hil
      have hsi := hsh i.toNat (by omega)
      rw [show ((i.toNat : Nat) : Int) = i by omega] at hsi
      have hm0 : 0 ≤ (lo + hi) / 2 := by omega
      have hm1 : (lo + hi) / 2 ≤ 1048577 := by omega
      have b0 : 0 ≤ (lo + hi) / 2 * (DV.sl none 0 S).at i 0 := Int.mul_nonneg hm0 hsi.1
      have b1 : (lo + hi) / 2 * (DV.sl none 0 S).at i 0 ≤ 1048577 * 1048576 := Int.mul_le_mul hm1 hsi.2 hsi.1 (by decide)
      have ew : IntKind.i64.wrap (Int.tdiv (lo + hi) 2 * (DV.sl none 0 S).at i 0) = (lo + hi) / 2 * (DV.sl none 0 S).at i 0 := by rw [hq]; exact wI (by omega) (by omega)
      refine res_ok (show 0 ≤ i ∧ i < (DV.sl none 0 S).len by omega) (res_ok (show 0 ≤ i ∧ i < (DV.sl none 0 L).len by omega) ?_)
      refine res_dat (.sl none 0 (L.modify i.toNat fun e => layG e 2 [.n (IntKind.i64.wrap (Int.tdiv (lo + hi) 2 * (DV.sl none 0 S).at i 0))])) rfl ?_
      refine res_chk rfl (show i + 1 ≤ (DV.sl none 0 P).len ∧ L.modify i.toNat (fun e => layG e 2 [.n (IntKind.i64.wrap (Int.tdiv (lo + hi) 2 * (DV.sl none 0 S).at i 0))]) = setK P (.sl none 0 S) ((lo + hi) / 2) (i + 1).toNat from ⟨by omega, ?_⟩) ?_
      · rw [ew, show (i + 1).toNat = i.toNat + 1 by omega]
        show _ = (setK P (.sl none 0 S) ((lo + hi) / 2) i.toNat).modify i.toNat fun e => layG e 2 [.n ((lo + hi) / 2 * (DV.sl none 0 S).at i.toNat 0)]
        rw [hL, show ((i.toNat : Nat) : Int) = i by omega]
      · show ((DV.sl none 0 P).len - (i + 1)).toNat < ((DV.sl none 0 P).len - i).toNat
        omega
    have hil : ¬ i < (DV.sl none 0 P).len := hil
    rw [show i.toNat = (DV.sl none 0 P).len.toNat by omega] at hL
    refine res_con rfl trivial (fun b _ _ hB => ?_)
    have hB : [DV.n b] = [DV.n (if rightC ⟨cap, st, fl, .sl none 0 L⟩ then 1 else 0)] := hB
    have hB := n_inj hB
    have hd : CO.mk cap st fl (.sl none 0 L) = dem ⟨cap, st, fl, .sl none 0 P⟩ (.sl none 0 S) ((lo + hi) / 2) := by rw [hL]; rfl
    refine res_ite (fun z => ?_) fun z => ?_
    · have z : ¬ b = 0 := z
      have hR : rightC ⟨cap, st, fl, .sl none 0 L⟩ := Classical.byContradiction fun q => z (by rw [hB, if_neg q])
      refine res_con rfl (show (DV.sl none 0 L).len ≤ 64 ∧ rightC ⟨cap, st, fl, .sl none 0 L⟩ from ⟨by rw [hLl]; exact hlen, hR⟩) (fun c1 _ _ c2 _ _ c3 _ _ P' hP' M hM hO => ?_)
      clear hP' hM
      have hO : [DV.n c1, .n c2, .n c3, .sl none 0 P', .sl none 0 M] = [DV.n cap, .n st, .n fl, .sl none 0 L, .sl none 0 (rowsF ⟨cap, st, fl, .sl none 0 L⟩)] := hO
      simp only [List.cons.injEq, DV.sl.injEq, DV.n.injEq, true_and, and_true] at hO
      have hM := hO.2.2.2.2
      have lM : (DV.sl none 0 M).len = ((DV.sl none 0 L).len.toNat + 1 : Nat) := len_of (by rw [hM, rowsF_len]) (by omega)
      have g0 := row_at hR hM (t := 0) (by omega) (by show 0 ≤ (DV.sl none 0 L).len; omega)
      refine res_ok (show (0 : Int) ≤ 0 ∧ 0 < (DV.sl none 0 M).len by omega) ?_
      refine res_ite (fun y => res_chk rfl (yes ?_) my) fun y => res_chk rfl (no fun q => y ?_) mn
      · have y : (DV.sl none 0 M).at 0 0 ≤ st ∧ st ≤ (DV.sl none 0 M).at 0 1 := y
        rw [g0.1, g0.2] at y
        unfold met; rw [← hd]
        exact ⟨hR, y⟩
      · unfold met at q; rw [← hd] at q
        show (DV.sl none 0 M).at 0 0 ≤ st ∧ st ≤ (DV.sl none 0 M).at 0 1
        rw [g0.1, g0.2]; exact q.2
    · have z : ¬ ¬ b = 0 := z
      refine res_chk rfl (no fun q => z fun hz => ?_) mn
      unfold met at q; rw [← hd] at q
      rw [hB, if_pos q.1] at hz
      exact absurd hz (by decide)
  · clear hn
    refine res_ok (show (DV.sl none 0 P).len ≤ 3432621667203 by omega) ?_
    refine res_lop rfl (show (0 : Int) ≤ (DV.sl none 0 P).len ∧ P = setK P (.sl none 0 S) ((lo + hi) / 2) (0 : Int).toNat from ⟨l0, rfl⟩) (fun i i0 i1 L hLs hK => ?_)
    clear hLs
    obtain ⟨hi2, hL⟩ : i ≤ (DV.sl none 0 P).len ∧ L = setK P (.sl none 0 S) ((lo + hi) / 2) i.toNat := hK
    have hLl : (DV.sl none 0 L).len = (DV.sl none 0 P).len := by
      show clampL L.length = clampL P.length
      rw [hL, setK_len]
    refine res_ite (fun hil => ?_) fun hil => ?_
    · have hil : i < (DV.sl none 0 P).len := hil
      have hsi := hsh i.toNat (by omega)
      rw [show ((i.toNat : Nat) : Int) = i by omega] at hsi
      have hm0 : 0 ≤ (lo + hi) / 2 := by omega
      have hm1 : (lo + hi) / 2 ≤ 1048577 := by omega
      have b0 : 0 ≤ (lo + hi) / 2 * (DV.sl none 0 S).at i 0 := Int.mul_nonneg hm0 hsi.1
      have b1 : (lo + hi) / 2 * (DV.sl none 0 S).at i 0 ≤ 1048577 * 1048576 := Int.mul_le_mul hm1 hsi.2 hsi.1 (by decide)
      have ew : IntKind.i64.wrap (Int.tdiv (lo + hi) 2 * (DV.sl none 0 S).at i 0) = (lo + hi) / 2 * (DV.sl none 0 S).at i 0 := by rw [hq]; exact wI (by omega) (by omega)
      refine res_ok (show 0 ≤ i ∧ i < (DV.sl none 0 S).len by omega) (res_ok (show 0 ≤ i ∧ i < (DV.sl none 0 L).len by omega) ?_)
      refine res_dat (.sl none 0 (L.modify i.toNat fun e => layG e 2 [.n (IntKind.i64.wrap (Int.tdiv (lo + hi) 2 * (DV.sl none 0 S).at i 0))])) rfl ?_
      refine res_chk rfl (show i + 1 ≤ (DV.sl none 0 P).len ∧ L.modify i.toNat (fun e => layG e 2 [.n (IntKind.i64.wrap (Int.tdiv (lo + hi) 2 * (DV.sl none 0 S).at i 0))]) = setK P (.sl none 0 S) ((lo + hi) / 2) (i + 1).toNat from ⟨by omega, ?_⟩) ?_
      · rw [ew, show (i + 1).toNat = i.toNat + 1 by omega]
        show _ = (setK P (.sl none 0 S) ((lo + hi) / 2) i.toNat).modify i.toNat fun e => layG e 2 [.n ((lo + hi) / 2 * (DV.sl none 0 S).at i.toNat 0)]
        rw [hL, show ((i.toNat : Nat) : Int) = i by omega]
      · show ((DV.sl none 0 P).len - (i + 1)).toNat < ((DV.sl none 0 P).len - i).toNat
        omega
    have hil : ¬ i < (DV.sl none 0 P).len := hil
    rw [show i.toNat = (DV.sl none 0 P).len.toNat by omega] at hL
    refine res_con rfl trivial (fun b _ _ hB => ?_)
    have hB : [DV.n b] = [DV.n (if rightC ⟨cap, st, fl, .sl none 0 L⟩ then 1 else 0)] := hB
    have hB := n_inj hB
    have hd : CO.mk cap st fl (.sl none 0 L) = dem ⟨cap, st, fl, .sl none 0 P⟩ (.sl none 0 S) ((lo + hi) / 2) := by rw [hL]; rfl
    refine res_ite (fun z => ?_) fun z => ?_
    · have z : ¬ b = 0 := z
      have hR : rightC ⟨cap, st, fl, .sl none 0 L⟩ := Classical.byContradiction fun q => z (by rw [hB, if_neg q])
      refine res_con rfl (show (DV.sl none 0 L).len ≤ 64 ∧ rightC ⟨cap, st, fl, .sl none 0 L⟩ from ⟨by rw [hLl]; exact hlen, hR⟩) (fun c1 _ _ c2 _ _ c3 _ _ P' hP' M hM hO => ?_)
      clear hP' hM
      have hO : [DV.n c1, .n c2, .n c3, .sl none 0 P', .sl none 0 M] = [DV.n cap, .n st, .n fl, .sl none 0 L, .sl none 0 (rowsF ⟨cap, st, fl, .sl none 0 L⟩)] := hO
      simp only [List.cons.injEq, DV.sl.injEq, DV.n.injEq, true_and, and_true] at hO
      have hM := hO.2.2.2.2
      have lM : (DV.sl none 0 M).len = ((DV.sl none 0 L).len.toNat + 1 : Nat) := len_of (by rw [hM, rowsF_len]) (by omega)
      have g0 := row_at hR hM (t := 0) (by omega) (by show 0 ≤ (DV.sl none 0 L).len; omega)
      refine res_ok (show (0 : Int) ≤ 0 ∧ 0 < (DV.sl none 0 M).len by omega) ?_
      refine res_ite (fun y => res_chk rfl (yes ?_) my) fun y => res_chk rfl (no fun q => y ?_) mn
      · have y : (DV.sl none 0 M).at 0 0 ≤ st ∧ st ≤ (DV.sl none 0 M).at 0 1 := y
        rw [g0.1, g0.2] at y
        unfold met; rw [← hd]
        exact ⟨hR, y⟩
      · unfold met at q; rw [← hd] at q
        show (DV.sl none 0 M).at 0 0 ≤ st ∧ st ≤ (DV.sl none 0 M).at 0 1
        rw [g0.1, g0.2]; exact q.2
    · have z : ¬ ¬ b = 0 := z
      refine res_chk rfl (no fun q => z fun hz => ?_) mn
      unfold met at q; rw [← hd] at q
      rw [hB, if_pos q.1] at hz
      exact absurd hz (by decide)
end Go.Proofs.Ytljggpbkggkcaaa
