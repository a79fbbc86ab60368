/- DERIVED. The laws of a field, and of its order. -/
import Derived.Test.YtkcomadagclikaaTreeE
import Derived.Test.YtkcomadagclikaaLaws
namespace Go.Proofs.Ytkcomadagclikaa
open Go.Sx Go.RowKit
set_option linter.unusedVariables false
set_option linter.unusedSimpArgs false
theorem sm {V : Prop} {n d N D e : Int} (h : Op2 V n d N D e) (hv : V) (hd : d ≠ 0) (h1 : n.natAbs ≤ 1073741824) (h2 : d.natAbs ≤ 1073741824) : e = 0 ∧ Can N D n d ∧ N.natAbs ≤ n.natAbs ∧ D.natAbs ≤ d.natAbs := by
  obtain ⟨a, b, c⟩ := h.1 hv
  have he := mk_small hd h1 h2
  have hr := rx_le (n := n) (d := d)
  obtain ⟨a1, a2, a3⟩ := mk_ok (n := n) (d := d) hd (by omega) (by omega)
  refine ⟨by omega, ?_, ?_, by omega⟩
  · rw [a, b]; exact mk_can hd he
  · rw [a, a1]; split <;> omega
theorem asC {V : Prop} {n d N D e A B : Int} (h : Op2 V n d N D e) (hv : V) (hc : Can A B n d) : N = A ∧ D = B ∧ e = 0 := by
  obtain ⟨a, b, c⟩ := h.1 hv
  obtain ⟨x, y, z⟩ := can_mk hc
  omega
theorem both {V V' : Prop} {n d N D e n' d' N' D' e' : Int} (h : Op2 V n d N D e) (hv : V) (h' : Op2 V' n' d' N' D' e') (hv' : V') (hd : d ≠ 0) (hd' : d' ≠ 0) (hc : n * d' = n' * d) : N = N' ∧ D = D' ∧ e = e' ∧ (e = 0 ∨ e = 2) := by
  obtain ⟨a, b, c⟩ := h.1 hv
  obtain ⟨a', b', c'⟩ := h'.1 hv'
  obtain ⟨x, y, z⟩ := mk_cross hd hd' hc
  refine ⟨by omega, by omega, by omega, ?_⟩
  by_cases he : mkE n d = 0
  · omega
  · have := mk_two hd he; omega
theorem nb {x y : Int} {A B : Nat} (hx : x.natAbs ≤ A) (hy : y.natAbs ≤ B) : (x * y).natAbs ≤ A * B := by
  rw [Int.natAbs_mul]; exact Nat.mul_le_mul hx hy
theorem Val.ne {N D : Int} (h : Val N D) : D ≠ 0 := by have := h.1; omega
theorem i64r {x : Int} (h1 : -1073741824 ≤ x) (h2 : x ≤ 1073741824) : I64 x := ⟨Int.le_trans (by decide) h1, Int.le_trans h2 (by decide)⟩
theorem i64p {x : Int} (h1 : 0 ≤ x) (h2 : x ≤ 1073741824) : I64 x := ⟨Int.le_trans (by decide) h1, Int.le_trans h2 (by decide)⟩
theorem alg1 {a1 a2 b1 b2 x y : Int} (h : x * (a2 * b2) = (a1 * b2 + b1 * a2) * y) : x * (b2 * a2) = (b1 * a2 + a1 * b2) * y := by grind
theorem alg2 {a1 a2 b1 b2 x y : Int} (h : x * (a2 * b2) = (a1 * b1) * y) : x * (b2 * a2) = (b1 * a1) * y := by grind
theorem alg3 {a1 a2 b1 b2 x y : Int} (h : x * (a2 * b2) = (a1 * b2 + b1 * a2) * y) : a1 * (y * b2) = (x * b2 - b1 * y) * a2 := by grind
theorem cancel {a b c : Int} (hc : c ≠ 0) (h : a * c = b * c) : a = b := Int.eq_of_mul_eq_mul_right hc h
theorem alg4 {a1 a2 b1 b2 c1 c2 x y u v : Int} (hb : b2 ≠ 0) (h : x * (a2 * b2) = (a1 * b2 + b1 * a2) * y) (k : u * (b2 * c2) = (b1 * c2 + c1 * b2) * v) : (x * c2 + c1 * y) * (a2 * v) = (a1 * v + u * a2) * (y * c2) := cancel hb (by grind)
theorem alg5 {a1 a2 b1 b2 c1 c2 x y u v : Int} (hb : b2 ≠ 0) (h : x * (a2 * b2) = (a1 * b1) * y) (k : u * (b2 * c2) = (b1 * c1) * v) : (x * c1) * (a2 * v) = (a1 * u) * (y * c2) := cancel hb (by grind)
theorem alg6 {a1 a2 b1 b2 c1 c2 u v p q r s : Int} (ha : a2 ≠ 0) (hb : b2 ≠ 0) (hc : c2 ≠ 0) (k : u * (b2 * c2) = (b1 * c2 + c1 * b2) * v) (h : p * (a2 * b2) = (a1 * b1) * q) (m : r * (a2 * c2) = (a1 * c1) * s) : (a1 * u) * (q * s) = (p * s + r * q) * (a2 * v) := by
  refine cancel (Int.mul_ne_zero (Int.mul_ne_zero ha hb) hc) ?_
  have e1 : a1 * u * (q * s) * (a2 * b2 * c2) = (u * (b2 * c2)) * (a1 * q * s * a2) := by grind
  have e2 : (p * s + r * q) * (a2 * v) * (a2 * b2 * c2) = (p * (a2 * b2)) * (s * a2 * v * c2) + (r * (a2 * c2)) * (q * a2 * v * b2) := by grind
  rw [e1, e2, k, h, m]
  grind
theorem alg7 {a1 a2 b1 b2 x y : Int} (h : x * (a2 * b2) = (a1 * b1) * y) : a1 * (y * b1) = (x * b2) * a2 := by grind
theorem cancel0 {a b c : Int} (hc : c ≠ 0) (h : a * c = b * c) : a = b := Int.eq_of_mul_eq_mul_right hc h
set_option maxRecDepth 100000 in
set_option maxHeartbeats 4000000 in
theorem RatioField_walk (n m k d f g : Int) (w : World) (hn : -32768 ≤ n ∧ n ≤ 32767) (hm : -32768 ≤ m ∧ m ≤ 32767) (hk : -32768 ≤ k ∧ k ≤ 32767) (hd : 0 ≤ d ∧ d ≤ 65535) (hf : 0 ≤ f ∧ f ≤ 65535) (hg : 0 ≤ g ∧ g ≤ 65535) :
    Calls Try.prog 6 #[.int .i16 n, .int .i16 m, .int .i16 k, .int .u16 d, .int .u16 f, .int .u16 g] w fun e w' => e = .returned (.bool true) ∧ Below w.heap.size w w' := by
  refine sx_law (tb := tb) (w := w) (σ := []) (τ := []) fine (C := [trueCon 10, cFew, cAdd 15, cSub 17, cMul 19, cQuo 21])
    (conCons okSane (conCons okFew (conCons okAdd (conCons okSub (conCons okMul (conCons okQuo noCon))))) _ _) 1000 6 (argsOf [.int .i16, .int .i16, .int .i16, .int .u16, .int .u16, .int .u16] 0) ⟨[(-32768, 32767), (-32768, 32767), (-32768, 32767), (0, 65535), (0, 65535), (0, 65535)], [], []⟩ [n, m, k, d, f, g]
    (in_bnd ⟨hn.1, hn.2, hm.1, hm.2, hk.1, hk.2, hd.1, hd.2, hf.1, hf.2, hg.1, hg.2, trivial⟩) ?_
  rw [tree_l6]
  simp only [T.law, Bool.false_eq_true, E.den, B.prop, allB, inB, List.map_cons, List.map_nil, List.getD_cons_zero, List.getD_cons_succ, List.cons_append, List.nil_append, List.append_nil, List.getElem?_cons_zero, List.getElem?_cons_succ, true_and, and_true, trueCon, cFew, cAdd, cSub, cMul, cQuo, cOp, cCmp]
  intro s _ _ _
  refine ⟨⟨hn.1, hn.2, hd.1, hd.2⟩, fun a1 la1 ua1 a2 la2 ua2 ka lka uka ha => ?_⟩
  refine ⟨⟨hm.1, hm.2, hf.1, hf.2⟩, fun b1 lb1 ub1 b2 lb2 ub2 kb lkb ukb hb => ?_⟩
  refine ⟨⟨hk.1, hk.2, hg.1, hg.2⟩, fun c1 lc1 uc1 c2 lc2 uc2 kc lkc ukc hc => ?_⟩
  refine ⟨fun h => by omega, fun _ => ?_⟩
  obtain ⟨_, va, an, ae⟩ := ha
  have pa := va.b
  obtain ⟨_, vb, bn, be⟩ := hb
  have pb := vb.b
  obtain ⟨_, vc, cn, ce⟩ := hc
  have pc := vc.b
  have na1 : a1.natAbs ≤ 511 := by omega
  have nb1 : b1.natAbs ≤ 511 := by omega
  have nc1 : c1.natAbs ≤ 511 := by omega
  have na2 : a2.natAbs ≤ 1024 := by omega
  have nb2 : b2.natAbs ≤ 1024 := by omega
  have nc2 : c2.natAbs ≤ 1024 := by omega
  have z2 := va.ne
  have y2 := vb.ne
  have x2 := vc.ne
  have dab := Int.mul_ne_zero z2 y2
  have dbc := Int.mul_ne_zero y2 x2
  have m1 := nb na1 nb2
  have m2 := nb nb1 na2
  have m3 := nb na2 nb2
  have m4 := nb nb1 nc2
  have m5 := nb nc1 nb2
  have m6 := nb nb2 nc2
  have m7 := nb na1 nb1
  have m8 := nb nb1 nc1
  have m9 : (a1 * b2 + b1 * a2).natAbs ≤ 1046528 := by omega
  have m10 : (b1 * c2 + c1 * b2).natAbs ≤ 1046528 := by omega
  have ia1 : I64 a1 := ⟨by omega, by omega⟩
  have ib1 : I64 b1 := ⟨by omega, by omega⟩
  have ic1 : I64 c1 := ⟨by omega, by omega⟩
  have ia2 : I64 a2 := ⟨by omega, by omega⟩
  have ib2 : I64 b2 := ⟨by omega, by omega⟩
  have ic2 : I64 c2 := ⟨by omega, by omega⟩
  clear pa pb pc an bn cn
  refine ⟨⟨ia1, ia2, ib1, ib2⟩, fun ab1 lab1 uab1 ab2 lab2 uab2 eab leab ueab hab => ?_⟩
  have iab1 := i64r lab1 uab1
  have iab2 := i64p lab2 uab2
  clear lab1 uab1 lab2 uab2 leab ueab
  refine ⟨⟨ib1, ib2, ia1, ia2⟩, fun ba1 lba1 uba1 ba2 lba2 uba2 eba leba ueba hba => ?_⟩
  have iba1 := i64r lba1 uba1
  have iba2 := i64p lba2 uba2
  clear lba1 uba1 lba2 uba2 leba ueba
  refine ⟨⟨ia1, ia2, ib1, ib2⟩, fun p1 lp1 up1 p2 lp2 up2 ep lep uep hp => ?_⟩
  have ip1 := i64r lp1 up1
  have ip2 := i64p lp2 up2
  clear lp1 up1 lp2 up2 lep uep
  refine ⟨⟨ib1, ib2, ia1, ia2⟩, fun q1 lq1 uq1 q2 lq2 uq2 eq leq ueq hq => ?_⟩
  have iq1 := i64r lq1 uq1
  have iq2 := i64p lq2 uq2
  clear lq1 uq1 lq2 uq2 leq ueq
  refine ⟨⟨iab1, iab2, ib1, ib2⟩, fun bk1 lbk1 ubk1 bk2 lbk2 ubk2 ebk lebk uebk hbk => ?_⟩
  have ibk1 := i64r lbk1 ubk1
  have ibk2 := i64p lbk2 ubk2
  clear lbk1 ubk1 lbk2 ubk2 lebk uebk
  refine ⟨⟨ib1, ib2, ic1, ic2⟩, fun bc1 lbc1 ubc1 bc2 lbc2 ubc2 ebc lebc uebc hbc => ?_⟩
  have ibc1 := i64r lbc1 ubc1
  have ibc2 := i64p lbc2 ubc2
  clear lbc1 ubc1 lbc2 ubc2 lebc uebc
  refine ⟨⟨iab1, iab2, ic1, ic2⟩, fun lf1 llf1 ulf1 lf2 llf2 ulf2 elf lelf uelf hlf => ?_⟩
  have ilf1 := i64r llf1 ulf1
  have ilf2 := i64p llf2 ulf2
  clear llf1 ulf1 llf2 ulf2 lelf uelf
  refine ⟨⟨ia1, ia2, ibc1, ibc2⟩, fun rt1 lrt1 urt1 rt2 lrt2 urt2 ert lert uert hrt => ?_⟩
  have irt1 := i64r lrt1 urt1
  have irt2 := i64p lrt2 urt2
  clear lrt1 urt1 lrt2 urt2 lert uert
  refine ⟨⟨ip1, ip2, ic1, ic2⟩, fun pc1 lpc1 upc1 pc2 lpc2 upc2 epc lepc uepc hpc => ?_⟩
  have ipc1 := i64r lpc1 upc1
  have ipc2 := i64p lpc2 upc2
  clear lpc1 upc1 lpc2 upc2 lepc uepc
  refine ⟨⟨ib1, ib2, ic1, ic2⟩, fun r1 lr1 ur1 r2 lr2 ur2 er ler uer hr => ?_⟩
  have ir1 := i64r lr1 ur1
  have ir2 := i64p lr2 ur2
  clear lr1 ur1 lr2 ur2 ler uer
  refine ⟨⟨ia1, ia2, ir1, ir2⟩, fun ar1 lar1 uar1 ar2 lar2 uar2 ear lear uear har => ?_⟩
  have iar1 := i64r lar1 uar1
  have iar2 := i64p lar2 uar2
  clear lar1 uar1 lar2 uar2 lear uear
  obtain ⟨eab0, cab, nab1, nab2⟩ := sm hab ⟨va, vb⟩ dab (Nat.le_trans m9 (by decide)) (Nat.le_trans m3 (by decide))
  obtain ⟨ebc0, cbc, nbc1, nbc2⟩ := sm hbc ⟨vb, vc⟩ dbc (Nat.le_trans m10 (by decide)) (Nat.le_trans m6 (by decide))
  obtain ⟨ep0, cp, np1, np2⟩ := sm hp ⟨va, vb⟩ dab (Nat.le_trans m7 (by decide)) (Nat.le_trans m3 (by decide))
  obtain ⟨er0, cr, nr1, nr2⟩ := sm hr ⟨vb, vc⟩ dbc (Nat.le_trans m8 (by decide)) (Nat.le_trans m6 (by decide))
  have tba := asC hba ⟨vb, va⟩ ⟨cab.1, Int.mul_ne_zero y2 z2, alg1 cab.2.2⟩
  have tq := asC hq ⟨vb, va⟩ ⟨cp.1, Int.mul_ne_zero y2 z2, alg2 cp.2.2⟩
  have dab2 := cab.1.ne
  have dbc2 := cbc.1.ne
  have dp2 := cp.1.ne
  have dr2 := cr.1.ne
  have tbk := asC hbk ⟨cab.1, vb⟩ (A := a1) (B := a2) ⟨va, Int.mul_ne_zero dab2 y2, alg3 cab.2.2⟩
  have tlr := both hlf ⟨cab.1, vc⟩ hrt ⟨va, cbc.1⟩ (Int.mul_ne_zero dab2 x2) (Int.mul_ne_zero z2 dbc2) (alg4 y2 cab.2.2 cbc.2.2)
  obtain ⟨epc0, cpc, _, _⟩ := sm hpc ⟨cp.1, vc⟩ (Int.mul_ne_zero dp2 x2) (Nat.le_trans (nb (Nat.le_trans np1 m7) nc1) (by decide)) (Nat.le_trans (nb (Nat.le_trans np2 m3) nc2) (by decide))
  have tpa := both hpc ⟨cp.1, vc⟩ har ⟨va, cr.1⟩ (Int.mul_ne_zero dp2 x2) (Int.mul_ne_zero z2 dr2) (alg5 y2 cp.2.2 cr.2.2)
  have ear0 := tpa.2.2.1.symm.trans epc0
  refine ⟨fun h => h eab0, fun _ => ⟨fun h => h tba.2.2, fun _ => ⟨fun h => h ep0, fun _ => ⟨fun h => h tq.2.2, fun _ => ⟨fun h => h tbk.2.2, fun _ => ⟨fun h => h ebc0, fun _ => ⟨fun h => h epc0, fun _ => ⟨fun h => h er0, fun _ => ⟨fun h => h ear0, fun _ => ?_⟩⟩⟩⟩⟩⟩⟩⟩⟩
  refine ⟨?_, fun _ => ⟨?_, fun _ => ?_⟩⟩
  · rintro (((h | h) | h) | h)
    · exact h ⟨tba.1.symm, tba.2.1.symm⟩
    · exact h ⟨tq.1.symm, tq.2.1.symm⟩
    · exact h ⟨tbk.1, tbk.2.1⟩
    · exact h ⟨tpa.1, tpa.2.1⟩
  · rintro ((h | h) | h)
    · exact h tlr.2.2.1
    · exact h ⟨tlr.1, tlr.2.1⟩
    · exact (tlr.2.2.2).elim h.1 h.2
  refine ⟨⟨ia1, ia2, ibc1, ibc2⟩, fun w1 lw1 uw1 w2 lw2 uw2 ew lew uew hw => ?_⟩
  have iw1 := i64r lw1 uw1
  have iw2 := i64p lw2 uw2
  clear lw1 uw1 lw2 uw2 lew uew
  refine ⟨⟨ia1, ia2, ic1, ic2⟩, fun ac1 lac1 uac1 ac2 lac2 uac2 eac leac ueac hac => ?_⟩
  have iac1 := i64r lac1 uac1
  have iac2 := i64p lac2 uac2
  clear lac1 uac1 lac2 uac2 leac ueac
  refine ⟨⟨ip1, ip2, iac1, iac2⟩, fun sq1 lsq1 usq1 sq2 lsq2 usq2 esq lesq uesq hsq => ?_⟩
  have isq1 := i64r lsq1 usq1
  have isq2 := i64p lsq2 usq2
  clear lsq1 usq1 lsq2 usq2 lesq uesq
  obtain ⟨ew0, cw, _, _⟩ := sm hw ⟨va, cbc.1⟩ (Int.mul_ne_zero z2 dbc2) (Nat.le_trans (nb na1 (Nat.le_trans nbc1 m10)) (by decide)) (Nat.le_trans (nb na2 (Nat.le_trans nbc2 m6)) (by decide))
  obtain ⟨eac0, cac, _, _⟩ := sm hac ⟨va, vc⟩ (Int.mul_ne_zero z2 x2) (Nat.le_trans (nb na1 nc1) (by decide)) (Nat.le_trans (nb na2 nc2) (by decide))
  have tws := both hw ⟨va, cbc.1⟩ hsq ⟨cp.1, cac.1⟩ (Int.mul_ne_zero z2 dbc2) (Int.mul_ne_zero dp2 cac.1.ne) (alg6 z2 y2 x2 cbc.2.2 cp.2.2 cac.2.2)
  refine ⟨fun h => h ew0, fun _ => ⟨fun h => h eac0, fun _ => ⟨fun h => h (tws.2.2.1.symm.trans ew0), fun _ => ⟨fun h => h ⟨tws.1.symm, tws.2.1.symm⟩, fun _ => ⟨fun h => ?_, fun h => ?_⟩⟩⟩⟩⟩
  · refine ⟨⟨ia1, ia2, ib1, ib2⟩, fun z1 lz1 uz1 z2 lz2 uz2 ez lez uez hz => ?_⟩
    exact (hz.2 (fun hv => hv.2.2 h)).2.2
  · refine ⟨⟨ip1, ip2, ib1, ib2⟩, fun z1 lz1 uz1 z2 lz2 uz2 ez lez uez hz => ?_⟩
    have := asC hz ⟨cp.1, vb, h⟩ (A := a1) (B := a2) ⟨va, Int.mul_ne_zero dp2 h, alg7 cp.2.2⟩
    exact ⟨this.2.2, this.1, this.2.1⟩
end Go.Proofs.Ytkcomadagclikaa
