/- DERIVED. Plants are checked: the contracts, proved. -/
import Derived.Test.YtkophklnleodcaaDctc
import Derived.Test.YtkophklnleodcaaDtreed
namespace Go.Proofs.Ytkophklnleodcaa
open Go.Dx
set_option linter.unusedVariables false
set_option linter.unusedSimpArgs false
theorem pc_bad {p : PL} (h : ¬ plantOk p) : pcF p = 320 := by unfold pcF; rw [if_neg h]
theorem pc_lim {p : PL} (h : plantOk p) (k : 4096 < cnt p) : pcF p = 2 := by unfold pcF; rw [if_pos h, if_pos k]
theorem pc_ok {p : PL} (h : plantOk p) (k : ¬ 4096 < cnt p) : pcF p = 0 := by unfold pcF; rw [if_pos h, if_neg k]
theorem cnt_0 {p : PL} (h : p.pp ≤ 0) : (p.tp + 1) * (p.ps + 1) * (p.od + 1) * (p.ag + 1) = cnt p := by unfold cnt; rw [if_pos h]; rfl
theorem cnt_1 {p : PL} (h : ¬ p.pp ≤ 0) (k : p.pp ≤ 1) : (p.tp + 1) * (p.ps + 1) * (p.od + 1) * (p.ag + 1) * (p.fd + 1) = cnt p := by unfold cnt; rw [if_neg h, if_pos k]; rfl
theorem cnt_2 {p : PL} (h : ¬ p.pp ≤ 0) (k : ¬ p.pp ≤ 1) : (p.tp + 1) * (p.ps + 1) * (p.od + 1) * (p.ag + 1) * (p.fd + 1) * (p.fd + 1) = cnt p := by unfold cnt; rw [if_neg h, if_neg k]; rfl
theorem no_two {e : Int} (h : e = 320 ∨ e = 2) : e ≠ 0 := by omega
theorem p_bad {p : PL} (h : ¬ plantOk p) : [DV.n 320] = [DV.n (pcF p)] := by rw [pc_bad h]
theorem p_lim {p : PL} {x : Int} (h : plantOk p) (e : x = cnt p) (k : 4096 < x) : [DV.n 2] = [DV.n (pcF p)] := by rw [pc_lim h (e ▸ k)]
theorem p_ok {p : PL} {x : Int} (h : plantOk p) (e : x = cnt p) (k : ¬ 4096 < x) : [DV.n 0] = [DV.n (pcF p)] := by rw [pc_ok h (e ▸ k)]
theorem c_bad {p : PL} (h : ¬ plantOk p) : [DV.n 0, DV.n 320] = CountF p := by unfold CountF; rw [pc_bad h]; rfl
theorem c_lim {p : PL} {x : Int} (h : plantOk p) (e : x = cnt p) (k : 4096 < x) : [DV.n 0, DV.n 2] = CountF p := by unfold CountF; rw [pc_lim h (e ▸ k)]; rfl
theorem c_ok {p : PL} {x : Int} (h : plantOk p) (e : x = cnt p) (k : ¬ 4096 < x) : [DV.n x, DV.n 0] = CountF p := by unfold CountF; rw [pc_ok h (e ▸ k), e]; rfl
theorem b_bad {p : PL} (h : ¬ plantOk p) : [DV.n 0, DV.n 0, DV.n 0, DV.n 0, DV.n 0, DV.n 0, DV.n 320] = BeginF p := by unfold BeginF; rw [pc_bad h]; rfl
theorem b_lim {p : PL} {x : Int} (h : plantOk p) (e : x = cnt p) (k : 4096 < x) : [DV.n 0, DV.n 0, DV.n 0, DV.n 0, DV.n 0, DV.n 0, DV.n 2] = BeginF p := by unfold BeginF; rw [pc_lim h (e ▸ k)]; rfl
theorem b_ok {p : PL} {x a b : Int} (ha : a = p.st) (hb : b = p.ag) (h : plantOk p) (e : x = cnt p) (k : ¬ 4096 < x) : [DV.n a, DV.n 0, DV.n 0, DV.n 0, DV.n 0, DV.n b, DV.n 0] = BeginF p := by unfold BeginF; rw [pc_ok h (e ▸ k), ha, hb]; rfl
theorem s_bad {p : PL} {s : ST} (h : ¬ plantOk p) : [DV.n 0, DV.n 320] = SafeF p s := by unfold SafeF; rw [pc_bad h]; rfl
theorem s_lim {p : PL} {s : ST} {x : Int} (h : plantOk p) (e : x = cnt p) (k : 4096 < x) : [DV.n 0, DV.n 2] = SafeF p s := by unfold SafeF; rw [pc_lim h (e ▸ k)]; rfl
theorem s_blg {p : PL} {s : ST} {x : Int} (h : plantOk p) (e : x = cnt p) (k : ¬ 4096 < x) (b : ¬ blg p s) : [DV.n 0, DV.n 320] = SafeF p s := by
  unfold SafeF; rw [pc_ok h (e ▸ k), if_neg (by decide), if_pos b]
theorem s_no {p : PL} {s : ST} {x : Int} (h : plantOk p) (e : x = cnt p) (k : ¬ 4096 < x) (b : blg p s) (c : ¬ ((p.si ≤ s.lv ∧ s.lv ≤ p.bk) ∧ p.rt * s.po ≤ p.pa)) : [DV.n 0, DV.n 0] = SafeF p s := by
  unfold SafeF; rw [pc_ok h (e ▸ k), if_neg (by decide), if_neg (not_not_intro b), if_neg c]
theorem s_yes {p : PL} {s : ST} {x : Int} (h : plantOk p) (e : x = cnt p) (k : ¬ 4096 < x) (b : blg p s) (c : (p.si ≤ s.lv ∧ s.lv ≤ p.bk) ∧ p.rt * s.po ≤ p.pa) : [DV.n 1, DV.n 0] = SafeF p s := by
  unfold SafeF; rw [pc_ok h (e ▸ k), if_neg (by decide), if_neg (not_not_intro b), if_pos c]
theorem pipe_in {p : PL} {i n : Int} (h : i < p.pp) : pipeOk p i n ↔ 0 ≤ n ∧ n ≤ p.fd := by unfold pipeOk; rw [if_pos h]
theorem pipe_out {p : PL} {i n : Int} (h : ¬ i < p.pp) : pipeOk p i n ↔ n = 0 := by unfold pipeOk; rw [if_neg h]; omega
theorem blg_0 {p : PL} {s : ST} (h : p.pp ≤ 0) : blg p s ↔ (s.p0 = 0 ∧ s.p1 = 0) ∧ (((0 ≤ s.lv ∧ s.lv ≤ p.tp) ∧ 0 ≤ s.po ∧ s.po ≤ p.ps) ∧ 0 ≤ s.od ∧ s.od ≤ p.od) ∧ 0 ≤ s.ag ∧ s.ag ≤ p.ag := by unfold blg; rw [pipe_out (by omega), pipe_out (by omega)]
theorem blg_1 {p : PL} {s : ST} (h : 0 < p.pp) (k : p.pp ≤ 1) : blg p s ↔ ((0 ≤ s.p0 ∧ s.p0 ≤ p.fd) ∧ s.p1 = 0) ∧ (((0 ≤ s.lv ∧ s.lv ≤ p.tp) ∧ 0 ≤ s.po ∧ s.po ≤ p.ps) ∧ 0 ≤ s.od ∧ s.od ≤ p.od) ∧ 0 ≤ s.ag ∧ s.ag ≤ p.ag := by unfold blg; rw [pipe_in (by omega), pipe_out (by omega)]
theorem blg_2 {p : PL} {s : ST} (h : 1 < p.pp) : blg p s ↔ ((0 ≤ s.p0 ∧ s.p0 ≤ p.fd) ∧ 0 ≤ s.p1 ∧ s.p1 ≤ p.fd) ∧ (((0 ≤ s.lv ∧ s.lv ≤ p.tp) ∧ 0 ≤ s.po ∧ s.po ≤ p.ps) ∧ 0 ≤ s.od ∧ s.od ≤ p.od) ∧ 0 ≤ s.ag ∧ s.ag ≤ p.ag := by unfold blg; rw [pipe_in (by omega), pipe_in (by omega)]
theorem blg_p0 {p : PL} {s : ST} (h : 0 < p.pp) (k : ¬ (0 ≤ s.p0 ∧ s.p0 ≤ p.fd)) : ¬ blg p s := fun q => k ((pipe_in h).1 q.1.1)
set_option maxHeartbeats 4000000 in
theorem cPC_ok (N : Nat) (w0 : World) : ConOk Try.prog tb N w0 (cPC 17) := by
  refine con_of_walk (tb := tb) fine (C := []) noCon 80 rfl ?_ N w0
  refine fun tp rtp0 rtp1 bk rbk0 rbk1 si rsi0 rsi1 st rst0 rst1 ps rps0 rps1 rt rrt0 rrt1 sp rsp0 rsp1 pa rpa0 rpa1 fd rfd0 rfd1 pp rpp0 rpp1 od rod0 rod1 ag rag0 rag1 rp => ?_
  clear rp rtp0 rtp1 rbk0 rbk1 rsi0 rsi1 rst0 rst1 rps0 rps1 rrt0 rrt1 rsp0 rsp1 rpa0 rpa1 rfd0 rfd1 rpp0 rpp1 rod0 rod1 rag0 rag1
  rw [tree_pc]
  simp only [T.res, B.prop, E.den, E.dat, E.top, E.val, E.isD, DV.canon, DV.int, List.getElem?_cons_zero, List.getElem?_cons_succ, List.getD_cons_zero, List.getD_cons_succ, List.getD_nil, List.map_cons, List.map_nil, List.cons_append, List.nil_append, allB, b2, pl, stt, gi, Nat.reduceAdd, cPC]
  repeat' first | refine ⟨?_, ?_⟩ | intro _
  all_goals first
    | exact p_bad (by unfold plantOk; (try dsimp only); omega)
    | exact p_lim (by unfold plantOk; (try dsimp only); omega) (cnt_0 (p := ⟨tp, bk, si, st, ps, rt, sp, pa, fd, pp, od, ag⟩) (by (try dsimp only); omega)) (by assumption)
    | exact p_lim (by unfold plantOk; (try dsimp only); omega) (cnt_1 (p := ⟨tp, bk, si, st, ps, rt, sp, pa, fd, pp, od, ag⟩) (by (try dsimp only); omega) (by (try dsimp only); omega)) (by assumption)
    | exact p_lim (by unfold plantOk; (try dsimp only); omega) (cnt_2 (p := ⟨tp, bk, si, st, ps, rt, sp, pa, fd, pp, od, ag⟩) (by (try dsimp only); omega) (by (try dsimp only); omega)) (by assumption)
    | exact p_ok (by unfold plantOk; (try dsimp only); omega) (cnt_0 (p := ⟨tp, bk, si, st, ps, rt, sp, pa, fd, pp, od, ag⟩) (by (try dsimp only); omega)) (by assumption)
    | exact p_ok (by unfold plantOk; (try dsimp only); omega) (cnt_1 (p := ⟨tp, bk, si, st, ps, rt, sp, pa, fd, pp, od, ag⟩) (by (try dsimp only); omega) (by (try dsimp only); omega)) (by assumption)
    | exact p_ok (by unfold plantOk; (try dsimp only); omega) (cnt_2 (p := ⟨tp, bk, si, st, ps, rt, sp, pa, fd, pp, od, ag⟩) (by (try dsimp only); omega) (by (try dsimp only); omega)) (by assumption)
set_option maxHeartbeats 4000000 in
theorem cPCR_ok (N : Nat) (w0 : World) : ConOk Try.prog tb N w0 (cPC 18) := by
  refine con_of_walk (tb := tb) fine (C := []) noCon 80 rfl ?_ N w0
  refine fun tp rtp0 rtp1 bk rbk0 rbk1 si rsi0 rsi1 st rst0 rst1 ps rps0 rps1 rt rrt0 rrt1 sp rsp0 rsp1 pa rpa0 rpa1 fd rfd0 rfd1 pp rpp0 rpp1 od rod0 rod1 ag rag0 rag1 rp => ?_
  clear rp rtp0 rtp1 rbk0 rbk1 rsi0 rsi1 rst0 rst1 rps0 rps1 rrt0 rrt1 rsp0 rsp1 rpa0 rpa1 rfd0 rfd1 rpp0 rpp1 rod0 rod1 rag0 rag1
  rw [tree_pcR]
  simp only [T.res, B.prop, E.den, E.dat, E.top, E.val, E.isD, DV.canon, DV.int, List.getElem?_cons_zero, List.getElem?_cons_succ, List.getD_cons_zero, List.getD_cons_succ, List.getD_nil, List.map_cons, List.map_nil, List.cons_append, List.nil_append, allB, b2, pl, stt, gi, Nat.reduceAdd, cPC]
  repeat' first | refine ⟨?_, ?_⟩ | intro _
  all_goals first
    | exact p_bad (by unfold plantOk; (try dsimp only); omega)
    | exact p_lim (by unfold plantOk; (try dsimp only); omega) (cnt_0 (p := ⟨tp, bk, si, st, ps, rt, sp, pa, fd, pp, od, ag⟩) (by (try dsimp only); omega)) (by assumption)
    | exact p_lim (by unfold plantOk; (try dsimp only); omega) (cnt_1 (p := ⟨tp, bk, si, st, ps, rt, sp, pa, fd, pp, od, ag⟩) (by (try dsimp only); omega) (by (try dsimp only); omega)) (by assumption)
    | exact p_lim (by unfold plantOk; (try dsimp only); omega) (cnt_2 (p := ⟨tp, bk, si, st, ps, rt, sp, pa, fd, pp, od, ag⟩) (by (try dsimp only); omega) (by (try dsimp only); omega)) (by assumption)
    | exact p_ok (by unfold plantOk; (try dsimp only); omega) (cnt_0 (p := ⟨tp, bk, si, st, ps, rt, sp, pa, fd, pp, od, ag⟩) (by (try dsimp only); omega)) (by assumption)
    | exact p_ok (by unfold plantOk; (try dsimp only); omega) (cnt_1 (p := ⟨tp, bk, si, st, ps, rt, sp, pa, fd, pp, od, ag⟩) (by (try dsimp only); omega) (by (try dsimp only); omega)) (by assumption)
    | exact p_ok (by unfold plantOk; (try dsimp only); omega) (cnt_2 (p := ⟨tp, bk, si, st, ps, rt, sp, pa, fd, pp, od, ag⟩) (by (try dsimp only); omega) (by (try dsimp only); omega)) (by assumption)
set_option maxHeartbeats 4000000 in
theorem cCount_ok (N : Nat) (w0 : World) : ConOk Try.prog tb N w0 (cCount 11) := by
  refine con_of_walk (tb := tb) fine (C := []) noCon 80 rfl ?_ N w0
  refine fun tp rtp0 rtp1 bk rbk0 rbk1 si rsi0 rsi1 st rst0 rst1 ps rps0 rps1 rt rrt0 rrt1 sp rsp0 rsp1 pa rpa0 rpa1 fd rfd0 rfd1 pp rpp0 rpp1 od rod0 rod1 ag rag0 rag1 rp => ?_
  clear rp rtp0 rtp1 rbk0 rbk1 rsi0 rsi1 rst0 rst1 rps0 rps1 rrt0 rrt1 rsp0 rsp1 rpa0 rpa1 rfd0 rfd1 rpp0 rpp1 rod0 rod1 rag0 rag1
  rw [tree_cou]
  simp only [T.res, B.prop, E.den, E.dat, E.top, E.val, E.isD, DV.canon, DV.int, List.getElem?_cons_zero, List.getElem?_cons_succ, List.getD_cons_zero, List.getD_cons_succ, List.getD_nil, List.map_cons, List.map_nil, List.cons_append, List.nil_append, allB, b2, pl, stt, gi, Nat.reduceAdd, cCount]
  repeat' first | refine ⟨?_, ?_⟩ | intro _
  all_goals first
    | exact c_bad (by unfold plantOk; (try dsimp only); omega)
    | exact c_lim (by unfold plantOk; (try dsimp only); omega) (cnt_0 (p := ⟨tp, bk, si, st, ps, rt, sp, pa, fd, pp, od, ag⟩) (by (try dsimp only); omega)) (by assumption)
    | exact c_lim (by unfold plantOk; (try dsimp only); omega) (cnt_1 (p := ⟨tp, bk, si, st, ps, rt, sp, pa, fd, pp, od, ag⟩) (by (try dsimp only); omega) (by (try dsimp only); omega)) (by assumption)
    | exact c_lim (by unfold plantOk; (try dsimp only); omega) (cnt_2 (p := ⟨tp, bk, si, st, ps, rt, sp, pa, fd, pp, od, ag⟩) (by (try dsimp only); omega) (by (try dsimp only); omega)) (by assumption)
    | exact c_ok (p := ⟨tp, bk, si, st, ps, rt, sp, pa, fd, pp, od, ag⟩) (by unfold plantOk; (try dsimp only); omega) (cnt_0 (p := ⟨tp, bk, si, st, ps, rt, sp, pa, fd, pp, od, ag⟩) (by (try dsimp only); omega)) (by assumption)
    | exact c_ok (p := ⟨tp, bk, si, st, ps, rt, sp, pa, fd, pp, od, ag⟩) (by unfold plantOk; (try dsimp only); omega) (cnt_1 (p := ⟨tp, bk, si, st, ps, rt, sp, pa, fd, pp, od, ag⟩) (by (try dsimp only); omega) (by (try dsimp only); omega)) (by assumption)
    | exact c_ok (p := ⟨tp, bk, si, st, ps, rt, sp, pa, fd, pp, od, ag⟩) (by unfold plantOk; (try dsimp only); omega) (cnt_2 (p := ⟨tp, bk, si, st, ps, rt, sp, pa, fd, pp, od, ag⟩) (by (try dsimp only); omega) (by (try dsimp only); omega)) (by assumption)
set_option maxHeartbeats 4000000 in
theorem cCountR_ok (N : Nat) (w0 : World) : ConOk Try.prog tb N w0 (cCount 12) := by
  refine con_of_walk (tb := tb) fine (C := []) noCon 80 rfl ?_ N w0
  refine fun tp rtp0 rtp1 bk rbk0 rbk1 si rsi0 rsi1 st rst0 rst1 ps rps0 rps1 rt rrt0 rrt1 sp rsp0 rsp1 pa rpa0 rpa1 fd rfd0 rfd1 pp rpp0 rpp1 od rod0 rod1 ag rag0 rag1 rp => ?_
  clear rp rtp0 rtp1 rbk0 rbk1 rsi0 rsi1 rst0 rst1 rps0 rps1 rrt0 rrt1 rsp0 rsp1 rpa0 rpa1 rfd0 rfd1 rpp0 rpp1 rod0 rod1 rag0 rag1
  rw [tree_couR]
  simp only [T.res, B.prop, E.den, E.dat, E.top, E.val, E.isD, DV.canon, DV.int, List.getElem?_cons_zero, List.getElem?_cons_succ, List.getD_cons_zero, List.getD_cons_succ, List.getD_nil, List.map_cons, List.map_nil, List.cons_append, List.nil_append, allB, b2, pl, stt, gi, Nat.reduceAdd, cCount]
  repeat' first | refine ⟨?_, ?_⟩ | intro _
  all_goals first
    | exact c_bad (by unfold plantOk; (try dsimp only); omega)
    | exact c_lim (by unfold plantOk; (try dsimp only); omega) (cnt_0 (p := ⟨tp, bk, si, st, ps, rt, sp, pa, fd, pp, od, ag⟩) (by (try dsimp only); omega)) (by assumption)
    | exact c_lim (by unfold plantOk; (try dsimp only); omega) (cnt_1 (p := ⟨tp, bk, si, st, ps, rt, sp, pa, fd, pp, od, ag⟩) (by (try dsimp only); omega) (by (try dsimp only); omega)) (by assumption)
    | exact c_lim (by unfold plantOk; (try dsimp only); omega) (cnt_2 (p := ⟨tp, bk, si, st, ps, rt, sp, pa, fd, pp, od, ag⟩) (by (try dsimp only); omega) (by (try dsimp only); omega)) (by assumption)
    | exact c_ok (p := ⟨tp, bk, si, st, ps, rt, sp, pa, fd, pp, od, ag⟩) (by unfold plantOk; (try dsimp only); omega) (cnt_0 (p := ⟨tp, bk, si, st, ps, rt, sp, pa, fd, pp, od, ag⟩) (by (try dsimp only); omega)) (by assumption)
    | exact c_ok (p := ⟨tp, bk, si, st, ps, rt, sp, pa, fd, pp, od, ag⟩) (by unfold plantOk; (try dsimp only); omega) (cnt_1 (p := ⟨tp, bk, si, st, ps, rt, sp, pa, fd, pp, od, ag⟩) (by (try dsimp only); omega) (by (try dsimp only); omega)) (by assumption)
    | exact c_ok (p := ⟨tp, bk, si, st, ps, rt, sp, pa, fd, pp, od, ag⟩) (by unfold plantOk; (try dsimp only); omega) (cnt_2 (p := ⟨tp, bk, si, st, ps, rt, sp, pa, fd, pp, od, ag⟩) (by (try dsimp only); omega) (by (try dsimp only); omega)) (by assumption)
set_option maxHeartbeats 4000000 in
theorem cBegin_ok (N : Nat) (w0 : World) : ConOk Try.prog tb N w0 (cBegin 13) := by
  refine con_of_walk (tb := tb) fine (C := []) noCon 80 rfl ?_ N w0
  refine fun tp rtp0 rtp1 bk rbk0 rbk1 si rsi0 rsi1 st rst0 rst1 ps rps0 rps1 rt rrt0 rrt1 sp rsp0 rsp1 pa rpa0 rpa1 fd rfd0 rfd1 pp rpp0 rpp1 od rod0 rod1 ag rag0 rag1 rp => ?_
  clear rp rtp0 rtp1 rbk0 rbk1 rsi0 rsi1 rst0 rst1 rps0 rps1 rrt0 rrt1 rsp0 rsp1 rpa0 rpa1 rfd0 rfd1 rpp0 rpp1 rod0 rod1 rag0 rag1
  rw [tree_beg]
  simp only [T.res, B.prop, E.den, E.dat, E.top, E.val, E.isD, DV.canon, DV.int, List.getElem?_cons_zero, List.getElem?_cons_succ, List.getD_cons_zero, List.getD_cons_succ, List.getD_nil, List.map_cons, List.map_nil, List.cons_append, List.nil_append, allB, b2, pl, stt, gi, Nat.reduceAdd, cBegin]
  repeat' first | refine ⟨?_, ?_⟩ | intro _
  all_goals first
    | exact b_bad (by unfold plantOk; (try dsimp only); omega)
    | exact b_lim (by unfold plantOk; (try dsimp only); omega) (cnt_0 (p := ⟨tp, bk, si, st, ps, rt, sp, pa, fd, pp, od, ag⟩) (by (try dsimp only); omega)) (by assumption)
    | exact b_lim (by unfold plantOk; (try dsimp only); omega) (cnt_1 (p := ⟨tp, bk, si, st, ps, rt, sp, pa, fd, pp, od, ag⟩) (by (try dsimp only); omega) (by (try dsimp only); omega)) (by assumption)
    | exact b_lim (by unfold plantOk; (try dsimp only); omega) (cnt_2 (p := ⟨tp, bk, si, st, ps, rt, sp, pa, fd, pp, od, ag⟩) (by (try dsimp only); omega) (by (try dsimp only); omega)) (by assumption)
    | exact b_ok (p := ⟨tp, bk, si, st, ps, rt, sp, pa, fd, pp, od, ag⟩) rfl rfl (by unfold plantOk; (try dsimp only); omega) (cnt_0 (p := ⟨tp, bk, si, st, ps, rt, sp, pa, fd, pp, od, ag⟩) (by (try dsimp only); omega)) (by assumption)
    | exact b_ok (p := ⟨tp, bk, si, st, ps, rt, sp, pa, fd, pp, od, ag⟩) rfl rfl (by unfold plantOk; (try dsimp only); omega) (cnt_1 (p := ⟨tp, bk, si, st, ps, rt, sp, pa, fd, pp, od, ag⟩) (by (try dsimp only); omega) (by (try dsimp only); omega)) (by assumption)
    | exact b_ok (p := ⟨tp, bk, si, st, ps, rt, sp, pa, fd, pp, od, ag⟩) rfl rfl (by unfold plantOk; (try dsimp only); omega) (cnt_2 (p := ⟨tp, bk, si, st, ps, rt, sp, pa, fd, pp, od, ag⟩) (by (try dsimp only); omega) (by (try dsimp only); omega)) (by assumption)
set_option maxHeartbeats 4000000 in
theorem cBeginR_ok (N : Nat) (w0 : World) : ConOk Try.prog tb N w0 (cBegin 14) := by
  refine con_of_walk (tb := tb) fine (C := []) noCon 80 rfl ?_ N w0
  refine fun tp rtp0 rtp1 bk rbk0 rbk1 si rsi0 rsi1 st rst0 rst1 ps rps0 rps1 rt rrt0 rrt1 sp rsp0 rsp1 pa rpa0 rpa1 fd rfd0 rfd1 pp rpp0 rpp1 od rod0 rod1 ag rag0 rag1 rp => ?_
  clear rp rtp0 rtp1 rbk0 rbk1 rsi0 rsi1 rst0 rst1 rps0 rps1 rrt0 rrt1 rsp0 rsp1 rpa0 rpa1 rfd0 rfd1 rpp0 rpp1 rod0 rod1 rag0 rag1
  rw [tree_begR]
  simp only [T.res, B.prop, E.den, E.dat, E.top, E.val, E.isD, DV.canon, DV.int, List.getElem?_cons_zero, List.getElem?_cons_succ, List.getD_cons_zero, List.getD_cons_succ, List.getD_nil, List.map_cons, List.map_nil, List.cons_append, List.nil_append, allB, b2, pl, stt, gi, Nat.reduceAdd, cBegin]
  repeat' first | refine ⟨?_, ?_⟩ | intro _
  all_goals first
    | exact b_bad (by unfold plantOk; (try dsimp only); omega)
    | exact b_lim (by unfold plantOk; (try dsimp only); omega) (cnt_0 (p := ⟨tp, bk, si, st, ps, rt, sp, pa, fd, pp, od, ag⟩) (by (try dsimp only); omega)) (by assumption)
    | exact b_lim (by unfold plantOk; (try dsimp only); omega) (cnt_1 (p := ⟨tp, bk, si, st, ps, rt, sp, pa, fd, pp, od, ag⟩) (by (try dsimp only); omega) (by (try dsimp only); omega)) (by assumption)
    | exact b_lim (by unfold plantOk; (try dsimp only); omega) (cnt_2 (p := ⟨tp, bk, si, st, ps, rt, sp, pa, fd, pp, od, ag⟩) (by (try dsimp only); omega) (by (try dsimp only); omega)) (by assumption)
    | exact b_ok (p := ⟨tp, bk, si, st, ps, rt, sp, pa, fd, pp, od, ag⟩) rfl rfl (by unfold plantOk; (try dsimp only); omega) (cnt_0 (p := ⟨tp, bk, si, st, ps, rt, sp, pa, fd, pp, od, ag⟩) (by (try dsimp only); omega)) (by assumption)
    | exact b_ok (p := ⟨tp, bk, si, st, ps, rt, sp, pa, fd, pp, od, ag⟩) rfl rfl (by unfold plantOk; (try dsimp only); omega) (cnt_1 (p := ⟨tp, bk, si, st, ps, rt, sp, pa, fd, pp, od, ag⟩) (by (try dsimp only); omega) (by (try dsimp only); omega)) (by assumption)
    | exact b_ok (p := ⟨tp, bk, si, st, ps, rt, sp, pa, fd, pp, od, ag⟩) rfl rfl (by unfold plantOk; (try dsimp only); omega) (cnt_2 (p := ⟨tp, bk, si, st, ps, rt, sp, pa, fd, pp, od, ag⟩) (by (try dsimp only); omega) (by (try dsimp only); omega)) (by assumption)
set_option maxHeartbeats 4000000 in
theorem cSafe_ok (N : Nat) (w0 : World) : ConOk Try.prog tb N w0 (cSafe 15) := by
  refine con_of_walk (tb := tb) fine (C := []) noCon 80 rfl ?_ N w0
  refine fun tp rtp0 rtp1 bk rbk0 rbk1 si rsi0 rsi1 st rst0 rst1 ps rps0 rps1 rt rrt0 rrt1 sp rsp0 rsp1 pa rpa0 rpa1 fd rfd0 rfd1 pp rpp0 rpp1 od rod0 rod1 ag rag0 rag1 lv rlv0 rlv1 po rpo0 rpo1 p0 rp00 rp01 p1 rp10 rp11 so rso0 rso1 sa rsa0 rsa1 rp => ?_
  clear rp rtp0 rtp1 rbk0 rbk1 rsi0 rsi1 rst0 rst1 rps0 rps1 rrt0 rrt1 rsp0 rsp1 rpa0 rpa1 rfd0 rfd1 rpp0 rpp1 rod0 rod1 rag0 rag1 rlv0 rlv1 rpo0 rpo1 rp00 rp01 rp10 rp11 rso0 rso1 rsa0 rsa1
  rw [tree_saf]
  simp only [T.res, B.prop, E.den, E.dat, E.top, E.val, E.isD, DV.canon, DV.int, List.getElem?_cons_zero, List.getElem?_cons_succ, List.getD_cons_zero, List.getD_cons_succ, List.getD_nil, List.map_cons, List.map_nil, List.cons_append, List.nil_append, allB, b2, pl, stt, gi, Nat.reduceAdd, cSafe]
  repeat' first | refine ⟨?_, ?_⟩ | intro _
  all_goals first
    | exact s_bad (by unfold plantOk; (try dsimp only); omega)
    | exact s_lim (by unfold plantOk; (try dsimp only); omega) (cnt_0 (p := ⟨tp, bk, si, st, ps, rt, sp, pa, fd, pp, od, ag⟩) (by (try dsimp only); omega)) (by assumption)
    | exact s_lim (by unfold plantOk; (try dsimp only); omega) (cnt_1 (p := ⟨tp, bk, si, st, ps, rt, sp, pa, fd, pp, od, ag⟩) (by (try dsimp only); omega) (by (try dsimp only); omega)) (by assumption)
    | exact s_lim (by unfold plantOk; (try dsimp only); omega) (cnt_2 (p := ⟨tp, bk, si, st, ps, rt, sp, pa, fd, pp, od, ag⟩) (by (try dsimp only); omega) (by (try dsimp only); omega)) (by assumption)
    | exact s_blg (by unfold plantOk; (try dsimp only); omega) (cnt_0 (p := ⟨tp, bk, si, st, ps, rt, sp, pa, fd, pp, od, ag⟩) (by (try dsimp only); omega)) (by assumption) (by rw [blg_0 (by (try dsimp only); omega)]; (try dsimp only); omega)
    | exact s_blg (by unfold plantOk; (try dsimp only); omega) (cnt_1 (p := ⟨tp, bk, si, st, ps, rt, sp, pa, fd, pp, od, ag⟩) (by (try dsimp only); omega) (by (try dsimp only); omega)) (by assumption) (by rw [blg_1 (by (try dsimp only); omega) (by (try dsimp only); omega)]; (try dsimp only); omega)
    | exact s_blg (by unfold plantOk; (try dsimp only); omega) (cnt_2 (p := ⟨tp, bk, si, st, ps, rt, sp, pa, fd, pp, od, ag⟩) (by (try dsimp only); omega) (by (try dsimp only); omega)) (by assumption) (by rw [blg_2 (by (try dsimp only); omega)]; (try dsimp only); omega)
    | exact s_no (by unfold plantOk; (try dsimp only); omega) (cnt_0 (p := ⟨tp, bk, si, st, ps, rt, sp, pa, fd, pp, od, ag⟩) (by (try dsimp only); omega)) (by assumption) (by rw [blg_0 (by (try dsimp only); omega)]; (try dsimp only); omega) (by (try dsimp only); assumption)
    | exact s_no (by unfold plantOk; (try dsimp only); omega) (cnt_1 (p := ⟨tp, bk, si, st, ps, rt, sp, pa, fd, pp, od, ag⟩) (by (try dsimp only); omega) (by (try dsimp only); omega)) (by assumption) (by rw [blg_1 (by (try dsimp only); omega) (by (try dsimp only); omega)]; (try dsimp only); omega) (by (try dsimp only); assumption)
    | exact s_no (by unfold plantOk; (try dsimp only); omega) (cnt_2 (p := ⟨tp, bk, si, st, ps, rt, sp, pa, fd, pp, od, ag⟩) (by (try dsimp only); omega) (by (try dsimp only); omega)) (by assumption) (by rw [blg_2 (by (try dsimp only); omega)]; (try dsimp only); omega) (by (try dsimp only); assumption)
    | exact s_yes (by unfold plantOk; (try dsimp only); omega) (cnt_0 (p := ⟨tp, bk, si, st, ps, rt, sp, pa, fd, pp, od, ag⟩) (by (try dsimp only); omega)) (by assumption) (by rw [blg_0 (by (try dsimp only); omega)]; (try dsimp only); omega) (by (try dsimp only); assumption)
    | exact s_yes (by unfold plantOk; (try dsimp only); omega) (cnt_1 (p := ⟨tp, bk, si, st, ps, rt, sp, pa, fd, pp, od, ag⟩) (by (try dsimp only); omega) (by (try dsimp only); omega)) (by assumption) (by rw [blg_1 (by (try dsimp only); omega) (by (try dsimp only); omega)]; (try dsimp only); omega) (by (try dsimp only); assumption)
    | exact s_yes (by unfold plantOk; (try dsimp only); omega) (cnt_2 (p := ⟨tp, bk, si, st, ps, rt, sp, pa, fd, pp, od, ag⟩) (by (try dsimp only); omega) (by (try dsimp only); omega)) (by assumption) (by rw [blg_2 (by (try dsimp only); omega)]; (try dsimp only); omega) (by (try dsimp only); assumption)
set_option maxHeartbeats 4000000 in
theorem cSafeR_ok (N : Nat) (w0 : World) : ConOk Try.prog tb N w0 (cSafe 16) := by
  refine con_of_walk (tb := tb) fine (C := []) noCon 80 rfl ?_ N w0
  refine fun tp rtp0 rtp1 bk rbk0 rbk1 si rsi0 rsi1 st rst0 rst1 ps rps0 rps1 rt rrt0 rrt1 sp rsp0 rsp1 pa rpa0 rpa1 fd rfd0 rfd1 pp rpp0 rpp1 od rod0 rod1 ag rag0 rag1 lv rlv0 rlv1 po rpo0 rpo1 p0 rp00 rp01 p1 rp10 rp11 so rso0 rso1 sa rsa0 rsa1 rp => ?_
  clear rp rtp0 rtp1 rbk0 rbk1 rsi0 rsi1 rst0 rst1 rps0 rps1 rrt0 rrt1 rsp0 rsp1 rpa0 rpa1 rfd0 rfd1 rpp0 rpp1 rod0 rod1 rag0 rag1 rlv0 rlv1 rpo0 rpo1 rp00 rp01 rp10 rp11 rso0 rso1 rsa0 rsa1
  rw [tree_safR]
  simp only [T.res, B.prop, E.den, E.dat, E.top, E.val, E.isD, DV.canon, DV.int, List.getElem?_cons_zero, List.getElem?_cons_succ, List.getD_cons_zero, List.getD_cons_succ, List.getD_nil, List.map_cons, List.map_nil, List.cons_append, List.nil_append, allB, b2, pl, stt, gi, Nat.reduceAdd, cSafe]
  repeat' first | refine ⟨?_, ?_⟩ | intro _
  all_goals first
    | exact s_bad (by unfold plantOk; (try dsimp only); omega)
    | exact s_lim (by unfold plantOk; (try dsimp only); omega) (cnt_0 (p := ⟨tp, bk, si, st, ps, rt, sp, pa, fd, pp, od, ag⟩) (by (try dsimp only); omega)) (by assumption)
    | exact s_lim (by unfold plantOk; (try dsimp only); omega) (cnt_1 (p := ⟨tp, bk, si, st, ps, rt, sp, pa, fd, pp, od, ag⟩) (by (try dsimp only); omega) (by (try dsimp only); omega)) (by assumption)
    | exact s_lim (by unfold plantOk; (try dsimp only); omega) (cnt_2 (p := ⟨tp, bk, si, st, ps, rt, sp, pa, fd, pp, od, ag⟩) (by (try dsimp only); omega) (by (try dsimp only); omega)) (by assumption)
    | exact s_blg (by unfold plantOk; (try dsimp only); omega) (cnt_0 (p := ⟨tp, bk, si, st, ps, rt, sp, pa, fd, pp, od, ag⟩) (by (try dsimp only); omega)) (by assumption) (by rw [blg_0 (by (try dsimp only); omega)]; (try dsimp only); omega)
    | exact s_blg (by unfold plantOk; (try dsimp only); omega) (cnt_1 (p := ⟨tp, bk, si, st, ps, rt, sp, pa, fd, pp, od, ag⟩) (by (try dsimp only); omega) (by (try dsimp only); omega)) (by assumption) (by rw [blg_1 (by (try dsimp only); omega) (by (try dsimp only); omega)]; (try dsimp only); omega)
    | exact s_blg (by unfold plantOk; (try dsimp only); omega) (cnt_2 (p := ⟨tp, bk, si, st, ps, rt, sp, pa, fd, pp, od, ag⟩) (by (try dsimp only); omega) (by (try dsimp only); omega)) (by assumption) (by rw [blg_2 (by (try dsimp only); omega)]; (try dsimp only); omega)
    | exact s_no (by unfold plantOk; (try dsimp only); omega) (cnt_0 (p := ⟨tp, bk, si, st, ps, rt, sp, pa, fd, pp, od, ag⟩) (by (try dsimp only); omega)) (by assumption) (by rw [blg_0 (by (try dsimp only); omega)]; (try dsimp only); omega) (by (try dsimp only); assumption)
    | exact s_no (by unfold plantOk; (try dsimp only); omega) (cnt_1 (p := ⟨tp, bk, si, st, ps, rt, sp, pa, fd, pp, od, ag⟩) (by (try dsimp only); omega) (by (try dsimp only); omega)) (by assumption) (by rw [blg_1 (by (try dsimp only); omega) (by (try dsimp only); omega)]; (try dsimp only); omega) (by (try dsimp only); assumption)
    | exact s_no (by unfold plantOk; (try dsimp only); omega) (cnt_2 (p := ⟨tp, bk, si, st, ps, rt, sp, pa, fd, pp, od, ag⟩) (by (try dsimp only); omega) (by (try dsimp only); omega)) (by assumption) (by rw [blg_2 (by (try dsimp only); omega)]; (try dsimp only); omega) (by (try dsimp only); assumption)
    | exact s_yes (by unfold plantOk; (try dsimp only); omega) (cnt_0 (p := ⟨tp, bk, si, st, ps, rt, sp, pa, fd, pp, od, ag⟩) (by (try dsimp only); omega)) (by assumption) (by rw [blg_0 (by (try dsimp only); omega)]; (try dsimp only); omega) (by (try dsimp only); assumption)
    | exact s_yes (by unfold plantOk; (try dsimp only); omega) (cnt_1 (p := ⟨tp, bk, si, st, ps, rt, sp, pa, fd, pp, od, ag⟩) (by (try dsimp only); omega) (by (try dsimp only); omega)) (by assumption) (by rw [blg_1 (by (try dsimp only); omega) (by (try dsimp only); omega)]; (try dsimp only); omega) (by (try dsimp only); assumption)
    | exact s_yes (by unfold plantOk; (try dsimp only); omega) (cnt_2 (p := ⟨tp, bk, si, st, ps, rt, sp, pa, fd, pp, od, ag⟩) (by (try dsimp only); omega) (by (try dsimp only); omega)) (by assumption) (by rw [blg_2 (by (try dsimp only); omega)]; (try dsimp only); omega) (by (try dsimp only); assumption)
set_option maxHeartbeats 4000000 in
theorem cBlg_ok (N : Nat) (w0 : World) : ConOk Try.prog tb N w0 (cBlg 22) := by
  refine con_of_walk (tb := tb) fine (C := []) noCon 80 rfl ?_ N w0
  refine fun tp rtp0 rtp1 bk rbk0 rbk1 si rsi0 rsi1 st rst0 rst1 ps rps0 rps1 rt rrt0 rrt1 sp rsp0 rsp1 pa rpa0 rpa1 fd rfd0 rfd1 pp rpp0 rpp1 od rod0 rod1 ag rag0 rag1 lv rlv0 rlv1 po rpo0 rpo1 p0 rp00 rp01 p1 rp10 rp11 so rso0 rso1 sa rsa0 rsa1 rp => ?_
  clear rp rtp0 rtp1 rbk0 rbk1 rsi0 rsi1 rst0 rst1 rps0 rps1 rrt0 rrt1 rsp0 rsp1 rpa0 rpa1 rfd0 rfd1 rpp0 rpp1 rod0 rod1 rag0 rag1 rlv0 rlv1 rpo0 rpo1 rp00 rp01 rp10 rp11 rso0 rso1 rsa0 rsa1
  rw [tree_blg]
  simp only [T.res, B.prop, E.den, E.dat, E.top, E.val, E.isD, DV.canon, DV.int, List.getElem?_cons_zero, List.getElem?_cons_succ, List.getD_cons_zero, List.getD_cons_succ, List.getD_nil, List.map_cons, List.map_nil, List.cons_append, List.nil_append, allB, b2, pl, stt, gi, Nat.reduceAdd, cBlg]
  repeat' first | refine ⟨?_, ?_⟩ | intro _
  all_goals first
    | exact congrArg (fun x => [DV.n x]) (if_pos (by rw [blg_0 (by (try dsimp only); omega)]; (try dsimp only); omega)).symm
    | exact congrArg (fun x => [DV.n x]) (if_pos (by rw [blg_1 (by (try dsimp only); omega) (by (try dsimp only); omega)]; (try dsimp only); omega)).symm
    | exact congrArg (fun x => [DV.n x]) (if_pos (by rw [blg_2 (by (try dsimp only); omega)]; (try dsimp only); omega)).symm
    | exact congrArg (fun x => [DV.n x]) (if_neg (by rw [blg_0 (by (try dsimp only); omega)]; (try dsimp only); omega)).symm
    | exact congrArg (fun x => [DV.n x]) (if_neg (by rw [blg_1 (by (try dsimp only); omega) (by (try dsimp only); omega)]; (try dsimp only); omega)).symm
    | exact congrArg (fun x => [DV.n x]) (if_neg (by rw [blg_2 (by (try dsimp only); omega)]; (try dsimp only); omega)).symm
    | exact congrArg (fun x => [DV.n x]) (if_neg (blg_p0 (by (try dsimp only); assumption) (by (try dsimp only); assumption))).symm
theorem cChosen_ok (N : Nat) (w0 : World) : ConOk Try.prog tb N w0 cChosen := by
  refine con_of_walk (tb := tb) fine (C := []) noCon 80 rfl ?_ N w0
  refine fun tp rtp0 rtp1 bk rbk0 rbk1 si rsi0 rsi1 st rst0 rst1 ps rps0 rps1 rt rrt0 rrt1 sp rsp0 rsp1 pa rpa0 rpa1 fd rfd0 rfd1 pp rpp0 rpp1 od rod0 rod1 ag rag0 rag1 f rf0 rf1 m rm0 rm1 rp => ?_
  clear rp rtp0 rtp1 rbk0 rbk1 rsi0 rsi1 rst0 rst1 rps0 rps1 rrt0 rrt1 rsp0 rsp1 rpa0 rpa1 rfd0 rfd1 rpp0 rpp1 rod0 rod1 rag0 rag1 rf0 rf1 rm0 rm1
  rw [tree_cho]
  simp only [T.res, B.prop, E.den, E.dat, E.top, E.val, E.isD, DV.canon, DV.int, List.getElem?_cons_zero, List.getElem?_cons_succ, List.getD_cons_zero, List.getD_cons_succ, List.getD_nil, List.map_cons, List.map_nil, List.cons_append, List.nil_append, allB, b2, pl, stt, gi, Nat.reduceAdd, cChosen]
  exact ⟨fun h => congrArg (fun x => [DV.n x]) (if_pos h).symm, fun h => congrArg (fun x => [DV.n x]) (if_neg h).symm⟩
end Go.Proofs.Ytkophklnleodcaa
