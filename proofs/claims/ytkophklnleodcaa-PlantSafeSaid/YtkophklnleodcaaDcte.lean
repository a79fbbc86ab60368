/- DERIVED. An hour of a plant: the contracts, proved. -/
import Derived.Test.YtkophklnleodcaaDctd
import Derived.Test.YtkophklnleodcaaDtreee0
import Derived.Test.YtkophklnleodcaaDtreef0
import Derived.Test.YtkophklnleodcaaDtreee1
import Derived.Test.YtkophklnleodcaaDtreef1
import Derived.Test.YtkophklnleodcaaDtreee2
import Derived.Test.YtkophklnleodcaaDtreef2
import Derived.Test.YtkophklnleodcaaDtreee3
import Derived.Test.YtkophklnleodcaaDtreef3
import Derived.Test.YtkophklnleodcaaDtreee4
import Derived.Test.YtkophklnleodcaaDtreef4
namespace Go.Proofs.Ytkophklnleodcaa
open Go.Dx
set_option linter.unusedVariables false
set_option linter.unusedSimpArgs false
theorem nx_bad {p : PL} {d : DV} {s : ST} {f m : Int} (h : ¬ plantOk p) : bad 320 = NextF p d s f m := by unfold NextF; rw [pc_bad h]; rfl
theorem nx_lim {p : PL} {d : DV} {s : ST} {f m x : Int} (h : plantOk p) (e : x = cnt p) (k : 4096 < x) : bad 2 = NextF p d s f m := by unfold NextF; rw [pc_lim h (e ▸ k)]; rfl
theorem nx_code {p : PL} {d : DV} {s : ST} {f m : Int} (h : pcF p = 0) (c : ¬ codeOk d) : bad 310 = NextF p d s f m := by unfold NextF; rw [if_neg (by omega), if_pos c]
theorem nx_blg {p : PL} {d : DV} {s : ST} {f m : Int} (h : pcF p = 0) (c : codeOk d) (b : ¬ blg p s) : bad 320 = NextF p d s f m := by unfold NextF; rw [if_neg (by omega), if_neg (not_not_intro c), if_pos b]
theorem nx_arg {p : PL} {d : DV} {s : ST} {f m : Int} (h : pcF p = 0) (c : codeOk d) (b : blg p s) (q : ¬ chosen p f m) : bad 1 = NextF p d s f m := by unfold NextF; rw [if_neg (by omega), if_neg (not_not_intro c), if_neg (not_not_intro b), if_pos q]
theorem nx_ok {p : PL} {d : DV} {s : ST} {f m : Int} (h : pcF p = 0) (c : codeOk d) (b : blg p s) (q : chosen p f m) : NextF p d s f m = [.n (lvN p d s f m), .n (poN p d s f m), .n (q0N p s f), .n (q1N p s f), .n (odN s m), .n (agN p s m), .n (outN p d s f m), .n 0] := by
  unfold NextF; rw [if_neg (by omega), if_neg (not_not_intro c), if_neg (not_not_intro b), if_neg (not_not_intro q)]
theorem run_in {d : DV} {v : List Int} {a b c : Int} (h : codeOk d) (hr : [DV.n a, .n b, .n c] = RunF d v) : (b = 0 ∧ firstL d v d.len.toNat 0 = none) ∨ (b = 1 ∧ ∃ k : Nat, firstL d v d.len.toNat 0 = some k ∧ a = d.at k 1) := by
  unfold RunF runF at hr
  rw [if_pos h] at hr
  cases hf : firstL d v d.len.toNat 0 with
  | none => rw [hf] at hr; simp only [List.cons.injEq, DV.n.injEq, and_true] at hr; exact .inl ⟨hr.2.1, rfl⟩
  | some k => rw [hf] at hr; simp only [List.cons.injEq, DV.n.injEq, and_true] at hr; exact .inr ⟨hr.2.1, k, rfl, hr.1⟩
theorem nx_none {p : PL} {d : DV} {s : ST} {f m od ag ar q0 q1 l o : Int} (h : pcF p = 0) (c : codeOk d) (b : blg p s) (q : chosen p f m) (e1 : odN s m = od) (e2 : agN p s m = ag) (e3 : arr p s f = ar) (e4 : q0N p s f = q0) (e5 : q1N p s f = q1)
    (hr : firstL d [s.lv, s.po, od, ag, ar] d.len.toNat 0 = none) (eo : o = min (p.rt * s.po) (s.lv + ar)) (el : l = min p.tp (s.lv + ar - min (p.rt * s.po) (s.lv + ar))) :
    [DV.n l, .n s.po, .n q0, .n q1, .n od, .n ag, .n o, .n 0] = NextF p d s f m := by
  have hp : poN p d s f m = s.po := by unfold poN varsN; rw [e1, e2, e3, hr]
  rw [nx_ok h c b q, e1, e2, e4, e5, hp]
  have ho : outN p d s f m = o := by unfold outN; rw [hp, e3, eo]
  have hl : lvN p d s f m = l := by unfold lvN outN; rw [hp, e3, el]
  rw [ho, hl]
theorem nx_some {p : PL} {d : DV} {s : ST} {f m od ag ar q0 q1 l o w set : Int} {k : Nat} (h : pcF p = 0) (c : codeOk d) (b : blg p s) (q : chosen p f m) (e1 : odN s m = od) (e2 : agN p s m = ag) (e3 : arr p s f = ar) (e4 : q0N p s f = q0) (e5 : q1N p s f = q1)
    (hr : firstL d [s.lv, s.po, od, ag, ar] d.len.toNat 0 = some k) (hk : set = d.at k 1) (ew : w = s.po + max (0 - p.sp) (min p.sp (min set p.ps - s.po))) (eo : o = min (p.rt * w) (s.lv + ar)) (el : l = min p.tp (s.lv + ar - min (p.rt * w) (s.lv + ar))) :
    [DV.n l, .n w, .n q0, .n q1, .n od, .n ag, .n o, .n 0] = NextF p d s f m := by
  have hp : poN p d s f m = w := by unfold poN varsN; rw [e1, e2, e3, hr, ew, hk]
  rw [nx_ok h c b q, e1, e2, e4, e5, hp]
  have ho : outN p d s f m = o := by unfold outN; rw [hp, e3, eo]
  have hl : lvN p d s f m = l := by unfold lvN outN; rw [hp, e3, el]
  rw [ho, hl]
theorem refPo (a b c : Int) : max (a - b) (min (a + b) c) = a + max (0 - b) (min b (c - a)) := by omega
set_option maxHeartbeats 4000000 in
theorem nx0_ok (N : Nat) (w0 : World) : ConOk Try.prog tb N w0 (cNextN 20 0 0) := by
  refine con_of_walk (tb := tb) fine (C := [cChk, cRun]) (conCons cChk_ok (conCons cRun_ok noCon)) 80 rfl ?_ N w0
  refine fun tp rtp0 rtp1 bk rbk0 rbk1 si rsi0 rsi1 st rst0 rst1 ps rps0 rps1 rt rrt0 rrt1 sp rsp0 rsp1 pa rpa0 rpa1 fd rfd0 rfd1 pp rpp0 rpp1 od rod0 rod1 ag rag0 rag1 d rd lv rlv0 rlv1 po rpo0 rpo1 p0 rp00 rp01 p1 rp10 rp11 so rso0 rso1 sa rsa0 rsa1 f rf0 rf1 m rm0 rm1 rp => ?_
  rw [tree_nx0]
  simp only [T.res, B.prop, E.den, E.dat, E.top, E.val, E.isD, DV.canon, DV.int, List.getElem?_cons_zero, List.getElem?_cons_succ, List.getD_cons_zero, List.getD_cons_succ, List.getD_nil, List.map_cons, List.map_nil, List.cons_append, List.nil_append, allB, b2, pl, stt, gi, Nat.reduceAdd, cNextN, resB, resL', RSh.l, RC.vd, List.flatMap_cons, List.flatMap_nil, ints, true_and, cChk, cRun]
  clear rp rd rtp0 rtp1 rbk0 rbk1 rsi0 rsi1 rst0 rst1 rps0 rps1 rrt0 rrt1 rsp0 rsp1 rpa0 rpa1 rfd0 rfd1 rod0 rod1 rag0 rag1 rlv0 rlv1 rpo0 rpo1 rp00 rp01 rp10 rp11 rso0 rso1 rsa0 rsa1 rf0 rf1 rm0 rm1
  obtain rfl : pp = 0 := by omega
  clear rpp0 rpp1
  generalize DV.sl none 0 d = d at *
  refine ⟨fun h => nx_bad (by unfold plantOk; dsimp only; omega), fun h => ⟨fun l => nx_lim (by unfold plantOk; dsimp only; omega) (cnt_0 (p := ⟨tp, bk, si, st, ps, rt, sp, pa, fd, 0, od, ag⟩) (by dsimp only; decide)) l, fun l => ?_⟩⟩
  have hp : plantOk ⟨tp, bk, si, st, ps, rt, sp, pa, fd, 0, od, ag⟩ := by unfold plantOk; dsimp only; omega
  have pc : pcF ⟨tp, bk, si, st, ps, rt, sp, pa, fd, 0, od, ag⟩ = 0 := pc_ok hp ((cnt_0 (p := ⟨tp, bk, si, st, ps, rt, sp, pa, fd, 0, od, ag⟩) (by dsimp only; decide)) ▸ l)
  have hfd : 0 ≤ fd := by
    have q := hp
    unfold plantOk at q
    dsimp only at q
    omega
  clear l h
  refine fun e _ _ he => ?_
  rcases chk_in he with ⟨rfl, ok⟩ | ⟨rfl, no⟩
  case inr => exact ⟨fun _ => nx_code pc no, fun h => absurd (by decide) h⟩
  refine ⟨fun h => absurd rfl h, fun _ => ?_⟩
  refine ⟨fun h => nx_blg pc ok (by rw [blg_0 (by dsimp only; decide)]; dsimp only; omega), fun b1 => ⟨fun h => nx_blg pc ok (by rw [blg_0 (by dsimp only; decide)]; dsimp only; omega), fun b2 => ⟨fun h => nx_blg pc ok (by rw [blg_0 (by dsimp only; decide)]; dsimp only; omega), fun b3 => ?_⟩⟩⟩
  have hb : blg ⟨tp, bk, si, st, ps, rt, sp, pa, fd, 0, od, ag⟩ ⟨lv, po, p0, p1, so, sa⟩ := by rw [blg_0 (by dsimp only; decide)]; dsimp only; omega
  clear b1 b2 b3
  refine ⟨fun h => nx_arg pc ok hb (by unfold chosen; dsimp only; omega), fun h => ?_⟩
  have hc : chosen ⟨tp, bk, si, st, ps, rt, sp, pa, fd, 0, od, ag⟩ f m := by unfold chosen; dsimp only; omega
  clear h
  refine ⟨fun hm => ?_, fun hm => ?_⟩
  · refine fun a _ _ b _ _ c _ _ hr => ?_
    rcases run_in ok hr with ⟨rfl, r⟩ | ⟨rfl, k, r, rfl⟩
    · exact ⟨fun _ => nx_none pc ok hb hc (if_pos hm) (if_pos hm) rfl rfl rfl r rfl rfl, fun h => absurd rfl h⟩
    · exact ⟨fun h => absurd h (by decide), fun _ => nx_some pc ok hb hc (if_pos hm) (if_pos hm) rfl rfl rfl r rfl rfl rfl rfl⟩
  · refine fun a _ _ b _ _ c _ _ hr => ?_
    rcases run_in ok hr with ⟨rfl, r⟩ | ⟨rfl, k, r, rfl⟩
    · exact ⟨fun _ => nx_none pc ok hb hc (if_neg hm) (if_neg hm) rfl rfl rfl r rfl rfl, fun h => absurd rfl h⟩
    · exact ⟨fun h => absurd h (by decide), fun _ => nx_some pc ok hb hc (if_neg hm) (if_neg hm) rfl rfl rfl r rfl rfl rfl rfl⟩
set_option maxHeartbeats 4000000 in
theorem nx1_ok (N : Nat) (w0 : World) : ConOk Try.prog tb N w0 (cNextN 20 1 1) := by
  refine con_of_walk (tb := tb) fine (C := [cChk, cRun]) (conCons cChk_ok (conCons cRun_ok noCon)) 80 rfl ?_ N w0
  refine fun tp rtp0 rtp1 bk rbk0 rbk1 si rsi0 rsi1 st rst0 rst1 ps rps0 rps1 rt rrt0 rrt1 sp rsp0 rsp1 pa rpa0 rpa1 fd rfd0 rfd1 pp rpp0 rpp1 od rod0 rod1 ag rag0 rag1 d rd lv rlv0 rlv1 po rpo0 rpo1 p0 rp00 rp01 p1 rp10 rp11 so rso0 rso1 sa rsa0 rsa1 f rf0 rf1 m rm0 rm1 rp => ?_
  rw [tree_nx1]
  simp only [T.res, B.prop, E.den, E.dat, E.top, E.val, E.isD, DV.canon, DV.int, List.getElem?_cons_zero, List.getElem?_cons_succ, List.getD_cons_zero, List.getD_cons_succ, List.getD_nil, List.map_cons, List.map_nil, List.cons_append, List.nil_append, allB, b2, pl, stt, gi, Nat.reduceAdd, cNextN, resB, resL', RSh.l, RC.vd, List.flatMap_cons, List.flatMap_nil, ints, true_and, cChk, cRun]
  clear rp rd rtp0 rtp1 rbk0 rbk1 rsi0 rsi1 rst0 rst1 rps0 rps1 rrt0 rrt1 rsp0 rsp1 rpa0 rpa1 rfd0 rfd1 rod0 rod1 rag0 rag1 rlv0 rlv1 rpo0 rpo1 rp00 rp01 rp10 rp11 rso0 rso1 rsa0 rsa1 rf0 rf1 rm0 rm1
  obtain rfl : pp = 1 := by omega
  clear rpp0 rpp1
  generalize DV.sl none 0 d = d at *
  refine ⟨fun h => nx_bad (by unfold plantOk; dsimp only; omega), fun h => ⟨fun l => nx_lim (by unfold plantOk; dsimp only; omega) (cnt_1 (p := ⟨tp, bk, si, st, ps, rt, sp, pa, fd, 1, od, ag⟩) (by dsimp only; decide) (by dsimp only; decide)) l, fun l => ?_⟩⟩
  have hp : plantOk ⟨tp, bk, si, st, ps, rt, sp, pa, fd, 1, od, ag⟩ := by unfold plantOk; dsimp only; omega
  have pc : pcF ⟨tp, bk, si, st, ps, rt, sp, pa, fd, 1, od, ag⟩ = 0 := pc_ok hp ((cnt_1 (p := ⟨tp, bk, si, st, ps, rt, sp, pa, fd, 1, od, ag⟩) (by dsimp only; decide) (by dsimp only; decide)) ▸ l)
  have hfd : 0 ≤ fd := by
    have q := hp
    unfold plantOk at q
    dsimp only at q
    omega
  clear l h
  refine fun e _ _ he => ?_
  rcases chk_in he with ⟨rfl, ok⟩ | ⟨rfl, no⟩
  case inr => exact ⟨fun _ => nx_code pc no, fun h => absurd (by decide) h⟩
  refine ⟨fun h => absurd rfl h, fun _ => ?_⟩
  refine ⟨fun h => nx_blg pc ok (by rw [blg_1 (by dsimp only; decide) (by dsimp only; decide)]; dsimp only; omega), fun b1 => ⟨fun h => nx_blg pc ok (by rw [blg_1 (by dsimp only; decide) (by dsimp only; decide)]; dsimp only; omega), fun b2 => ⟨fun h => nx_blg pc ok (by rw [blg_1 (by dsimp only; decide) (by dsimp only; decide)]; dsimp only; omega), fun b3 => ?_⟩⟩⟩
  have hb : blg ⟨tp, bk, si, st, ps, rt, sp, pa, fd, 1, od, ag⟩ ⟨lv, po, p0, p1, so, sa⟩ := by rw [blg_1 (by dsimp only; decide) (by dsimp only; decide)]; dsimp only; omega
  clear b1 b2 b3
  refine ⟨fun h => nx_arg pc ok hb (by unfold chosen; dsimp only; omega), fun h => ?_⟩
  have hc : chosen ⟨tp, bk, si, st, ps, rt, sp, pa, fd, 1, od, ag⟩ f m := by unfold chosen; dsimp only; omega
  clear h
  refine ⟨fun hm => ?_, fun hm => ?_⟩
  · refine fun a _ _ b _ _ c _ _ hr => ?_
    rcases run_in ok hr with ⟨rfl, r⟩ | ⟨rfl, k, r, rfl⟩
    · exact ⟨fun _ => nx_none pc ok hb hc (if_pos hm) (if_pos hm) rfl rfl rfl r rfl rfl, fun h => absurd rfl h⟩
    · exact ⟨fun h => absurd h (by decide), fun _ => nx_some pc ok hb hc (if_pos hm) (if_pos hm) rfl rfl rfl r rfl rfl rfl rfl⟩
  · refine fun a _ _ b _ _ c _ _ hr => ?_
    rcases run_in ok hr with ⟨rfl, r⟩ | ⟨rfl, k, r, rfl⟩
    · exact ⟨fun _ => nx_none pc ok hb hc (if_neg hm) (if_neg hm) rfl rfl rfl r rfl rfl, fun h => absurd rfl h⟩
    · exact ⟨fun h => absurd h (by decide), fun _ => nx_some pc ok hb hc (if_neg hm) (if_neg hm) rfl rfl rfl r rfl rfl rfl rfl⟩
set_option maxHeartbeats 4000000 in
theorem nx2_ok (N : Nat) (w0 : World) : ConOk Try.prog tb N w0 (cNextN 20 2 2) := by
  refine con_of_walk (tb := tb) fine (C := [cChk, cRun]) (conCons cChk_ok (conCons cRun_ok noCon)) 80 rfl ?_ N w0
  refine fun tp rtp0 rtp1 bk rbk0 rbk1 si rsi0 rsi1 st rst0 rst1 ps rps0 rps1 rt rrt0 rrt1 sp rsp0 rsp1 pa rpa0 rpa1 fd rfd0 rfd1 pp rpp0 rpp1 od rod0 rod1 ag rag0 rag1 d rd lv rlv0 rlv1 po rpo0 rpo1 p0 rp00 rp01 p1 rp10 rp11 so rso0 rso1 sa rsa0 rsa1 f rf0 rf1 m rm0 rm1 rp => ?_
  rw [tree_nx2]
  simp only [T.res, B.prop, E.den, E.dat, E.top, E.val, E.isD, DV.canon, DV.int, List.getElem?_cons_zero, List.getElem?_cons_succ, List.getD_cons_zero, List.getD_cons_succ, List.getD_nil, List.map_cons, List.map_nil, List.cons_append, List.nil_append, allB, b2, pl, stt, gi, Nat.reduceAdd, cNextN, resB, resL', RSh.l, RC.vd, List.flatMap_cons, List.flatMap_nil, ints, true_and, cChk, cRun]
  clear rp rd rtp0 rtp1 rbk0 rbk1 rsi0 rsi1 rst0 rst1 rps0 rps1 rrt0 rrt1 rsp0 rsp1 rpa0 rpa1 rfd0 rfd1 rod0 rod1 rag0 rag1 rlv0 rlv1 rpo0 rpo1 rp00 rp01 rp10 rp11 rso0 rso1 rsa0 rsa1 rf0 rf1 rm0 rm1
  obtain rfl : pp = 2 := by omega
  clear rpp0 rpp1
  generalize DV.sl none 0 d = d at *
  refine ⟨fun h => nx_bad (by unfold plantOk; dsimp only; omega), fun h => ⟨fun l => nx_lim (by unfold plantOk; dsimp only; omega) (cnt_2 (p := ⟨tp, bk, si, st, ps, rt, sp, pa, fd, 2, od, ag⟩) (by dsimp only; decide) (by dsimp only; decide)) l, fun l => ?_⟩⟩
  have hp : plantOk ⟨tp, bk, si, st, ps, rt, sp, pa, fd, 2, od, ag⟩ := by unfold plantOk; dsimp only; omega
  have pc : pcF ⟨tp, bk, si, st, ps, rt, sp, pa, fd, 2, od, ag⟩ = 0 := pc_ok hp ((cnt_2 (p := ⟨tp, bk, si, st, ps, rt, sp, pa, fd, 2, od, ag⟩) (by dsimp only; decide) (by dsimp only; decide)) ▸ l)
  have hfd : 0 ≤ fd := by
    have q := hp
    unfold plantOk at q
    dsimp only at q
    omega
  clear l h
  refine fun e _ _ he => ?_
  rcases chk_in he with ⟨rfl, ok⟩ | ⟨rfl, no⟩
  case inr => exact ⟨fun _ => nx_code pc no, fun h => absurd (by decide) h⟩
  refine ⟨fun h => absurd rfl h, fun _ => ?_⟩
  refine ⟨fun h => nx_blg pc ok (by rw [blg_2 (by dsimp only; decide)]; dsimp only; omega), fun b1 => ⟨fun h => nx_blg pc ok (by rw [blg_2 (by dsimp only; decide)]; dsimp only; omega), fun b2 => ⟨fun h => nx_blg pc ok (by rw [blg_2 (by dsimp only; decide)]; dsimp only; omega), fun b3 => ?_⟩⟩⟩
  have hb : blg ⟨tp, bk, si, st, ps, rt, sp, pa, fd, 2, od, ag⟩ ⟨lv, po, p0, p1, so, sa⟩ := by rw [blg_2 (by dsimp only; decide)]; dsimp only; omega
  clear b1 b2 b3
  refine ⟨fun h => nx_arg pc ok hb (by unfold chosen; dsimp only; omega), fun h => ?_⟩
  have hc : chosen ⟨tp, bk, si, st, ps, rt, sp, pa, fd, 2, od, ag⟩ f m := by unfold chosen; dsimp only; omega
  clear h
  refine ⟨fun hm => ?_, fun hm => ?_⟩
  · refine fun a _ _ b _ _ c _ _ hr => ?_
    rcases run_in ok hr with ⟨rfl, r⟩ | ⟨rfl, k, r, rfl⟩
    · exact ⟨fun _ => nx_none pc ok hb hc (if_pos hm) (if_pos hm) rfl rfl rfl r rfl rfl, fun h => absurd rfl h⟩
    · exact ⟨fun h => absurd h (by decide), fun _ => nx_some pc ok hb hc (if_pos hm) (if_pos hm) rfl rfl rfl r rfl rfl rfl rfl⟩
  · refine fun a _ _ b _ _ c _ _ hr => ?_
    rcases run_in ok hr with ⟨rfl, r⟩ | ⟨rfl, k, r, rfl⟩
    · exact ⟨fun _ => nx_none pc ok hb hc (if_neg hm) (if_neg hm) rfl rfl rfl r rfl rfl, fun h => absurd rfl h⟩
    · exact ⟨fun h => absurd h (by decide), fun _ => nx_some pc ok hb hc (if_neg hm) (if_neg hm) rfl rfl rfl r rfl rfl rfl rfl⟩
set_option maxHeartbeats 4000000 in
theorem nx3_ok (N : Nat) (w0 : World) : ConOk Try.prog tb N w0 (cNextN 20 (-9223372036854775808) (-1)) := by
  refine con_of_walk (tb := tb) fine (C := [cChk, cRun]) (conCons cChk_ok (conCons cRun_ok noCon)) 80 rfl ?_ N w0
  refine fun tp rtp0 rtp1 bk rbk0 rbk1 si rsi0 rsi1 st rst0 rst1 ps rps0 rps1 rt rrt0 rrt1 sp rsp0 rsp1 pa rpa0 rpa1 fd rfd0 rfd1 pp rpp0 rpp1 od rod0 rod1 ag rag0 rag1 d rd lv rlv0 rlv1 po rpo0 rpo1 p0 rp00 rp01 p1 rp10 rp11 so rso0 rso1 sa rsa0 rsa1 f rf0 rf1 m rm0 rm1 rp => ?_
  rw [tree_nx3]
  simp only [T.res, B.prop, E.den, E.dat, E.top, E.val, E.isD, DV.canon, DV.int, List.getElem?_cons_zero, List.getElem?_cons_succ, List.getD_cons_zero, List.getD_cons_succ, List.getD_nil, List.map_cons, List.map_nil, List.cons_append, List.nil_append, allB, b2, pl, stt, gi, Nat.reduceAdd, cNextN, resB, resL', RSh.l, RC.vd, List.flatMap_cons, List.flatMap_nil, ints, true_and, cChk, cRun]
  exact nx_bad (by unfold plantOk; dsimp only; omega)
set_option maxHeartbeats 4000000 in
theorem nx4_ok (N : Nat) (w0 : World) : ConOk Try.prog tb N w0 (cNextN 20 3 9223372036854775807) := by
  refine con_of_walk (tb := tb) fine (C := [cChk, cRun]) (conCons cChk_ok (conCons cRun_ok noCon)) 80 rfl ?_ N w0
  refine fun tp rtp0 rtp1 bk rbk0 rbk1 si rsi0 rsi1 st rst0 rst1 ps rps0 rps1 rt rrt0 rrt1 sp rsp0 rsp1 pa rpa0 rpa1 fd rfd0 rfd1 pp rpp0 rpp1 od rod0 rod1 ag rag0 rag1 d rd lv rlv0 rlv1 po rpo0 rpo1 p0 rp00 rp01 p1 rp10 rp11 so rso0 rso1 sa rsa0 rsa1 f rf0 rf1 m rm0 rm1 rp => ?_
  rw [tree_nx4]
  simp only [T.res, B.prop, E.den, E.dat, E.top, E.val, E.isD, DV.canon, DV.int, List.getElem?_cons_zero, List.getElem?_cons_succ, List.getD_cons_zero, List.getD_cons_succ, List.getD_nil, List.map_cons, List.map_nil, List.cons_append, List.nil_append, allB, b2, pl, stt, gi, Nat.reduceAdd, cNextN, resB, resL', RSh.l, RC.vd, List.flatMap_cons, List.flatMap_nil, ints, true_and, cChk, cRun]
  exact nx_bad (by unfold plantOk; dsimp only; omega)
set_option maxHeartbeats 4000000 in
theorem nxR0_ok (N : Nat) (w0 : World) : ConOk Try.prog tb N w0 (cNextN 21 0 0) := by
  refine con_of_walk (tb := tb) fine (C := [cChkR, cRunR]) (conCons cChkR_ok (conCons cRunR_ok noCon)) 80 rfl ?_ N w0
  refine fun tp rtp0 rtp1 bk rbk0 rbk1 si rsi0 rsi1 st rst0 rst1 ps rps0 rps1 rt rrt0 rrt1 sp rsp0 rsp1 pa rpa0 rpa1 fd rfd0 rfd1 pp rpp0 rpp1 od rod0 rod1 ag rag0 rag1 d rd lv rlv0 rlv1 po rpo0 rpo1 p0 rp00 rp01 p1 rp10 rp11 so rso0 rso1 sa rsa0 rsa1 f rf0 rf1 m rm0 rm1 rp => ?_
  rw [tree_nxR0]
  simp only [T.res, B.prop, E.den, E.dat, E.top, E.val, E.isD, DV.canon, DV.int, List.getElem?_cons_zero, List.getElem?_cons_succ, List.getD_cons_zero, List.getD_cons_succ, List.getD_nil, List.map_cons, List.map_nil, List.cons_append, List.nil_append, allB, b2, pl, stt, gi, Nat.reduceAdd, cNextN, resB, resL', RSh.l, RC.vd, List.flatMap_cons, List.flatMap_nil, ints, true_and, cChkR, cRunR]
  clear rp rd rtp0 rtp1 rbk0 rbk1 rsi0 rsi1 rst0 rst1 rps0 rps1 rrt0 rrt1 rsp0 rsp1 rpa0 rpa1 rfd0 rfd1 rod0 rod1 rag0 rag1 rlv0 rlv1 rpo0 rpo1 rp00 rp01 rp10 rp11 rso0 rso1 rsa0 rsa1 rf0 rf1 rm0 rm1
  obtain rfl : pp = 0 := by omega
  clear rpp0 rpp1
  generalize DV.sl none 0 d = d at *
  refine ⟨fun h => nx_bad (by unfold plantOk; dsimp only; omega), fun h1 => ⟨fun h => nx_bad (by unfold plantOk; dsimp only; omega), fun h2 => ⟨fun h => nx_bad (by unfold plantOk; dsimp only; omega), fun h3 => ⟨fun l => nx_lim (by unfold plantOk; dsimp only; omega) (cnt_0 (p := ⟨tp, bk, si, st, ps, rt, sp, pa, fd, 0, od, ag⟩) (by dsimp only; decide)) l, fun l => ?_⟩⟩⟩⟩
  have hp : plantOk ⟨tp, bk, si, st, ps, rt, sp, pa, fd, 0, od, ag⟩ := by unfold plantOk; dsimp only; omega
  have pc : pcF ⟨tp, bk, si, st, ps, rt, sp, pa, fd, 0, od, ag⟩ = 0 := pc_ok hp ((cnt_0 (p := ⟨tp, bk, si, st, ps, rt, sp, pa, fd, 0, od, ag⟩) (by dsimp only; decide)) ▸ l)
  have hfd : 0 ≤ fd := by
    have q := hp
    unfold plantOk at q
    dsimp only at q
    omega
  clear l h1 h2 h3
  refine fun e _ _ he => ?_
  rcases chk_in he with ⟨rfl, ok⟩ | ⟨rfl, no⟩
  case inr => exact ⟨fun _ => nx_code pc no, fun h => absurd (by decide) h⟩
  refine ⟨fun h => absurd rfl h, fun _ => ?_⟩
  refine ⟨fun h => nx_blg pc ok (by rw [blg_0 (by dsimp only; decide)]; dsimp only; omega), fun b1 => ⟨fun h => nx_blg pc ok (by rw [blg_0 (by dsimp only; decide)]; dsimp only; omega), fun b2 => ⟨fun h => nx_blg pc ok (by rw [blg_0 (by dsimp only; decide)]; dsimp only; omega), fun b3 => ?_⟩⟩⟩
  have hb : blg ⟨tp, bk, si, st, ps, rt, sp, pa, fd, 0, od, ag⟩ ⟨lv, po, p0, p1, so, sa⟩ := by rw [blg_0 (by dsimp only; decide)]; dsimp only; omega
  clear b1 b2 b3
  refine ⟨fun h => nx_arg pc ok hb (by unfold chosen; dsimp only; omega), fun h => ?_⟩
  have hc : chosen ⟨tp, bk, si, st, ps, rt, sp, pa, fd, 0, od, ag⟩ f m := by unfold chosen; dsimp only; omega
  clear h
  refine ⟨fun hm => ?_, fun hm => ?_⟩
  · refine fun a _ _ b _ _ c _ _ hr => ?_
    rcases run_in ok hr with ⟨rfl, r⟩ | ⟨rfl, k, r, rfl⟩
    · exact ⟨fun h => absurd rfl h, fun _ => nx_none pc ok hb hc (if_pos hm) (if_pos hm) rfl rfl rfl r (Int.min_comm _ _) (by rw [Int.min_comm (lv + _)]; rfl)⟩
    · exact ⟨fun _ => nx_some pc ok hb hc (if_pos hm) (if_pos hm) rfl rfl rfl r rfl (refPo _ _ _) (Int.min_comm _ _) (by rw [Int.min_comm (lv + _)]; rfl), fun h => absurd (by decide) h⟩
  · refine fun a _ _ b _ _ c _ _ hr => ?_
    rcases run_in ok hr with ⟨rfl, r⟩ | ⟨rfl, k, r, rfl⟩
    · exact ⟨fun h => absurd rfl h, fun _ => nx_none pc ok hb hc (if_neg hm) (if_neg hm) rfl rfl rfl r (Int.min_comm _ _) (by rw [Int.min_comm (lv + _)]; rfl)⟩
    · exact ⟨fun _ => nx_some pc ok hb hc (if_neg hm) (if_neg hm) rfl rfl rfl r rfl (refPo _ _ _) (Int.min_comm _ _) (by rw [Int.min_comm (lv + _)]; rfl), fun h => absurd (by decide) h⟩
set_option maxHeartbeats 4000000 in
theorem nxR1_ok (N : Nat) (w0 : World) : ConOk Try.prog tb N w0 (cNextN 21 1 1) := by
  refine con_of_walk (tb := tb) fine (C := [cChkR, cRunR]) (conCons cChkR_ok (conCons cRunR_ok noCon)) 80 rfl ?_ N w0
  refine fun tp rtp0 rtp1 bk rbk0 rbk1 si rsi0 rsi1 st rst0 rst1 ps rps0 rps1 rt rrt0 rrt1 sp rsp0 rsp1 pa rpa0 rpa1 fd rfd0 rfd1 pp rpp0 rpp1 od rod0 rod1 ag rag0 rag1 d rd lv rlv0 rlv1 po rpo0 rpo1 p0 rp00 rp01 p1 rp10 rp11 so rso0 rso1 sa rsa0 rsa1 f rf0 rf1 m rm0 rm1 rp => ?_
  rw [tree_nxR1]
  simp only [T.res, B.prop, E.den, E.dat, E.top, E.val, E.isD, DV.canon, DV.int, List.getElem?_cons_zero, List.getElem?_cons_succ, List.getD_cons_zero, List.getD_cons_succ, List.getD_nil, List.map_cons, List.map_nil, List.cons_append, List.nil_append, allB, b2, pl, stt, gi, Nat.reduceAdd, cNextN, resB, resL', RSh.l, RC.vd, List.flatMap_cons, List.flatMap_nil, ints, true_and, cChkR, cRunR]
  clear rp rd rtp0 rtp1 rbk0 rbk1 rsi0 rsi1 rst0 rst1 rps0 rps1 rrt0 rrt1 rsp0 rsp1 rpa0 rpa1 rfd0 rfd1 rod0 rod1 rag0 rag1 rlv0 rlv1 rpo0 rpo1 rp00 rp01 rp10 rp11 rso0 rso1 rsa0 rsa1 rf0 rf1 rm0 rm1
  obtain rfl : pp = 1 := by omega
  clear rpp0 rpp1
  generalize DV.sl none 0 d = d at *
  refine ⟨fun h => nx_bad (by unfold plantOk; dsimp only; omega), fun h1 => ⟨fun h => nx_bad (by unfold plantOk; dsimp only; omega), fun h2 => ⟨fun h => nx_bad (by unfold plantOk; dsimp only; omega), fun h3 => ⟨fun l => nx_lim (by unfold plantOk; dsimp only; omega) (cnt_1 (p := ⟨tp, bk, si, st, ps, rt, sp, pa, fd, 1, od, ag⟩) (by dsimp only; decide) (by dsimp only; decide)) l, fun l => ?_⟩⟩⟩⟩
  have hp : plantOk ⟨tp, bk, si, st, ps, rt, sp, pa, fd, 1, od, ag⟩ := by unfold plantOk; dsimp only; omega
  have pc : pcF ⟨tp, bk, si, st, ps, rt, sp, pa, fd, 1, od, ag⟩ = 0 := pc_ok hp ((cnt_1 (p := ⟨tp, bk, si, st, ps, rt, sp, pa, fd, 1, od, ag⟩) (by dsimp only; decide) (by dsimp only; decide)) ▸ l)
  have hfd : 0 ≤ fd := by
    have q := hp
    unfold plantOk at q
    dsimp only at q
    omega
  clear l h1 h2 h3
  refine fun e _ _ he => ?_
  rcases chk_in he with ⟨rfl, ok⟩ | ⟨rfl, no⟩
  case inr => exact ⟨fun _ => nx_code pc no, fun h => absurd (by decide) h⟩
  refine ⟨fun h => absurd rfl h, fun _ => ?_⟩
  refine ⟨fun h => nx_blg pc ok (by rw [blg_1 (by dsimp only; decide) (by dsimp only; decide)]; dsimp only; omega), fun b1 => ⟨fun h => nx_blg pc ok (by rw [blg_1 (by dsimp only; decide) (by dsimp only; decide)]; dsimp only; omega), fun b2 => ⟨fun h => nx_blg pc ok (by rw [blg_1 (by dsimp only; decide) (by dsimp only; decide)]; dsimp only; omega), fun b3 => ?_⟩⟩⟩
  have hb : blg ⟨tp, bk, si, st, ps, rt, sp, pa, fd, 1, od, ag⟩ ⟨lv, po, p0, p1, so, sa⟩ := by rw [blg_1 (by dsimp only; decide) (by dsimp only; decide)]; dsimp only; omega
  clear b1 b2 b3
  refine ⟨fun h => nx_arg pc ok hb (by unfold chosen; dsimp only; omega), fun h => ?_⟩
  have hc : chosen ⟨tp, bk, si, st, ps, rt, sp, pa, fd, 1, od, ag⟩ f m := by unfold chosen; dsimp only; omega
  clear h
  refine ⟨fun hm => ?_, fun hm => ?_⟩
  · refine fun a _ _ b _ _ c _ _ hr => ?_
    rcases run_in ok hr with ⟨rfl, r⟩ | ⟨rfl, k, r, rfl⟩
    · exact ⟨fun h => absurd rfl h, fun _ => nx_none pc ok hb hc (if_pos hm) (if_pos hm) rfl rfl rfl r (Int.min_comm _ _) (by rw [Int.min_comm (lv + _)]; rfl)⟩
    · exact ⟨fun _ => nx_some pc ok hb hc (if_pos hm) (if_pos hm) rfl rfl rfl r rfl (refPo _ _ _) (Int.min_comm _ _) (by rw [Int.min_comm (lv + _)]; rfl), fun h => absurd (by decide) h⟩
  · refine fun a _ _ b _ _ c _ _ hr => ?_
    rcases run_in ok hr with ⟨rfl, r⟩ | ⟨rfl, k, r, rfl⟩
    · exact ⟨fun h => absurd rfl h, fun _ => nx_none pc ok hb hc (if_neg hm) (if_neg hm) rfl rfl rfl r (Int.min_comm _ _) (by rw [Int.min_comm (lv + _)]; rfl)⟩
    · exact ⟨fun _ => nx_some pc ok hb hc (if_neg hm) (if_neg hm) rfl rfl rfl r rfl (refPo _ _ _) (Int.min_comm _ _) (by rw [Int.min_comm (lv + _)]; rfl), fun h => absurd (by decide) h⟩
set_option maxHeartbeats 4000000 in
theorem nxR2_ok (N : Nat) (w0 : World) : ConOk Try.prog tb N w0 (cNextN 21 2 2) := by
  refine con_of_walk (tb := tb) fine (C := [cChkR, cRunR]) (conCons cChkR_ok (conCons cRunR_ok noCon)) 80 rfl ?_ N w0
  refine fun tp rtp0 rtp1 bk rbk0 rbk1 si rsi0 rsi1 st rst0 rst1 ps rps0 rps1 rt rrt0 rrt1 sp rsp0 rsp1 pa rpa0 rpa1 fd rfd0 rfd1 pp rpp0 rpp1 od rod0 rod1 ag rag0 rag1 d rd lv rlv0 rlv1 po rpo0 rpo1 p0 rp00 rp01 p1 rp10 rp11 so rso0 rso1 sa rsa0 rsa1 f rf0 rf1 m rm0 rm1 rp => ?_
  rw [tree_nxR2]
  simp only [T.res, B.prop, E.den, E.dat, E.top, E.val, E.isD, DV.canon, DV.int, List.getElem?_cons_zero, List.getElem?_cons_succ, List.getD_cons_zero, List.getD_cons_succ, List.getD_nil, List.map_cons, List.map_nil, List.cons_append, List.nil_append, allB, b2, pl, stt, gi, Nat.reduceAdd, cNextN, resB, resL', RSh.l, RC.vd, List.flatMap_cons, List.flatMap_nil, ints, true_and, cChkR, cRunR]
  clear rp rd rtp0 rtp1 rbk0 rbk1 rsi0 rsi1 rst0 rst1 rps0 rps1 rrt0 rrt1 rsp0 rsp1 rpa0 rpa1 rfd0 rfd1 rod0 rod1 rag0 rag1 rlv0 rlv1 rpo0 rpo1 rp00 rp01 rp10 rp11 rso0 rso1 rsa0 rsa1 rf0 rf1 rm0 rm1
  obtain rfl : pp = 2 := by omega
  clear rpp0 rpp1
  generalize DV.sl none 0 d = d at *
  refine ⟨fun h => nx_bad (by unfold plantOk; dsimp only; omega), fun h1 => ⟨fun h => nx_bad (by unfold plantOk; dsimp only; omega), fun h2 => ⟨fun h => nx_bad (by unfold plantOk; dsimp only; omega), fun h3 => ⟨fun l => nx_lim (by unfold plantOk; dsimp only; omega) (cnt_2 (p := ⟨tp, bk, si, st, ps, rt, sp, pa, fd, 2, od, ag⟩) (by dsimp only; decide) (by dsimp only; decide)) l, fun l => ?_⟩⟩⟩⟩
  have hp : plantOk ⟨tp, bk, si, st, ps, rt, sp, pa, fd, 2, od, ag⟩ := by unfold plantOk; dsimp only; omega
  have pc : pcF ⟨tp, bk, si, st, ps, rt, sp, pa, fd, 2, od, ag⟩ = 0 := pc_ok hp ((cnt_2 (p := ⟨tp, bk, si, st, ps, rt, sp, pa, fd, 2, od, ag⟩) (by dsimp only; decide) (by dsimp only; decide)) ▸ l)
  have hfd : 0 ≤ fd := by
    have q := hp
    unfold plantOk at q
    dsimp only at q
    omega
  clear l h1 h2 h3
  refine fun e _ _ he => ?_
  rcases chk_in he with ⟨rfl, ok⟩ | ⟨rfl, no⟩
  case inr => exact ⟨fun _ => nx_code pc no, fun h => absurd (by decide) h⟩
  refine ⟨fun h => absurd rfl h, fun _ => ?_⟩
  refine ⟨fun h => nx_blg pc ok (by rw [blg_2 (by dsimp only; decide)]; dsimp only; omega), fun b1 => ⟨fun h => nx_blg pc ok (by rw [blg_2 (by dsimp only; decide)]; dsimp only; omega), fun b2 => ⟨fun h => nx_blg pc ok (by rw [blg_2 (by dsimp only; decide)]; dsimp only; omega), fun b3 => ?_⟩⟩⟩
  have hb : blg ⟨tp, bk, si, st, ps, rt, sp, pa, fd, 2, od, ag⟩ ⟨lv, po, p0, p1, so, sa⟩ := by rw [blg_2 (by dsimp only; decide)]; dsimp only; omega
  clear b1 b2 b3
  refine ⟨fun h => nx_arg pc ok hb (by unfold chosen; dsimp only; omega), fun h => ?_⟩
  have hc : chosen ⟨tp, bk, si, st, ps, rt, sp, pa, fd, 2, od, ag⟩ f m := by unfold chosen; dsimp only; omega
  clear h
  refine ⟨fun hm => ?_, fun hm => ?_⟩
  · refine fun a _ _ b _ _ c _ _ hr => ?_
    rcases run_in ok hr with ⟨rfl, r⟩ | ⟨rfl, k, r, rfl⟩
    · exact ⟨fun h => absurd rfl h, fun _ => nx_none pc ok hb hc (if_pos hm) (if_pos hm) rfl rfl rfl r (Int.min_comm _ _) (by rw [Int.min_comm (lv + _)]; rfl)⟩
    · exact ⟨fun _ => nx_some pc ok hb hc (if_pos hm) (if_pos hm) rfl rfl rfl r rfl (refPo _ _ _) (Int.min_comm _ _) (by rw [Int.min_comm (lv + _)]; rfl), fun h => absurd (by decide) h⟩
  · refine fun a _ _ b _ _ c _ _ hr => ?_
    rcases run_in ok hr with ⟨rfl, r⟩ | ⟨rfl, k, r, rfl⟩
    · exact ⟨fun h => absurd rfl h, fun _ => nx_none pc ok hb hc (if_neg hm) (if_neg hm) rfl rfl rfl r (Int.min_comm _ _) (by rw [Int.min_comm (lv + _)]; rfl)⟩
    · exact ⟨fun _ => nx_some pc ok hb hc (if_neg hm) (if_neg hm) rfl rfl rfl r rfl (refPo _ _ _) (Int.min_comm _ _) (by rw [Int.min_comm (lv + _)]; rfl), fun h => absurd (by decide) h⟩
set_option maxHeartbeats 4000000 in
theorem nxR3_ok (N : Nat) (w0 : World) : ConOk Try.prog tb N w0 (cNextN 21 (-9223372036854775808) (-1)) := by
  refine con_of_walk (tb := tb) fine (C := [cChkR, cRunR]) (conCons cChkR_ok (conCons cRunR_ok noCon)) 80 rfl ?_ N w0
  refine fun tp rtp0 rtp1 bk rbk0 rbk1 si rsi0 rsi1 st rst0 rst1 ps rps0 rps1 rt rrt0 rrt1 sp rsp0 rsp1 pa rpa0 rpa1 fd rfd0 rfd1 pp rpp0 rpp1 od rod0 rod1 ag rag0 rag1 d rd lv rlv0 rlv1 po rpo0 rpo1 p0 rp00 rp01 p1 rp10 rp11 so rso0 rso1 sa rsa0 rsa1 f rf0 rf1 m rm0 rm1 rp => ?_
  rw [tree_nxR3]
  simp only [T.res, B.prop, E.den, E.dat, E.top, E.val, E.isD, DV.canon, DV.int, List.getElem?_cons_zero, List.getElem?_cons_succ, List.getD_cons_zero, List.getD_cons_succ, List.getD_nil, List.map_cons, List.map_nil, List.cons_append, List.nil_append, allB, b2, pl, stt, gi, Nat.reduceAdd, cNextN, resB, resL', RSh.l, RC.vd, List.flatMap_cons, List.flatMap_nil, ints, true_and, cChkR, cRunR]
  exact ⟨fun h => nx_bad (by unfold plantOk; dsimp only; omega), fun _ => ⟨fun h => nx_bad (by unfold plantOk; dsimp only; omega), fun _ => nx_bad (by unfold plantOk; dsimp only; omega)⟩⟩
set_option maxHeartbeats 4000000 in
theorem nxR4_ok (N : Nat) (w0 : World) : ConOk Try.prog tb N w0 (cNextN 21 3 9223372036854775807) := by
  refine con_of_walk (tb := tb) fine (C := [cChkR, cRunR]) (conCons cChkR_ok (conCons cRunR_ok noCon)) 80 rfl ?_ N w0
  refine fun tp rtp0 rtp1 bk rbk0 rbk1 si rsi0 rsi1 st rst0 rst1 ps rps0 rps1 rt rrt0 rrt1 sp rsp0 rsp1 pa rpa0 rpa1 fd rfd0 rfd1 pp rpp0 rpp1 od rod0 rod1 ag rag0 rag1 d rd lv rlv0 rlv1 po rpo0 rpo1 p0 rp00 rp01 p1 rp10 rp11 so rso0 rso1 sa rsa0 rsa1 f rf0 rf1 m rm0 rm1 rp => ?_
  rw [tree_nxR4]
  simp only [T.res, B.prop, E.den, E.dat, E.top, E.val, E.isD, DV.canon, DV.int, List.getElem?_cons_zero, List.getElem?_cons_succ, List.getD_cons_zero, List.getD_cons_succ, List.getD_nil, List.map_cons, List.map_nil, List.cons_append, List.nil_append, allB, b2, pl, stt, gi, Nat.reduceAdd, cNextN, resB, resL', RSh.l, RC.vd, List.flatMap_cons, List.flatMap_nil, ints, true_and, cChkR, cRunR]
  exact ⟨fun h => nx_bad (by unfold plantOk; dsimp only; omega), fun _ => ⟨fun h => nx_bad (by unfold plantOk; dsimp only; omega), fun _ => nx_bad (by unfold plantOk; dsimp only; omega)⟩⟩
/-- One number of many, looked at. -/
theorem cells_narrow {w : World} : ∀ (row : List Sh) (j : Nat) (ys : List DV) (cs : List Value), cellsA w row ys cs → ∀ (k : IntKind) (a b : Int), row[j]? = some (.int k a b) →
    ∃ x : Int, (a ≤ x ∧ x ≤ b) ∧ ∀ a' b' : Int, a' ≤ x → x ≤ b' → cellsA w (row.set j (.int k a' b')) ys cs
  | [], j, ys, cs, h, k, a, b, hj => by simp at hj
  | s :: row, 0, [], cs, h, k, a, b, hj => by cases cs <;> simp only [cellsA] at h
  | s :: row, 0, y :: ys, [], h, k, a, b, hj => by simp only [cellsA] at h
  | s :: row, 0, y :: ys, c :: cs, h, k, a, b, hj => by
    simp only [List.getElem?_cons_zero, Option.some.injEq] at hj
    subst hj
    simp only [cellsA] at h
    obtain ⟨⟨h1, h2⟩, h3⟩ := h
    simp only [HasSh] at h1
    obtain ⟨x, rfl, hx, hk⟩ := h1
    refine ⟨x, hx, fun a' b' h4 h5 => ?_⟩
    simp only [List.set_cons_zero, cellsA]
    refine ⟨⟨?_, h2⟩, h3⟩
    simp only [HasSh]
    exact ⟨x, rfl, ⟨h4, h5⟩, hk⟩
  | s :: row, j + 1, [], cs, h, k, a, b, hj => by cases cs <;> simp only [cellsA] at h
  | s :: row, j + 1, y :: ys, [], h, k, a, b, hj => by simp only [cellsA] at h
  | s :: row, j + 1, y :: ys, c :: cs, h, k, a, b, hj => by
    simp only [List.getElem?_cons_succ] at hj
    simp only [cellsA] at h
    obtain ⟨x, hx, hn⟩ := cells_narrow row j ys cs h.2 k a b hj
    refine ⟨x, hx, fun a' b' h4 h5 => ?_⟩
    simp only [List.set_cons_succ, cellsA]
    exact ⟨h.1, hn a' b' h4 h5⟩
theorem next_all {f : FuncId} (h0 : ∀ N w0, ConOk Try.prog tb N w0 (cNextN f 0 0)) (h1 : ∀ N w0, ConOk Try.prog tb N w0 (cNextN f 1 1)) (h2 : ∀ N w0, ConOk Try.prog tb N w0 (cNextN f 2 2)) (h3 : ∀ N w0, ConOk Try.prog tb N w0 (cNextN f (-9223372036854775808) (-1))) (h4 : ∀ N w0, ConOk Try.prog tb N w0 (cNextN f 3 9223372036854775807)) (N : Nat) (w0 : World) : ConOk Try.prog tb N w0 (cNext f) := by
  intro hn xs vs w ha hp hB hG
  cases vs with
  | nil => simp only [cNext, cNextN, b2, ArgsV] at ha
  | cons v vs =>
    have ha : ArgsV w (nextArgs (-9223372036854775808) 9223372036854775807) xs (v :: vs) := ha
    simp only [ArgsV] at ha
    obtain ⟨ys, r, cs, rfl, rfl, hc, hr⟩ := ha
    obtain ⟨x, ⟨x0, x1⟩, hx⟩ := cells_narrow _ 9 _ _ hc .i64 _ _ rfl
    have go : ∀ a b : Int, a ≤ x → x ≤ b → ArgsV w (nextArgs a b) (ys ++ r) (.agg cs.toArray :: vs) := fun a b ha hb => by
      simp only [ArgsV]
      exact ⟨ys, r, cs, rfl, rfl, hx a b ha hb, hr⟩
    by_cases c : x < 0
    · exact h3 N w0 hn _ _ w (go _ _ x0 (by omega)) hp hB hG
    by_cases c : 2 < x
    · exact h4 N w0 hn _ _ w (go _ _ (by omega) x1) hp hB hG
    have hc : x = 0 ∨ x = 1 ∨ x = 2 := by omega
    rcases hc with rfl | rfl | rfl
    · exact h0 N w0 hn _ _ w (go _ _ (Int.le_refl _) (Int.le_refl _)) hp hB hG
    · exact h1 N w0 hn _ _ w (go _ _ (Int.le_refl _) (Int.le_refl _)) hp hB hG
    · exact h2 N w0 hn _ _ w (go _ _ (Int.le_refl _) (Int.le_refl _)) hp hB hG
theorem cNext_ok (N : Nat) (w0 : World) : ConOk Try.prog tb N w0 (cNext 20) := next_all nx0_ok nx1_ok nx2_ok nx3_ok nx4_ok N w0
theorem cNextR_ok (N : Nat) (w0 : World) : ConOk Try.prog tb N w0 (cNext 21) := next_all nxR0_ok nxR1_ok nxR2_ok nxR3_ok nxR4_ok N w0
end Go.Proofs.Ytkophklnleodcaa
