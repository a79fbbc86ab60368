/- DERIVED. The walk of FieldThrough. -/
import Derived.Test.YtmmoenbdlfmgeaaInterp
import Derived.Test.YtmmoenbdlfmgeaaPolySpec
import Derived.Deep.AppendLies
namespace Go.Proofs.Ytmmoenbdlfmgeaa
open Go.RowKit
set_option linter.unusedVariables false
set_option linter.unusedSimpArgs false
def flat (l : List (Int × Int)) : List Value := l.flatMap (fun p => [.int .i64 p.1, .int .i64 p.2])
theorem flat_len : ∀ l : List (Int × Int), (flat l).length = l.length * 2
  | [] => rfl
  | p :: r => by simp [flat]; have := flat_len r; simp [flat] at this; omega
theorem flat_snoc (l : List (Int × Int)) (p : Int × Int) : flat (l ++ [p]) = flat l ++ [.int .i64 p.1, .int .i64 p.2] := by simp [flat]
theorem flat_at : ∀ (l : List (Int × Int)) (k : Nat), k < l.length → (flat l)[k * 2]? = some (.int .i64 (l[k]?.getD (0, 0)).1) ∧ (flat l)[k * 2 + 1]? = some (.int .i64 (l[k]?.getD (0, 0)).2)
  | [], k, h => by simp at h
  | p :: r, 0, _ => by simp [flat]
  | p :: r, k + 1, h => by
    have ih := flat_at r k (by simpa using h)
    have e : flat (p :: r) = .int .i64 p.1 :: .int .i64 p.2 :: flat r := rfl
    rw [e, show (k + 1) * 2 = k * 2 + 1 + 1 from by omega]
    simpa using ih
theorem row_ptsl {w : World} {base : Nat} {v : Value} {l : List (Int × Int)} (h : w.ownsRow base 38 2 v l.length (flat l)) : PtSl w v l := by
  have h0 := h
  rcases h.2 with ⟨rfl, h1⟩ | ⟨g, cap, cur, rfl, hb, hgg, hn, hcap, hsz, htake⟩
  · exact ⟨none, 0, by rw [h1], fun hne => absurd (List.length_eq_zero_iff.1 h1) hne⟩
  · refine ⟨_, cap, rfl, fun _ => ⟨g, 0, rfl, (Array.getElem?_eq_some_iff.1 hgg).1, fun j hj => ?_⟩⟩
    have ⟨f1, f2⟩ := flat_at l j hj
    rw [Nat.zero_add]
    exact ⟨by rw [h0.cellAt (j * 2) (by omega)]; exact f1, by rw [h0.cellAt (j * 2 + 1) (by omega)]; exact f2⟩
theorem prow_below {w w' : World} {base : Nat} {v : Value} {n : Nat} {xs : List Value} (h : w.ownsRow base 38 2 v n xs) (hB : Below w.heap.size w w') : w'.ownsRow base 38 2 v n xs := by
  refine ⟨h.1, ?_⟩
  rcases h.2 with hn | ⟨g, cap, cur, rfl, hb, hgg, rest⟩
  · exact .inl hn
  · exact .inr ⟨g, cap, cur, rfl, hb, (hB.block g (Array.getElem?_eq_some_iff.1 hgg).1).trans hgg, rest⟩
theorem prow_lt {w : World} {base : Nat} {v : Value} {n : Nat} {xs : List Value} (h : w.ownsRow base 38 2 v n xs) {g : Nat} (hg : v.ownBlock = some g) : base ≤ g ∧ g < w.heap.size := by
  rcases h.2 with ⟨rfl, _⟩ | ⟨g', cap, cur, rfl, hb, hgg, rest⟩
  · cases hg
  · cases hg; exact ⟨hb, (Array.getElem?_eq_some_iff.1 hgg).1⟩
theorem Try.info38 : (Try.prog.info? 38).map (fun i => (i.zero, i.size, i.bytes)) = some (some (.agg #[.int .i64 0, .int .i64 0]), 2, 16) := by kernel_rfl
/-- The points on the polynomial. -/
def ownL (pts : List (Int × Int)) (cs : List Int) : List (Int × Int) := pts.map (fun p => (p.1, hor p.1 cs))
theorem ownL_len (pts : List (Int × Int)) (cs : List Int) : (ownL pts cs).length = pts.length := by simp [ownL]
theorem ownL_at (pts : List (Int × Int)) (cs : List Int) (k : Nat) (h : k < pts.length) : (ownL pts cs)[k]? = some ((pts[k]?.getD (0, 0)).1, hor (pts[k]?.getD (0, 0)).1 cs) := by simp [ownL, h]
theorem ownL_take (pts : List (Int × Int)) (cs : List Int) (k : Nat) (h : k < pts.length) : (ownL pts cs).take (k + 1) = (ownL pts cs).take k ++ [((pts[k]?.getD (0, 0)).1, hor (pts[k]?.getD (0, 0)).1 cs)] := by
  have := ownL_at pts cs k h
  obtain ⟨hk, e⟩ := List.getElem?_eq_some_iff.1 this
  rw [List.take_succ_eq_append_getElem hk, e]
theorem ownL_dif {pts : List (Int × Int)} (cs : List Int) (h : Dif pts) : Dif (ownL pts cs) := by
  intro i hi j hj
  rw [ownL_len] at hi
  rw [ownL_at pts cs i hi, ownL_at pts cs j (by omega)]
  exact h i hi j hj
theorem ownL_interp {pts : List (Int × Int)} (cs : List Int) (h : Dif pts) (hl : cs.length ≤ pts.length) (at_ : Int) : atV (ownL pts cs) at_ (ownL pts cs).length = hor at_ cs := by
  refine interp (ownL_dif cs h) cs (by rw [ownL_len]; exact hl) (fun j hj => ?_) at_
  rw [ownL_len] at hj
  rw [ownL_at pts cs j hj]
  exact (md_hor _ _).symm
theorem dif_sl (v : Value) (pts : List (Int × Int)) (hlen : pts.length ≤ 64) (w : World) (hs : PtSl w v pts) (b : Bool) (hb : b = true ↔ Dif pts) :
    Calls Try.prog 24 #[v] w fun e w' => e = .returned (.bool b) ∧ Below w.heap.size w w' := by
  obtain ⟨ao, cap, rfl, hc⟩ := hs
  by_cases hne : pts = []
  · subst hne
    have : b = true := hb.2 (fun i hi => absurd hi (Nat.not_lt_zero _))
    subst this
    exact (rdif_nil ao cap w).mono fun e w' ⟨he, hw⟩ => ⟨he, hw ▸ Below.refl _ _⟩
  · obtain ⟨b0, off, rfl, hI⟩ := hc hne
    cases b with
    | true => exact different_yes b0 off cap pts (by omega) (hb.1 rfl) w hI
    | false => exact different_no b0 off cap pts (by omega) (fun h => by have := hb.2 h; cases this) w hI

set_option maxRecDepth 100000 in
set_option maxHeartbeats 4000000 in
theorem Through_in (sa sb : Value) (pts : List (Int × Int)) (cs : List Int) (at_ : Int) (hla : pts.length ≤ 64) (hd : Dif pts) (hlb : cs.length ≤ pts.length) (w : World) (ha : PtSl w sa pts) (hb : IntSl w sb cs) :
    Calls Try.prog 6 #[sa, sb, .int .i64 at_] w fun e w' => e = .returned (.bool true) ∧ Below w.heap.size w w' := by
  obtain ⟨i0, hi, hz0, hz1, hz2⟩ := info_parts Try.info38
  have ha' := Lib.hid ha; have hb' := Lib.hid hb
  have HD := Lib.hid hd; clear hd
  obtain ⟨aa, ca, rfl, hca⟩ := ha
  obtain ⟨ab, cb, rfl, hcb⟩ := hb
  have la2 : decide ((64 : Int) < (pts.length : Int)) = false := by simp; omega
  have lb2 : decide ((pts.length : Int) < (cs.length : Int)) = false := by simp; omega
  have lb3 : decide (pts.length < cs.length) = false := by simp; omega
  have la1 : (pts.length : Int) ≤ 64 := by omega
  have lb1 : (cs.length : Int) ≤ (pts.length : Int) := by omega
  clear hcb
  go_enter Try.func6, Try.ntmps6
  go_wp2_with (first | (go_at_call 9; refine (sane_any _).mono ?_; rintro e w1 ⟨rfl, hB⟩) | (go_at_call 24; refine (dif_sl _ pts hla _ (ha'.out.below hB) true ⟨fun _ => HD.out, fun _ => rfl⟩).mono ?_; rintro e w2 ⟨rfl, hB2⟩; replace hB2 := thenB hB hB2))
  go_loopw [33, 7] (fun c v wr => ∃ k : Nat, k ≤ pts.length ∧ c = .int .i64 k ∧ wr.ownsRow w2.heap.size 38 2 v ((ownL pts cs).take k).length (flat ((ownL pts cs).take k)) ∧ Below w2.heap.size w2 wr) (fun c _ _ => pts.length - (intOf c).toNat)
  case atStart => exact ⟨0, Nat.zero_le _, rfl, World.ownsRow_nil _ _ _ _, Below.refl _ _⟩
  case round =>
    obtain ⟨k, hk, rfl, hown, hBr⟩ := hrel
    have hWr := hB2.trans (hBr.mono hB2.size)
    by_cases hka : k < pts.length
    · obtain ⟨b0, off0, rfl, hI⟩ := hca (by intro e; rw [e] at hka; simp at hka)
      have ⟨cX, cY⟩ := (hI.below hWr).2 k hka
      have HT := ownL_take pts cs k hka
      have hyy := atV_at HD.out k hka
      have hlk : ((ownL pts cs).take k).length ≤ k := List.length_take_le _ _
      obtain ⟨p, hp⟩ : ∃ p, p = pts[k]?.getD (0, 0) := ⟨_, rfl⟩
      rw [← hp] at cX cY HT hyy
      clear hp
      obtain ⟨x, y⟩ := p
      simp only at cX cY HT hyy
      have HTT := Lib.hid HT; have HYY := Lib.hid hyy; clear HT hyy
      have ht : (md y != md y) = false := by simp
      have SA := Lib.hid (ha'.out.below hWr); have SB := Lib.hid (hb'.out.below hWr)
      have hBp : Below wr.heap.size wr (wr.alloc (.cells #[.int .i64 x, .int .i64 y] 38)) := (Below.refl _ _).alloc (Nat.le_refl _) _
      have o1 := Lib.hid (hown.alloc (.cells #[.int .i64 x, .int .i64 y] 38))
      have hbX : (wr.alloc (.cells #[.int .i64 x, .int .i64 y] 38)).heap[wr.heap.size]? = some (.cells #[.int .i64 x, .int .i64 y] 38 (0, 0)) := World.alloc_heap_new wr _
      have HBX := Lib.hid hbX; clear hbX
      have hown' := Lib.hid hown; clear hown
      go_wp2_with fail
      refine (at_sl _ x pts _ (SA.out.below hBp)).mono ?_; rintro e w3 ⟨vv, ee, rfl, hr, hB3⟩
      rcases hr with ⟨h, _⟩ | ⟨_, h, _⟩ | ⟨_, _, rfl, rfl⟩
      · omega
      · exact absurd HD.out h
      · rw [HYY.out]
        have hBX3 := (hB3.block wr.heap.size (by simp)).trans HBX.out
        have kX : w3.cell? ⟨wr.heap.size, 0, none⟩ = some (.int .i64 x) := by simp [World.cell?, hBX3]
        have kY : w3.cell? ⟨wr.heap.size, 1, none⟩ = some (.int .i64 y) := by simp [World.cell?, hBX3]
        have o3 := Lib.hid (prow_below o1.out hB3)
        have SB3 := Lib.hid (SB.out.below (thenB hBp hB3))
        have hsz3 : wr.heap.size < w3.heap.size := by have := hB3.size; simp at this; omega
        have hBr3 := Lib.hid ((hBr.trans (hBp.mono hBr.size)).trans (hB3.mono (by have := hBr.size; simp; omega)))
        clear hBX3 hB3
        go_wp2_with (first | (go_at_call 12; refine (mod_any _ _).mono ?_; rintro e w' ⟨rfl, rfl⟩))
        refine wp_region_held_drew (S := fun w' => w'.cell? ⟨wr.heap.size, 0, none⟩ = some (.int .i64 x)) (by kernel_rfl) kX (fun hHeld => ?_)
        have o3d : w3.drew.ownsRow w2.heap.size 38 2 u7 ((ownL pts cs).take k).length (flat ((ownL pts cs).take k)) := o3.out
        have SB3d : IntSl w3.drew (.slice ab cs.length cb) cs := SB3.out
        have hsz3d : wr.heap.size < w3.drew.heap.size := hsz3
        have hBr3d : Below w2.heap.size w2 w3.drew := hBr3.out.drew
        clear kX kY hBr3 o3 SB3 hsz3
        generalize w3.drew = W3 at *
        refine wpAnyH_take (i := 0) (v := u7) rfl (by kernel_rfl) (by kernel_rfl) (by kernel_rfl) (fun _ _ _ h => h) (Or.inl ⟨by rfl, (by intro w1 hSw; go_simp)⟩) hHeld ?_
        try simp only [Act.put, List.setIfInBounds_toArray, List.set_cons_zero, List.set_cons_succ]
        refine wpAnyH_take (i := 1) (v := .pointer (some ⟨wr.heap.size, 0, none⟩)) rfl (by kernel_rfl) (by kernel_rfl) (by kernel_rfl) (fun _ _ _ h => h) (Or.inl ⟨by rfl, (by intro w1 hSw; go_simp)⟩) hHeld ?_
        try simp only [Act.put, List.setIfInBounds_toArray, List.set_cons_zero, List.set_cons_succ]
        refine wpAnyH_take (i := 2) (v := .int .i64 x) rfl (by kernel_rfl) (by kernel_rfl) (by kernel_rfl) (fun _ _ _ h => h) (Or.inl ⟨by rfl, (by intro w1 hSw; go_simp)⟩) hHeld ?_
        try simp only [Act.put, List.setIfInBounds_toArray, List.set_cons_zero, List.set_cons_succ]
        refine wpAnyH_take (i := 3) (v := .slice ab cs.length cb) rfl (by kernel_rfl) (by kernel_rfl) (by kernel_rfl) (fun _ _ _ h => h) (Or.inl ⟨by rfl, (by intro w1 hSw; go_simp)⟩) hHeld ?_
        try simp only [Act.put, List.setIfInBounds_toArray, List.set_cons_zero, List.set_cons_succ]
        refine wpAnyH_take (i := 4) (v := .pointer (some ⟨wr.heap.size, 0, none⟩)) rfl (by kernel_rfl) (by kernel_rfl) (by kernel_rfl) (fun _ _ _ h => h) (Or.inl ⟨by rfl, (by intro w1 hSw; go_simp)⟩) hHeld ?_
        try simp only [Act.put, List.setIfInBounds_toArray, List.set_cons_zero, List.set_cons_succ]
        refine wpAnyH_take (i := 5) (v := .int .i64 x) rfl (by kernel_rfl) (by kernel_rfl) (by kernel_rfl) (fun _ _ _ h => h) (Or.inl ⟨by rfl, (by intro w1 hSw; go_simp)⟩) hHeld ?_
        try simp only [Act.put, List.setIfInBounds_toArray, List.set_cons_zero, List.set_cons_succ]
        refine wpAnyH_ready (rs := [6]) (by kernel_rfl) (by simp) ?_
        refine AllReadyH.cons rfl (fun K' hK' => ?_) AllReadyH.nil
        go_simp
        go_at_call 21
        refine (value_sl _ x cs (by omega) _ SB3d).mono ?_; rintro e w4 ⟨rfl, hB4⟩
        have kX4 : w4.cell? ⟨wr.heap.size, 0, none⟩ = some (.int .i64 x) := (hB4.cell (p := ⟨wr.heap.size, 0, none⟩) hsz3d).trans hHeld
        refine hK'.out _ _ kX4 (fun hHeld4 => ?_)
        clear hK' K'
        try simp only [Act.put, List.setIfInBounds_toArray, List.set_cons_zero, List.set_cons_succ]
        refine wpAnyH_take (i := 7) (v := .agg #[.int .i64 x, .int .i64 (hor x cs)]) rfl (by kernel_rfl) (by kernel_rfl) (by kernel_rfl) (fun _ _ _ h => h) (Or.inl ⟨by rfl, (by intro w1 hSw; go_simp)⟩) hHeld4 ?_
        try simp only [Act.put, List.setIfInBounds_toArray, List.set_cons_zero, List.set_cons_succ]
        refine wpAnyH_ready (rs := [8]) (by kernel_rfl) (by simp) ?_
        refine AllReadyH.cons rfl (fun K' hK' => ?_) AllReadyH.nil
        go_simp
        refine hK'.out _ _ (cellAl _ kX4) (fun hHeld5 => ?_)
        clear hK' K'
        try simp only [Act.put, List.setIfInBounds_toArray, List.set_cons_zero, List.set_cons_succ]
        refine wpAnyH_ready (rs := [9]) (by kernel_rfl) (by simp) ?_
        refine AllReadyH.cons rfl (fun K' hK' => ?_) AllReadyH.nil
        refine step_append_lies _ rfl (.tmp 53) (.tmp 61) 30 rfl w2.heap.size 38 i0 _ 2 16 Try.underlying30 hi hz0 hz1 hz2 rfl (by decide) _ _ _ rfl (World.ownsRow.alloc (prow_below o3d hB4) _) ⟨w4.heap.size, 0, none⟩ 1 1 [.int .i64 x, .int .i64 (hor x cs)] rfl rfl (World.news_of_block (World.alloc_heap_new w4 _)) (by simp [Value.oneCell']) (by decide) (by unfold maxLen; omega) (by omega) (by have := hB4.size; have := hBr3d.size; simp; omega) _ rfl ?_
        intro g cap w5 hown5 hgrow5 hat5 hlt5
        have kX5 := (hgrow5.cell_far ⟨wr.heap.size, 0, none⟩ (by have := hB4.size; simp; omega) (fun e => absurd (prow_lt hown'.out e.symm).2 (Nat.lt_irrefl _))).trans (cellAl _ kX4)
        refine hK'.out _ _ kX5 (fun hHeld6 => ?_)
        clear hK' K'
        try simp only [Act.put, List.setIfInBounds_toArray, List.set_cons_zero, List.set_cons_succ]
        refine wpAnyH_take (i := 10) (v := .slice (some ⟨g, 0, none⟩) (((ownL pts cs).take k).length + 1) cap) rfl (by kernel_rfl) (by kernel_rfl) (by kernel_rfl) (fun _ _ _ h => h) (Or.inl ⟨by rfl, (by intro w1 hSw; go_simp)⟩) hHeld6 ?_
        try simp only [Act.put, List.setIfInBounds_toArray, List.set_cons_zero, List.set_cons_succ]
        refine wpAnyH_done (by kernel_rfl) ?_ _
        have hown6 : w5.ownsRow w2.heap.size 38 2 (.slice (some ⟨g, 0, none⟩) (min k (ownL pts cs).length + 1) cap) ((ownL pts cs).take (k + 1)).length (flat ((ownL pts cs).take (k + 1))) := by
          rw [HTT.out, flat_snoc, List.length_append, ← List.length_take]; exact hown5
        have hB6 : Below w2.heap.size w2 w5 := ((hBr3d.trans (hB4.mono hBr3d.size)).alloc (Nat.le_trans hBr3d.size hB4.size) _).grown hgrow5 (by have := hB4.size; have := hBr3d.size; simp; omega) (fun g' e => (prow_lt hown'.out e).1)
        have H6 := Lib.hid hown6
        clear hown5 hown6 hgrow5 hat5 kX5 kX4 hHeld6 hHeld5 hHeld4 hHeld hB4
        go_wp2
        go_roundw
        case rel => exact ⟨k + 1, by omega, by go_num, H6.out, hB6⟩
        case measure => simp [intOf]; omega
    · obtain rfl : k = pts.length := by omega
      have hfull : (ownL pts cs).take pts.length = ownL pts cs := List.take_of_length_le (by rw [ownL_len]; omega)
      rw [hfull] at hown
      have SO := Lib.hid (row_ptsl hown)
      have hdo := Lib.hid (ownL_dif cs HD.out)
      have hio := Lib.hid (ownL_interp cs HD.out hlb at_)
      have SB := Lib.hid (hb'.out.below hWr)
      have hbd := hor_bd at_ cs
      clear hfull hown
      go_wp2_with fail
      refine (at_sl _ at_ (ownL pts cs) _ SO.out).mono ?_; rintro e w3 ⟨vv, ee, rfl, hr, hB3⟩
      rcases hr with ⟨h, _⟩ | ⟨_, h, _⟩ | ⟨_, _, rfl, rfl⟩
      · rw [ownL_len] at h; omega
      · exact absurd hdo.out h
      · rw [hio.out]
        go_wp2_with (first | (go_at_call 23; refine (in_yes _ hbd.1 hbd.2 _).mono ?_; rintro e w' ⟨rfl, rfl⟩) | (go_at_call 21; refine (value_sl _ at_ cs (by omega) _ (SB.out.below hB3)).mono ?_; rintro e w4 ⟨rfl, hB4⟩))
        go_ret
        exact ⟨rfl, thenB (thenB hWr hB3) hB4⟩

set_option maxHeartbeats 1000000 in
theorem Through_out (sa sb : Value) (pts : List (Int × Int)) (cs : List Int) (at_ : Int) (hn : 64 < pts.length ∨ ¬ Dif pts ∨ pts.length < cs.length) (w : World) (ha : PtSl w sa pts) (hb : IntSl w sb cs) :
    Calls Try.prog 6 #[sa, sb, .int .i64 at_] w fun e w' => e = .returned (.bool true) ∧ Below w.heap.size w w' := by
  have ha' := Lib.hid ha
  obtain ⟨aa, ca, rfl, hca⟩ := ha
  obtain ⟨ab, cb, rfl, hcb⟩ := hb
  clear hca hcb
  by_cases h1 : 64 < pts.length
  · have la1 : (64 : Int) < (pts.length : Int) := by omega
    have la2 : decide ((64 : Int) < (pts.length : Int)) = true := by simp; omega
    clear hn h1
    go_enter Try.func6, Try.ntmps6
    go_wp2_with (first | (go_at_call 9; refine (sane_any _).mono ?_; rintro e w1 ⟨rfl, hB⟩))
    go_ret
    exact ⟨rfl, hB⟩
  · have la1 : (pts.length : Int) ≤ 64 := by omega
    have la2 : decide ((64 : Int) < (pts.length : Int)) = false := by simp; omega
    by_cases h2 : Dif pts
    · have lb1 : (pts.length : Int) < (cs.length : Int) := by
        rcases hn with h | h | h
        · omega
        · exact absurd h2 h
        · omega
      have lb2 : decide (pts.length < cs.length) = true := by simp; omega
      have H2 := Lib.hid h2
      clear hn h2
      go_enter Try.func6, Try.ntmps6
      go_wp2_with (first | (go_at_call 9; refine (sane_any _).mono ?_; rintro e w1 ⟨rfl, hB⟩) | (go_at_call 24; refine (dif_sl _ pts (by omega) _ (ha'.out.below hB) true ⟨fun _ => H2.out, fun _ => rfl⟩).mono ?_; rintro e w2 ⟨rfl, hB2⟩))
      go_ret
      exact ⟨rfl, thenB hB hB2⟩
    · have H2 := Lib.hid h2
      clear hn h2
      go_enter Try.func6, Try.ntmps6
      go_wp2_with (first | (go_at_call 9; refine (sane_any _).mono ?_; rintro e w1 ⟨rfl, hB⟩) | (go_at_call 24; refine (dif_sl _ pts (by omega) _ (ha'.out.below hB) false ⟨(fun h => Bool.noConfusion h), (fun h => absurd h H2.out)⟩).mono ?_; rintro e w2 ⟨rfl, hB2⟩))
      go_ret
      exact ⟨rfl, thenB hB hB2⟩
theorem FieldThrough_walk (sa sb : Value) (at_ : Int) (w : World) (ha : ∃ a, PtSl w sa a) (hb : ∃ b, IntSl w sb b) :
    Calls Try.prog 6 #[sa, sb, .int .i64 at_] w fun e w' => e = .returned (.bool true) ∧ Below w.heap.size w w' := by
  obtain ⟨a, ha⟩ := ha; obtain ⟨b, hb⟩ := hb
  by_cases h : a.length ≤ 64 ∧ Dif a ∧ b.length ≤ a.length
  · exact Through_in sa sb a b at_ h.1 h.2.1 h.2.2 w ha hb
  · refine Through_out sa sb a b at_ ?_ w ha hb
    by_cases h1 : 64 < a.length
    · exact .inl h1
    · by_cases h2 : Dif a
      · refine .inr (.inr ?_)
        apply Nat.lt_of_not_le; intro h3
        exact h ⟨by omega, h2, h3⟩
      · exact .inr (.inl h2)
end Go.Proofs.Ytmmoenbdlfmgeaa
