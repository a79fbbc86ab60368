/- DERIVED. The walk of FieldSums. -/
import Derived.Test.YtmmoenbdlfmgeaaSlices
import Derived.Maps.AppendAt
import Derived.OpenShut
namespace Go.Proofs.Ytmmoenbdlfmgeaa
open Go.RowKit
theorem md_addr' (a b : Int) : md (a + md b) = md (a + b) := by unfold md; omega
theorem md_addl' (a b : Int) : md (md a + b) = md (a + b) := by unfold md; omega
theorem md_mulr' (a b : Int) : md (a * md b) = md (a * b) := by unfold md; rw [Int.mul_emod, Int.emod_emod_of_dvd _ (Int.dvd_refl _), ← Int.mul_emod]
theorem md_mull' (a b : Int) : md (md a * b) = md (a * b) := by rw [Int.mul_comm, md_mulr', Int.mul_comm]
/-- The sum of two polynomials, as the law reckons it. -/
def addP : List Int → List Int → List Int
  | [], [] => []
  | a :: r, [] => a :: addP r []
  | [], b :: s => md (0 + b) :: addP [] s
  | a :: r, b :: s => md (a + b) :: addP r s
theorem addP_len : ∀ a b : List Int, (addP a b).length = max a.length b.length
  | [], [] => by simp [addP]
  | a :: r, [] => by simp [addP, addP_len r []]
  | [], b :: s => by simp [addP, addP_len [] s]
  | a :: r, b :: s => by simp [addP, addP_len r s]
theorem addP_at : ∀ (a b : List Int) (k : Nat), k < max a.length b.length →
    (addP a b)[k]? = some (if k < a.length then (if k < b.length then md (a[k]?.getD 0 + b[k]?.getD 0) else a[k]?.getD 0) else md (0 + b[k]?.getD 0))
  | [], [], k, h => by simp at h
  | a :: r, [], 0, h => by simp [addP]
  | a :: r, [], k + 1, h => by have := addP_at r [] k (by simp at h ⊢; omega); simp [addP, this]
  | [], b :: s, 0, h => by simp [addP]
  | [], b :: s, k + 1, h => by have := addP_at [] s k (by simp at h ⊢; omega); simp [addP, this]
  | a :: r, b :: s, 0, h => by simp [addP]
  | a :: r, b :: s, k + 1, h => by have := addP_at r s k (by simp at h ⊢; omega); simp [addP, this]
set_option linter.unusedVariables false
set_option linter.unusedSimpArgs false
theorem take_snoc {l : List Int} {k : Nat} {x : Int} (h : l[k]? = some x) : l.take (k + 1) = l.take k ++ [x] := by
  obtain ⟨hk, rfl⟩ := List.getElem?_eq_some_iff.1 h
  rw [List.take_succ_eq_append_getElem hk]
theorem hor_add (at_ : Int) : ∀ a b : List Int, hor at_ (addP a b) = md (hor at_ a + hor at_ b)
  | [], [] => by simp [addP, hor]; rfl
  | a :: r, [] => by
    have := hor_add at_ r []
    simp only [addP, hor] at this ⊢
    rw [this]; simp only [Int.add_zero, md_addl', md_mull', md_md]
  | [], b :: s => by
    have := hor_add at_ [] s
    simp only [addP, hor] at this ⊢
    rw [this, Int.zero_add, Int.zero_add, Int.zero_add, md_addr', md_md]
    simp only [md_addl', md_mull']
  | a :: r, b :: s => by
    have := hor_add at_ r s
    simp only [addP, hor]
    rw [this]
    simp only [md_addl', md_addr', md_mull']
    rw [Int.add_mul]
    congr 1; omega
def mulP (n : Int) (a : List Int) : List Int := a.map (fun x => md (n * x))
theorem hor_mul (at_ n : Int) : ∀ a : List Int, hor at_ (mulP n a) = md (n * hor at_ a)
  | [] => by simp [mulP, hor]; rfl
  | a :: r => by
    have := hor_mul at_ n r
    simp only [mulP, List.map_cons, hor] at this ⊢
    rw [this]
    simp only [md_addl', md_addr', md_mull', md_mulr', Int.mul_add, Int.mul_assoc]
theorem mulP_at (n : Int) (a : List Int) (k : Nat) (h : k < a.length) : (mulP n a)[k]? = some (md (n * a[k]?.getD 0)) := by simp [mulP, h]

/-- An owned row lies on where nothing that was there has turned. -/
theorem row_below {w w' : World} {base : Nat} {v : Value} {n : Nat} {xs : List Value} (h : w.ownsRow base 3 1 v n xs) (hB : Below w.heap.size w w') : w'.ownsRow base 3 1 v n xs := by
  refine ⟨h.1, ?_⟩
  rcases h.2 with hn | ⟨g, cap, cur, rfl, hb, hgg, rest⟩
  · exact .inl hn
  · exact .inr ⟨g, cap, cur, rfl, hb, (hB.block g (Array.getElem?_eq_some_iff.1 hgg).1).trans hgg, rest⟩
theorem row_lt {w : World} {base : Nat} {v : Value} {n : Nat} {xs : List Value} (h : w.ownsRow base 3 1 v n xs) {g : Nat} (hg : v.ownBlock = some g) : g < w.heap.size := by
  rcases h.2 with ⟨rfl, _⟩ | ⟨g', cap, cur, rfl, hb, hgg, rest⟩
  · cases hg
  · cases hg; exact (Array.getElem?_eq_some_iff.1 hgg).1
theorem row_intsl {w : World} {base : Nat} {v : Value} {cs : List Int} (h : w.ownsRow base 3 1 v cs.length (cs.map (Value.int .i64))) : IntSl w v cs := by
  have h0 := h
  rcases h.2 with ⟨rfl, h1⟩ | ⟨g, cap, cur, rfl, hb, hgg, hn, hcap, hsz, htake⟩
  · exact ⟨none, 0, by rw [h1], fun hne => absurd (List.length_eq_zero_iff.1 h1) hne⟩
  · refine ⟨_, cap, rfl, fun _ => ⟨g, 0, rfl, (Array.getElem?_eq_some_iff.1 hgg).1, fun j hj => ?_⟩⟩
    have := h0.cellAt j (by simpa using hj)
    rw [Nat.zero_add, this]; simp [hj]
/-- Apart: no row in common. -/
def Apart (v u : Value) : Prop := v.ownBlock = none ∨ u.ownBlock = none ∨ v.ownBlock ≠ u.ownBlock
theorem Apart.symm {v u : Value} (h : Apart v u) : Apart u v := by
  rcases h with h | h | h
  · exact .inr (.inl h)
  · exact .inl h
  · exact .inr (.inr (Ne.symm h))
/-- An append to one row leaves the other, and they stay apart. -/
theorem two_rows {w w1 : World} {base : Nat} {v v' u : Value} {m : Nat} {ys : List Value} (hu : w.ownsRow base 3 1 u m ys) (hap : Apart v u) (hg : w.grownBy w1 v.ownBlock) (hloc : v'.ownBlock = v.ownBlock ∨ v'.ownBlock = some w.heap.size) :
    w1.ownsRow base 3 1 u m ys ∧ Apart v' u := by
  constructor
  · refine hu.kept hg ?_
    cases hub : u.ownBlock with
    | none => exact .inl rfl
    | some g =>
      refine .inr fun e => ?_
      rcases hap with h | h | h
      · rw [h] at e; cases e
      · rw [h] at hub; cases hub
      · exact h (e.symm.trans hub.symm)
  · rcases hloc with h | h
    · unfold Apart; rw [h]; exact hap
    · cases hub : u.ownBlock with
      | none => exact .inr (.inl hub)
      | some g => exact .inr (.inr (by rw [h, hub]; intro e; have := row_lt hu hub; cases e; omega))

theorem Try.info3 : (Try.prog.info? 3).map (fun i => (i.zero, i.size, i.bytes)) = some (some (.int .i64 0), 1, 8) := by kernel_rfl
def SumRel (B : Nat) (w : World) (a b : List Int) (n : Int) (k : Nat) (s t : Value) (wr : World) : Prop :=
  wr.ownsRow B 3 1 s ((addP a b).take k).length (((addP a b).take k).map (Value.int .i64)) ∧ wr.ownsRow B 3 1 t ((mulP n a).take k).length (((mulP n a).take k).map (Value.int .i64)) ∧ Apart s t ∧ Below w.heap.size w wr
/-- The next coefficient of the product. -/
theorem rel_t {B : Nat} {w : World} {a b : List Int} {n : Int} {k : Nat} {s t t' : Value} {wr w1 : World} {o : Obj} (hb : w.heap.size ≤ B) (h : SumRel B w a b n k s t wr) (hka : k < a.length)
    (hown : w1.ownsRow B 3 1 t' (((mulP n a).take k).length + 1) (((mulP n a).take k).map (Value.int .i64) ++ [.int .i64 (md (n * a[k]?.getD 0))])) (hg : (wr.alloc o).grownBy w1 t.ownBlock) (hloc : t'.ownBlock = t.ownBlock ∨ t'.ownBlock = some (wr.alloc o).heap.size) :
    w1.ownsRow B 3 1 t' ((mulP n a).take (k + 1)).length (((mulP n a).take (k + 1)).map (Value.int .i64)) ∧ w1.ownsRow B 3 1 s ((addP a b).take k).length (((addP a b).take k).map (Value.int .i64)) ∧ Apart s t' ∧ Below w.heap.size w w1 := by
  obtain ⟨h1, h2, h3, h4⟩ := h
  have ⟨q1, q2⟩ := two_rows (h1.alloc o) h3.symm hg hloc
  refine ⟨?_, q1, q2.symm, (h4.alloc h4.size o).grown hg (by have := h4.size; simp; omega) (fun g e => ?_)⟩
  · rw [take_snoc (mulP_at n a k hka)]; simpa using hown
  · rcases h2.2 with ⟨rfl, _⟩ | ⟨g', cap, cur, rfl, hbg, _⟩
    · cases e
    · cases e; exact Nat.le_trans hb hbg
theorem rel_s {B : Nat} {w : World} {a b : List Int} {n : Int} {k : Nat} {s s' t : Value} {wr w1 : World} {o : Obj} {x : Int} (hb : w.heap.size ≤ B)
    (h1 : wr.ownsRow B 3 1 s ((addP a b).take k).length (((addP a b).take k).map (Value.int .i64))) (h2 : wr.ownsRow B 3 1 t ((mulP n a).take (k + 1)).length (((mulP n a).take (k + 1)).map (Value.int .i64))) (h3 : Apart s t) (h4 : Below w.heap.size w wr)
    (hx : (addP a b)[k]? = some x)
    (hown : w1.ownsRow B 3 1 s' (((addP a b).take k).length + 1) (((addP a b).take k).map (Value.int .i64) ++ [.int .i64 x])) (hg : (wr.alloc o).grownBy w1 s.ownBlock) (hloc : s'.ownBlock = s.ownBlock ∨ s'.ownBlock = some (wr.alloc o).heap.size) :
    SumRel B w a b n (k + 1) s' t w1 := by
  have ⟨q1, q2⟩ := two_rows (h2.alloc o) h3 hg hloc
  refine ⟨?_, q1, q2, (h4.alloc h4.size o).grown hg (by have := h4.size; simp; omega) (fun g e => ?_)⟩
  · rw [take_snoc hx]; simpa using hown
  · rcases h1.2 with ⟨rfl, _⟩ | ⟨g', cap, cur, rfl, hbg, _⟩
    · cases e
    · cases e; exact Nat.le_trans hb hbg
theorem mulP_full (n : Int) (a : List Int) (k : Nat) (h : a.length ≤ k) : (mulP n a).take (k + 1) = (mulP n a).take k := by
  rw [List.take_of_length_le (by simp [mulP]; omega), List.take_of_length_le (by simp [mulP]; omega)]


theorem take_len (a b : List Int) (k : Nat) : ((addP a b).take k).length ≤ k := List.length_take_le _ _
theorem take_len2 (n : Int) (a : List Int) (k : Nat) : ((mulP n a).take k).length ≤ k := List.length_take_le _ _

set_option maxRecDepth 100000 in
set_option maxHeartbeats 4000000 in
theorem FieldSums_loop (sa sb : Value) (a b : List Int) (n at_ : Int) (hla : a.length ≤ 100) (hlb : b.length ≤ 100) (w : World) (ha : IntSl w sa a) (hb : IntSl w sb b) :
    Calls Try.prog 8 #[sa, sb, .int .i64 n, .int .i64 at_] w fun e w' => e = .returned (.bool true) ∧ Below w.heap.size w w' := by
  obtain ⟨i0, hi, hz0, hz1, hz2⟩ := info_parts Try.info3
  have ha' := Lib.hid ha; have hb' := Lib.hid hb
  obtain ⟨aa, ca, rfl, hca⟩ := ha
  obtain ⟨ab, cb, rfl, hcb⟩ := hb
  have la1 : ((a.length : Nat) : Int) ≤ 100 := by omega
  have lb1 : ((b.length : Nat) : Int) ≤ 100 := by omega
  have la2 : decide ((100 : Int) < (a.length : Int)) = false := by simp; omega
  have lb2 : decide ((100 : Int) < (b.length : Int)) = false := by simp; omega
  go_enter Try.func8, Try.ntmps8
  go_wp2_with (first | (go_at_call 9; refine (sane_any _).mono ?_; rintro e w1 ⟨rfl, hB⟩))
  · --
    go_loopw [28, 9, 10] (fun c s t wr => ∃ k : Nat, k ≤ max a.length b.length ∧ c = .int .i64 k ∧ SumRel w1.heap.size w1 a b n k s t wr) (fun c _ _ _ => max a.length b.length - (intOf c).toNat)
    case atStart => exact ⟨0, Nat.zero_le _, rfl, World.ownsRow_nil _ _ _ _, World.ownsRow_nil _ _ _ _, .inl rfl, Below.refl _ _⟩
    case round =>
      obtain ⟨k, hk, rfl, hrel⟩ := hrel
      have tl1 := take_len a b k
      have tl2 := take_len2 n a k
      have hWr := hB.trans (hrel.2.2.2.mono hB.size)
      by_cases hka : k < a.length
      · obtain ⟨b0, off0, rfl, hI⟩ := hca (by intro e; rw [e] at hka; simp at hka)
        have cX := (hI.below hWr).2 k hka
        obtain ⟨x, hx⟩ : ∃ x, x = a[k]?.getD 0 := ⟨_, rfl⟩
        rw [← hx] at cX
        by_cases hkb : k < b.length
        · obtain ⟨b1, off1, rfl, hJ⟩ := hcb (by intro e; rw [e] at hkb; simp at hkb)
          obtain ⟨y, hy⟩ : ∃ y, y = b[k]?.getD 0 := ⟨_, rfl⟩
          have HV := Lib.hid (show (addP a b)[k]? = some (md (x + y)) by rw [addP_at a b k (by omega), if_pos hka, if_pos hkb, hx, hy])
          have HX := Lib.hid hx; have HY := Lib.hid hy; clear hx hy
          go_wp2_with (first | (go_at_call 16; refine (mul_any _ _ _).mono ?_; rintro e w' ⟨rfl, rfl⟩) | (at_builtin; refine wpList_append_own_at _ rfl (.tmp 39) (.tmp 46) 29 rfl w1.heap.size 3 i0 (.int .i64 0) 1 8 Try.underlying29 hi hz0 hz1 hz2 rfl (by decide) _ _ _ rfl (hrel.2.1.alloc _) ⟨wr.heap.size, 0, none⟩ 1 1 [.int .i64 (md (n * x))] rfl rfl (cell_one_new _ _ _) (by simp [Value.oneCell']) (by unfold maxLen; omega) (by omega) (by have := hrel.2.2.2.size; simp; omega) ?_; intro t' w2 hown2 hgrow2 _ hloc2; have R := rel_t (Nat.le_refl _) hrel hka (by rw [← HX.out]; exact hown2) hgrow2 hloc2; clear hgrow2 hown2 hloc2; have cY := (hJ.below (hB.trans (R.2.2.2.mono hB.size))).2 k hkb; rw [← HY.out] at cY) | (go_at_call 14; refine (add_any _ _ _).mono ?_; rintro e w3 ⟨rfl, hB3⟩; have hW := R.2.2.2.trans (hB3.mono R.2.2.2.size); have r1 := row_below R.2.1 hB3; have r2 := row_below R.1 hB3; have r3 := R.2.2.1) | (at_builtin; refine wpList_append_own_at _ rfl (.tmp 58) (.tmp 60) 29 rfl w1.heap.size 3 i0 (.int .i64 0) 1 8 Try.underlying29 hi hz0 hz1 hz2 rfl (by decide) _ _ _ rfl (World.ownsRow.alloc r1 _) ⟨w3.heap.size, 0, none⟩ 1 1 [.int .i64 (md (x + y))] rfl rfl (cell_one_new _ _ _) (by simp [Value.oneCell']) (by unfold maxLen; omega) (by omega) (by have := hW.size; simp; omega) ?_; intro s' w4 hown4 hgrow4 _ hloc4; have R2 := rel_s (Nat.le_refl _) r1 r2 r3 hW HV.out hown4 hgrow4 hloc4; clear hgrow4 hown4 hloc4))
          go_roundw
          case rel => exact ⟨k + 1, by omega, by go_num, R2⟩
          case measure => simp [intOf]; omega
        · omega
      · by_cases hkb : k < b.length
        · skip
          obtain ⟨b1, off1, rfl, hJ⟩ := hcb (by intro e; rw [e] at hkb; simp at hkb)
          have cY := (hJ.below hWr).2 k hkb
          obtain ⟨y, hy⟩ : ∃ y, y = b[k]?.getD 0 := ⟨_, rfl⟩
          rw [← hy] at cY
          have HV := Lib.hid (show (addP a b)[k]? = some (md y) by rw [addP_at a b k (by omega), if_neg hka, hy, Int.zero_add])
          have r4 : wr.ownsRow w1.heap.size 3 1 u10 ((mulP n a).take (k + 1)).length (((mulP n a).take (k + 1)).map (Value.int .i64)) := by rw [mulP_full n a k (by omega)]; exact hrel.2.1
          have HY := Lib.hid hy; clear hy
          go_wp2_with (first | (go_at_call 14; refine (add_any _ _ _).mono ?_; rintro e w3 ⟨rfl, hB3⟩; have hW := hrel.2.2.2.trans (hB3.mono hrel.2.2.2.size); have r1 := row_below hrel.1 hB3; have r2 := row_below r4 hB3; have r3 := hrel.2.2.1) | (at_builtin; refine wpList_append_own_at _ rfl (.tmp 58) (.tmp 60) 29 rfl w1.heap.size 3 i0 (.int .i64 0) 1 8 Try.underlying29 hi hz0 hz1 hz2 rfl (by decide) _ _ _ rfl (World.ownsRow.alloc r1 _) ⟨w3.heap.size, 0, none⟩ 1 1 [.int .i64 (md y)] rfl rfl (cell_one_new _ _ _) (by simp [Value.oneCell']) (by unfold maxLen; omega) (by omega) (by have := hW.size; simp; omega) ?_; intro s' w4 hown4 hgrow4 _ hloc4; have R2 := rel_s (Nat.le_refl _) r1 r2 r3 hW HV.out hown4 hgrow4 hloc4; clear hgrow4 hown4 hloc4))
          go_roundw
          case rel => exact ⟨k + 1, by omega, by go_num, R2⟩
          case measure => simp [intOf]; omega
        · have hkm : k = max a.length b.length := by omega
          have S1 : IntSl wr u9 (addP a b) := by have := row_intsl hrel.1; rw [List.take_of_length_le (by rw [addP_len]; omega)] at this; exact this
          have S2 : IntSl wr u10 (mulP n a) := by have := row_intsl hrel.2.1; rw [List.take_of_length_le (by simp [mulP]; omega)] at this; exact this
          have F1 : (hor at_ (addP a b) == md (hor at_ a + hor at_ b)) = true := by simpa using hor_add at_ a b
          have F2 : (hor at_ (mulP n a) == md (n * hor at_ a)) = true := by simpa using hor_mul at_ n a
          have SA := ha'.out.below hWr
          have SB := hb'.out.below hWr
          have L1 : (addP a b).length ≤ 100000000000000 := by rw [addP_len]; omega
          have L2 : (mulP n a).length ≤ 100000000000000 := by simp [mulP]; omega
          have HM := Lib.hid hkm; clear hkm
          have HS1 := Lib.hid S1; have HS2 := Lib.hid S2; have HSA := Lib.hid SA; have HSB := Lib.hid SB; clear S1 S2 SA SB
          go_wp2_with fail
          refine (value_sl _ _ _ L1 _ HS1.out).mono ?_; rintro e y1 ⟨rfl, q1⟩
          go_wp2_with fail
          refine (value_sl _ _ a (by omega) _ (HSA.out.below q1)).mono ?_; rintro e y2 ⟨rfl, q2⟩
          replace q2 := thenB q1 q2; clear q1
          go_wp2_with fail
          refine (value_sl _ _ b (by omega) _ (HSB.out.below q2)).mono ?_; rintro e y3 ⟨rfl, q3⟩
          replace q3 := thenB q2 q3; clear q2
          go_wp2_with fail
          refine (add_any _ _ _).mono ?_; rintro e y4 ⟨rfl, q4⟩
          replace q4 := thenB q3 q4; clear q3
          go_wp2_with fail
          refine (value_sl _ _ _ L2 _ (HS2.out.below q4)).mono ?_; rintro e y5 ⟨rfl, q5⟩
          replace q5 := thenB q4 q5; clear q4
          go_wp2_with fail
          refine (value_sl _ _ a (by omega) _ (HSA.out.below q5)).mono ?_; rintro e y6 ⟨rfl, q6⟩
          replace q6 := thenB q5 q6; clear q5
          go_wp2_with fail
          refine (mul_any _ _ _).mono ?_; rintro e y7 ⟨rfl, rfl⟩
          go_wp2
          go_ret
          exact ⟨rfl, thenB hWr q6⟩
  · --
    go_loopw [28, 9, 10] (fun c s t wr => ∃ k : Nat, k ≤ max a.length b.length ∧ c = .int .i64 k ∧ SumRel w1.heap.size w1 a b n k s t wr) (fun c _ _ _ => max a.length b.length - (intOf c).toNat)
    case atStart => exact ⟨0, Nat.zero_le _, rfl, World.ownsRow_nil _ _ _ _, World.ownsRow_nil _ _ _ _, .inl rfl, Below.refl _ _⟩
    case round =>
      obtain ⟨k, hk, rfl, hrel⟩ := hrel
      have tl1 := take_len a b k
      have tl2 := take_len2 n a k
      have hWr := hB.trans (hrel.2.2.2.mono hB.size)
      by_cases hka : k < a.length
      · obtain ⟨b0, off0, rfl, hI⟩ := hca (by intro e; rw [e] at hka; simp at hka)
        have cX := (hI.below hWr).2 k hka
        obtain ⟨x, hx⟩ : ∃ x, x = a[k]?.getD 0 := ⟨_, rfl⟩
        rw [← hx] at cX
        by_cases hkb : k < b.length
        · obtain ⟨b1, off1, rfl, hJ⟩ := hcb (by intro e; rw [e] at hkb; simp at hkb)
          obtain ⟨y, hy⟩ : ∃ y, y = b[k]?.getD 0 := ⟨_, rfl⟩
          have HV := Lib.hid (show (addP a b)[k]? = some (md (x + y)) by rw [addP_at a b k (by omega), if_pos hka, if_pos hkb, hx, hy])
          have HX := Lib.hid hx; have HY := Lib.hid hy; clear hx hy
          go_wp2_with (first | (go_at_call 16; refine (mul_any _ _ _).mono ?_; rintro e w' ⟨rfl, rfl⟩) | (at_builtin; refine wpList_append_own_at _ rfl (.tmp 39) (.tmp 46) 29 rfl w1.heap.size 3 i0 (.int .i64 0) 1 8 Try.underlying29 hi hz0 hz1 hz2 rfl (by decide) _ _ _ rfl (hrel.2.1.alloc _) ⟨wr.heap.size, 0, none⟩ 1 1 [.int .i64 (md (n * x))] rfl rfl (cell_one_new _ _ _) (by simp [Value.oneCell']) (by unfold maxLen; omega) (by omega) (by have := hrel.2.2.2.size; simp; omega) ?_; intro t' w2 hown2 hgrow2 _ hloc2; have R := rel_t (Nat.le_refl _) hrel hka (by rw [← HX.out]; exact hown2) hgrow2 hloc2; clear hgrow2 hown2 hloc2; have cY := (hJ.below (hB.trans (R.2.2.2.mono hB.size))).2 k hkb; rw [← HY.out] at cY) | (go_at_call 14; refine (add_any _ _ _).mono ?_; rintro e w3 ⟨rfl, hB3⟩; have hW := R.2.2.2.trans (hB3.mono R.2.2.2.size); have r1 := row_below R.2.1 hB3; have r2 := row_below R.1 hB3; have r3 := R.2.2.1) | (at_builtin; refine wpList_append_own_at _ rfl (.tmp 58) (.tmp 60) 29 rfl w1.heap.size 3 i0 (.int .i64 0) 1 8 Try.underlying29 hi hz0 hz1 hz2 rfl (by decide) _ _ _ rfl (World.ownsRow.alloc r1 _) ⟨w3.heap.size, 0, none⟩ 1 1 [.int .i64 (md (x + y))] rfl rfl (cell_one_new _ _ _) (by simp [Value.oneCell']) (by unfold maxLen; omega) (by omega) (by have := hW.size; simp; omega) ?_; intro s' w4 hown4 hgrow4 _ hloc4; have R2 := rel_s (Nat.le_refl _) r1 r2 r3 hW HV.out hown4 hgrow4 hloc4; clear hgrow4 hown4 hloc4))
          go_roundw
          case rel => exact ⟨k + 1, by omega, by go_num, R2⟩
          case measure => simp [intOf]; omega
        · skip
          have HV := Lib.hid (show (addP a b)[k]? = some x by rw [addP_at a b k (by omega), if_pos hka, if_neg hkb, hx])
          have HX := Lib.hid hx; clear hx
          go_wp2_with (first | (go_at_call 16; refine (mul_any _ _ _).mono ?_; rintro e w' ⟨rfl, rfl⟩) | (at_builtin; refine wpList_append_own_at _ rfl (.tmp 39) (.tmp 46) 29 rfl w1.heap.size 3 i0 (.int .i64 0) 1 8 Try.underlying29 hi hz0 hz1 hz2 rfl (by decide) _ _ _ rfl (hrel.2.1.alloc _) ⟨wr.heap.size, 0, none⟩ 1 1 [.int .i64 (md (n * x))] rfl rfl (cell_one_new _ _ _) (by simp [Value.oneCell']) (by unfold maxLen; omega) (by omega) (by have := hrel.2.2.2.size; simp; omega) ?_; intro t' w2 hown2 hgrow2 _ hloc2; have R := rel_t (Nat.le_refl _) hrel hka (by rw [← HX.out]; exact hown2) hgrow2 hloc2; clear hgrow2 hown2 hloc2; have hW := R.2.2.2; have r1 := R.2.1; have r2 := R.1; have r3 := R.2.2.1) | (at_builtin; refine wpList_append_own_at _ rfl (.tmp 58) (.tmp 60) 29 rfl w1.heap.size 3 i0 (.int .i64 0) 1 8 Try.underlying29 hi hz0 hz1 hz2 rfl (by decide) _ _ _ rfl (World.ownsRow.alloc r1 _) ⟨w2.heap.size, 0, none⟩ 1 1 [.int .i64 (x)] rfl rfl (cell_one_new _ _ _) (by simp [Value.oneCell']) (by unfold maxLen; omega) (by omega) (by have := hW.size; simp; omega) ?_; intro s' w4 hown4 hgrow4 _ hloc4; have R2 := rel_s (Nat.le_refl _) r1 r2 r3 hW HV.out hown4 hgrow4 hloc4; clear hgrow4 hown4 hloc4))
          go_roundw
          case rel => exact ⟨k + 1, by omega, by go_num, R2⟩
          case measure => simp [intOf]; omega
      · by_cases hkb : k < b.length
        · omega
        · have hkm : k = max a.length b.length := by omega
          have S1 : IntSl wr u9 (addP a b) := by have := row_intsl hrel.1; rw [List.take_of_length_le (by rw [addP_len]; omega)] at this; exact this
          have S2 : IntSl wr u10 (mulP n a) := by have := row_intsl hrel.2.1; rw [List.take_of_length_le (by simp [mulP]; omega)] at this; exact this
          have F1 : (hor at_ (addP a b) == md (hor at_ a + hor at_ b)) = true := by simpa using hor_add at_ a b
          have F2 : (hor at_ (mulP n a) == md (n * hor at_ a)) = true := by simpa using hor_mul at_ n a
          have SA := ha'.out.below hWr
          have SB := hb'.out.below hWr
          have L1 : (addP a b).length ≤ 100000000000000 := by rw [addP_len]; omega
          have L2 : (mulP n a).length ≤ 100000000000000 := by simp [mulP]; omega
          have HM := Lib.hid hkm; clear hkm
          have HS1 := Lib.hid S1; have HS2 := Lib.hid S2; have HSA := Lib.hid SA; have HSB := Lib.hid SB; clear S1 S2 SA SB
          go_wp2_with fail
          refine (value_sl _ _ _ L1 _ HS1.out).mono ?_; rintro e y1 ⟨rfl, q1⟩
          go_wp2_with fail
          refine (value_sl _ _ a (by omega) _ (HSA.out.below q1)).mono ?_; rintro e y2 ⟨rfl, q2⟩
          replace q2 := thenB q1 q2; clear q1
          go_wp2_with fail
          refine (value_sl _ _ b (by omega) _ (HSB.out.below q2)).mono ?_; rintro e y3 ⟨rfl, q3⟩
          replace q3 := thenB q2 q3; clear q2
          go_wp2_with fail
          refine (add_any _ _ _).mono ?_; rintro e y4 ⟨rfl, q4⟩
          replace q4 := thenB q3 q4; clear q3
          go_wp2_with fail
          refine (value_sl _ _ _ L2 _ (HS2.out.below q4)).mono ?_; rintro e y5 ⟨rfl, q5⟩
          replace q5 := thenB q4 q5; clear q4
          go_wp2_with fail
          refine (value_sl _ _ a (by omega) _ (HSA.out.below q5)).mono ?_; rintro e y6 ⟨rfl, q6⟩
          replace q6 := thenB q5 q6; clear q5
          go_wp2_with fail
          refine (mul_any _ _ _).mono ?_; rintro e y7 ⟨rfl, rfl⟩
          go_wp2
          go_ret
          exact ⟨rfl, thenB hWr q6⟩

set_option maxHeartbeats 1000000 in
theorem FieldSums_long (sa sb : Value) (a b : List Int) (n at_ : Int) (hl : 100 < a.length ∨ 100 < b.length) (w : World) (ha : IntSl w sa a) (hb : IntSl w sb b) :
    Calls Try.prog 8 #[sa, sb, .int .i64 n, .int .i64 at_] w fun e w' => e = .returned (.bool true) ∧ Below w.heap.size w w' := by
  obtain ⟨aa, ca, rfl, hca⟩ := ha
  obtain ⟨ab, cb, rfl, hcb⟩ := hb
  by_cases h1 : 100 < a.length
  · have la1 : (100 : Int) < ((a.length : Nat) : Int) := by omega
    have la2 : decide ((100 : Int) < (a.length : Int)) = true := by simp; omega
    clear hl h1 hca hcb
    go_enter Try.func8, Try.ntmps8
    go_wp2_with (first | (go_at_call 9; refine (sane_any _).mono ?_; rintro e w1 ⟨rfl, hB⟩))
    go_ret
    exact ⟨rfl, hB⟩
  · have lb1 : (100 : Int) < ((b.length : Nat) : Int) := by omega
    have la2 : decide ((100 : Int) < (a.length : Int)) = false := by simp; omega
    have lb2 : decide ((100 : Int) < (b.length : Int)) = true := by simp; omega
    clear hl h1 hca hcb
    go_enter Try.func8, Try.ntmps8
    go_wp2_with (first | (go_at_call 9; refine (sane_any _).mono ?_; rintro e w1 ⟨rfl, hB⟩))
    go_ret
    exact ⟨rfl, hB⟩
theorem FieldSums_walk (sa sb : Value) (n at_ : Int) (w : World) (ha : ∃ a, IntSl w sa a) (hb : ∃ b, IntSl w sb b) :
    Calls Try.prog 8 #[sa, sb, .int .i64 n, .int .i64 at_] w fun e w' => e = .returned (.bool true) ∧ Below w.heap.size w w' := by
  obtain ⟨a, ha⟩ := ha; obtain ⟨b, hb⟩ := hb
  by_cases h : a.length ≤ 100 ∧ b.length ≤ 100
  · exact FieldSums_loop sa sb a b n at_ h.1 h.2 w ha hb
  · exact FieldSums_long sa sb a b n at_ (by omega) w ha hb
end Go.Proofs.Ytmmoenbdlfmgeaa
