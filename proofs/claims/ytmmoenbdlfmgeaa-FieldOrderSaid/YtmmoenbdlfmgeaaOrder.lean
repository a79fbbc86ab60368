/- DERIVED. The walk of FieldOrder. -/
import Derived.Test.YtmmoenbdlfmgeaaThrough
namespace Go.Proofs.Ytmmoenbdlfmgeaa
open Go.RowKit Go.ChangeShapes Go.WideShapes Go.Deep
set_option linter.unusedVariables false
set_option linter.unusedSimpArgs false
theorem dif_nodup (pts : List (Int × Int)) : Dif pts ↔ (pts.map (fun p => md p.1)).Nodup := by
  rw [List.nodup_iff_pairwise_ne, List.pairwise_iff_getElem]
  unfold Dif
  constructor
  · intro h i j hi hj hij
    have hi' : i < pts.length := by simpa using hi
    have hj' : j < pts.length := by simpa using hj
    have := h j hj' i hij
    simp [hi', hj'] at this ⊢
    exact fun e => this e.symm
  · intro h i hi j hj
    have hj' : j < pts.length := by omega
    have := h j i (by simpa using hj') (by simpa using hi) hj
    simp [hi, hj'] at this ⊢
    exact fun e => this e.symm
def turn (pts : List (Int × Int)) (k : Nat) : List (Int × Int) := pts.drop k ++ pts.take k
theorem turn_perm (pts : List (Int × Int)) (k : Nat) : (turn pts k).Perm pts := by
  have h : (pts.drop k ++ pts.take k).Perm (pts.take k ++ pts.drop k) := List.perm_append_comm
  rw [List.take_append_drop] at h
  exact h
theorem turn_len (pts : List (Int × Int)) (k : Nat) : (turn pts k).length = pts.length := (turn_perm pts k).length_eq
theorem turn_dif {pts : List (Int × Int)} (h : Dif pts) (k : Nat) : Dif (turn pts k) := by
  rw [dif_nodup] at *
  exact (((turn_perm pts k).map _).nodup_iff).2 h
/-- The polynomial of some points goes through each of them. -/
theorem poly_mem {pts : List (Int × Int)} (h : Dif pts) {p : Int × Int} (hp : p ∈ pts) : hor p.1 (atP pts pts.length) = md p.2 := by
  obtain ⟨j, hj⟩ := List.mem_iff_getElem?.1 hp
  obtain ⟨hj1, hj2⟩ := List.getElem?_eq_some_iff.1 hj
  have e : p = pts[j]?.getD (0, 0) := by rw [hj]; rfl
  rw [atP_hor, e, atV_at h j hj1]
theorem mem_getD {l : List (Int × Int)} {j : Nat} (h : j < l.length) : l[j]?.getD (0, 0) ∈ l := by
  rw [List.getElem?_eq_getElem h]; exact List.getElem_mem h
theorem turn_at {pts : List (Int × Int)} (h : Dif pts) (k : Nat) (at_ : Int) : atV (turn pts k) at_ (turn pts k).length = atV pts at_ pts.length := by
  rw [interp (turn_dif h k) (atP pts pts.length) (by rw [turn_len]; exact atP_len pts _ (Nat.le_refl _)) (fun j hj => poly_mem h ((turn_perm pts k).mem_iff.1 (mem_getD hj))) at_, atP_hor]
theorem more_at {pts : List (Int × Int)} (h : Dif pts) (x : Int) (hm : Dif (pts ++ [(x, atV pts x pts.length)])) (at_ : Int) : atV (pts ++ [(x, atV pts x pts.length)]) at_ (pts ++ [(x, atV pts x pts.length)]).length = atV pts at_ pts.length := by
  rw [interp hm (atP pts pts.length) (by have := atP_len pts _ (Nat.le_refl _); simp; omega) (fun j hj => ?_) at_, atP_hor]
  have := mem_getD hj
  rcases List.mem_append.1 this with hp | hp
  · exact poly_mem h hp
  · rw [List.mem_singleton.1 hp, atP_hor]
    have h1 := atV_bd pts x pts.length
    show atV pts x pts.length = md (atV pts x pts.length)
    unfold md; omega

theorem flat_cells {n : Nat} {W : World} {b off : Nat} {pts : List (Int × Int)} (h : PtsAt n W b off pts) : ∀ j u, (flat pts)[j]? = some u → W.cell? ⟨b, off + j, none⟩ = some u := by
  intro j u hu
  have hj : j < (flat pts).length := (List.getElem?_eq_some_iff.1 hu).1
  rw [flat_len] at hj
  have hk : j / 2 < pts.length := by omega
  have ⟨f1, f2⟩ := flat_at pts (j / 2) hk
  have ⟨c1, c2⟩ := h.2 (j / 2) hk
  rcases Nat.mod_two_eq_zero_or_one j with e | e
  · rw [show j / 2 * 2 = j from by omega] at f1 c1
    rw [c1, ← f1, hu]
  · rw [show j / 2 * 2 + 1 = j from by omega] at f2
    rw [show off + j / 2 * 2 + 1 = off + j from by omega] at c2
    rw [c2, ← f2, hu]
theorem flat_drop (pts : List (Int × Int)) (k : Nat) : flat (pts.drop k) = (flat pts).drop (k * 2) := by
  induction pts generalizing k with
  | nil => simp [flat]
  | cons p r ih =>
    cases k with
    | zero => simp
    | succ k =>
      have e : flat (p :: r) = .int .i64 p.1 :: .int .i64 p.2 :: flat r := rfl
      rw [List.drop_succ_cons, ih, e, show (k + 1) * 2 = k * 2 + 1 + 1 from by omega]; simp
theorem flat_take (pts : List (Int × Int)) (k : Nat) : flat (pts.take k) = (flat pts).take (k * 2) := by
  induction pts generalizing k with
  | nil => simp [flat]
  | cons p r ih =>
    cases k with
    | zero => simp [flat]
    | succ k =>
      have e : ∀ l, flat (p :: l) = .int .i64 p.1 :: .int .i64 p.2 :: flat l := fun l => rfl
      rw [List.take_succ_cons, e, e, ih, show (k + 1) * 2 = k * 2 + 1 + 1 from by omega]; simp
theorem flat_one (pts : List (Int × Int)) : ∀ u ∈ flat pts, u.oneCell' = true := by
  intro u hu
  unfold flat at hu
  obtain ⟨p, _, hp⟩ := List.mem_flatMap.1 hu
  simp at hp
  rcases hp with rfl | rfl <;> rfl
theorem flat_app (a b : List (Int × Int)) : flat (a ++ b) = flat a ++ flat b := by simp [flat]

/-- An append at a step of a region that draws: the value is some value. -/
theorem step_app {P : Program} (w : World) {ops : Array Oper} {o : Oper} {a : Act} {K : Act → World → Prop} {Q : Exit → Act → World → Prop} {E : Prop} (hgd : o.guard = none) (s x : Operand) (t : TypeId)
    (ho : o.op = .call { callee := .builtin .append, args := #[s, x], argTypes := #[t, t] })
    (base : Nat) (e : TypeId) (i : TypeInfo) (z : Value) (size bytes : Nat) (ht : P.underlying t = some (.slice e)) (hi : P.info? e = some i) (hz : i.zero = some z)
    (hsize : i.size = size) (hby : i.bytes = bytes) (hzs : z.cells.size = size) (hsz : 0 < size)
    (v : Value) (n : Nat) (xs : List Value) (hs : a.eval s = v) (hown : w.ownsRow base e size v n xs)
    (ad : Addr) (m c : Nat) (news : List Value) (hx : a.eval x = .slice (some ad) m c) (hl : news.length = m * size) (hnews : ∀ j u, news[j]? = some u → w.cell? (ad.add j) = some u) (h1 : ∀ u ∈ news, u.oneCell' = true)
    (h63 : n + m ≤ maxLen) (hbytes : (n + m) * bytes ≤ 140737488355328) (hbase : base ≤ w.heap.size)
    (h : ∀ v' w', w'.ownsRow base e size v' (n + m) (xs ++ news) → w.grownBy w' v.ownBlock → K (a.put o.dst v') w') :
    if Region.wanted o (yielded ops a.tmps) = true then Oper.wp P o a w K Q else E := by
  have hw : Region.wanted o (yielded ops a.tmps) = true := by simp [Region.wanted, hgd]
  rw [if_pos hw]
  obtain ⟨v', w', hr, h2, h3, h4, h5⟩ := run_append_own_at (P := P) w base t o.type e i z size bytes ht hi hz hsize hby hzs hsz v n xs hown ad m c news hl hnews h1 h63 hbytes hbase
  unfold Oper.wp execOp
  simp only [ho, resolve, invoke, builtin, Sem.run_bind, Sem.run_pure, Result.andThen_ok, List.map_toArray, List.map_cons, List.map_nil, hs, hx, hr]
  exact h v' w' h2 h3

theorem open_ptslc {H : Type} {enc : TypeId × Value → H} {W : World} {r : Reach} {base : Nat} {v : Value} {d : DataW H} {p : List MemPlace}
    (hv : Value.okWide Try.prog W r base 30 v) (h : DataW.Trod enc Try.prog W 0 (fun _ => true) true 30 v d p) :
    ∃ pts, PtSl W v pts ∧ ∃ ao cap, v = .slice ao pts.length cap ∧ pts.length ≤ cap := by
  obtain ⟨pts, hp⟩ := open_ptsl hv h
  refine ⟨pts, hp, ?_⟩
  obtain ⟨ao, cap, rfl, _⟩ := hp
  refine ⟨ao, cap, rfl, ?_⟩
  obtain ⟨fuel, hf⟩ := h
  rcases open_slice_pairs Try.underlying30 Try.underlying38 cells38 rfl rfl cells29 cells29 hf with ⟨hcs, hx⟩ | ⟨a, len', cap', m, n, V0, V1, D0, D1, P0, P1, hcs, _, hl, hm, hmm, hx, hcell⟩
  · simp [Value.cells] at hcs
    obtain ⟨_, h1, h2⟩ := hcs
    rw [h1]; exact Nat.zero_le _
  · simp [Value.cells] at hcs
    obtain ⟨_, h1, h2⟩ := hcs
    omega
theorem own_empty (w : World) (base : Nat) (h : base ≤ w.heap.size) : (w.alloc (.cells #[] 38)).ownsRow base 38 2 (.slice (some ⟨w.heap.size, 0, none⟩) 0 0) 0 [] :=
  ⟨rfl, .inr ⟨w.heap.size, 0, #[], rfl, h, World.alloc_heap_new w _, Nat.le_refl _, Nat.zero_le _, rfl, rfl⟩⟩

set_option maxRecDepth 100000 in
set_option maxHeartbeats 4000000 in
theorem Order_in (b off ca : Nat) (pts : List (Int × Int)) (tn x at_ : Int) (h0 : 0 ≤ tn) (h255 : tn ≤ 255) (hla : pts.length < 64) (hne : 0 < pts.length) (hcap : pts.length ≤ ca) (hd : Dif pts) (w : World) (hP : PtsAt w.heap.size w b off pts) :
    Calls Try.prog 7 #[.slice (some ⟨b, off, none⟩) pts.length ca, .int .u8 tn, .int .i64 x, .int .i64 at_] w fun e w' => e = .returned (.bool true) ∧ Below w.heap.size w w' := by
  obtain ⟨i0, hi, hz0, hz1, hz2⟩ := info_parts Try.info38
  have HD := Lib.hid hd; clear hd
  have ha' : Hid (PtSl w (.slice (some ⟨b, off, none⟩) pts.length ca) pts) := Lib.hid ⟨_, ca, rfl, fun _ => ⟨b, off, rfl, hP⟩⟩
  have la2 : decide (64 ≤ (pts.length : Int)) = false := by simp; omega
  have lz : ((pts.length : Int) == 0) = false := beq_eq_false_iff_ne.2 (by omega)
  have la1 : (pts.length : Int) < 64 := by omega
  have la0 : 0 < (pts.length : Int) := by omega
  obtain ⟨k, hk⟩ : ∃ k : Nat, (k : Int) = tn % (pts.length : Int) := ⟨(tn % (pts.length : Int)).toNat, Int.toNat_of_nonneg (Int.emod_nonneg tn (by omega))⟩
  have hkl : (k : Int) < (pts.length : Int) := by rw [hk]; exact Int.emod_lt_of_pos _ la0
  have hkn : k < pts.length := by omega
  have HK := Lib.hid hk; clear hk
  go_enter Try.func7, Try.ntmps7
  go_wp2_with (first | (go_at_call 9; refine (sane_any _).mono ?_; rintro e w1 ⟨rfl, hB⟩) | (go_at_call 24; refine (dif_sl _ pts (by omega) _ (ha'.out.below hB) true ⟨fun _ => HD.out, fun _ => rfl⟩).mono ?_; rintro e w2 ⟨rfl, hB2⟩; replace hB2 := thenB hB hB2))
  rw [← HK.out]
  have hP2 := hP.below hB2
  have hPd : PtsAt w.heap.size w2.drew b off (pts.drop k) → True := fun _ => trivial
  have hk0 : (0 : Int) ≤ (k : Int) := by omega
  have hkc : (k : Int) < (ca : Int) := by omega
  have hkc2 : (k : Int) ≤ (pts.length : Int) := by omega
  have hcap2 : (pts.length : Int) ≤ (ca : Int) := by omega
  refine wp_region_held_drew (S := fun _ => True) (by kernel_rfl) trivial (fun hHeld => ?_)
  have hP3 : PtsAt w.heap.size w2.drew b off pts := hP2
  have hB3 : Below w.heap.size w w2.drew := hB2.drew
  clear hP2 hPd hHeld hB2
  generalize w2.drew = W3 at *
  refine wpAnyH_take (i := 1) (v := .slice (some ⟨b, off, none⟩) pts.length ca) rfl (by kernel_rfl) (by kernel_rfl) (by kernel_rfl) (fun _ _ _ h => h) (Or.inl ⟨by rfl, (by intro w1 hSw; go_simp; try (intro h; exfalso; omega))⟩) trivial ?_
  try simp only [Act.put, List.setIfInBounds_toArray, List.set_cons_zero, List.set_cons_succ]
  refine wpAnyH_take (i := 2) (v := .int .i64 k) rfl (by kernel_rfl) (by kernel_rfl) (by kernel_rfl) (fun _ _ _ h => h) (Or.inl ⟨by rfl, (by intro w1 hSw; go_simp; try (intro h; exfalso; omega))⟩) trivial ?_
  try simp only [Act.put, List.setIfInBounds_toArray, List.set_cons_zero, List.set_cons_succ]
  refine wpAnyH_take (i := 3) (v := .slice (some ⟨b, off + k * 2, none⟩) (pts.length - k) (ca - k)) rfl (by kernel_rfl) (by kernel_rfl) (by kernel_rfl) (fun _ _ _ h => h) (Or.inl ⟨by rfl, (by intro w1 hSw; go_simp; try (intro h; exfalso; omega))⟩) trivial ?_
  try simp only [Act.put, List.setIfInBounds_toArray, List.set_cons_zero, List.set_cons_succ]
  refine wpAnyH_take (i := 5) (v := .slice (some ⟨b, off, none⟩) pts.length ca) rfl (by kernel_rfl) (by kernel_rfl) (by kernel_rfl) (fun _ _ _ h => h) (Or.inl ⟨by rfl, (by intro w1 hSw; go_simp; try (intro h; exfalso; omega))⟩) trivial ?_
  try simp only [Act.put, List.setIfInBounds_toArray, List.set_cons_zero, List.set_cons_succ]
  refine wpAnyH_take (i := 6) (v := .int .i64 k) rfl (by kernel_rfl) (by kernel_rfl) (by kernel_rfl) (fun _ _ _ h => h) (Or.inl ⟨by rfl, (by intro w1 hSw; go_simp; try (intro h; exfalso; omega))⟩) trivial ?_
  try simp only [Act.put, List.setIfInBounds_toArray, List.set_cons_zero, List.set_cons_succ]
  refine wpAnyH_take (i := 7) (v := .slice (some ⟨b, off, none⟩) k ca) rfl (by kernel_rfl) (by kernel_rfl) (by kernel_rfl) (fun _ _ _ h => h) (Or.inl ⟨by rfl, (by intro w1 hSw; go_simp; try (intro h; exfalso; omega))⟩) trivial ?_
  try simp only [Act.put, List.setIfInBounds_toArray, List.set_cons_zero, List.set_cons_succ]
  refine wpAnyH_ready (rs := [0]) (by kernel_rfl) (by simp) ?_
  refine AllReadyH.cons rfl (fun K' hK' => ?_) AllReadyH.nil
  go_simp
  refine hK'.out _ _ trivial (fun _ => ?_)
  clear hK' K'
  try simp only [Act.put, List.setIfInBounds_toArray, List.set_cons_zero, List.set_cons_succ]
  refine wpAnyH_ready (rs := [4]) (by kernel_rfl) (by simp) ?_
  refine AllReadyH.cons rfl (fun K' hK' => ?_) AllReadyH.nil
  refine step_app _ rfl (.tmp 40) (.tmp 43) 30 rfl W3.heap.size 38 i0 _ 2 16 Try.underlying30 hi hz0 hz1 hz2 rfl (by decide) _ 0 [] rfl (own_empty W3 _ (Nat.le_refl _)) ⟨b, off + k * 2, none⟩ (pts.length - k) (ca - k) (flat (pts.drop k)) rfl (by rw [flat_len, List.length_drop]) (fun j u hu => ?_) (flat_one _) (by unfold maxLen; omega) (by omega) (by simp) ?_
  · rw [flat_drop, List.getElem?_drop] at hu
    have := flat_cells hP3 (k * 2 + j) u hu
    rw [show (Addr.add ⟨b, off + k * 2, none⟩ j) = ⟨b, off + (k * 2 + j), none⟩ from by rw [add_plain, Nat.add_assoc]]
    exact cellAl _ this
  intro v1 w4 hown4 hgrow4
  refine hK'.out _ _ trivial (fun _ => ?_)
  clear hK' K'
  have hB4 : Below W3.heap.size W3 w4 := ((Below.refl _ _).alloc (Nat.le_refl _) _).grown hgrow4 (by simp) (fun g e => by cases e; exact Nat.le_refl _)
  have hP4 : PtsAt w.heap.size w4 b off pts := hP3.below (hB4.mono hB3.size)
  clear hgrow4
  try simp only [Act.put, List.setIfInBounds_toArray, List.set_cons_zero, List.set_cons_succ]
  refine wpAnyH_ready (rs := [8]) (by kernel_rfl) (by simp) ?_
  refine AllReadyH.cons rfl (fun K' hK' => ?_) AllReadyH.nil
  refine step_app _ rfl (.tmp 44) (.tmp 47) 30 rfl W3.heap.size 38 i0 _ 2 16 Try.underlying30 hi hz0 hz1 hz2 rfl (by decide) _ _ _ rfl hown4 ⟨b, off, none⟩ k ca (flat (pts.take k)) rfl (by rw [flat_len, List.length_take]; congr 1; omega) (fun j u hu => ?_) (flat_one _) (by unfold maxLen; omega) (by omega) hB4.size ?_
  · rw [flat_take, List.getElem?_take] at hu
    split at hu
    · rw [add_plain]; exact flat_cells hP4 j u hu
    · cases hu
  intro v2 w5 hown5 hgrow5
  refine hK'.out _ _ trivial (fun _ => ?_)
  clear hK' K'
  have hB5 : Below W3.heap.size W3 w5 := hB4.grown hgrow5 hB4.size (fun g e => (prow_lt hown4 e).1)
  have hown6 : w5.ownsRow W3.heap.size 38 2 v2 (turn pts k).length (flat (turn pts k)) := by
    rw [turn_len]
    unfold turn
    rw [flat_app]
    have e : 0 + (pts.length - k) + k = pts.length := by omega
    rw [e, List.nil_append] at hown5
    exact hown5
  have S2 := Lib.hid (row_ptsl hown6)
  have hBw := hB3.trans (hB5.mono hB3.size)
  clear hown5 hgrow5 hown6 hown4
  try simp only [Act.put, List.setIfInBounds_toArray, List.set_cons_zero, List.set_cons_succ]
  refine wpAnyH_take (i := 9) (v := v2) rfl (by kernel_rfl) (by kernel_rfl) (by kernel_rfl) (fun _ _ _ h => h) (Or.inl ⟨by rfl, (by intro w1 hSw; go_simp; try (intro h; exfalso; omega))⟩) trivial ?_
  try simp only [Act.put, List.setIfInBounds_toArray, List.set_cons_zero, List.set_cons_succ]
  refine wpAnyH_done (by kernel_rfl) ?_ _
  have F1 := Lib.hid (turn_at HD.out k at_)
  have F2 := Lib.hid (turn_dif HD.out k)
  have hxb := atV_bd pts x pts.length
  go_wp2_with fail
  refine (at_sl _ at_ pts _ (ha'.out.below hBw)).mono ?_; rintro e y1 ⟨vv, ee, rfl, hr, q1⟩
  rcases hr with ⟨h, _⟩ | ⟨_, h, _⟩ | ⟨_, _, rfl, rfl⟩
  · omega
  · exact absurd HD.out h
  go_wp2_with fail
  refine (at_sl _ at_ _ _ (S2.out.below q1)).mono ?_; rintro e y2 ⟨vv, ee, rfl, hr, q2⟩
  rcases hr with ⟨h, _⟩ | ⟨_, h, _⟩ | ⟨_, _, rfl, rfl⟩
  · rw [turn_len] at h; omega
  · exact absurd F2.out h
  rw [F1.out]
  have q3 := thenB (thenB hBw q1) q2
  clear q1 q2 hBw
  go_wp2_with fail
  refine (at_sl _ x pts _ (ha'.out.below q3)).mono ?_; rintro e y3 ⟨vv, ee, rfl, hr, q4⟩
  rcases hr with ⟨h, _⟩ | ⟨_, h, _⟩ | ⟨_, _, rfl, rfl⟩
  · omega
  · exact absurd HD.out h
  replace q4 := thenB q3 q4
  clear q3
  have hPy := hP.below q4
  have M := Lib.hid (fun hm => more_at HD.out x hm at_)
  have hn3 := y3
  obtain ⟨Y, hY⟩ : ∃ Y, Y = atV pts x pts.length := ⟨_, rfl⟩
  rw [← hY] at M hxb ⊢
  clear hY hn3
  go_wp2_with (first | (at_builtin; refine wpList_append_own_at _ rfl (.tmp 78) (.tmp 79) 30 rfl y3.heap.size 38 i0 _ 2 16 Try.underlying30 hi hz0 hz1 hz2 rfl (by decide) _ 0 [] rfl (own_empty y3 _ (Nat.le_refl _)) ⟨b, off, none⟩ pts.length ca (flat pts) rfl (flat_len _) (fun j u hu => cellAl _ (by rw [add_plain]; exact flat_cells hPy j u hu)) (flat_one _) (by unfold maxLen; omega) (by omega) (by simp) ?_; intro v3 w7 hown7 hgrow7 _ _; have hB7 := ((Below.refl y3.heap.size y3).alloc (Nat.le_refl _) (Obj.cells #[] 38)).grown hgrow7 (by simp) (fun g e => by cases e; exact Nat.le_refl _)) | (at_builtin; refine wpList_append_own_at _ rfl (.tmp 80) (.tmp 84) 30 rfl y3.heap.size 38 i0 _ 2 16 Try.underlying30 hi hz0 hz1 hz2 rfl (by decide) _ _ _ rfl (hown7.alloc _) ⟨w7.heap.size, 0, none⟩ 1 1 [.int .i64 x, .int .i64 Y] rfl rfl (World.news_of_block (World.alloc_heap_new w7 _)) (by simp [Value.oneCell']) (by unfold maxLen; omega) (by omega) (by have := hB7.size; simp; omega) ?_; intro v4 w8 hown8 hgrow8 _ _))
  have hB8 : Below y3.heap.size y3 w8 := (hB7.alloc hB7.size _).grown hgrow8 (by have := hB7.size; simp; omega) (fun g e => (prow_lt hown7 e).1)
  have hown9 : w8.ownsRow y3.heap.size 38 2 v4 (pts ++ [(x, Y)]).length (flat (pts ++ [(x, Y)])) := by
    rw [flat_snoc, List.length_append]
    rw [List.nil_append, Nat.zero_add] at hown8
    exact hown8
  have S3 := Lib.hid (row_ptsl hown9)
  have hl9 : (pts ++ [(x, Y)]).length ≤ 64 := by simp; omega
  clear hown7 hgrow7 hown8 hgrow8 hown9 hB7
  replace q4 := thenB q4 hB8
  clear hB8
  refine (at_sl _ at_ _ _ S3.out).mono ?_; rintro e y4 ⟨vv, ee, rfl, hr, q5⟩
  by_cases hm : Dif (pts ++ [(x, Y)])
  · have HM := Lib.hid hm; clear hm
    rcases hr with ⟨h, _⟩ | ⟨_, h, _⟩ | ⟨_, _, rfl, rfl⟩
    · omega
    · exact absurd HM.out h
    · rw [M.out HM.out]
      have S4 := Lib.hid (S3.out.below q5)
      go_wp2_with fail
      refine (dif_sl _ _ hl9 _ S4.out true ⟨fun _ => HM.out, fun _ => rfl⟩).mono ?_; rintro e y5 ⟨rfl, q6⟩
      go_wp2
      go_ret
      exact ⟨rfl, thenB (thenB q4 q5) q6⟩
  · have HM := Lib.hid hm; clear hm
    rcases hr with ⟨h, _⟩ | ⟨_, _, rfl, rfl⟩ | ⟨_, h, _⟩
    · omega
    · have S4 := Lib.hid (S3.out.below q5)
      go_wp2_with fail
      refine (dif_sl _ _ hl9 _ S4.out false ⟨(fun h => Bool.noConfusion h), (fun h => absurd h HM.out)⟩).mono ?_; rintro e y5 ⟨rfl, q6⟩
      go_wp2
      go_ret
      exact ⟨rfl, thenB (thenB q4 q5) q6⟩
    · exact absurd h HM.out

set_option maxHeartbeats 1000000 in
theorem Order_out (sa : Value) (pts : List (Int × Int)) (tn x at_ : Int) (hn : 64 ≤ pts.length ∨ ¬ Dif pts ∨ pts.length = 0) (w : World) (ha : PtSl w sa pts) :
    Calls Try.prog 7 #[sa, .int .u8 tn, .int .i64 x, .int .i64 at_] w fun e w' => e = .returned (.bool true) ∧ Below w.heap.size w w' := by
  have ha' := Lib.hid ha
  obtain ⟨aa, ca, rfl, hca⟩ := ha
  clear hca
  by_cases h1 : 64 ≤ pts.length
  · have la1 : (64 : Int) ≤ (pts.length : Int) := by omega
    have la2 : decide ((64 : Int) ≤ (pts.length : Int)) = true := by simp; omega
    clear hn h1
    go_enter Try.func7, Try.ntmps7
    go_wp2_with (first | (go_at_call 9; refine (sane_any _).mono ?_; rintro e w1 ⟨rfl, hB⟩))
    go_ret
    exact ⟨rfl, hB⟩
  · have la1 : (pts.length : Int) < 64 := by omega
    have la2 : decide ((64 : Int) ≤ (pts.length : Int)) = false := by simp; omega
    by_cases h2 : Dif pts
    · have hz : pts.length = 0 := by
        rcases hn with h | h | h
        · omega
        · exact absurd h2 h
        · exact h
      have lz : ((pts.length : Int) == 0) = true := beq_iff_eq.2 (by omega)
      have H2 := Lib.hid h2
      have hl := h1
      clear hn h2 hz
      go_enter Try.func7, Try.ntmps7
      go_wp2_with (first | (go_at_call 9; refine (sane_any _).mono ?_; rintro e w1 ⟨rfl, hB⟩) | (go_at_call 24; refine (dif_sl _ pts (by omega) _ (ha'.out.below hB) true ⟨fun _ => H2.out, fun _ => rfl⟩).mono ?_; rintro e w2 ⟨rfl, hB2⟩))
      go_ret
      exact ⟨rfl, thenB hB hB2⟩
    · have H2 := Lib.hid h2
      clear hn h2
      go_enter Try.func7, Try.ntmps7
      go_wp2_with (first | (go_at_call 9; refine (sane_any _).mono ?_; rintro e w1 ⟨rfl, hB⟩) | (go_at_call 24; refine (dif_sl _ pts (by omega) _ (ha'.out.below hB) false ⟨(fun h => Bool.noConfusion h), (fun h => absurd h H2.out)⟩).mono ?_; rintro e w2 ⟨rfl, hB2⟩))
      go_ret
      exact ⟨rfl, thenB hB hB2⟩
theorem FieldOrder_walk (sa : Value) (tn x at_ : Int) (h : (Lit.int .u8 tn).wf = true) (w : World) (ha : ∃ pts, PtSl w sa pts ∧ ∃ ao cap, sa = .slice ao pts.length cap ∧ pts.length ≤ cap) :
    Calls Try.prog 7 #[sa, .int .u8 tn, .int .i64 x, .int .i64 at_] w fun e w' => e = .returned (.bool true) ∧ Below w.heap.size w w' := by
  obtain ⟨pts, hp, ao, cap, rfl, hcap⟩ := ha
  have ⟨h0, h1⟩ := bounds_u8 h
  by_cases hc : pts.length < 64 ∧ Dif pts ∧ 0 < pts.length
  · obtain ⟨ao', cap', he, hI⟩ := hp
    cases he
    obtain ⟨b, off, rfl, hP⟩ := hI (by intro e; rw [e] at hc; exact absurd hc.2.2 (Nat.lt_irrefl _))
    exact Order_in b off _ pts tn x at_ h0 h1 hc.1 hc.2.2 hcap hc.2.1 w hP
  · refine Order_out _ pts tn x at_ ?_ w hp
    by_cases h1 : 64 ≤ pts.length
    · exact .inl h1
    · by_cases h2 : Dif pts
      · refine .inr (.inr ?_)
        apply Nat.eq_zero_of_not_pos; intro h3
        exact hc ⟨by omega, h2, h3⟩
      · exact .inr (.inl h2)
end Go.Proofs.Ytmmoenbdlfmgeaa
