/- DERIVED. The law of wider courses, walked. -/
import Derived.Test.YtljggpbkggkcaaaDlawc
import Derived.Test.YtljggpbkggkcaaaDconh
import Derived.Test.YtljggpbkggkcaaaDtreev
import Derived.Test.YtljggpbkggkcaaaDmathc
namespace Go.Proofs.Ytljggpbkggkcaaa
open Go.Dx Go.RowKit
set_option linter.unusedVariables false
set_option linter.unusedSimpArgs false
/-- One number of one row is turned. -/
def put (P : List (List DV)) (j k : Nat) (x : Int) : List (List DV) := P.modify j fun e => layG e k [.n x]
theorem put_len (P : List (List DV)) (j k : Nat) (x : Int) : (put P j k x).length = P.length := by unfold put; simp
theorem clampB_at (d : DV) (i : Int) (k : Nat) : clampB (d.at i k) = d.at i k := by
  have := clampB_rng ((d.cell i k).int)
  show clampB (clampB _) = clampB _
  generalize clampB ((d.cell i k).int) = z at *
  unfold clampB; rw [if_pos this]
theorem put_get {P : List (List DV)} (hr : rowsOk P) {j k : Nat} {x : Int} (hk : k < 5) (hx : clampB x = x) {i : Nat} (hi : i < P.length) :
    (put P j k x)[i]? = some (if i = j then layG (rowAt (.sl none 0 P) i) k [.n x] else rowAt (.sl none 0 P) i) := by
  unfold put
  by_cases e : j = i
  · subst e
    rw [mod_same (hr j hi), if_pos rfl]
  · rw [mod_other e, hr i hi, if_neg fun q => e q.symm]
theorem five {m : Nat} (h : m < 5) : m = 0 ∨ m = 1 ∨ m = 2 ∨ m = 3 ∨ m = 4 := by omega
theorem row_num (P : DV) (i : Int) {m : Nat} (h : m < 5) : clampB (((rowAt P i).getD m (.n 0)).int) = P.at i m := by
  rcases five h with rfl | rfl | rfl | rfl | rfl <;> exact clampB_at P i _
theorem lay_num (P : DV) (i : Int) {k m : Nat} (hk : k < 5) (hm : m < 5) {x : Int} (hx : clampB x = x) : clampB (((layG (rowAt P i) k [.n x]).getD m (.n 0)).int) = if m = k then x else P.at i m := by
  rcases five hk with rfl | rfl | rfl | rfl | rfl <;> rcases five hm with rfl | rfl | rfl | rfl | rfl <;> first | exact hx | exact clampB_at P i _
theorem put_at {P : List (List DV)} (hr : rowsOk P) {j k : Nat} {x : Int} (hk : k < 5) (hx : clampB x = x) {i m : Nat} (hi : i < P.length) (hm : m < 5) :
    (DV.sl none 0 (put P j k x)).at i m = if i = j ∧ m = k then x else (DV.sl none 0 P).at i m := by
  rw [at_of (put_get hr hk hx hi)]
  by_cases e : i = j
  · rw [if_pos e, lay_num _ _ hk hm hx]
    by_cases q : m = k
    · rw [if_pos q, if_pos ⟨e, q⟩]
    · rw [if_neg q, if_neg fun y => q y.2]
  · rw [if_neg e, row_num _ _ hm, if_neg fun y => e y.1]
theorem put_rows {P : List (List DV)} (hr : rowsOk P) {j k : Nat} {x : Int} (hk : k < 5) (hx : clampB x = x) : rowsOk (put P j k x) := fun i hi => by
  rw [put_len] at hi
  rw [put_get hr hk hx hi]
  unfold rowAt
  rw [put_at hr hk hx hi (m := 0) (by omega), put_at hr hk hx hi (m := 1) (by omega), put_at hr hk hx hi (m := 2) (by omega), put_at hr hk hx hi (m := 3) (by omega), put_at hr hk hx hi (m := 4) (by omega)]
  by_cases e : i = j
  · rw [if_pos e]
    rcases five hk with rfl | rfl | rfl | rfl | rfl <;> (simp only [e, true_and]; rfl)
  · rw [if_neg e]
    simp only [e, false_and, if_false]
theorem bef_wider2 {cap : Int} {P Q : DV} {t : Int} {x y : Int × Int} (h : wider x y) (hx : x.2 ≤ cap) (hy : y.2 ≤ cap) (h0 : P.at t 0 ≤ Q.at t 0) (h1 : Q.at t 1 ≤ P.at t 1) (h2 : Q.at t 2 ≤ P.at t 2) (h3 : P.at t 3 ≤ Q.at t 3) (h4 : P.at t 4 ≤ Q.at t 4) (h5 : 0 ≤ P.at t 4) : wider (befF cap P t x) (befF cap Q t y) := by
  have none : ∀ z, wider (1, 0) z := fun z => .inl (by decide)
  unfold befF
  dsimp only
  by_cases c1 : x.1 > x.2
  · rw [if_pos c1]; exact none _
  rw [if_neg c1]
  have hw := h.resolve_left c1
  have tops : (if x.2 = cap then x.2 + P.at t 4 else x.2) ≤ (if y.2 = cap then y.2 + Q.at t 4 else y.2) := by
    split <;> split <;> omega
  generalize (if x.2 = cap then x.2 + P.at t 4 else x.2) = tx at *
  generalize (if y.2 = cap then y.2 + Q.at t 4 else y.2) = ty at *
  by_cases c2 : max 0 (x.1 - P.at t 0) > tx - P.at t 1
  · rw [if_pos c2]; exact none _
  rw [if_neg c2]
  by_cases c3 : max 0 (x.1 - P.at t 0) + P.at t 2 > min (tx - P.at t 1 + P.at t 3) cap
  · rw [if_pos c3]; exact none _
  rw [if_neg c3, if_neg (by omega), if_neg (by omega), if_neg (by omega)]
  exact .inr ⟨by dsimp only; omega, by dsimp only; omega⟩
/-- A course that asks less. -/
def easier (c d : CO) : Prop := (d.cap = c.cap ∧ d.st = c.st ∧ d.fl = c.fl ∧ d.P.len = c.P.len) ∧ ∀ k : Nat, (k : Int) < c.P.len → perOk d.P k ∧ c.P.at k 0 ≤ d.P.at k 0 ∧ d.P.at k 1 ≤ c.P.at k 1 ∧ d.P.at k 2 ≤ c.P.at k 2 ∧ c.P.at k 3 ≤ d.P.at k 3 ∧ c.P.at k 4 ≤ d.P.at k 4
theorem easier_right {c d : CO} (h : easier c d) (hr : rightC c) : rightC d := by
  obtain ⟨⟨h1, h2, h3, h4⟩, h5⟩ := h
  refine ⟨by rw [h1, h2, h3]; exact hr.1, fun k hk => (h5 k (by rw [h4] at hk; omega)).1⟩
theorem easier_rob {c d : CO} (h : easier c d) (hr : rightC c) : ∀ k : Nat, (k : Int) ≤ c.P.len → wider (robK c k) (robK d k)
  | 0, _ => by
    obtain ⟨⟨h1, h2, h3, h4⟩, h5⟩ := h
    exact .inr ⟨by show d.fl ≤ c.fl; omega, by show c.cap ≤ d.cap; omega⟩
  | k + 1, hk => by
    have ih := easier_rob h hr k (by omega)
    have hcap := hr.1.1.1
    have hcd : 0 ≤ d.cap := by rw [h.1.1]; exact hcap
    obtain ⟨⟨h1, h2, h3, h4⟩, h5⟩ := h
    have e : (((c.P.len - 1 - (k : Int)).toNat : Nat) : Int) = c.P.len - 1 - k := by omega
    have p := h5 (c.P.len - 1 - (k : Int)).toNat (by omega)
    rw [e] at p
    have pc := per_at hr (k := c.P.len - 1 - (k : Int)) (by omega) (by omega)
    unfold perOk okN at pc
    show wider (befF c.cap c.P (c.P.len - 1 - k) (robK c k)) (befF d.cap d.P (d.P.len - 1 - k) (robK d k))
    rw [h4, h1]
    exact bef_wider2 ih (robK_cap hcap k) (by rw [← h1]; exact robK_cap hcd k) p.2.1 p.2.2.1 p.2.2.2.1 p.2.2.2.2.1 p.2.2.2.2.2 (by omega)
theorem easier_at {c d : CO} (h : easier c d) (hr : rightC c) {t : Int} (t0 : 0 ≤ t) (t1 : t ≤ c.P.len) : wider (rob c t) (rob d t) := by
  unfold rob
  rw [h.1.2.2.2]
  exact easier_rob h hr _ (by omega)
theorem clampN {x : Int} (h : -9223372036854775808 ≤ x) (k : x ≤ 9223372036854775807) : clampB x = x := clampB_i64 h k
set_option maxHeartbeats 4000000 in
/-- The five changes. -/
theorem easier_put {cap st fl : Int} {P : List (List DV)} (hrow : rowsOk P) (hl : P.length ≤ 64) (hr : rightC ⟨cap, st, fl, .sl none 0 P⟩) {j : Nat} (hj : j < P.length) {u1 u2 u3 u4 u5 x1 x2 x3 x4 x5 : Int}
    (b1 : 0 ≤ u1 ∧ u1 ≤ 65535) (b2 : 0 ≤ u2 ∧ u2 ≤ 65535) (b3 : 0 ≤ u3 ∧ u3 ≤ 65535) (b4 : 0 ≤ u4 ∧ u4 ≤ 65535) (b5 : 0 ≤ u5 ∧ u5 ≤ 65535)
    (e1 : x1 = min ((DV.sl none 0 P).at j 1) (IntKind.i64.wrap ((DV.sl none 0 P).at j 0 + u1)))
    (e2 : x2 = max ((DV.sl none 0 (put P j 0 x1)).at j 0) (IntKind.i64.wrap ((DV.sl none 0 (put P j 0 x1)).at j 1 - u2)))
    (e3 : x3 = max 0 (IntKind.i64.wrap ((DV.sl none 0 (put (put P j 0 x1) j 1 x2)).at j 2 - u3)))
    (e4 : x4 = min 1099511627776 (IntKind.i64.wrap ((DV.sl none 0 (put (put (put P j 0 x1) j 1 x2) j 2 x3)).at j 3 + u4)))
    (e5 : x5 = min 1099511627776 (IntKind.i64.wrap ((DV.sl none 0 (put (put (put (put P j 0 x1) j 1 x2) j 2 x3) j 3 x4)).at j 4 + u5))) :
    easier ⟨cap, st, fl, .sl none 0 P⟩ ⟨cap, st, fl, .sl none 0 (put (put (put (put (put P j 0 x1) j 1 x2) j 2 x3) j 3 x4) j 4 x5)⟩ := by
  have ll : (DV.sl none 0 P).len = P.length := clampL_eq (show P.length ≤ 9223372036854775807 by omega)
  have pj : perOk (.sl none 0 P) (j : Int) := per_at hr (k := (j : Int)) (by omega) (show (j : Int) < (DV.sl none 0 P).len by omega)
  unfold perOk okN at pj
  have w1 : IntKind.i64.wrap ((DV.sl none 0 P).at j 0 + u1) = (DV.sl none 0 P).at j 0 + u1 := wI (by omega) (by omega)
  rw [w1] at e1
  have k1 : clampB x1 = x1 := clampN (by omega) (by omega)
  have r1 := put_rows hrow (j := j) (k := 0) (x := x1) (by omega) k1
  have a1 := fun {m : Nat} (hm : m < 5) => put_at hrow (j := j) (k := 0) (x := x1) (by omega) k1 hj hm
  have l1 := put_len P j 0 x1
  have a10 := a1 (m := 0) (by omega)
  have a11 := a1 (m := 1) (by omega)
  have a12 := a1 (m := 2) (by omega)
  have a13 := a1 (m := 3) (by omega)
  have a14 := a1 (m := 4) (by omega)
  simp at a10 a11 a12 a13 a14
  rw [a10, a11] at e2
  have w2 : IntKind.i64.wrap ((DV.sl none 0 P).at j 1 - u2) = (DV.sl none 0 P).at j 1 - u2 := wI (by omega) (by omega)
  rw [w2] at e2
  have k2 : clampB x2 = x2 := clampN (by omega) (by omega)
  have r2 := put_rows r1 (j := j) (k := 1) (x := x2) (by omega) k2
  have a2 := fun {m : Nat} (hm : m < 5) => put_at r1 (j := j) (k := 1) (x := x2) (by omega) k2 (by rw [l1]; exact hj) hm
  have l2 := put_len (put P j 0 x1) j 1 x2
  have a22 := a2 (m := 2) (by omega)
  have a23 := a2 (m := 3) (by omega)
  have a24 := a2 (m := 4) (by omega)
  simp at a22 a23 a24
  rw [a22, a12] at e3
  have w3 : IntKind.i64.wrap ((DV.sl none 0 P).at j 2 - u3) = (DV.sl none 0 P).at j 2 - u3 := wI (by omega) (by omega)
  rw [w3] at e3
  have k3 : clampB x3 = x3 := clampN (by omega) (by omega)
  have r3 := put_rows r2 (j := j) (k := 2) (x := x3) (by omega) k3
  have a3 := fun {m : Nat} (hm : m < 5) => put_at r2 (j := j) (k := 2) (x := x3) (by omega) k3 (by rw [l2, l1]; exact hj) hm
  have l3 := put_len (put (put P j 0 x1) j 1 x2) j 2 x3
  have a33 := a3 (m := 3) (by omega)
  have a34 := a3 (m := 4) (by omega)
  simp at a33 a34
  rw [a33, a23, a13] at e4
  have w4 : IntKind.i64.wrap ((DV.sl none 0 P).at j 3 + u4) = (DV.sl none 0 P).at j 3 + u4 := wI (by omega) (by omega)
  rw [w4] at e4
  have k4 : clampB x4 = x4 := clampN (by omega) (by omega)
  have r4 := put_rows r3 (j := j) (k := 3) (x := x4) (by omega) k4
  have a4 := fun {m : Nat} (hm : m < 5) => put_at r3 (j := j) (k := 3) (x := x4) (by omega) k4 (by rw [l3, l2, l1]; exact hj) hm
  have l4 := put_len (put (put (put P j 0 x1) j 1 x2) j 2 x3) j 3 x4
  have a44 := a4 (m := 4) (by omega)
  simp at a44
  rw [a44, a34, a24, a14] at e5
  have w5 : IntKind.i64.wrap ((DV.sl none 0 P).at j 4 + u5) = (DV.sl none 0 P).at j 4 + u5 := wI (by omega) (by omega)
  rw [w5] at e5
  have k5 : clampB x5 = x5 := clampN (by omega) (by omega)
  have l5 := put_len (put (put (put (put P j 0 x1) j 1 x2) j 2 x3) j 3 x4) j 4 x5
  refine ⟨⟨rfl, rfl, rfl, ?_⟩, fun k hk => ?_⟩
  · show clampL (put _ j 4 x5).length = clampL P.length
    rw [l5, l4, l3, l2, l1]
  have hk : (k : Int) < (DV.sl none 0 P).len := hk
  have hkl : k < P.length := by omega
  have pk : perOk (.sl none 0 P) (k : Int) := per_at hr (k := (k : Int)) (by omega) hk
  unfold perOk okN at *
  have q : ∀ {m : Nat}, m < 5 → (DV.sl none 0 (put (put (put (put (put P j 0 x1) j 1 x2) j 2 x3) j 3 x4) j 4 x5)).at k m = if k = j ∧ m = 4 then x5 else if k = j ∧ m = 3 then x4 else if k = j ∧ m = 2 then x3 else if k = j ∧ m = 1 then x2 else if k = j ∧ m = 0 then x1 else (DV.sl none 0 P).at k m := fun {m} hm => by
    rw [put_at r4 (by omega) k5 (by rw [l4, l3, l2, l1]; exact hkl) hm, put_at r3 (by omega) k4 (by rw [l3, l2, l1]; exact hkl) hm, put_at r2 (by omega) k3 (by rw [l2, l1]; exact hkl) hm, put_at r1 (by omega) k2 (by rw [l1]; exact hkl) hm, put_at hrow (by omega) k1 hkl hm]
  show _ ∧ (DV.sl none 0 P).at k 0 ≤ _ ∧ _ ≤ (DV.sl none 0 P).at k 1 ∧ _ ≤ (DV.sl none 0 P).at k 2 ∧ (DV.sl none 0 P).at k 3 ≤ _ ∧ (DV.sl none 0 P).at k 4 ≤ _
  dsimp only
  rw [q (m := 0) (by omega), q (m := 1) (by omega), q (m := 2) (by omega), q (m := 3) (by omega), q (m := 4) (by omega)]
  by_cases e : k = j
  · subst e
    simp
    omega
  · simp only [e, false_and, if_false]
    omega
theorem u8_rng {a : Int} (h : (Go.Lit.int .u8 a).wf = true) : 0 ≤ a ∧ a ≤ 255 := by
  simp [Go.Lit.wf, IntKind.min, IntKind.max, IntKind.signed, IntKind.bits] at h
  exact ⟨by omega, by omega⟩
theorem u16_rng {a : Int} (h : (Go.Lit.int .u16 a).wf = true) : 0 ≤ a ∧ a ≤ 65535 := by
  simp [Go.Lit.wf, IntKind.min, IntKind.max, IntKind.signed, IntKind.bits] at h
  exact ⟨by omega, by omega⟩
theorem cell_u16 {w : World} {a : Int} (h : 0 ≤ a ∧ a ≤ 65535) : cellA w (.int .u16 0 65535) (.n a) (.int .u16 a) :=
  ⟨by simp only [HasSh]; exact ⟨a, rfl, h, by simpa [kmin, IntKind.signed, IntKind.bits] using h.1, by simpa [kmax, IntKind.signed, IntKind.bits] using h.2⟩, rfl⟩
set_option maxHeartbeats 4000000 in
set_option maxRecDepth 100000 in
theorem PlanWider_any (v0 : Value) (a1 a2 a3 a4 a5 a6 : Int) (w : World) (hG : Glb tb w) (g0 : CourseA w v0) (w1 : 0 ≤ a1 ∧ a1 ≤ 255) (w2 : 0 ≤ a2 ∧ a2 ≤ 65535) (w3 : 0 ≤ a3 ∧ a3 ≤ 65535) (w4 : 0 ≤ a4 ∧ a4 ≤ 65535) (w5 : 0 ≤ a5 ∧ a5 ≤ 65535) (w6 : 0 ≤ a6 ∧ a6 ≤ 65535) :
    Calls Try.prog 9 #[v0, .int .u8 a1, .int .u16 a2, .int .u16 a3, .int .u16 a4, .int .u16 a5, .int .u16 a6] w fun e w' => e = .returned (.bool true) ∧ Below w.heap.size w w' := by
  obtain ⟨cap, st, fl, P, c0, rfl, h0⟩ := g0
  have hrow : rowsOk P := rowsOk_of (cells_last h0)
  have hPl : P.length ≤ 9223372036854775807 := (cells_last h0).1
  refine law_of_walk (tb := tb) (P := Try.prog) fine (C := [lawCon 11 [], cRobust 12, lWid 20 11]) (conCons cSane_ok (conCons cRobust_ok (lopCons rfl noCon))) 80 9 [.agg course, .c (.int .u8 0 255), .c (.int .u16 0 65535), .c (.int .u16 0 65535), .c (.int .u16 0 65535), .c (.int .u16 0 65535), .c (.int .u16 0 65535)] rfl (w := w) hG
    (xs := [.n cap, .n st, .n fl, .sl none 0 P, .n a1, .n a2, .n a3, .n a4, .n a5, .n a6]) ?_ ?_
  · exact ⟨_, [.n a1, .n a2, .n a3, .n a4, .n a5, .n a6], c0, rfl, rfl, h0, cell_byte w1, cell_u16 w2, cell_u16 w3, cell_u16 w4, cell_u16 w5, cell_u16 w6, by simp [ArgsV]⟩
  clear h0
  rw [tree_lwider]
  refine res_con rfl trivial (fun z z0 z1 hz => ?_)
  obtain rfl := n_inj (show [DV.n z] = [DV.n 1] from hz)
  refine res_ite (fun h => absurd (show (1 : Int) = 0 from h) (by decide)) fun _ => ?_
  refine res_con rfl trivial (fun L hL e _ _ hR => ?_)
  clear hL
  have hR : [DV.sl none 0 L, .n e] = RobustF ⟨cap, st, fl, .sl none 0 P⟩ := hR
  refine res_ite (fun _ => rfl) fun q => ?_
  have q : ¬ (¬ e = 0 ∨ (DV.sl none 0 P).len = 0) := q
  obtain ⟨he, hc0, hL⟩ := (robust_in hR).resolve_left fun y => q (.inl y.1)
  obtain ⟨hlen, hr⟩ := chk_zero hc0
  have hlen : (DV.sl none 0 P).len ≤ 64 := hlen
  have l0 := len_nn (.sl none 0 P)
  have ll : (DV.sl none 0 P).len = P.length := clampL_eq hPl
  have lL : (DV.sl none 0 L).len = (DV.sl none 0 P).len + 1 := by
    have := len_of (L := L) (n := (DV.sl none 0 P).len.toNat + 1) (by rw [hL, rowsF_len]) (by omega)
    omega
  refine res_ok (show (DV.sl none 0 P).len ≤ 3432621667203 by omega) ?_
  have t0 := Int.tmod_nonneg (DV.sl none 0 P).len w1.1
  have t1 := Int.tmod_lt_of_pos a1 (show 0 < (DV.sl none 0 P).len by omega)
  refine res_ok (show 0 ≤ Int.tmod a1 (DV.sl none 0 P).len ∧ Int.tmod a1 (DV.sl none 0 P).len < (DV.sl none 0 P).len from ⟨t0, t1⟩) ?_
  generalize hj : Int.tmod a1 (DV.sl none 0 P).len = j at t0 t1
  have ej : ((j.toNat : Nat) : Int) = j := by omega
  obtain ⟨x1, e1⟩ : ∃ x1, x1 = min ((DV.sl none 0 P).at j.toNat 1) (IntKind.i64.wrap ((DV.sl none 0 P).at j.toNat 0 + a2)) := ⟨_, rfl⟩
  refine res_dat (.sl none 0 (put P j.toNat 0 x1)) (by rw [e1, ej, ← hj]; rfl) ?_
  obtain ⟨x2, e2⟩ : ∃ x2, x2 = max ((DV.sl none 0 (put P j.toNat 0 x1)).at j.toNat 0) (IntKind.i64.wrap ((DV.sl none 0 (put P j.toNat 0 x1)).at j.toNat 1 - a3)) := ⟨_, rfl⟩
  refine res_dat (.sl none 0 (put (put P j.toNat 0 x1) j.toNat 1 x2)) (by rw [e2, ej, ← hj]; rfl) ?_
  obtain ⟨x3, e3⟩ : ∃ x3, x3 = max 0 (IntKind.i64.wrap ((DV.sl none 0 (put (put P j.toNat 0 x1) j.toNat 1 x2)).at j.toNat 2 - a4)) := ⟨_, rfl⟩
  refine res_dat (.sl none 0 (put (put (put P j.toNat 0 x1) j.toNat 1 x2) j.toNat 2 x3)) (by rw [e3, ej, ← hj]; rfl) ?_
  obtain ⟨x4, e4⟩ : ∃ x4, x4 = min 1099511627776 (IntKind.i64.wrap ((DV.sl none 0 (put (put (put P j.toNat 0 x1) j.toNat 1 x2) j.toNat 2 x3)).at j.toNat 3 + a5)) := ⟨_, rfl⟩
  refine res_dat (.sl none 0 (put (put (put (put P j.toNat 0 x1) j.toNat 1 x2) j.toNat 2 x3) j.toNat 3 x4)) (by rw [e4, ej, ← hj]; rfl) ?_
  obtain ⟨x5, e5⟩ : ∃ x5, x5 = min 1099511627776 (IntKind.i64.wrap ((DV.sl none 0 (put (put (put (put P j.toNat 0 x1) j.toNat 1 x2) j.toNat 2 x3) j.toNat 3 x4)).at j.toNat 4 + a6)) := ⟨_, rfl⟩
  refine res_dat (.sl none 0 (put (put (put (put (put P j.toNat 0 x1) j.toNat 1 x2) j.toNat 2 x3) j.toNat 3 x4) j.toNat 4 x5)) (by rw [e5, ej, ← hj]; rfl) ?_
  have hE := easier_put hrow (by omega) hr (j := j.toNat) (by omega) w2 w3 w4 w5 w6 e1 e2 e3 e4 e5
  generalize put (put (put (put (put P j.toNat 0 x1) j.toNat 1 x2) j.toNat 2 x3) j.toNat 3 x4) j.toNat 4 x5 = Q at hE
  have hrQ := easier_right hE hr
  have lQ : (DV.sl none 0 Q).len = (DV.sl none 0 P).len := hE.1.2.2.2
  refine res_con rfl trivial (fun M hM f _ _ hF => ?_)
  clear hM
  have hF : [DV.sl none 0 M, .n f] = RobustF ⟨cap, st, fl, .sl none 0 Q⟩ := hF
  have hF := rob_cases hF (show (DV.sl none 0 Q).len ≤ 64 by omega)
  obtain ⟨hf, hM, _⟩ := hF.resolve_right fun y => y.2 hrQ
  have lM : (DV.sl none 0 M).len = (DV.sl none 0 P).len + 1 := by
    have := len_of (L := M) (n := (DV.sl none 0 Q).len.toNat + 1) (by rw [hM, rowsF_len]) (by omega)
    omega
  refine res_ite (fun y => ?_) fun _ => ?_
  · have y : ¬ f = 0 ∨ ¬ (DV.sl none 0 M).len = (DV.sl none 0 L).len := y
    omega
  refine res_lop rfl (show (0 : Int) ≤ (DV.sl none 0 L).len by omega) (fun i i0 i1 hi => ?_)
  have hi : i ≤ (DV.sl none 0 L).len := hi
  refine res_ite (fun hlt => ?_) fun _ => rfl
  have hlt : i < (DV.sl none 0 L).len := hlt
  have rL := row_at hr hL (t := i) (by omega) (show i ≤ (DV.sl none 0 P).len by omega)
  have rM := row_at hrQ hM (t := i) (by omega) (show i ≤ (DV.sl none 0 Q).len by omega)
  have hw := easier_at hE hr (t := i) (by omega) (show i ≤ (DV.sl none 0 P).len by omega)
  refine res_ite (fun hne => ?_) fun _ => ?_
  · have hne : (DV.sl none 0 L).at i 0 ≤ (DV.sl none 0 L).at i 1 := hne
    refine res_ok (show 0 ≤ i ∧ i < (DV.sl none 0 M).len by omega) ?_
    refine res_ite (fun y => ?_) fun _ => ?_
    · have y : (DV.sl none 0 L).at i 0 < (DV.sl none 0 M).at i 0 ∨ (DV.sl none 0 M).at i 1 < (DV.sl none 0 L).at i 1 := y
      rw [rL.1, rL.2] at hne
      rw [rL.1, rL.2, rM.1, rM.2] at y
      rcases hw with hw | hw <;> omega
    · refine res_chk rfl (show i + 1 ≤ (DV.sl none 0 L).len by omega) ?_
      show ((DV.sl none 0 L).len - (i + 1)).toNat < ((DV.sl none 0 L).len - i).toNat
      omega
  · refine res_chk rfl (show i + 1 ≤ (DV.sl none 0 L).len by omega) ?_
    show ((DV.sl none 0 L).len - (i + 1)).toNat < ((DV.sl none 0 L).len - i).toNat
    omega
end Go.Proofs.Ytljggpbkggkcaaa
