/- DERIVED. A symbolic executor over data, proved sound; part 5. -/
import Derived.Test.YtcjdheaaddaagaaDx4
import Derived.Laws.Slices
/- A symbolic executor: slices that are made. -/
namespace Go.Dx
open Go.RowKit
set_option linter.unusedVariables false
set_option linter.unusedSimpArgs false
theorem hasL_shs : ∀ {ss : List Sh} {ds : List DV}, HasL ss ds → HasShs ss ds ∧ rowV ss ds = cellsL ss ds
  | [], [], _ => ⟨by simp only [HasShs], rfl⟩
  | s :: l, d :: r, h => by
    have ih := hasL_shs h.2
    simp only [HasShs, rowV, cellsL, ih.2]
    exact ⟨⟨h.1, ih.1⟩, trivial⟩
  | [], _ :: _, h => h.elim
  | _ :: _, [], h => h.elim
theorem laidLL_l {w : World} {Q : Nat → Prop} : ∀ {ss : List Sh} {ds : List DV}, LaidLL w Q ss ds → LaidL w Q ss ds
  | [], ds, _ => by simp only [LaidL]
  | s :: l, [], h => by simp only [LaidL]
  | s :: l, d :: r, h => by simp only [LaidL]; exact ⟨h.1, laidLL_l h.2⟩
/-- The row of a type. -/
def rowSh (tb : Tb) : Nat → TypeId → Option (List Sh)
  | 0, _ => none
  | f + 1, t => match tb.und t with
    | some (.int k) => some [.int k (kmin k) (kmax k)]
    | some .bool => some [.bool]
    | some .string => some [.str 9223372036854775807]
    | some (.slice e) => match rowSh tb f e with
      | some (x :: l) => some [.sl 9223372036854775807 (x :: l)]
      | _ => none
    | some (.array n e) => (rowSh tb f e).map fun r => (List.replicate n r).flatten
    | some (.str fs) => fs.foldr (fun fd acc => match rowSh tb f fd.type, acc with
      | some r, some l => some (r ++ l)
      | _, _ => none) (some [])
    | _ => none
def zeroSh : Sh → Sh
  | .int k _ _ => .int k 0 0
  | .bool => .bool
  | .str _ => .str 0
  | .sl _ r => .sl 0 r
def zeroE : Sh → E
  | .int _ _ _ => .lit 0
  | .bool => .lit 0
  | .str _ => .str .empty
  | .sl _ _ => .emp
def zeroQ : Sh → CV → Bool
  | .int k _ _, .k (.int l (.lit 0)) => Nat.beq (kq k) (kq l)
  | .bool, .k (.bool (.lit false)) => true
  | .str _, .k (.str (.str b)) => Nat.beq b.size 0
  | .sl _ _, .k .nils => true
  | _, _ => false
def zeroQs : List Sh → List CV → Bool
  | [], [] => true
  | s :: l, c :: r => zeroQ s c && zeroQs l r
  | _, _ => false
theorem zeroQ_ok {n : Env} {s : Sh} {c : CV} (h : zeroQ s c = true) (hf : s.fine = true) : HasSh (zeroSh s) ((zeroE s).val n.r) ∧ cellV (zeroSh s) ((zeroE s).val n.r) = c.den n ∧ (zeroSh s).fine = true ∧ ∀ w Q, Laid w Q (zeroSh s) ((zeroE s).val n.r) := by
  unfold zeroQ at h
  split at h
  · rename_i k a b l
    obtain rfl := kq_ok h
    have ev : (zeroE (.int k a b)).val n.r = .n 0 := by simp only [zeroE, E.val, E.isD, E.den]
    rw [ev]
    refine ⟨?_, rfl, rfl, fun _ _ => by simp only [zeroSh, Laid]⟩
    simp only [zeroSh, HasSh]
    exact ⟨0, rfl, ⟨by decide, by decide⟩, by cases k <;> decide, by cases k <;> decide⟩
  · have ev : (zeroE .bool).val n.r = .n 0 := by simp only [zeroE, E.val, E.isD, E.den]
    rw [ev]
    exact ⟨by simp only [zeroSh, HasSh]; exact ⟨0, rfl, by decide, by decide⟩, rfl, rfl, fun _ _ => by simp only [zeroSh, Laid]⟩
  · rename_i m b
    have hb := Nat.eq_of_beq_eq_true h
    have ev : (zeroE (.str m)).val n.r = .s .empty := by simp only [zeroE, E.val, E.isD, E.dat]
    rw [ev]
    refine ⟨by simp only [zeroSh, HasSh, DV.str]; exact Nat.le_refl _, ?_, rfl, fun _ _ => by simp only [zeroSh, Laid]⟩
    simp only [zeroSh, cellV, CV.den, K.den, E.dat, DV.str]
    congr 1
    cases b with
    | mk d => simp only [ByteArray.size] at hb; rw [show d = #[] from Array.eq_empty_of_size_eq_zero hb]; rfl
  · rename_i m r
    have ev : (zeroE (.sl m r)).val n.r = .sl none 0 [] := by simp only [zeroE, E.val, E.isD, E.dat]
    rw [ev]
    refine ⟨by simp [zeroSh, HasSh, DV.els], rfl, ?_, fun _ _ => ?_⟩
    · simp only [zeroSh, Sh.fine, Bool.and_eq_true] at hf ⊢
      exact ⟨hf.1, by first | trivial | rfl⟩
    · simp only [zeroSh, Laid, DV.els]
      exact ⟨⟨none, 0, rfl, Nat.le_refl _, fun h => absurd rfl h⟩, fun e he => by cases he⟩
  · cases h
theorem zeroQs_ok {n : Env} : ∀ {l : List Sh} {cs : List CV}, zeroQs l cs = true → Sh.fines l = true → HasShs (l.map zeroSh) ((l.map zeroE).map (E.val n.r)) ∧ rowV (l.map zeroSh) ((l.map zeroE).map (E.val n.r)) = cs.map (CV.den n) ∧ Sh.fines (l.map zeroSh) = true ∧ ∀ w Q, LaidL w Q (l.map zeroSh) ((l.map zeroE).map (E.val n.r))
  | [], [], _, _ => ⟨by simp [HasShs], rfl, rfl, fun _ _ => by simp [LaidL]⟩
  | s :: l, c :: r, h, hf => by
    simp only [zeroQs, Bool.and_eq_true] at h
    simp only [Sh.fines, Bool.and_eq_true] at hf
    obtain ⟨a1, a2, a3, a4⟩ := zeroQ_ok (n := n) h.1 hf.1
    obtain ⟨b1, b2, b3, b4⟩ := zeroQs_ok (n := n) h.2 hf.2
    simp only [List.map_cons, HasShs, rowV, Sh.fines, LaidL, a2, b2, a3, b3, Bool.and_self]
    exact ⟨⟨a1, b1⟩, trivial, trivial, fun w Q => ⟨a4 w Q, b4 w Q⟩⟩
  | [], _ :: _, h, _ => by simp [zeroQs] at h
  | _ :: _, [], h, _ => by simp [zeroQs] at h
theorem made_rep (c : Array Value) (hc : 0 < c.size) : ∀ (n : Nat), (List.replicate n c.toList).flatten = (madeCells c (n * c.size)).toList := by
  intro n
  apply List.ext_getElem?
  intro j
  by_cases hj : j < n * c.size
  · have h1 : j / c.size < n := (Nat.div_lt_iff_lt_mul hc).2 hj
    have h2 : j % c.size < c.size := Nat.mod_lt _ hc
    have h3 := flat_get (f := fun _ : Nat => c.toList) (z := c.size) (l := List.range n) (fun _ _ => by simp) (i := j / c.size) (j := j % c.size) (e := j / c.size) (by simp [h1]) h2
    rw [Nat.div_add_mod' ] at h3
    have h4 : (List.replicate n c.toList).flatten = (List.range n).flatMap fun _ => c.toList := by
      rw [List.flatMap_def]; congr 1
      apply List.ext_getElem?
      intro k
      simp only [List.getElem?_replicate, List.getElem?_map, List.getElem?_range]
      split <;> simp_all
    rw [h4, h3]
    simp [madeCells, hj, h2]
  · rw [List.getElem?_eq_none, List.getElem?_eq_none]
    · rw [Array.length_toList, size_madeCells]; omega
    · simp; omega
def rep (n : Nat) (l : List E) : List (List E) := match n with
  | 0 => []
  | n + 1 => l :: rep n l
theorem rep_eq (n : Nat) (l : List E) : rep n l = List.replicate n l := by
  induction n with
  | zero => rfl
  | succ n ih => simp only [rep, ih, List.replicate_succ]
/-- The same element n times. -/
def repCt {β : Type} (s : St) (R : Nat) (row : List Sh) (n : E) (es : List E) (k : Ct → St → T β) : T β :=
  match n with
  | .lit m => if decide (m ≤ 70) then k (.rows (rep m.toNat es)) s else letD s .rep (.num (.lit m) :: es) (.sl R row) fun v s => k (.e (.var v)) s
  | n => letD s .rep (.num n :: es) (.sl R row) fun v s => k (.e (.var v)) s
theorem repCt_ok {β : Type} {N : Nat} {w0 : World} {C : List Con} {Φ : List DV → β → Prop} {n : Env} {s : St} {a : Act} {w : World} {R : Nat} {row : List Sh} {x : E} {es : List E} {k : Ct → St → T β} (h : Rep N w0 n s a w) (hw : wfSt s = true)
    (hd : (repCt s R row x es k).den C Φ n.r) (hR : (x.den n.r).toNat ≤ R) (hR2 : R ≤ 9223372036854775807) (hr : row ≠ []) (hf : Sh.fines row = true) (hs : HasShs row (es.map (E.val n.r))) (hl : ∀ w Q, LaidL w Q row (es.map (E.val n.r))) (hwe : es.all (wfE n.r.length) = true) :
    ∃ m ct s1, Ext n m ∧ m.v = n.v ∧ m.b = n.b ∧ Rep N w0 m s1 a w ∧ wfSt s1 = true ∧ s1.ar = s.ar ∧ (k ct s1).den C Φ m.r ∧ wfCt m.r.length ct = true ∧ ct.els m.r = List.replicate (x.den n.r).toNat (es.map (E.val n.r)) := by
  have general : (letD s .rep (.num x :: es) (.sl R row) fun v s => k (.e (.var v)) s).den C Φ n.r → ∃ m ct s1, Ext n m ∧ m.v = n.v ∧ m.b = n.b ∧ Rep N w0 m s1 a w ∧ wfSt s1 = true ∧ s1.ar = s.ar ∧ (k ct s1).den C Φ m.r ∧ wfCt m.r.length ct = true ∧ ct.els m.r = List.replicate (x.den n.r).toNat (es.map (E.val n.r)) := fun hd => by
    have e1 : E.val n.r (.num x) = .n (x.den n.r) := by simp only [E.val, E.isD, E.den]
    obtain ⟨m, c1, c2, c3, c4, c5, c6⟩ := letD_ok (l := List.replicate (x.den n.r).toNat (es.map (E.val n.r))) h hw hd (by simp only [List.map_cons, DOp.fn, e1, DV.int]) (by rw [List.length_replicate]; exact hR) hR2 hr hf (fun e he => by rw [List.eq_of_mem_replicate he]; exact hs) (fun e he => by rw [List.eq_of_mem_replicate he]; exact hl _ _)
    refine ⟨m, _, _, c1, c2, c3, c4, wfSt_cat hw _, rfl, c5, ?_, ?_⟩
    · rw [c4.lens.1]; simp only [wfCt, wfE, cat]; simp [Nat.blt]
    · show ((E.var s.bnd.v.length).dat m.r).els = _
      rw [c6]; rfl
  unfold repCt at hd
  split at hd
  · rename_i m
    split at hd
    · refine ⟨n, _, s, Ext.refl n, rfl, rfl, h, hw, rfl, hd, ?_, ?_⟩
      · simp only [wfCt, rep_eq]
        exact List.all_eq_true.2 fun e he => by rw [List.eq_of_mem_replicate he]; exact hwe
      · simp only [Ct.els, rep_eq, List.map_replicate, E.den]
    · exact general hd
  · exact general hd
/-- Nothing, with room. -/
def makeR (s : St) (zr : List Sh) (e : TypeId) (by' : Nat) (c : E) : T (SV × St) :=
  let go : T (SV × St) := .ret (.p (.c (.k (.ar s.ar.length))), { s with ar := s.ar ++ [⟨zr, .rows [], .lit 0, .own, e⟩] })
  let x := c.rng s.bnd
  if decide (0 ≤ x.1) && decide (x.2 ≤ ((140737488355328 / (by' + 1) : Nat) : Int)) then go
  else .ite (.and (.le (.lit 0) c) (.le c (.lit (140737488355328 / (by' + 1) : Nat)))) go .fail
def isLit0 : E → Bool
  | .lit 0 => true
  | _ => false
theorem isLit0_ok {x : E} (h : isLit0 x = true) : x = .lit 0 := by
  unfold isLit0 at h
  split at h
  · rfl
  · cases h
def makeS (tb : Tb) (s : St) (t : TypeId) (n c : E) : T (SV × St) :=
  match tb.und t with
  | some (.slice e) => match tb.size e, tb.bytes e, tb.zero e, rowSh tb 20 e with
    | some z, some by', some zv, some row =>
      if ((Nat.beq row.length z && zeroQs row zv.cells) && (Sh.fines row && !row.isEmpty)) && (wfSt s && wfE s.bnd.v.length n) then
        let zr := row.map zeroSh
        if n.eqb c then
          let go (R : Nat) : T (SV × St) := repCt s R zr n (row.map zeroE) fun ct s1 => .ret (.p (.c (.k (.ar s1.ar.length))), { s1 with ar := s1.ar ++ [⟨zr, ct, n, .own, e⟩] })
          let R := (n.rng s.bnd).2.toNat
          if decide (0 ≤ (n.rng s.bnd).1) && (Nat.ble (R * by') 140737488355328 && Nat.ble R 9223372036854775807) then go R
          else .ite (.and (.le (.lit 0) n) (.le n (.lit (140737488355328 / (by' + 1) : Nat)))) (go (140737488355328 / (by' + 1))) .fail
        else if isLit0 n then makeR s zr e by' c else .fail
      else .fail
    | _, _, _, _ => .fail
  | _ => .fail
theorem makeR_ok {P : Program} {N : Nat} {w0 : World} {C : List Con} {Φ : List DV → SV × St → Prop} {n : Env} {s : St} {a : Act} {w : World} {t e : TypeId} {i : TypeInfo} {z : Value} {zr : List Sh} {by' : Nat} {c : E} {kl kc : IntKind} (hN : N ≤ w0.heap.size) (h : Rep N w0 n s a w) (hw : wfSt s = true) (hu : P.underlying t = some (.slice e)) (hi : P.info? e = some i) (hz : i.zero = some z) (hs : i.size = zr.length) (hb : i.bytes = by')
    (hne : zr ≠ []) (hf : Sh.fines zr = true) (hd : (makeR s zr e by' c).den C Φ n.r) :
    ∃ m v s' w', (Instr.makeSlice t (.int kl 0) (.int kc (c.den n.r))).run P w = .ok (SV.den m v) w' ∧ Ext n m ∧ Rep N w0 m s' a w' ∧ Φ m.r (v, s') := by
  have hN' : N ≤ w.heap.size := Nat.le_trans hN h.below.size
  have go : 0 ≤ c.den n.r → c.den n.r ≤ ((140737488355328 / (by' + 1) : Nat) : Int) → Φ n.r (.p (.c (.k (.ar s.ar.length))), { s with ar := s.ar ++ [⟨zr, .rows [], .lit 0, .own, e⟩] }) →
      ∃ m v s' w', (Instr.makeSlice t (.int kl 0) (.int kc (c.den n.r))).run P w = .ok (SV.den m v) w' ∧ Ext n m ∧ Rep N w0 m s' a w' ∧ Φ m.r (v, s') := fun h0 h1 hφ => by
    have hle := Nat.div_le_self 140737488355328 (by' + 1)
    have hmul := Nat.div_mul_le_self 140737488355328 (by' + 1)
    rw [Nat.mul_succ] at hmul
    have hby : (i.bytes : Int) * c.den n.r ≤ 281474976710656 := by
      rw [hb]
      have := Int.mul_le_mul_of_nonneg_left h1 (show (0 : Int) ≤ (by' : Int) by omega)
      have e2 : ((by' : Int) * ((140737488355328 / (by' + 1) : Nat) : Int)) = (((140737488355328 / (by' + 1)) * by' : Nat) : Int) := by rw [Int.natCast_mul, Int.mul_comm]
      omega
    have hr := run_make (P := P) w t e i z hu hi hz kl kc 0 (c.den n.r) (Int.le_refl _) h0 hby (by omega)
    have hlen1 : n.v.length = s.ar.length := h.dat.len
    have hv : svOf (.slice (some ⟨w.heap.size, 0, none⟩) (Int.toNat 0) (c.den n.r).toNat) = .slice (some ⟨w.heap.size, 0, none⟩) (Int.toNat 0) (c.den n.r).toNat := rfl
    refine ⟨newV n (.slice (some ⟨w.heap.size, 0, none⟩) (Int.toNat 0) (c.den n.r).toNat), _, _, w.alloc (.cells (madeCells z.cells ((c.den n.r).toNat * i.size)) e), ?_, newV_ext n _, ?_, hφ⟩
    · rw [hr]
      show _ = Result.ok ((newV n _).sv s.ar.length) _
      rw [← hlen1, newV_last, hv]
    · refine h.addEnt hw (h.below.alloc hN' _) (fun g hg => Below.heap_alloc _ _ _ hg) rfl (fun g _ hg => by
        simp only [svOf, Value.ownBlock, Option.some.injEq] at hg; omega) (fun ho => ?_)
      unfold EntOk
      simp only
      refine ⟨⟨hf, ⟨hne, fun x hx => by simp [Ct.els] at hx⟩, rfl, fun x hx => by simp [Ct.els] at hx⟩, ?_⟩
      show World.ownsRow _ N e zr.length ((newV n _).sv s.ar.length) 0 []
      rw [← hlen1, newV_last, hv]
      refine ⟨by simp, .inr ⟨w.heap.size, (c.den n.r).toNat, madeCells z.cells ((c.den n.r).toNat * i.size), rfl, hN', ?_, Nat.zero_le _, ?_, ?_, by simp⟩⟩
      · first | exact heap_alloc_new w _ | exact World.heap_alloc_new w _
      · simp only [maxLen]; omega
      · rw [size_madeCells, hs]
  unfold makeR at hd
  simp only at hd
  have hrng := E.rng_ok h.bnd c
  split at hd
  · rename_i hc
    simp only [Bool.and_eq_true, decide_eq_true_eq] at hc
    exact go (by omega) (by omega) hd
  · simp only [T.den, B.prop, E.den] at hd
    by_cases hle : 0 ≤ c.den n.r ∧ c.den n.r ≤ ((140737488355328 / (by' + 1) : Nat) : Int)
    · exact go hle.1 hle.2 (hd.1 hle)
    · exact (hd.2 hle).elim
theorem makeS_ok {P : Program} {tb : Tb} [TbOk P tb] {N : Nat} {w0 : World} {C : List Con} {Φ : List DV → SV × St → Prop} {n : Env} {s : St} {a : Act} {w : World} {t : TypeId} {kl kc : IntKind} {x c : E} (hN : N ≤ w0.heap.size) (h : Rep N w0 n s a w) (hd : (makeS tb s t x c).den C Φ n.r) :
    ∃ m v s' w', (Instr.makeSlice t (.int kl (x.den n.r)) (.int kc (c.den n.r))).run P w = .ok (SV.den m v) w' ∧ Ext n m ∧ Rep N w0 m s' a w' ∧ Φ m.r (v, s') := by
  unfold makeS at hd
  split at hd
  case h_2 => exact hd.elim
  rename_i e hu
  split at hd
  case h_2 => exact hd.elim
  rename_i z by' zv row hz hb hzv hrow
  split at hd
  case isFalse => exact hd.elim
  rename_i hc
  simp only [Bool.and_eq_true, Bool.not_eq_true', List.isEmpty_eq_false_iff] at hc
  obtain ⟨⟨⟨c1, c2⟩, c3, c4⟩, hw, hwx⟩ := hc
  obtain rfl := Nat.eq_of_beq_eq_true c1
  simp only at hd
  split at hd
  case isFalse =>
    split at hd
    case isFalse => exact hd.elim
    rename_i h00
    obtain rfl := isLit0_ok h00
    have hu' := und_slice (P := P) hu
    obtain ⟨i, hi1, hi2⟩ := size_ok (P := P) hz
    obtain ⟨ib, hb1, hb2⟩ := bytes_ok (P := P) hb
    rw [hi1] at hb1
    cases hb1
    obtain ⟨iz, zvv, hz1, hz2, hz3⟩ := zero_ok (P := P) hzv
    rw [hi1] at hz1
    cases hz1
    obtain ⟨z1, z2, z3, z4⟩ := zeroQs_ok (n := n) c2 c3
    exact makeR_ok hN h hw hu' hi1 hz2 (by rw [hi2, List.length_map]) hb2 (by simpa using c4) z3 hd
  rename_i heq
  obtain rfl := E.eqb_ok heq
  have hN' : N ≤ w.heap.size := Nat.le_trans hN h.below.size
  have hu' := und_slice (P := P) hu
  obtain ⟨i, hi1, hi2⟩ := size_ok (P := P) hz
  obtain ⟨ib, hb1, hb2⟩ := bytes_ok (P := P) hb
  rw [hi1] at hb1
  cases hb1
  obtain ⟨iz, zvv, hz1, hz2, hz3⟩ := zero_ok (P := P) hzv
  rw [hi1] at hz1
  cases hz1
  obtain ⟨z1, z2, z3, z4⟩ := zeroQs_ok (n := n) c2 c3
  have hzc : zvv.cells = (zv.cells.map (CV.den n)).toArray := by rw [← ofPV_den n hz3, PV.cells_den]
  have hzlen : zv.cells.length = row.length := by
    have := congrArg List.length z2
    rw [rowV_len z1] at this
    simpa using this.symm
  have hpos : 0 < row.length := List.length_pos_iff.2 c4
  have hzr : row.map zeroSh ≠ [] := by simpa using c4
  have hwz : (row.map zeroE).all (wfE n.r.length) = true := List.all_eq_true.2 fun y hy => by
    obtain ⟨s, _, rfl⟩ := List.mem_map.1 hy
    cases s <;> rfl
  have hwx' : wfE n.r.length x = true := by rw [h.lens.1]; exact hwx
  have go : ∀ R, 0 ≤ x.den n.r → (x.den n.r).toNat ≤ R → R * by' ≤ 140737488355328 → R ≤ 9223372036854775807 → (repCt s R (row.map zeroSh) x (row.map zeroE) fun ct s1 => .ret (.p (.c (.k (.ar s1.ar.length))), { s1 with ar := s1.ar ++ [⟨row.map zeroSh, ct, x, .own, e⟩] }) : T (SV × St)).den C Φ n.r →
      ∃ m v s' w', (Instr.makeSlice t (.int kl (x.den n.r)) (.int kc (x.den n.r))).run P w = .ok (SV.den m v) w' ∧ Ext n m ∧ Rep N w0 m s' a w' ∧ Φ m.r (v, s') := fun R h0 hR r1 r2 hd => by
    obtain ⟨m, ct, s1, a1, a2, a3, a4, a5, a6, a8, a9, a10⟩ := repCt_ok h hw hd hR r2 hzr z3 z1 z4 hwz
    have hxn : ((x.den n.r).toNat : Int) = x.den n.r := Int.toNat_of_nonneg h0
    have hby : i.bytes * (x.den n.r).toNat ≤ 281474976710656 := by
      rw [hb2, Nat.mul_comm]
      have := Nat.mul_le_mul_right by' hR
      omega
    obtain ⟨w', h1, h2, h3⟩ := run_make_full (P := P) (w := w) N t e i zvv row.length hu' hi1 hz2 hi2 kl kc (x.den n.r).toNat hby (by simp only [maxLen]; omega) hN'
    rw [hxn] at h1
    have hfl : flatV (row.map zeroSh) (List.replicate (x.den n.r).toNat ((row.map zeroE).map (E.val n.r))) = (madeCells zvv.cells ((x.den n.r).toNat * row.length)).toList := by
      have e1 : zvv.cells.size = row.length := by rw [hzc]; simp [hzlen]
      have e2 := made_rep zvv.cells (by omega) (x.den n.r).toNat
      rw [e1] at e2
      rw [← e2]
      unfold flatV
      rw [List.flatMap_def, List.map_replicate, z2, hzc]
    have hlen1 : m.v.length = s1.ar.length := a4.dat.len
    have hv : svOf (.slice (some ⟨w.heap.size, 0, none⟩) (x.den n.r).toNat (x.den n.r).toNat) = .slice (some ⟨w.heap.size, 0, none⟩) (x.den n.r).toNat (x.den n.r).toNat := rfl
    have hrep := a4.addEnt (w' := w') (a := ⟨row.map zeroSh, ct, x, .own, e⟩) (v := .slice (some ⟨w.heap.size, 0, none⟩) (x.den n.r).toNat (x.den n.r).toNat) a5 (h.below.grown h3 hN' (fun k hk => by cases hk)) (fun g hg => h3.block g hg (by simp)) (by
      simp only [wfAr, a9, Bool.true_and]; exact wfE_mono a1.r.length_le x hwx') (fun g _ hg => by
        simp only [svOf, Value.ownBlock, Option.some.injEq] at hg; omega) (fun ho => by
        unfold EntOk
        simp only
        have hels : Shaped (row.map zeroSh) (ct.els m.r) := by
          rw [a10]; exact ⟨hzr, fun e he => by rw [List.eq_of_mem_replicate he]; exact z1⟩
        refine ⟨⟨z3, hels, ?_, ?_⟩, ?_⟩
        · show x.den m.r = ((ct.els m.r).length : Nat)
          rw [a10, List.length_replicate, wfE_den a1.r x hwx']; omega
        · show Nest w' _ _ (ct.els m.r)
          rw [a10]
          intro e he
          rw [List.eq_of_mem_replicate he]
          exact z4 _ _
        · show w'.ownsRow N e (row.map zeroSh).length ((newV m _).sv s1.ar.length) (ct.els m.r).length (flatV (row.map zeroSh) (ct.els m.r))
          rw [← hlen1, newV_last, hv, a10, List.length_replicate, hfl, List.length_map]
          exact h2)
    refine ⟨_, _, _, w', ?_, a1.trans (newV_ext m _), hrep, a8⟩
    rw [h1]
    show _ = Result.ok ((newV m _).sv s1.ar.length) w'
    rw [← hlen1, newV_last, hv]
  have hrng := E.rng_ok h.bnd x
  split at hd
  · rename_i hcc
    simp only [Bool.and_eq_true, decide_eq_true_eq] at hcc
    exact go _ (by omega) (by omega) (Nat.le_of_ble_eq_true hcc.2.1) (Nat.le_of_ble_eq_true hcc.2.2) hd
  · simp only [T.den, B.prop, E.den] at hd
    by_cases hle : 0 ≤ x.den n.r ∧ x.den n.r ≤ ((140737488355328 / (by' + 1) : Nat) : Int)
    · refine go _ hle.1 (by omega) ?_ ?_ (hd.1 hle)
      · have := Nat.div_mul_le_self 140737488355328 (by' + 1)
        rw [Nat.mul_succ] at this
        omega
      · have := Nat.div_le_self 140737488355328 (by' + 1)
        omega
    · exact (hd.2 hle).elim
end Go.Dx

/- A symbolic executor: slices that are written out, and parts of slices. -/
namespace Go.Dx
open Go.RowKit
set_option linter.unusedVariables false
set_option linter.unusedSimpArgs false
/-- Bools that are not known: both ways. -/
def litC {β : Type} (s : Bnd) (x : CV) (k : CV → T β) : T β :=
  match x with
  | .k (.bool b) => match b with
    | .lit _ => k x
    | .not (.eq e (.lit 0)) => if decide (0 ≤ (e.rng s).1) && decide ((e.rng s).2 ≤ 1) then k x else .ite (.not (.eq e (.lit 0))) (k (.k (.bool (.lit true)))) (k (.k (.bool (.lit false))))
    | b => .ite b (k (.k (.bool (.lit true)))) (k (.k (.bool (.lit false))))
  | x => k x
def litL {β : Type} (s : Bnd) : List CV → (List CV → T β) → T β
  | [], k => k []
  | x :: l, k => litC s x fun x => litL s l fun l => k (x :: l)
theorem litC_ok {β : Type} {C : List Con} {Φ : List DV → β → Prop} {n : Env} {q : Sz} {s : Bnd} (x : CV) (k : CV → T β) (hd : (litC s x k).den C Φ n.r) : ∃ y, (wfC q x = true → wfC q y = true) ∧ y.den n = x.den n ∧ (k y).den C Φ n.r := by
  have both : ∀ b : B, (T.ite b (k (.k (.bool (.lit true)))) (k (.k (.bool (.lit false))))).den C Φ n.r → ∃ y, (wfC q (.k (.bool b)) = true → wfC q y = true) ∧ y.den n = CV.den n (.k (.bool b)) ∧ (k y).den C Φ n.r := fun b hd => by
    simp only [T.den, B.prop_iff] at hd
    cases hb : b.den n.r with
    | true => exact ⟨_, fun _ => rfl, by simp only [CV.den, K.den, B.den, hb], hd.1 hb⟩
    | false => exact ⟨_, fun _ => rfl, by simp only [CV.den, K.den, B.den, hb], hd.2 (by simp [hb])⟩
  unfold litC at hd
  split at hd
  · split at hd
    · exact ⟨_, id, rfl, hd⟩
    · split at hd
      · exact ⟨_, id, rfl, hd⟩
      · exact both _ hd
    · exact both _ hd
  · exact ⟨_, id, rfl, hd⟩
theorem litL_ok {β : Type} {C : List Con} {Φ : List DV → β → Prop} {n : Env} {q : Sz} {s : Bnd} : ∀ (l : List CV) (k : List CV → T β), (litL s l k).den C Φ n.r → ∃ m, (l.all (wfC q) = true → m.all (wfC q) = true) ∧ m.map (CV.den n) = l.map (CV.den n) ∧ m.length = l.length ∧ (k m).den C Φ n.r
  | [], k, hd => ⟨[], id, rfl, rfl, hd⟩
  | x :: l, k, hd => by
    obtain ⟨y, h1, h2, h3⟩ := litC_ok (q := q) x _ hd
    obtain ⟨m, i1, i2, i3, i4⟩ := litL_ok (q := q) l _ h3
    refine ⟨y :: m, fun h => ?_, by simp only [List.map_cons, h2, i2], by simp [i3], i4⟩
    simp only [List.all_cons, Bool.and_eq_true] at h ⊢
    exact ⟨h1 h.1, i1 h.2⟩
mutual
theorem laid_mono {w : World} {Q R : Nat → Prop} (hk : ∀ b, Q b → R b) : ∀ {s : Sh} {d : DV}, Laid w Q s d → Laid w R s d
  | .int _ _ _, d, _ => by simp only [Laid]
  | .bool, d, _ => by simp only [Laid]
  | .str _, d, _ => by simp only [Laid]
  | .sl mx row, d, h => by simp only [Laid] at h ⊢; exact ⟨h.1.mono hk, fun e he => laidL_mono hk (h.2 e he)⟩
theorem laidL_mono {w : World} {Q R : Nat → Prop} (hk : ∀ b, Q b → R b) : ∀ {l : List Sh} {r : List DV}, LaidL w Q l r → LaidL w R l r
  | [], r, _ => by simp only [LaidL]
  | s :: l, [], h => by simp only [LaidL]
  | s :: l, x :: r, h => by simp only [LaidL] at h ⊢; exact ⟨laid_mono hk h.1, laidL_mono hk h.2⟩
end
theorem nest_mono {w : World} {Q R : Nat → Prop} (hk : ∀ b, Q b → R b) {row : List Sh} {els : List (List DV)} (h : Nest w Q row els) : Nest w R row els := fun e he => laidL_mono hk (h e he)
/-! Slices that are put into slices: from then on nobody writes to them. -/
def frzV (p : Nat) (a : Ar) : Ar := match a.st with
  | .view q _ => if Nat.beq q p then { a with st := .frz } else a
  | _ => a
def frzAr (p : Nat) (ar : List Ar) : List Ar := match ar[p]? with
  | some a => match a.st with
    | .own => (ar.map (frzV p)).set p { a with st := .frz }
    | .view q _ => match ar[q]? with
      | some b => (ar.map (frzV q)).set q { b with st := .frz }
      | none => ar
    | .full => ar.set p { a with st := .frz }
    | _ => ar
  | none => ar
theorem frzV_own {p : Nat} {a : Ar} (h : (frzV p a).st = .own) : a.st = .own ∧ frzV p a = a := by
  unfold frzV at h ⊢
  split at h
  · split at h
    · cases h
    · rename_i hst _; rw [hst] at h; cases h
  · exact ⟨h, rfl⟩
theorem frzV_ct (p : Nat) (a : Ar) : (frzV p a).ct = a.ct ∧ (frzV p a).row = a.row ∧ (frzV p a).len = a.len ∧ (frzV p a).ety = a.ety := by
  unfold frzV; split
  · split <;> exact ⟨rfl, rfl, rfl, rfl⟩
  · exact ⟨rfl, rfl, rfl, rfl⟩
theorem frzV_wf {r p : Nat} {a : Ar} (h : wfAr r a = true) : wfAr r (frzV p a) = true := by
  obtain ⟨h1, _, h2, _⟩ := frzV_ct p a
  unfold wfAr at *; rw [h1, h2]; exact h
/-- A slice that is owned is frozen, and with it its parts. -/
theorem DatOk.freeze {N : Nat} {n : Env} {bnd : Bnd} {ar : List Ar} {w : World} {p : Nat} {a0 : Ar} (h : DatOk N n bnd ar w) (hp : ar[p]? = some a0) (hst : a0.st = .own) : DatOk N n bnd ((ar.map (frzV p)).set p { a0 with st := .frz }) w := by
  have hplt : p < ar.length := (List.getElem?_eq_some_iff.1 hp).1
  have hself : ((ar.map (frzV p)).set p { a0 with st := .frz })[p]? = some { a0 with st := .frz } := by simp [hplt]
  have hother : ∀ i, i ≠ p → ((ar.map (frzV p)).set p { a0 with st := .frz })[i]? = (ar[i]?).map (frzV p) := fun i hi => by
    rw [List.getElem?_set_ne (Ne.symm hi), List.getElem?_map]
  have hold : ∀ i a, ((ar.map (frzV p)).set p { a0 with st := .frz })[i]? = some a → a.st = .own → i ≠ p ∧ ar[i]? = some a := fun i a hi ha => by
    by_cases e : i = p
    · subst e; rw [hself] at hi; cases hi; cases ha
    · refine ⟨e, ?_⟩
      rw [hother i e] at hi
      cases hc : ar[i]? with
      | none => rw [hc] at hi; cases hi
      | some c => rw [hc] at hi; cases hi; rw [(frzV_own ha).2]
  have hO : ∀ g, Owned n ((ar.map (frzV p)).set p { a0 with st := .frz }) g → Owned n ar g := fun g hg => by
    rcases hg with hg | ⟨i, a, hi, ha, hb⟩
    · exact .inl hg
    · exact .inr ⟨i, a, (hold i a hi ha).2, ha, hb⟩
  have hP : ∀ g, (n.sv p).ownBlock = some g → ¬ Owned n ((ar.map (frzV p)).set p { a0 with st := .frz }) g := fun g hg ho => by
    rcases ho with ho | ⟨i, a, hi, ha, hb⟩
    · rcases ho with ho | ho
      · exact h.disb p a0 g hp hst hg ho
      · have he := h.ent p a0 hp
        unfold EntOk at he
        rw [hst] at he
        have k1 := (he.2.lt g hg).1
        have k2 := h.fb g ho
        omega
    · obtain ⟨k1, k2⟩ := hold i a hi ha
      exact k1 (h.dis i p a a0 g k2 hp ha hst hb hg)
  have hent : ∀ a, Ent n ar w a → Ent n ((ar.map (frzV p)).set p { a0 with st := .frz }) w a := fun a ha => ⟨ha.fine, ha.shp, ha.len, nest_mono (fun g hg ho => hg (hO g ho)) ha.nest⟩
  refine ⟨by simpa using h.len, ?_, fun i a hi => ?_, fun i j a c g hi hj h1 h2 h3 h4 => ?_, fun i a g hi h1 h2 => ?_, fun i S hS => ?_, h.fb⟩
  · refine List.all_eq_true.2 fun x hx => ?_
    rcases List.mem_or_eq_of_mem_set hx with hx | rfl
    · obtain ⟨y, hy, rfl⟩ := List.mem_map.1 hx
      exact frzV_wf (List.all_eq_true.1 h.wf y hy)
    · have := List.all_eq_true.1 h.wf _ (List.mem_of_getElem? hp)
      exact this
  · by_cases e : i = p
    · subst e
      rw [hself] at hi
      cases hi
      have he := h.ent i a0 hp
      unfold EntOk at he ⊢
      rw [hst] at he
      simp only at he ⊢
      obtain ⟨e1, e2⟩ := he
      have e1' := hent a0 e1
      exact ⟨⟨e1'.fine, e1'.shp, e1'.len, e1'.nest⟩, (own_laid e2).mono fun g hg => hP g hg⟩
    · rw [hother i e] at hi
      cases hc : ar[i]? with
      | none => rw [hc] at hi; cases hi
      | some c =>
        rw [hc] at hi
        cases hi
        have he := h.ent i c hc
        obtain ⟨f1, f2, f3, f4⟩ := frzV_ct p c
        unfold EntOk at he ⊢
        cases hcs : c.st with
        | dead => rw [show (frzV p c).st = .dead by unfold frzV; rw [hcs]; exact hcs]; trivial
        | frz =>
          rw [hcs] at he
          rw [show frzV p c = c by unfold frzV; rw [hcs], hcs]
          exact ⟨hent c he.1, he.2.mono fun g hg ho => hg (hO g ho)⟩
        | full =>
          rw [hcs] at he
          rw [show frzV p c = c by unfold frzV; rw [hcs], hcs]
          exact ⟨hent c he.1, he.2.1.mono fun g hg ho => hg (hO g ho), he.2.2⟩
        | told e =>
          rw [hcs] at he
          rw [show frzV p c = c by unfold frzV; rw [hcs], hcs]
          exact ⟨hent c he.1, he.2.1.mono fun g hg ho => hg (hO g ho), he.2.2⟩
        | own =>
          rw [hcs] at he
          rw [show frzV p c = c by unfold frzV; rw [hcs], hcs]
          exact ⟨hent c he.1, he.2⟩
        | view q pre =>
          rw [hcs] at he
          obtain ⟨e1, e2, qa, e3, e4, e5⟩ := he
          by_cases hq : q = p
          · subst hq
            have hf : frzV q c = { c with st := .frz } := by unfold frzV; rw [hcs]; simp
            rw [hf]
            simp only
            have e1' := hent c e1
            refine ⟨⟨e1'.fine, e1'.shp, e1'.len, e1'.nest⟩, e2.mono fun g hg ho => ?_⟩
            rcases hg with hg | hg
            · exact hg (hO g ho)
            · exact hP g hg ho
          · have hf : frzV p c = c := by
              unfold frzV; rw [hcs]; simp only
              rw [if_neg]
              intro hb; exact hq (Nat.eq_of_beq_eq_true hb)
            rw [hf, hcs]
            refine ⟨hent c e1, e2.mono fun g hg => ?_, qa, ?_, e4, e5⟩
            · rcases hg with hg | hg
              · exact .inl fun ho => hg (hO g ho)
              · exact .inr hg
            · rw [hother q hq, e3]
              have : frzV p qa = qa := by unfold frzV; rw [e4]
              simp only [Option.map_some, this]
  · exact h.dis i j a c g (hold i a hi h1).2 (hold j c hj h2).2 h1 h2 h3 h4
  · exact h.disb i a g (hold i a hi h1).2 h1 h2
  · obtain ⟨k1, k2⟩ := h.perm i S hS
    refine ⟨k1, ?_⟩
    cases S with
    | sl mx row => simp only [NestD] at k2 ⊢; exact nest_mono (fun g hg ho => hg (hO g ho)) k2
    | _ => simp only [NestD]
/-- A frozen slice may have room. -/
theorem DatOk.soften {N : Nat} {n : Env} {bnd : Bnd} {ar : List Ar} {w : World} {p : Nat} {a0 : Ar} (h : DatOk N n bnd ar w) (hp : ar[p]? = some a0) (hst : a0.st = .full) : DatOk N n bnd (ar.set p { a0 with st := .frz }) w := by
  have hplt : p < ar.length := (List.getElem?_eq_some_iff.1 hp).1
  have hold : ∀ (i : Nat) (a : Ar), (ar.set p { a0 with st := .frz })[i]? = some a → (i = p ∧ a = { a0 with st := .frz }) ∨ (i ≠ p ∧ ar[i]? = some a) := fun i a hi => by
    by_cases hq : i = p
    · subst hq; rw [List.getElem?_set_self hplt] at hi; cases hi; exact .inl ⟨rfl, rfl⟩
    · rw [List.getElem?_set_ne (Ne.symm hq)] at hi; exact .inr ⟨hq, hi⟩
  have hown : ∀ (i : Nat) (a : Ar), (ar.set p { a0 with st := .frz })[i]? = some a → a.st = .own → ar[i]? = some a := fun i a hi ha => by
    rcases hold i a hi with ⟨rfl, rfl⟩ | ⟨_, h1⟩
    · cases ha
    · exact h1
  have hO : ∀ g, Owned n (ar.set p { a0 with st := .frz }) g → Owned n ar g := fun g hg => by
    rcases hg with hg | ⟨i, a, hi, ha, hb⟩
    · exact .inl hg
    · exact .inr ⟨i, a, hown i a hi ha, ha, hb⟩
  have hent : ∀ a, Ent n ar w a → Ent n (ar.set p { a0 with st := .frz }) w a := fun a ha => ⟨ha.fine, ha.shp, ha.len, nest_mono (fun g hg ho => hg (hO g ho)) ha.nest⟩
  refine ⟨by simpa using h.len, ?_, fun i a hi => ?_, fun i j a c g hi hj h1 h2 h3 h4 => h.dis i j a c g (hown i a hi h1) (hown j c hj h2) h1 h2 h3 h4, fun i a g hi h1 h2 => h.disb i a g (hown i a hi h1) h1 h2, fun i S hS => ?_, h.fb⟩
  · refine List.all_eq_true.2 fun x hx => ?_
    rcases List.mem_or_eq_of_mem_set hx with hx | rfl
    · exact List.all_eq_true.1 h.wf x hx
    · have := List.all_eq_true.1 h.wf a0 (List.mem_of_getElem? hp)
      exact this
  · rcases hold i a hi with ⟨rfl, rfl⟩ | ⟨hne, h1⟩
    · have he := h.ent i a0 hp
      unfold EntOk at he ⊢
      rw [hst] at he
      simp only at he ⊢
      have e1 := hent a0 he.1
      exact ⟨⟨e1.fine, e1.shp, e1.len, e1.nest⟩, he.2.1.mono fun g hg ho => hg (hO g ho)⟩
    · have he := h.ent i a h1
      unfold EntOk at he ⊢
      cases hcs : a.st with
      | dead => trivial
      | frz => rw [hcs] at he; exact ⟨hent a he.1, he.2.mono fun g hg ho => hg (hO g ho)⟩
      | full => rw [hcs] at he; exact ⟨hent a he.1, he.2.1.mono fun g hg ho => hg (hO g ho), he.2.2⟩
      | told f => rw [hcs] at he; exact ⟨hent a he.1, he.2.1.mono fun g hg ho => hg (hO g ho), he.2.2⟩
      | own => rw [hcs] at he; exact ⟨hent a he.1, he.2⟩
      | view q pre =>
        rw [hcs] at he
        obtain ⟨e1, e2, qa, e3, e4, e5⟩ := he
        refine ⟨hent a e1, e2.mono fun g hg => ?_, qa, ?_, e4, e5⟩
        · rcases hg with hg | hg
          · exact .inl fun ho => hg (hO g ho)
          · exact .inr hg
        · have : q ≠ p := fun h => by subst h; rw [hp] at e3; cases e3; rw [hst] at e4; cases e4
          rw [List.getElem?_set_ne (Ne.symm this)]; exact e3
  · obtain ⟨k1, k2⟩ := h.perm i S hS
    refine ⟨k1, ?_⟩
    cases S with
    | sl mx row => simp only [NestD] at k2 ⊢; exact nest_mono (fun g hg ho => hg (hO g ho)) k2
    | _ => simp only [NestD]
/-- A frozen slice is told by a path too. -/
def tellAr (i : Nat) (e : E) (ar : List Ar) : List Ar := match ar[i]? with
  | some a => match a.st with
    | .frz => ar.set i { a with st := .told e }
    | _ => ar
  | none => ar
theorem tellAr_len (p : Nat) (e : E) (ar : List Ar) : (tellAr p e ar).length = ar.length := by
  unfold tellAr
  split
  · split <;> simp
  · rfl
theorem DatOk.tell {N : Nat} {n : Env} {bnd : Bnd} {ar : List Ar} {w : World} {p : Nat} {a0 : Ar} {e : E} (h : DatOk N n bnd ar w) (hp : ar[p]? = some a0) (hst : a0.st = .frz) (hwe : wfE n.r.length e = true) (hv : (e.dat n.r).sv = n.sv p) : DatOk N n bnd (tellAr p e ar) w := by
  have hplt : p < ar.length := (List.getElem?_eq_some_iff.1 hp).1
  unfold tellAr
  rw [hp]
  simp only [hst]
  have hold : ∀ (i : Nat) (a : Ar), (ar.set p { a0 with st := .told e })[i]? = some a → (i = p ∧ a = { a0 with st := .told e }) ∨ (i ≠ p ∧ ar[i]? = some a) := fun i a hi => by
    by_cases hq : i = p
    · subst hq; rw [List.getElem?_set_self hplt] at hi; cases hi; exact .inl ⟨rfl, rfl⟩
    · rw [List.getElem?_set_ne (Ne.symm hq)] at hi; exact .inr ⟨hq, hi⟩
  have hown : ∀ (i : Nat) (a : Ar), (ar.set p { a0 with st := .told e })[i]? = some a → a.st = .own → ar[i]? = some a := fun i a hi ha => by
    rcases hold i a hi with ⟨rfl, rfl⟩ | ⟨_, h1⟩
    · cases ha
    · exact h1
  have hO : ∀ g, Owned n (ar.set p { a0 with st := .told e }) g → Owned n ar g := fun g hg => by
    rcases hg with hg | ⟨i, a, hi, ha, hb⟩
    · exact .inl hg
    · exact .inr ⟨i, a, hown i a hi ha, ha, hb⟩
  have hent : ∀ a, Ent n ar w a → Ent n (ar.set p { a0 with st := .told e }) w a := fun a ha => ⟨ha.fine, ha.shp, ha.len, nest_mono (fun g hg ho => hg (hO g ho)) ha.nest⟩
  refine ⟨by simpa using h.len, ?_, fun i a hi => ?_, fun i j a c g hi hj h1 h2 h3 h4 => h.dis i j a c g (hown i a hi h1) (hown j c hj h2) h1 h2 h3 h4, fun i a g hi h1 h2 => h.disb i a g (hown i a hi h1) h1 h2, fun i S hS => ?_, h.fb⟩
  · refine List.all_eq_true.2 fun x hx => ?_
    rcases List.mem_or_eq_of_mem_set hx with hx | rfl
    · exact List.all_eq_true.1 h.wf x hx
    · have := List.all_eq_true.1 h.wf a0 (List.mem_of_getElem? hp)
      exact this
  · rcases hold i a hi with ⟨rfl, rfl⟩ | ⟨hne, h1⟩
    · have he := h.ent i a0 hp
      unfold EntOk at he ⊢
      rw [hst] at he
      simp only at he ⊢
      have e1 := hent a0 he.1
      exact ⟨⟨e1.fine, e1.shp, e1.len, e1.nest⟩, he.2.mono fun g hg ho => hg (hO g ho), hwe, hv⟩
    · have he := h.ent i a h1
      unfold EntOk at he ⊢
      cases hcs : a.st with
      | dead => trivial
      | frz => rw [hcs] at he; exact ⟨hent a he.1, he.2.mono fun g hg ho => hg (hO g ho)⟩
      | full => rw [hcs] at he; exact ⟨hent a he.1, he.2.1.mono fun g hg ho => hg (hO g ho), he.2.2⟩
      | told f => rw [hcs] at he; exact ⟨hent a he.1, he.2.1.mono fun g hg ho => hg (hO g ho), he.2.2⟩
      | own => rw [hcs] at he; exact ⟨hent a he.1, he.2⟩
      | view q pre =>
        rw [hcs] at he
        obtain ⟨e1, e2, qa, e3, e4, e5⟩ := he
        refine ⟨hent a e1, e2.mono fun g hg => ?_, qa, ?_, e4, e5⟩
        · rcases hg with hg | hg
          · exact .inl fun ho => hg (hO g ho)
          · exact .inr hg
        · have : q ≠ p := fun h => by subst h; rw [hp] at e3; cases e3; rw [hst] at e4; cases e4
          rw [List.getElem?_set_ne (Ne.symm this)]; exact e3
  · obtain ⟨k1, k2⟩ := h.perm i S hS
    refine ⟨k1, ?_⟩
    cases S with
    | sl mx row => simp only [NestD] at k2 ⊢; exact nest_mono (fun g hg ho => hg (hO g ho)) k2
    | _ => simp only [NestD]
/-- Told as data: where it lies too. -/
def adrS {β : Type} (s : St) (i : Nat) (k : CV → St → T β) : T β := match s.ar[i]? with
  | some a => match a.st with
    | .dead => .fail
    | .told e => k (.k (.nest e)) s
    | _ => toVar { s with ar := frzAr i s.ar } a.row a.ct fun x mx s1 =>
      let b : E := .el (.var s1.bnd.v.length) (.lit 0) 0
      .adr x (k (.k (.nest b)) { s1 with bnd := cat s1.bnd [.d (.sl 1 [.sl mx a.row])], ar := tellAr i b s1.ar })
  | none => .fail
def nestC {β : Type} (s : St) (x : CV) (k : CV → St → T β) : T β := match x with
  | .k (.ar i) => adrS s i k
  | x => k x s
def nestL' {β : Type} : List CV → St → (List CV → St → T β) → T β
  | [], s, k => k [] s
  | x :: l, s, k => nestC s x fun y s1 => nestL' l s1 fun l' s2 => k (y :: l') s2
def isAr : CV → Bool
  | .k (.ar _) => true
  | _ => false
def nestL {β : Type} (l : List CV) (s : St) (k : List CV → St → T β) : T β := if l.any isAr then (if l.all (wfC (sz s)) && wfSt s then nestL' l s k else .fail) else k l s
theorem frzAr_len (p : Nat) (ar : List Ar) : (frzAr p ar).length = ar.length := by
  unfold frzAr
  split
  · split
    · simp
    · split
      · simp
      · rfl
    · simp
    · rfl
  · rfl
/-- The frozen state. -/
theorem Rep.freeze {N : Nat} {w0 : World} {n : Env} {s : St} {a : Act} {w : World} (h : Rep N w0 n s a w) {i : Nat} {x : Ar} (hi : s.ar[i]? = some x) (hd : x.st ≠ .dead) (hnt : ∀ e, x.st ≠ .told e) :
    Rep N w0 n { s with ar := frzAr i s.ar } a w ∧ ∃ y, (frzAr i s.ar)[i]? = some y ∧ y.st = .frz ∧ y.row = x.row ∧ y.ct = x.ct ∧ y.len = x.len := by
  have go : ∀ l, DatOk N n s.bnd l w → Rep N w0 n { s with ar := l } a w := fun l hl => ⟨h.bnd, h.mem, hl, h.below, h.act⟩
  unfold frzAr
  rw [hi]
  simp only
  split
  · rename_i hst
    refine ⟨go _ (h.dat.freeze hi hst), { x with st := .frz }, ?_, rfl, rfl, rfl, rfl⟩
    have hlt := (List.getElem?_eq_some_iff.1 hi).1
    simp [hlt]
  · rename_i q pre hst
    have he := h.dat.ent i x hi
    unfold EntOk at he
    rw [hst] at he
    obtain ⟨e1, e2, qa, e3, e4, e5⟩ := he
    rw [e3]
    simp only
    refine ⟨go _ (h.dat.freeze e3 e4), ?_⟩
    have hne : i ≠ q := fun e => by subst e; rw [hi] at e3; cases e3; rw [hst] at e4; cases e4
    rw [List.getElem?_set_ne (Ne.symm hne), List.getElem?_map, hi]
    refine ⟨_, rfl, ?_, (frzV_ct q x).2.1, (frzV_ct q x).1, (frzV_ct q x).2.2.1⟩
    unfold frzV; rw [hst]; simp
  · rename_i hst
    refine ⟨go _ (h.dat.soften hi hst), { x with st := .frz }, ?_, rfl, rfl, rfl, rfl⟩
    have hlt := (List.getElem?_eq_some_iff.1 hi).1
    simp [hlt]
  · rename_i h1 h2 h3
    refine ⟨go _ h.dat, x, hi, ?_, rfl, rfl, rfl⟩
    show x.st = .frz
    cases hx : x.st with
    | dead => exact absurd hx hd
    | frz => rfl
    | full => exact absurd hx h3
    | told e => exact absurd hx (hnt e)
    | own => exact absurd hx h1
    | view q pre => exact absurd hx (h2 q pre)
structure Nsd (n m : Env) (s s' : St) : Prop where
  ext : Ext n m
  v : m.v = n.v
  b : m.b = n.b
  tmps : s'.tmps = s.tmps
  bs : s'.bs.length = s.bs.length
  r : s.bnd.v.length ≤ s'.bnd.v.length
  ar : s'.ar.length = s.ar.length
theorem Nsd.refl (n : Env) (s : St) : Nsd n n s s := ⟨Ext.refl n, rfl, rfl, rfl, rfl, Nat.le_refl _, rfl⟩
theorem Nsd.trans {n m o : Env} {s t u : St} (h : Nsd n m s t) (k : Nsd m o t u) : Nsd n o s u := ⟨h.ext.trans k.ext, k.v.trans h.v, k.b.trans h.b, k.tmps.trans h.tmps, k.bs.trans h.bs, Nat.le_trans h.r k.r, k.ar.trans h.ar⟩
theorem Nsd.wfC {n m : Env} {s t : St} (h : Nsd n m s t) {x : CV} (hx : wfC (sz s) x = true) : Dx.wfC (sz t) x = true := wfC_mono h.r (by simp [sz, h.bs]) (by simp [sz, h.ar]) x hx
theorem svOf_sv {a : Option Addr} {l c : Nat} {v : Value} (h : svOf v = .slice a l c) : svOf v = svOf (svOf v) := by rw [h]; rfl
theorem adrS_ok {β : Type} {N : Nat} {w0 : World} {C : List Con} {Φ : List DV → β → Prop} {n : Env} {s : St} {a : Act} {w : World} {i : Nat} {k : CV → St → T β} (h : Rep N w0 n s a w) (hw : wfSt s = true) (hd : (adrS s i k).den C Φ n.r) :
    ∃ m y s', Nsd n m s s' ∧ Rep N w0 m s' a w ∧ wfSt s' = true ∧ CV.den m y = CV.den n (.k (.ar i)) ∧ wfC (sz s') y = true ∧ (k y s').den C Φ m.r := by
  unfold adrS at hd
  split at hd
  case h_2 => exact hd.elim
  rename_i x hi
  have key : ∀ (hne : x.st ≠ .dead) (hnt : ∀ e, x.st ≠ .told e), (toVar { s with ar := frzAr i s.ar } x.row x.ct fun e mx s1 => T.adr e (k (.k (.nest (.el (.var s1.bnd.v.length) (.lit 0) 0))) { s1 with bnd := cat s1.bnd [.d (.sl 1 [.sl mx x.row])], ar := tellAr i (.el (.var s1.bnd.v.length) (.lit 0) 0) s1.ar })).den C Φ n.r → ∃ m y s', Nsd n m s s' ∧ Rep N w0 m s' a w ∧ wfSt s' = true ∧ CV.den m y = CV.den n (.k (.ar i)) ∧ wfC (sz s') y = true ∧ (k y s').den C Φ m.r := fun hne hnt hd => by
    obtain ⟨hF, y, y1, y2, y3, y4, y5⟩ := h.freeze hi hne hnt
    have hent := hF.dat.ent i y y1
    unfold EntOk at hent
    rw [y2] at hent
    simp only at hent
    obtain ⟨e1, e2⟩ := hent
    have hwF : wfSt { s with ar := frzAr i s.ar } = true := by
      simp only [wfSt, sz, frzAr_len] at hw ⊢; exact hw
    have hwar := List.all_eq_true.1 hF.dat.wf y (List.mem_of_getElem? y1)
    simp only [wfAr, Bool.and_eq_true, y4] at hwar
    have f1 := e1.fine; have f2 := e1.shp; have f4 := e1.nest
    rw [y3] at f1 f2 f4
    rw [y4] at f2 f4
    obtain ⟨m, e, mx, s1, x1, x2, x3, x4, x5, x6, x7, x8, x9, x10, x11, x12, x13, x14, x15⟩ := toVar_ok hF hwF hd hwar.1 f1 f2 f4
    obtain ⟨ad, cap, v1, v2, v3⟩ := e2
    rw [y4] at v1 v2 v3
    simp only [T.den] at x9
    have x9 := x9 ad cap
    rw [x11] at x9
    have hO : ∀ g, Owned m s1.ar g ↔ Owned n (frzAr i s.ar) g := fun g => by
      unfold Owned Env.sv; rw [x6, x2, x3, x1.f]
    have hdv : DV.sv (.sl ad cap (x.ct.els n.r)) = n.sv i := by rw [v1]; rfl
    have hL : Laid w (fun g => ¬ Owned m s1.ar g) (.sl mx x.row) (.sl ad cap (x.ct.els n.r)) := by
      simp only [Laid, DV.els, hdv, hO]
      rw [y3] at v3
      exact ⟨⟨ad, cap, v1, v2, v3⟩, f4⟩
    have hrow : x.row ≠ [] := f2.1
    have hfine : (Sh.sl mx x.row).fine = true := by
      simp only [Sh.fine, Bool.and_eq_true, Bool.not_eq_true', List.isEmpty_eq_false_iff]
      exact ⟨⟨hrow, f1⟩, Nat.ble_eq_true_of_le x13⟩
    have hsh : HasSh (.sl mx x.row) (.sl ad cap (x.ct.els n.r)) := by
      simp only [HasSh, DV.els]; exact ⟨x12, f2.2⟩
    have hR := x4.letD x5 (d := .sl none 0 [[.sl ad cap (x.ct.els n.r)]]) (S := .sl 1 [.sl mx x.row]) (by
      simp only [HasSh, DV.els, List.length_singleton, Nat.le_refl, true_and, List.mem_singleton, forall_eq, HasShs, and_true]
      simp only [HasSh, DV.els] at hsh
      exact hsh) ⟨_, rfl⟩ (by
      simp only [Sh.fine, Sh.fines, Bool.and_eq_true, Bool.and_true] at hfine ⊢
      exact ⟨⟨rfl, hfine⟩, rfl⟩) (by
      simp only [NestD, DV.els, Nest, List.mem_singleton, forall_eq, LaidL, and_true]
      exact hL)
    have hvl : s1.bnd.v.length = m.r.length := x4.lens.1.symm
    have e9 : ((E.el (.var s1.bnd.v.length) (.lit 0) 0).dat (m.moreZ [.sl none 0 [[.sl ad cap (x.ct.els n.r)]]]).r) = .sl ad cap (x.ct.els n.r) := by
      rw [hvl]
      simp [E.dat, E.den, Env.moreZ, Env.more, DV.cell, DV.els]
    have e10 : (m.moreZ [.sl none 0 [[.sl ad cap (x.ct.els n.r)]]]).sv i = n.sv i := by
      show svOf (m.v.getD i _) = svOf (n.v.getD i _)
      rw [x2]
    have hD := hR.dat.tell (p := i) (a0 := y) (e := .el (.var s1.bnd.v.length) (.lit 0) 0) (by show s1.ar[i]? = some y; rw [x6]; exact y1) y2 (by
      rw [hvl]; simp only [wfE, Env.moreZ, Env.more, List.length_append, List.length_singleton, Bool.and_true]; simp [Nat.blt]) (by rw [e9, e10]; exact hdv)
    have hR2 : Rep N w0 (m.moreZ [.sl none 0 [[.sl ad cap (x.ct.els n.r)]]]) { s1 with bnd := cat s1.bnd [.d (.sl 1 [.sl mx x.row])], ar := tellAr i (.el (.var s1.bnd.v.length) (.lit 0) 0) s1.ar } a w := ⟨hR.bnd, hR.mem, hD, hR.below, hR.act⟩
    have hw2 : wfSt { s1 with bnd := cat s1.bnd [.d (.sl 1 [.sl mx x.row])], ar := tellAr i (.el (.var s1.bnd.v.length) (.lit 0) 0) s1.ar } = true := by
      have := wfSt_cat x5 [.d (.sl 1 [.sl mx x.row])]
      simp only [wfSt, sz, tellAr_len] at this ⊢; exact this
    refine ⟨m.moreZ [.sl none 0 [[.sl ad cap (x.ct.els n.r)]]], _, { s1 with bnd := cat s1.bnd [.d (.sl 1 [.sl mx x.row])], ar := tellAr i (.el (.var s1.bnd.v.length) (.lit 0) 0) s1.ar }, ⟨x1.trans (Ext.more m _ _ (by simp)), x2, x3, x7, ?_, ?_, ?_⟩, hR2, hw2, ?_, ?_, x9⟩
    · have := x4.lens.2
      have h2 := h.lens.2
      rw [x3] at this
      show s1.bs.length = s.bs.length
      omega
    · have : s.bnd.v.length ≤ s1.bnd.v.length := x8
      simp only [cat, List.length_append]; omega
    · show (tellAr _ _ s1.ar).length = s.ar.length
      rw [tellAr_len, x6]; exact frzAr_len i s.ar
    · show DV.sv ((E.el (.var s1.bnd.v.length) (.lit 0) 0).dat _) = svOf (n.v.getD i _)
      rw [e9]; exact hdv
    · simp only [wfC, wfK, wfE, sz, cat, List.length_append, List.length_singleton, Bool.and_true]
      simp [Nat.blt]
  split at hd
  · exact hd.elim
  · rename_i e hst
    have he := h.dat.ent i x hi
    unfold EntOk at he
    rw [hst] at he
    refine ⟨n, _, s, Nsd.refl n s, h, hw, ?_, ?_, hd⟩
    · show (e.dat n.r).sv = n.sv i
      exact he.2.2.2
    · simp only [wfC, wfK, sz, ← h.lens.1]; exact he.2.2.1
  · rename_i hne hnt
    exact key (fun e => hne e) (fun e h => hnt e h) hd
theorem nestC_ok {β : Type} {N : Nat} {w0 : World} {C : List Con} {Φ : List DV → β → Prop} {n : Env} {s : St} {a : Act} {w : World} (x : CV) {k : CV → St → T β} (h : Rep N w0 n s a w) (hw : wfSt s = true) (hx : wfC (sz s) x = true) (hd : (nestC s x k).den C Φ n.r) :
    ∃ m y s', Nsd n m s s' ∧ Rep N w0 m s' a w ∧ wfSt s' = true ∧ CV.den m y = CV.den n x ∧ wfC (sz s') y = true ∧ (k y s').den C Φ m.r := by
  unfold nestC at hd
  split at hd
  · exact adrS_ok h hw hd
  · exact ⟨n, x, s, Nsd.refl n s, h, hw, rfl, hx, hd⟩
theorem nestL'_ok {β : Type} {N : Nat} {w0 : World} {C : List Con} {Φ : List DV → β → Prop} {a : Act} {w : World} : ∀ (l : List CV) {n : Env} {s : St} {k : List CV → St → T β} (h : Rep N w0 n s a w) (hw : wfSt s = true) (hx : l.all (wfC (sz s)) = true) (hd : (nestL' l s k).den C Φ n.r),
    ∃ m l' s', Nsd n m s s' ∧ Rep N w0 m s' a w ∧ wfSt s' = true ∧ l'.map (CV.den m) = l.map (CV.den n) ∧ l'.all (wfC (sz s')) = true ∧ (k l' s').den C Φ m.r
  | [], n, s, k, h, hw, hx, hd => ⟨n, [], s, Nsd.refl n s, h, hw, rfl, rfl, hd⟩
  | x :: l, n, s, k, h, hw, hx, hd => by
    simp only [List.all_cons, Bool.and_eq_true] at hx
    obtain ⟨m1, y, s1, a1, a2, a3, a4, a5, a6⟩ := nestC_ok x h hw hx.1 hd
    obtain ⟨m2, l', s2, b1, b2, b3, b4, b5, b6⟩ := nestL'_ok l a2 a3 (List.all_eq_true.2 fun z hz => a1.wfC (List.all_eq_true.1 hx.2 z hz)) a6
    refine ⟨m2, y :: l', s2, a1.trans b1, b2, b3, ?_, ?_, b6⟩
    · rw [List.map_cons, List.map_cons, b4, wfC_den b1.ext y (by rw [a2.nz]; exact a5), a4, wfCs_den a1.ext l (by rw [h.nz]; exact hx.2)]
    · simp only [List.all_cons, Bool.and_eq_true]; exact ⟨b1.wfC a5, b5⟩
theorem nestL_ok {β : Type} {N : Nat} {w0 : World} {C : List Con} {Φ : List DV → β → Prop} {a : Act} {w : World} (l : List CV) {n : Env} {s : St} {k : List CV → St → T β} (h : Rep N w0 n s a w) (hd : (nestL l s k).den C Φ n.r) :
    ∃ m l' s', Nsd n m s s' ∧ Rep N w0 m s' a w ∧ l'.map (CV.den m) = l.map (CV.den n) ∧ (k l' s').den C Φ m.r := by
  unfold nestL at hd
  split at hd
  · split at hd
    · rename_i hc
      simp only [Bool.and_eq_true] at hc
      obtain ⟨m, l', s', h1, h2, _, h4, _, h6⟩ := nestL'_ok l h hc.2 hc.1 hd
      exact ⟨m, l', s', h1, h2, h4, h6⟩
    · exact hd.elim
  · exact ⟨n, l, s, Nsd.refl n s, h, rfl, hd⟩
def chunkC (z : Nat) : Nat → List CV → List (List CV)
  | 0, _ => []
  | f + 1, l => match l with
    | [] => []
    | l => l.take z :: chunkC z f (l.drop z)
theorem chunkC_flat {z : Nat} (hz : 0 < z) : ∀ (f : Nat) (l : List CV), l.length ≤ f → (chunkC z f l).flatten = l
  | 0, l, h => by
    have : l = [] := List.eq_nil_of_length_eq_zero (by omega)
    subst this; rfl
  | f + 1, [], _ => rfl
  | f + 1, x :: l, h => by
    simp only [chunkC, List.flatten_cons]
    rw [chunkC_flat hz f _ (by rw [List.length_drop]; simp at h ⊢; omega), List.take_append_drop]
/-- Rows that are known. -/
def rowsOf (s : Bnd) (row0 : List Sh) : List (List CV) → Option (List Sh × List (List E))
  | [] => none
  | [r] => match esOf s row0 r with
    | some (es, ss) => if Nat.beq ss.length row0.length then some (ss, [es]) else none
    | none => none
  | r :: l => match esOf s row0 r, rowsOf s row0 l with
    | some (es, ss), some (row, ess) => if Nat.beq ss.length row0.length && Nat.beq row.length row0.length then match joinAt row 0 ss with
      | some row' => some (row', es :: ess)
      | none => none else none
    | _, _ => none
theorem rowsOf_ok {n : Env} {s : Bnd} (hs : BndOk n.r s) {w : World} {Q : Nat → Prop} (hp : PermQ Q n s w) {row0 : List Sh} (hf : Sh.fines row0 = true) : ∀ {l : List (List CV)} {row : List Sh} {ess : List (List E)}, rowsOf s row0 l = some (row, ess) →
    Sh.fines row = true ∧ row.length = row0.length ∧ (∀ e ∈ ess.map (·.map (E.val n.r)), HasShs row e) ∧ flatV row (ess.map (·.map (E.val n.r))) = l.flatten.map (CV.den n) ∧ Nest w Q row (ess.map (·.map (E.val n.r))) ∧ ess.length = l.length
  | [], row, ess, h => by unfold rowsOf at h; cases h
  | [r], row, ess, h => by
    unfold rowsOf at h
    split at h
    · rename_i es ss he
      split at h
      · rename_i hl
        cases h
        obtain ⟨a1, a2, a3, a4⟩ := esOf_ok hs hp he hf
        obtain ⟨b1, b2⟩ := hasL_shs a1
        refine ⟨a3, Nat.eq_of_beq_eq_true hl, ?_, ?_, ?_, rfl⟩
        · intro e he; simp only [List.map_cons, List.map_nil, List.mem_singleton] at he; subst he; exact b1
        · simp only [flatV, List.map_cons, List.map_nil, List.flatMap_cons, List.flatMap_nil, List.append_nil, List.flatten_cons, List.flatten_nil]
          rw [b2, a2]
        · intro e he; simp only [List.map_cons, List.map_nil, List.mem_singleton] at he; subst he; exact laidLL_l a4
      · cases h
    · cases h
  | r :: r2 :: l, row, ess, h => by
    unfold rowsOf at h
    split at h
    · rename_i es ss row1 ess1 he hr
      split at h
      · rename_i hl
        simp only [Bool.and_eq_true] at hl
        split at h
        · rename_i row' hj
          cases h
          obtain ⟨a1, a2, a3, a4⟩ := esOf_ok hs hp he hf
          obtain ⟨b1, b2⟩ := hasL_shs a1
          obtain ⟨c1, c2, c3, c4, c5, c6⟩ := rowsOf_ok hs hp hf hr
          have hll : row1.length = ss.length := by rw [c2, Nat.eq_of_beq_eq_true hl.1]
          obtain ⟨j1, j2⟩ := joinAll_ok hj hll
          obtain ⟨k1, _, k3, k4, _⟩ := joinAt_ok hj
          refine ⟨k3 c1 a3, by rw [joinAt_len hj, c2], ?_, ?_, ?_, by simp [c6]⟩
          · intro e he
            rcases List.mem_cons.1 he with h | h
            · subst h; exact (j1 _ b1).1
            · exact (k1 e (c3 e h)).1
          · have e1 := flatV_join hj c3
            unfold flatV at *
            rw [List.map_cons, List.flatMap_cons, e1, c4, (j1 _ b1).2, b2, a2]
            simp
          · intro e he
            rcases List.mem_cons.1 he with h | h
            · subst h; exact j2 w Q _ (laidLL_l a4)
            · exact k4 w Q e (c5 e h)
        · cases h
      · cases h
    · cases h
/-- A slice that is written out, of data. -/
def buildA (tb : Tb) (s : St) (e : TypeId) (len : Nat) (cs : List CV) : Option (SV × St) :=
  match rowSh tb 20 e with
  | some row0 => match row0 with
    | [] => none
    | x :: l =>
      let row0 := x :: l
      if Sh.fines row0 && (wfSt s && Nat.beq cs.length (len * row0.length)) then
        let done (row : List Sh) (ess : List (List E)) : Option (SV × St) :=
          if Nat.beq ess.length len && ess.all (fun e => e.all (wfE s.bnd.v.length)) then some (.p (.c (.k (.ar s.ar.length))), { s with ar := s.ar ++ [⟨row, .rows ess, .lit len, .own, e⟩] }) else none
        match len with
        | 0 => done (row0.map zeroSh) []
        | _ => match rowsOf s.bnd row0 (chunkC row0.length cs.length cs) with
          | some (row, ess) => done row ess
          | none => none
      else none
  | none => none
theorem fines_zero : ∀ {l : List Sh}, Sh.fines l = true → Sh.fines (l.map zeroSh) = true
  | [], _ => rfl
  | s :: l, h => by
    simp only [Sh.fines, Bool.and_eq_true] at h
    simp only [List.map_cons, Sh.fines, Bool.and_eq_true]
    refine ⟨?_, fines_zero h.2⟩
    cases s <;> first | rfl | skip
    have := h.1
    simp only [Sh.fine, Bool.and_eq_true] at this
    simp only [zeroSh, Sh.fine, Bool.and_eq_true]
    exact ⟨this.1, by first | trivial | rfl⟩
theorem buildA_ok {tb : Tb} {N : Nat} {w0 : World} {n : Env} {s s' : St} {a : Act} {w : World} {e : TypeId} {len : Nat} {cs : List CV} {v : SV} (hN : N ≤ w0.heap.size) (h : Rep N w0 n s a w) (hb : buildA tb s e len cs = some (v, s')) (hlen : len ≤ maxLen) :
    ∃ m, Ext n m ∧ m.r = n.r ∧ v.den m = .slice (some ⟨w.heap.size, 0, none⟩) len len ∧ Rep N w0 m s' a (w.alloc (.cells (cs.map (CV.den n)).toArray e)) := by
  unfold buildA at hb
  split at hb
  case h_2 => cases hb
  rename_i row0' hrow
  split at hb
  case h_1 => cases hb
  rename_i x l hrow
  simp only at hb
  split at hb
  case isFalse => cases hb
  rename_i hc
  simp only [Bool.and_eq_true] at hc
  obtain ⟨hf, hw, hcl⟩ := hc
  have hcl := Nat.eq_of_beq_eq_true hcl
  have hN' : N ≤ w.heap.size := Nat.le_trans hN h.below.size
  have fin : ∀ (row : List Sh) (ess : List (List E)), row ≠ [] → Sh.fines row = true → (∀ e ∈ ess.map (·.map (E.val n.r)), HasShs row e) → flatV row (ess.map (·.map (E.val n.r))) = cs.map (CV.den n) → Nest w (fun g => ¬ Owned n s.ar g) row (ess.map (·.map (E.val n.r))) →
      (if Nat.beq ess.length len && ess.all (fun e => e.all (wfE s.bnd.v.length)) then some (SV.p (.c (.k (.ar s.ar.length))), { s with ar := s.ar ++ [⟨row, .rows ess, .lit len, .own, e⟩] }) else none) = some (v, s') →
      ∃ m, Ext n m ∧ m.r = n.r ∧ v.den m = .slice (some ⟨w.heap.size, 0, none⟩) len len ∧ Rep N w0 m s' a (w.alloc (.cells (cs.map (CV.den n)).toArray e)) := fun row ess h1 h2 h3 h4 h5 h6 => by
    split at h6
    case isFalse => cases h6
    rename_i hc
    simp only [Bool.and_eq_true] at hc
    have hel := Nat.eq_of_beq_eq_true hc.1
    have hwe : ess.all (fun e => e.all (wfE n.r.length)) = true := by rw [h.lens.1]; exact hc.2
    simp only [Option.some.injEq, Prod.mk.injEq] at h6
    obtain ⟨rfl, rfl⟩ := h6
    have hlen1 : n.v.length = s.ar.length := h.dat.len
    have hfl := flatV_len h3
    have hv : svOf (.slice (some ⟨w.heap.size, 0, none⟩) len len) = .slice (some ⟨w.heap.size, 0, none⟩) len len := rfl
    refine ⟨newV n (.slice (some ⟨w.heap.size, 0, none⟩) len len), newV_ext n _, rfl, ?_, ?_⟩
    · show (newV n _).sv s.ar.length = _
      rw [← hlen1, newV_last, hv]
    · refine h.addEnt hw (h.below.alloc hN' _) (fun g hg => Below.heap_alloc _ _ _ hg) (by simp only [wfAr, wfCt, hwe, wfE, Bool.and_self]) (fun g _ hg => by
        simp only [svOf, Value.ownBlock, Option.some.injEq] at hg; omega) (fun ho => ?_)
      unfold EntOk
      simp only
      refine ⟨⟨h2, ⟨h1, h3⟩, ?_, ?_⟩, ?_⟩
      · show (len : Int) = ((ess.map _).length : Nat)
        rw [List.length_map, hel]
      · refine h5.keep h2 h3 fun b hb hlt => ⟨Below.heap_alloc _ _ _ hlt, fun hb' => ?_⟩
        rcases ho b hb' with k | k
        · exact hb k
        · omega
      · show World.ownsRow _ N e row.length ((newV n _).sv s.ar.length) (ess.map _).length (flatV row (ess.map _))
        rw [← hlen1, newV_last, hv, List.length_map, hel]
        have hsz : (cs.map (CV.den n)).toArray.size = len * row.length := by
          rw [h4] at hfl
          simp only [List.length_map] at hfl ⊢
          simp only [List.size_toArray, List.length_map]
          rw [hfl, hel]
        have := World.ownsRow_lit (size := row.length) (e := e) w (cs.map (CV.den n)).toArray len hN' hlen hsz
        rw [show (cs.map (CV.den n)).toArray.toList = flatV row (ess.map (·.map (E.val n.r))) by rw [h4]] at this
        exact this
  split at hb
  · refine fin _ _ (by simp) (fines_zero hf) (fun e he => by simp at he) ?_ (fun e he => by simp at he) hb
    have : cs = [] := List.eq_nil_of_length_eq_zero (by rw [hcl]; simp)
    subst this; rfl
  · split at hb
    case h_2 => cases hb
    rename_i row ess hr
    obtain ⟨a1, a2, a3, a4, a5, a6⟩ := rowsOf_ok h.bnd h.perm hf hr
    rw [chunkC_flat (by simp) _ _ (Nat.le_refl _)] at a4
    refine fin row ess (fun hn => by rw [hn] at a2; simp at a2) a1 a3 a4 a5 hb
/-! Parts of slices. -/
def subSt (s : St) : K → Sta
  | .ar k => match s.ar[k]? with
    | some a => match a.st with
      | .own => .view k 1
      | .view p pre => .view p pre
      | .told _ => .frz
      | .full => .frz
      | st => st
    | none => .dead
  | _ => .frz
/-- What is known of a part's place: 1: the beginning; o + 2: from o on; suf: to the end of what is owned (f tells that the cut goes there); 0: nothing. -/
def cutPre (f : Bool) (l : E) (pre : Nat) : Nat := match l with
  | .lit (.ofNat o) => if Nat.beq pre 1 then (if Nat.beq o 0 then 1 else if Nat.beq (o + 2) suf then 0 else o + 2) else 0
  | _ => if f then suf else 0
def cutSt (f : Bool) (l : E) : Sta → Sta
  | .view p pre => .view p (cutPre f l pre)
  | st => st
theorem cutPre_one {f : Bool} {l : E} {pre : Nat} (h : cutPre f l pre = 1) : l = .lit 0 ∧ pre = 1 := by
  unfold cutPre at h
  split at h
  · split at h
    · rename_i o hp
      split at h
      · rename_i ho
        rw [Nat.eq_of_beq_eq_true ho]
        exact ⟨rfl, Nat.eq_of_beq_eq_true hp⟩
      · split at h
        · cases h
        · omega
    · cases h
  · split at h
    · cases h
    · cases h
theorem cutPre_two {f : Bool} {l : E} {pre o : Nat} (h : cutPre f l pre = o + 2) (hn : cutPre f l pre ≠ suf) : l = .lit (o : Int) ∧ pre = 1 := by
  unfold cutPre at h hn
  split at h
  · split at h
    · rename_i o' hp
      split at h
      · omega
      · split at h
        · omega
        · have : o' = o := by omega
          subst this
          exact ⟨rfl, Nat.eq_of_beq_eq_true hp⟩
    · omega
  · split at h
    · rename_i hf
      simp only [hf, if_true] at hn
      exact absurd rfl hn
    · omega
theorem cutPre_suf {f : Bool} {l : E} {pre : Nat} (h : cutPre f l pre = suf) : f = true := by
  unfold cutPre at h
  split at h
  · split at h
    · split at h
      · cases h
      · rename_i o _ _
        split at h
        · cases h
        · rename_i hb
          rw [h] at hb
          exact absurd (Nat.beq_refl _) hb
    · cases h
  · split at h
    · assumption
    · cases h
def isOwn (s : St) : K → Bool
  | .ar k => match s.ar[k]? with
    | some ⟨_, _, _, .own, _⟩ => true
    | _ => false
  | _ => false
def subTy (s : St) : K → TypeId
  | .ar k => match s.ar[k]? with
    | some a => a.ety
    | none => 0
  | _ => 0
def is0 : E → Bool
  | .lit 0 => true
  | _ => false
/-- What a part of a slice holds. -/
def subCt {β : Type} (s : St) (row : List Sh) (ct : Ct) (R : Nat) (l h : E) (k : Ct → St → T β) : T β :=
  match ct, l, h with
  | .rows r, .lit x, .lit y => k (.rows ((r.take y.toNat).drop x.toNat)) s
  | ct, l, h => toVar s row ct fun e mx s1 => letD s1 .sub [e, .num l, .num h] (.sl mx row) fun v s2 => k (.e (.var v)) s2
def noSl : K → Bool
  | .sl _ _ _ _ => false
  | _ => true
def ixE : Option K → Option (Option E)
  | none => some none
  | some (.int _ e) => some (some e)
  | _ => none
def sliceS (tb : Tb) (s : St) (t : TypeId) (x : K) (lo hi : Option K) : T (SV × St) :=
  match tb.und t with
  | some (.slice e) => match tb.size e, rdOf s [] x, ixE lo, ixE hi with
    | some z, some r, some lo, some hi =>
      let l := lo.getD (.lit 0)
      let h := hi.getD r.len
      if ((Nat.beq r.row.length z && !r.row.isEmpty) && noSl x) && (wfSt s && (wfE s.bnd.v.length l && wfE s.bnd.v.length h)) then
        let R := (h.rng s.bnd).2.toNat
        let go : T (SV × St) := subCt s r.row r.ct R l h fun ct s1 => .ret (.p (.c (.k (.ar s1.ar.length))), { s1 with ar := s1.ar ++ [⟨r.row, ct, mkSub h l, (cutSt (hi.isNone && isOwn s x) l (subSt s x)), subTy s x⟩] })
        let c := mkAnd (mkLe s.bnd (.lit 0) l) (mkAnd (mkLe s.bnd l h) (mkLe s.bnd h r.len))
        if isT c then go else .ite c go .fail
      else .fail
    | _, _, _, _ => .fail
  | _ => .fail
theorem subCt_ok {β : Type} {N : Nat} {w0 : World} {C : List Con} {Φ : List DV → β → Prop} {n : Env} {s : St} {a : Act} {w : World} {v : Value} {r : Rd} {R : Nat} {l h : E} {k : Ct → St → T β} (hr : Rep N w0 n s a w) (hw : wfSt s = true)
    (hd : (subCt s r.row r.ct R l h k).den C Φ n.r) (hx : RdOk n s.ar w v r) (hl : wfE n.r.length l = true) (hh : wfE n.r.length h = true) :
    ∃ m ct s1, Ext n m ∧ m.v = n.v ∧ m.b = n.b ∧ Rep N w0 m s1 a w ∧ wfSt s1 = true ∧ s1.ar = s.ar ∧ (k ct s1).den C Φ m.r ∧ wfCt m.r.length ct = true ∧ ct.els m.r = ((r.ct.els n.r).take (h.den n.r).toNat).drop (l.den n.r).toNat := by
  have general : (toVar s r.row r.ct fun e mx s1 => letD s1 .sub [e, .num l, .num h] (.sl mx r.row) fun v s2 => k (.e (.var v)) s2).den C Φ n.r → ∃ m ct s1, Ext n m ∧ m.v = n.v ∧ m.b = n.b ∧ Rep N w0 m s1 a w ∧ wfSt s1 = true ∧ s1.ar = s.ar ∧ (k ct s1).den C Φ m.r ∧ wfCt m.r.length ct = true ∧ ct.els m.r = ((r.ct.els n.r).take (h.den n.r).toNat).drop (l.den n.r).toNat := fun hd => by
    obtain ⟨m1, e, mx1, s1, a1, a2, a3, a4, a5, a6, a7, a8, a9, a10, a11, a12, a13, a14, a15⟩ := toVar_ok hr hw hd hx.wf.1 hx.fine hx.shp hx.nest
    have el : l.den m1.r = l.den n.r := wfE_den a1.r l hl
    have eh : h.den m1.r = h.den n.r := wfE_den a1.r h hh
    have hcat : (DOp.sub).fn ([e, .num l, .num h].map (E.val m1.r)) = .sl none 0 (((r.ct.els n.r).take (h.den n.r).toNat).drop (l.den n.r).toNat) := by
      have e1 : E.val m1.r e = e.dat m1.r := by simp only [E.val, a14]
      have e2 : E.val m1.r (.num l) = .n (l.den n.r) := by simp only [E.val, E.isD, E.den, el]
      have e3 : E.val m1.r (.num h) = .n (h.den n.r) := by simp only [E.val, E.isD, E.den, eh]
      simp only [List.map_cons, List.map_nil, DOp.fn, e1, e2, e3, a11, DV.int]
    have hmem : ∀ x ∈ ((r.ct.els n.r).take (h.den n.r).toNat).drop (l.den n.r).toNat, x ∈ r.ct.els n.r := fun x hx => List.mem_of_mem_take (List.mem_of_mem_drop hx)
    have hO : ∀ g, Owned m1 s1.ar g ↔ Owned n s.ar g := fun g => by unfold Owned Env.sv; rw [a6, a2, a3, a1.f]
    obtain ⟨m3, c1, c2, c3, c4, c5, c6⟩ := letD_ok a4 a5 a9 hcat (by
      rw [List.length_drop, List.length_take]; omega) a13 hx.shp.1 hx.fine (fun e he => hx.shp.2 e (hmem e he)) (by simp only [hO]; exact fun e he => hx.nest e (hmem e he))
    refine ⟨m3, _, _, a1.trans c1, by rw [c2, a2], by rw [c3, a3], c4, wfSt_cat a5 _, a6, c5, ?_, ?_⟩
    · rw [c4.lens.1]; simp only [wfCt, wfE, cat]; simp [Nat.blt]
    · show ((E.var s1.bnd.v.length).dat m3.r).els = _
      rw [c6]; rfl
  unfold subCt at hd
  split at hd
  · rename_i q x y hq
    refine ⟨n, _, s, Ext.refl n, rfl, rfl, hr, hw, rfl, hd, ?_, ?_⟩
    · have h1 := hx.wf.1
      rw [hq] at h1
      simp only [wfCt] at *
      exact List.all_eq_true.2 fun e he => List.all_eq_true.1 h1 e (List.mem_of_mem_take (List.mem_of_mem_drop he))
    · simp only [Ct.els, hq, E.den, List.map_drop, List.map_take]
  · exact general hd
theorem flatV_drop {row : List Sh} : ∀ {els : List (List DV)} {k : Nat}, (∀ e ∈ els, HasShs row e) → flatV row (els.drop k) = (flatV row els).drop (k * row.length)
  | [], k, _ => by simp [flatV]
  | e :: l, 0, _ => by simp [flatV]
  | e :: l, k + 1, h => by
    have ih := flatV_drop (els := l) (k := k) fun e he => h e (List.mem_cons_of_mem _ he)
    have hlen := rowV_len (h e (List.mem_cons_self ..))
    unfold flatV at *
    rw [List.drop_succ_cons, List.flatMap_cons, ih, Nat.succ_mul, List.drop_append]
    have h1 : (rowV row e).drop (k * row.length + row.length) = [] := List.drop_eq_nil_of_le (by omega)
    rw [h1, hlen, List.nil_append, show k * row.length + row.length - row.length = k * row.length by omega]
/-- The part of a slice lies where the slice lies. -/
theorem LaidAt.sub {w : World} {S : Nat → Prop} {a : Option Addr} {len cap : Nat} {row : List Sh} {els : List (List DV)} (h : LaidAt w S (.slice a len cap) row els) (hs : Shaped row els) {l hh : Nat} (hl : l ≤ hh) (hh' : hh ≤ els.length) :
    LaidAt w S (.slice (if cap = l then a else a.map (·.add (l * row.length))) (hh - l) (cap - l)) row ((els.take hh).drop l) := by
  obtain ⟨a', cap', e, hcap, hc⟩ := h
  simp only [Value.slice.injEq] at e
  obtain ⟨rfl, rfl, rfl⟩ := e
  have hlen : ((els.take hh).drop l).length = hh - l := by rw [List.length_drop, List.length_take]; omega
  refine ⟨_, _, by rw [hlen], by rw [hlen]; omega, fun hne => ?_⟩
  have hpos : 0 < hh - l := by rw [← hlen]; exact List.length_pos_iff.2 hne
  have hene : els ≠ [] := by intro e; rw [e] at hh'; simp at hh'; omega
  obtain ⟨b, o, rfl, hS, hcell⟩ := hc hene
  have hd := flatV_drop (k := l) (els := els.take hh) (row := row) fun e he => hs.2 e (List.mem_of_mem_take he)
  have ht := flatV_take (k := hh) (els := els) (row := row) hs.2
  have key : ∀ j x, (flatV row ((els.take hh).drop l))[j]? = some x → w.cell? ⟨b, o + (l * row.length + j), none⟩ = some x := fun j x hj => by
    rw [hd, List.getElem?_drop, ht, List.getElem?_take] at hj
    split at hj
    · exact hcell _ _ hj
    · cases hj
  split
  · rename_i hcl
    by_cases hl0 : l = 0
    · subst hl0
      refine ⟨b, o, rfl, hS, fun j x hj => ?_⟩
      have := key j x hj
      simpa using this
    · -- no room: the slice is empty
      exfalso
      omega
  · refine ⟨b, o + l * row.length, by simp [addr_plus], hS, fun j x hj => ?_⟩
    have := key j x hj
    rw [Nat.add_assoc]; exact this
end Go.Dx

/- A symbolic executor: parts of slices. -/
namespace Go.Dx
open Go.RowKit
set_option linter.unusedVariables false
set_option linter.unusedSimpArgs false
theorem LaidAt.cut {w : World} {S S' : Nat → Prop} {v : Value} {row : List Sh} {els : List (List DV)} (h : LaidAt w S v row els) (hs : Shaped row els) {a : Option Addr} {len cap L H : Nat} (he : v = .slice a len cap) (hl : L ≤ H) (hh : H ≤ els.length) (hk : ∀ b, S b → b < w.heap.size → S' b) :
    LaidAt w S' (sliced a L H cap row.length) row ((els.take H).drop L) := by
  rw [he] at h
  refine (h.sub hs hl hh).keep ⟨hs.1, fun e he => hs.2 e (List.mem_of_mem_take (List.mem_of_mem_drop he))⟩ fun b hb hlt => ⟨rfl, hk b hb hlt⟩
theorem ixE_ok {n : Env} {x : Option K} {e : Option E} (h : ixE x = some e) : (x = none ∧ e = none) ∨ ∃ k i, x = some (.int k i) ∧ e = some i := by
  unfold ixE at h
  split at h
  · cases h; exact .inl ⟨rfl, rfl⟩
  · rename_i k i; cases h; exact .inr ⟨k, i, rfl, rfl⟩
  · cases h
theorem sliceAt_run {P : Program} {tb : Tb} [TbOk P tb] {w : World} {n : Env} {t e : TypeId} {z : Nat} {a : Option Addr} {len cap : Nat} {lo hi : Option K} {l h : Option E} (hu : tb.und t = some (.slice e)) (hz : tb.size e = some z) (hl : ixE lo = some l) (hh : ixE hi = some h) {L H : Nat}
    (eL : ((l.getD (.lit 0)).den n.r) = L) (eH : (h.map (E.den n.r)).getD (len : Int) = (H : Int)) (h1 : L ≤ H) (h2 : H ≤ len) (h3 : len ≤ cap) :
    (Instr.sliceAt t (.slice a len cap) (lo.map (K.den n)) (hi.map (K.den n)) none).run P w = .ok (sliced a L H cap z) w := by
  have hu' := und_slice (P := P) hu
  have hsz := run_size (P := P) (w := w) hz
  rcases ixE_ok (n := n) hl with ⟨rfl, rfl⟩ | ⟨kl, il, rfl, rfl⟩ <;> rcases ixE_ok (n := n) hh with ⟨rfl, rfl⟩ | ⟨kh, ih, rfl, rfl⟩ <;> simp only [Option.getD_none, Option.getD_some, E.den, Option.map_none, Option.map_some] at eL eH
  · have e1 : L = 0 := by omega
    have e2 : H = len := by omega
    subst e1 e2
    simp [Instr.sliceAt, Instr.slice, run_underlying hu', Instr.sliceBounds, sliced, hsz]
  · have e1 : L = 0 := by omega
    subst e1
    have hb : (Instr.sliceBound (.int kh (H : Int)) cap .sliceAcap).run P w = .ok H w := by rw [run_sliceBound _ _ _ _ _ (by omega) (by omega)]; simp
    simp [Instr.sliceAt, Instr.slice, run_underlying hu', Instr.sliceBounds, sliced, hsz, K.den, eH, hb]
  · have e2 : H = len := by omega
    subst e2
    have hb : (Instr.sliceBound (.int kl (L : Int)) H .sliceB).run P w = .ok L w := by rw [run_sliceBound _ _ _ _ _ (by omega) (by omega)]; simp
    simp [Instr.sliceAt, Instr.slice, run_underlying hu', Instr.sliceBounds, sliced, hsz, K.den, eL, hb]
  · have hb : (Instr.sliceBound (.int kh (H : Int)) cap .sliceAcap).run P w = .ok H w := by rw [run_sliceBound _ _ _ _ _ (by omega) (by omega)]; simp
    have hb2 : (Instr.sliceBound (.int kl (L : Int)) H .sliceB).run P w = .ok L w := by rw [run_sliceBound _ _ _ _ _ (by omega) (by omega)]; simp
    simp [Instr.sliceAt, Instr.slice, run_underlying hu', Instr.sliceBounds, sliced, hsz, K.den, eL, eH, hb, hb2]
/-- Where the slice that is cut lies. -/
def SubP (n : Env) (ar : List Ar) (w : World) (v : Value) (row : List Sh) (els : List (List DV)) (ety : TypeId) : Sta → Prop
  | .frz => LaidAt w (fun g => ¬ Owned n ar g) v row els
  | .view p pre => LaidAt w (fun g => ¬ Owned n ar g ∨ (n.sv p).ownBlock = some g) v row els ∧ ∃ q, ar[p]? = some q ∧ q.st = .own ∧ ((pre = 1 → q.ety = ety ∧ q.row = row ∧ ∃ x m k c, n.sv p = .slice x m c ∧ v = .slice x k c ∧ k ≤ m ∧ els = (q.ct.els n.r).take k) ∧
      (∀ o, pre = o + 2 → pre ≠ suf → q.ety = ety ∧ q.row = row ∧ ∃ x m H c, n.sv p = .slice x m c ∧ o ≤ H ∧ H ≤ m ∧ v = sliced x o H c row.length ∧ els = ((q.ct.els n.r).take H).drop o) ∧
      (pre = suf → q.ety = ety ∧ q.row = row ∧ ∃ x m o c, n.sv p = .slice x m c ∧ o ≤ m ∧ v = sliced x o m c row.length ∧ els = (q.ct.els n.r).drop o))
  | _ => False
theorem SubP.shift {n m : Env} {ar : List Ar} {w : World} {v : Value} {row : List Sh} {els : List (List DV)} {ety : TypeId} {st : Sta} (h : SubP n ar w v row els ety st) (hx : Ext n m) (hv : m.v = n.v) (hb : m.b = n.b) (hw : ar.all (wfAr n.r.length) = true) : SubP m ar w v row els ety st := by
  have e3 : ∀ g, Owned m ar g ↔ Owned n ar g := fun g => by unfold Owned Env.sv; rw [hv, hb, hx.f]
  have e4 : ∀ i, m.sv i = n.sv i := fun i => by unfold Env.sv; rw [hv]
  cases st with
  | frz => simp only [SubP, e3] at *; exact h
  | view p pre =>
    simp only [SubP, e3, e4] at *
    obtain ⟨h1, q, h2, h3, h4⟩ := h
    have hq := List.all_eq_true.1 hw q (List.mem_of_getElem? h2)
    simp only [wfAr, Bool.and_eq_true] at hq
    refine ⟨h1, q, h2, h3, ?_⟩
    rw [wfCt_den hx.r q.ct hq.1]
    exact h4
  | dead => exact h.elim
  | own => exact h.elim
  | full => exact h.elim
  | told e => exact h.elim
theorem subP_ok {N : Nat} {w0 : World} {n : Env} {s : St} {act : Act} {w : World} (h : Rep N w0 n s act w) {x : K} {r : Rd} (hx : ∀ row, rdOf s row x = some r) (hrow : r.row ≠ []) (hns : noSl x = true) : SubP n s.ar w (x.den n) r.row (r.ct.els n.r) (subTy s x) (subSt s x) := by
  have hrd := rdOf_ok h (row := [.bool]) (by simp) rfl (hx _)
  cases x with
  | ar k =>
    have hxk := hx []
    simp only [rdOf] at hxk
    split at hxk
    case h_2 => cases hxk
    rename_i r' ct' len' st' ety' hk'
    split at hxk
    case h_1 => cases hxk
    rename_i hnd
    simp only [Option.some.injEq] at hxk
    subst hxk
    have he := h.dat.ent k _ hk'
    unfold EntOk at he
    cases st' with
    | dead => exact absurd rfl hnd
    | frz => simp only [subSt, hk']; exact he.2
    | full => simp only [subSt, hk']; exact he.2.1
    | told e => simp only [subSt, hk']; exact he.2.1
    | own =>
      simp only [subSt, subTy, hk']
      refine ⟨(own_laid he.2).mono fun b hb => .inr hb, _, hk', rfl, fun _ => ⟨rfl, rfl, ?_⟩, fun o ho => by omega, fun hs => by cases hs⟩
      obtain ⟨a', c', e1, _⟩ := hrd.laid
      have e1 : n.sv k = _ := e1
      exact ⟨a', _, _, c', e1, e1, Nat.le_refl _, (List.take_length).symm⟩
    | view p pre => simp only [subSt, subTy, hk']; exact he.2
  | nils =>
    have hx1 := hx []
    simp only [rdOf, Option.some.injEq] at hx1
    rw [← hx1] at hrow
    exact absurd rfl hrow
  | nest p =>
    have hx1 := hx []
    simp only [rdOf] at hx1
    split at hx1
    · rename_i mx r' hsh
      split at hx1
      · rename_i hc
        simp only [Option.some.injEq] at hx1
        subst hx1
        simp only [Bool.and_eq_true] at hc
        obtain ⟨f1, _, f3⟩ := path_laid h.perm p _ hsh
        show LaidAt w _ ((p.dat n.r).sv) r' ((p.dat n.r).els)
        rcases f3 hc.1 with f3 | f3
        · simp only [Laid] at f3; exact f3.1
        · rw [f3]
          exact ⟨none, 0, rfl, Nat.le_refl _, fun h => absurd rfl h⟩
      · cases hx1
    · cases hx1
  | sl b o l c => cases hns
  | _ => have hx1 := hx []; simp only [rdOf] at hx1; cases hx1
theorem sub_ent {N : Nat} {w0 : World} {n : Env} {s : St} {act : Act} {w : World} (h : Rep N w0 n s act w) {v : Value} {r : Rd} (hrd : RdOk n s.ar w v r) {ety : TypeId} {st0 : Sta} (hsp : SubP n s.ar w v r.row (r.ct.els n.r) ety st0) {a : Option Addr} {len cap L H : Nat} (hv : v = .slice a len cap) (hl : L ≤ H) (hh : H ≤ (r.ct.els n.r).length)
    {l : E} {f : Bool} (hlit : ∀ o : Nat, l = .lit (o : Int) → L = o) (hfu : f = true → ∀ p pre, st0 = .view p pre → ∃ q, s.ar[p]? = some q ∧ q.ety = ety ∧ q.row = r.row ∧ v = n.sv p ∧ q.ct.els n.r = r.ct.els n.r ∧ H = (r.ct.els n.r).length) {ct : Ct} {e : E} (hct : ct.els n.r = ((r.ct.els n.r).take H).drop L) (he : e.den n.r = (H - L : Nat))
    (hO : ∀ g, Owned (newV n (sliced a L H cap r.row.length)) (s.ar ++ [⟨r.row, ct, e, (cutSt f l st0), ety⟩]) g → Owned n s.ar g ∨ w.heap.size ≤ g) :
    EntOk N (newV n (sliced a L H cap r.row.length)) (s.ar ++ [⟨r.row, ct, e, (cutSt f l st0), ety⟩]) w s.ar.length ⟨r.row, ct, e, (cutSt f l st0), ety⟩ := by
  have hst : ∃ st, (cutSt f l st0) = st := ⟨_, rfl⟩
  obtain ⟨st, hst⟩ := hst
  rw [hst] at hO ⊢
  have hlast : (newV n (sliced a L H cap r.row.length)).sv s.ar.length = sliced a L H cap r.row.length := by rw [← h.dat.len, newV_last]; rfl
  have hmem : ∀ x ∈ ((r.ct.els n.r).take H).drop L, x ∈ r.ct.els n.r := fun x hx => List.mem_of_mem_take (List.mem_of_mem_drop hx)
  have hk : ∀ b, ¬ Owned n s.ar b → b < w.heap.size → ¬ Owned (newV n (sliced a L H cap r.row.length)) (s.ar ++ [⟨r.row, ct, e, st, ety⟩]) b := fun b hb hlt hb' => by
    rcases hO b hb' with k | k
    · exact hb k
    · omega
  have hent : Ent (newV n (sliced a L H cap r.row.length)) (s.ar ++ [⟨r.row, ct, e, st, ety⟩]) w ⟨r.row, ct, e, st, ety⟩ := by
    refine ⟨hrd.fine, ?_, ?_, ?_⟩
    · show Shaped r.row (ct.els n.r)
      rw [hct]
      exact ⟨hrd.shp.1, fun y hy => hrd.shp.2 y (hmem y hy)⟩
    · show e.den n.r = (ct.els n.r).length
      rw [hct, he, List.length_drop, List.length_take]
      congr 1; omega
    · show Nest w _ r.row (ct.els n.r)
      rw [hct]
      have : Nest w (fun g => ¬ Owned n s.ar g) r.row (((r.ct.els n.r).take H).drop L) := fun y hy => hrd.nest y (hmem y hy)
      exact this.keep hrd.fine (fun y hy => hrd.shp.2 y (hmem y hy)) fun b hb hlt => ⟨rfl, hk b hb hlt⟩
  cases st0 with
  | dead => exact hsp.elim
  | own => exact hsp.elim
  | full => exact hsp.elim
  | told e => exact hsp.elim
  | frz =>
    have hs : st = .frz := by rw [← hst]; rfl
    subst hs
    unfold EntOk
    simp only
    refine ⟨hent, ?_⟩
    rw [hlast]
    show LaidAt w _ _ r.row (ct.els n.r)
    rw [hct]
    exact LaidAt.cut hsp hrd.shp hv hl hh hk
  | view p pre =>
    obtain ⟨hla, q, q1, q2, q3⟩ := hsp
    have hpl : p < s.ar.length := (List.getElem?_eq_some_iff.1 q1).1
    have hsp : (newV n (sliced a L H cap r.row.length)).sv p = n.sv p := newV_old (by rw [h.dat.len]; exact hpl)
    have hs : st = .view p (cutPre f l pre) := by rw [← hst]; rfl
    subst hs
    unfold EntOk
    simp only
    have hkl : (r.ct.els n.r).length = len := by
      obtain ⟨a', c', e1, _⟩ := hrd.laid
      rw [hv] at e1
      simp only [Value.slice.injEq] at e1
      exact e1.2.1.symm
    refine ⟨hent, ?_, q, by rw [List.getElem?_append_left hpl]; exact q1, q2, fun hp => ?_, fun o ho hns => ?_, fun hs => ?_⟩
    · rw [hlast, hsp]
      show LaidAt w _ _ r.row (ct.els n.r)
      rw [hct]
      refine LaidAt.cut hla hrd.shp hv hl hh fun b hb hlt => ?_
      rcases hb with hb | hb
      · exact .inl (hk b hb hlt)
      · exact .inr hb
    · obtain ⟨hl0, hp1⟩ := cutPre_one hp
      obtain ⟨t1, t2, x', m, kk, c, t3, t4, t5, t6⟩ := q3.1 hp1
      have hL := hlit 0 hl0
      subst hL
      rw [hv] at t4
      simp only [Value.slice.injEq] at t4
      obtain ⟨rfl, rfl, rfl⟩ := t4
      have hx0 : sliced a 0 H cap r.row.length = .slice a H cap := by
        have hq := h.dat.ent p q q1
        unfold EntOk at hq
        rw [q2] at hq
        obtain ⟨_, u2⟩ := hq
        rw [t3] at u2
        have : ∀ (b o : Nat), Addr.add ⟨b, o, none⟩ 0 = ⟨b, o, none⟩ := fun b o => by rw [addr_plus]; rfl
        rcases u2.2 with ⟨hv', h0⟩ | ⟨g, cap', cur, hv', _⟩
        · simp only [Value.slice.injEq] at hv'
          obtain ⟨rfl, _, rfl⟩ := hv'
          simp [sliced]
        · simp only [Value.slice.injEq] at hv'
          obtain ⟨rfl, _, rfl⟩ := hv'
          simp only [sliced, Nat.zero_mul, Option.map_some, this, Nat.sub_zero]
          split <;> rfl
      refine ⟨t1, t2, a, m, H, cap, by rw [hsp]; exact t3, by rw [hlast]; exact hx0, by omega, ?_⟩
      show ct.els n.r = (q.ct.els n.r).take H
      rw [hct, List.drop_zero, t6, List.take_take]
      congr 1
      omega
    · obtain ⟨hl0, hp1⟩ := cutPre_two ho hns
      obtain ⟨t1, t2, x', m, kk, c, t3, t4, t5, t6⟩ := q3.1 hp1
      have hL := hlit o hl0
      subst hL
      rw [hv] at t4
      simp only [Value.slice.injEq] at t4
      obtain ⟨rfl, rfl, rfl⟩ := t4
      refine ⟨t1, t2, a, m, H, cap, by rw [hsp]; exact t3, hl, by omega, by rw [hlast], ?_⟩
      show ct.els n.r = ((q.ct.els n.r).take H).drop L
      rw [hct, t6, List.take_take]
      congr 2
      omega
    · obtain ⟨q', f1, f2, f3, f4, f5, f6⟩ := hfu (cutPre_suf hs) p pre rfl
      rw [q1] at f1
      cases f1
      have hlm : H = len := by omega
      refine ⟨f2, f3, a, len, L, cap, by rw [hsp, ← f4, hv], by omega, by rw [hlast, ← hlm], ?_⟩
      show ct.els n.r = (q.ct.els n.r).drop L
      rw [hct, f5, f6, List.take_length]
theorem sliceS_ok {P : Program} {tb : Tb} [TbOk P tb] {N : Nat} {w0 : World} {C : List Con} {Φ : List DV → SV × St → Prop} {n : Env} {s : St} {a : Act} {w : World} {t : TypeId} {x : K} {lo hi : Option K} (hN : N ≤ w0.heap.size) (h : Rep N w0 n s a w) (hd : (sliceS tb s t x lo hi).den C Φ n.r) :
    ∃ m v s', (Instr.sliceAt t (x.den n) (lo.map (K.den n)) (hi.map (K.den n)) none).run P w = .ok (SV.den m v) w ∧ Ext n m ∧ Rep N w0 m s' a w ∧ Φ m.r (v, s') := by
  unfold sliceS at hd
  split at hd
  case h_2 => exact hd.elim
  rename_i e hu
  split at hd
  case h_2 => exact hd.elim
  rename_i z r l h' hz hr hlo hhi
  simp only at hd
  split at hd
  case isFalse => exact hd.elim
  rename_i hc
  simp only [Bool.and_eq_true, Bool.not_eq_true', List.isEmpty_eq_false_iff] at hc
  obtain ⟨⟨⟨hzr, hrow⟩, hns⟩, hw, hwl, hwh⟩ := hc
  have hzr := Nat.eq_of_beq_eq_true hzr
  have hx' : ∀ row, rdOf s row x = some r := fun row => by
    cases x <;> first | exact hr | skip
    simp only [rdOf, Option.some.injEq] at hr
    rw [← hr] at hrow
    exact absurd rfl hrow
  have hrd := rdOf_ok h (row := [.bool]) (by simp) rfl (hx' _)
  have hwl' : wfE n.r.length (l.getD (.lit 0)) = true := by rw [h.lens.1]; exact hwl
  have hwh' : wfE n.r.length (h'.getD r.len) = true := by rw [h.lens.1]; exact hwh
  have core : (mkAnd (mkLe s.bnd (.lit 0) (l.getD (.lit 0))) (mkAnd (mkLe s.bnd (l.getD (.lit 0)) (h'.getD r.len)) (mkLe s.bnd (h'.getD r.len) r.len))).den n.r = true →
      (subCt s r.row r.ct ((h'.getD r.len).rng s.bnd).2.toNat (l.getD (.lit 0)) (h'.getD r.len) fun ct s1 => .ret (.p (.c (.k (.ar s1.ar.length))), { s1 with ar := s1.ar ++ [⟨r.row, ct, mkSub (h'.getD r.len) (l.getD (.lit 0)), (cutSt (h'.isNone && isOwn s x) (l.getD (.lit 0)) (subSt s x)), subTy s x⟩] }) : T (SV × St)).den C Φ n.r →
      ∃ m v s', (Instr.sliceAt t (x.den n) (lo.map (K.den n)) (hi.map (K.den n)) none).run P w = .ok (SV.den m v) w ∧ Ext n m ∧ Rep N w0 m s' a w ∧ Φ m.r (v, s') := fun hcd hd => by
    rw [mkAnd_den, mkAnd_den, mkLe_den h.bnd, mkLe_den h.bnd, mkLe_den h.bnd] at hcd
    simp only [Bool.and_eq_true, decide_eq_true_eq] at hcd
    obtain ⟨c1, c2, c3⟩ := hcd
    have c1 : 0 ≤ (l.getD (.lit 0)).den n.r := c1
    generalize hl : l.getD (.lit 0) = le at *
    generalize hh : h'.getD r.len = he at *
    generalize hff : (h'.isNone && isOwn s x) = ff at *
    obtain ⟨m, ct, s1, a1, a2, a3, a4, a5, a6, a8, a9, a10⟩ := subCt_ok h hw hd hrd hwl' hwh'
    obtain ⟨b1, b2, b3⟩ := hrd.shift a1 a2 a3
    obtain ⟨ad, cap, hv, hcap, _⟩ := hrd.laid
    have hlen := hrd.len
    have e1 : le.den m.r = le.den n.r := wfE_den a1.r le hwl'
    have e2 : he.den m.r = he.den n.r := wfE_den a1.r he hwh'
    have hH : (he.den n.r).toNat ≤ (r.ct.els n.r).length := by omega
    have hL : (le.den n.r).toNat ≤ (he.den n.r).toNat := by omega
    have hsp := (subP_ok h hx' hrow hns).shift a1 a2 a3 h.dat.wf
    rw [← a6, ← b2] at hsp
    have hent := sub_ent a4 (by rw [a6]; exact b1) hsp hv hL (by rw [b2]; exact hH) (l := le) (fun o h0 => by
      rw [h0]; simp [E.den]) (f := ff) (fun hf p pre hst => by
        rw [← hff, Bool.and_eq_true] at hf
        obtain ⟨g1, g2⟩ := hf
        cases x with
        | ar k =>
          unfold isOwn at g2
          simp only at g2
          split at g2
          · rename_i row0 ct0 len0 ety0 hk
            simp only [subSt, hk, Sta.view.injEq] at hst
            obtain ⟨rfl, rfl⟩ := hst
            have hr0 := hx' []
            simp only [rdOf, hk, Option.some.injEq] at hr0
            subst hr0
            refine ⟨_, by rw [a6]; exact hk, by simp only [subTy, hk], rfl, ?_, rfl, ?_⟩
            · show n.sv k = m.sv k; unfold Env.sv; rw [a2]
            · cases h' with
              | none =>
                simp only [Option.getD_none] at hh
                subst hh
                rw [b2, hlen]; omega
              | some _ => cases g1
          · cases g2
        | _ => cases g2) (ct := ct) (e := mkSub he le) (by rw [a10, b2]) (by rw [mkSub_den, e1, e2]; omega)
    have hwa : wfAr m.r.length ⟨r.row, ct, mkSub he le, (cutSt ff le (subSt s x)), subTy s x⟩ = true := by
      have q1 := wfE_mono a1.r.length_le _ hwl'
      have q2 := wfE_mono a1.r.length_le _ hwh'
      have : wfE m.r.length (mkSub he le) = true := by unfold mkSub; split <;> simp_all [wfE]
      simp only [wfAr, a9, this, Bool.and_self]
    have hne : (cutSt ff le (subSt s x)) ≠ .own := by
      intro hc
      have h0 : subSt s x ≠ .own := by
        unfold subSt
        split
        · split
          · split
            · intro h; cases h
            · intro h; cases h
            · intro h; cases h
            · intro h; cases h
            · rename_i h1 _ _ _; exact h1
          · intro h; cases h
        · intro h; cases h
      unfold cutSt at hc
      split at hc
      · cases hc
      · exact h0 hc
    have hrep := a4.addEnt (a := ⟨r.row, ct, mkSub he le, (cutSt ff le (subSt s x)), subTy s x⟩) (v := sliced ad (le.den n.r).toNat (he.den n.r).toNat cap r.row.length) a5 a4.below (fun g _ => rfl) hwa (fun g hg _ => absurd hg hne) (fun ho => hent ho)
    refine ⟨newV m _, _, _, ?_, a1.trans (newV_ext m _), hrep, a8⟩
    have hvd : SV.den (newV m (sliced ad (le.den n.r).toNat (he.den n.r).toNat cap r.row.length)) (.p (.c (.k (.ar s1.ar.length)))) = sliced ad (le.den n.r).toNat (he.den n.r).toNat cap r.row.length := by
      show (newV m _).sv s1.ar.length = _
      rw [← a4.dat.len, newV_last]; rfl
    rw [hvd, hv]
    have hrun := sliceAt_run (P := P) (w := w) (n := n) (a := ad) (len := (r.ct.els n.r).length) (cap := cap) (L := (le.den n.r).toNat) (H := (he.den n.r).toNat) hu hz hlo hhi (by rw [hl]; omega) (by
      subst hh
      cases h' with
      | none => simp only [Option.map_none, Option.getD_none] at *; omega
      | some i => simp only [Option.map_some, Option.getD_some] at *; omega) hL hH hcap
    rw [hzr]
    exact hrun
  split at hd
  · rename_i ht
    exact core (isT_ok ht _) hd
  · simp only [T.den, B.prop_iff] at hd
    cases hb : (mkAnd (mkLe s.bnd (.lit 0) (l.getD (.lit 0))) (mkAnd (mkLe s.bnd (l.getD (.lit 0)) (h'.getD r.len)) (mkLe s.bnd (h'.getD r.len) r.len))).den n.r with
    | true => exact core hb (hd.1 hb)
    | false => exact (hd.2 (by simp [hb])).elim
/-! A third index: what is cut has no room. -/
theorem LaidAt.tight {w : World} {S : Nat → Prop} {a : Option Addr} {L H cap z : Nat} {row : List Sh} {els : List (List DV)} (h : LaidAt w S (sliced a L H cap z) row els) (hl : L ≤ H) (hc : H ≤ cap) : LaidAt w S (sliced a L H H z) row els ∧ ∃ x l, sliced a L H H z = .slice x l l := by
  obtain ⟨a', c', e, hcap, hcell⟩ := h
  simp only [sliced, Value.slice.injEq] at e
  obtain ⟨e1, e2, e3⟩ := e
  refine ⟨⟨_, _, by rw [← e2]; rfl, by omega, fun hne => ?_⟩, _, _, rfl⟩
  have hpos : 0 < els.length := List.length_pos_iff.2 hne
  obtain ⟨b, o, rfl, hS, hx⟩ := hcell hne
  have q1 : ¬ (cap = L) := by omega
  have q2 : ¬ (H = L) := by omega
  rw [if_neg q1] at e1
  rw [if_neg q2]
  exact ⟨b, o, e1, hS, hx⟩
theorem Rep.frzAr {N : Nat} {w0 : World} {n : Env} {s : St} {a : Act} {w : World} (h : Rep N w0 n s a w) (i : Nat) : Rep N w0 n { s with ar := Dx.frzAr i s.ar } a w := by
  cases hi : s.ar[i]? with
  | none =>
    have : Dx.frzAr i s.ar = s.ar := by unfold Dx.frzAr; rw [hi]
    rw [this]; exact h
  | some x =>
    by_cases hd : x.st = .dead
    · have : Dx.frzAr i s.ar = s.ar := by unfold Dx.frzAr; rw [hi]; simp only [hd]
      rw [this]; exact h
    · by_cases ht : ∃ e, x.st = .told e
      · obtain ⟨e, ht⟩ := ht
        have : Dx.frzAr i s.ar = s.ar := by unfold Dx.frzAr; rw [hi]; simp only [ht]
        rw [this]; exact h
      · exact (h.freeze hi hd fun e he => ht ⟨e, he⟩).1
def frzK3 (x : K) (ar : List Ar) : List Ar := match x with
  | .ar k => frzAr k ar
  | _ => ar
def isFrz : Sta → Bool
  | .frz => true
  | _ => false
def slice3B (tb : Tb) (s : St) (t : TypeId) (x : K) (lo : Option K) (h : E) : T (SV × St) :=
  match tb.und t with
  | some (.slice e) => match tb.size e, rdOf s [] x, ixE lo with
    | some z, some r, some lo =>
      let l := lo.getD (.lit 0)
      if ((Nat.beq r.row.length z && !r.row.isEmpty) && (isFrz (subSt s x) && noSl x)) && (wfSt s && (wfE s.bnd.v.length l && wfE s.bnd.v.length h)) then
        let R := (h.rng s.bnd).2.toNat
        let go : T (SV × St) := subCt s r.row r.ct R l h fun ct s1 => .ret (.p (.c (.k (.ar s1.ar.length))), { s1 with ar := s1.ar ++ [⟨r.row, ct, mkSub h l, .full, 0⟩] })
        let c := mkAnd (mkLe s.bnd (.lit 0) l) (mkAnd (mkLe s.bnd l h) (mkLe s.bnd h r.len))
        if isT c then go else .ite c go .fail
      else .fail
    | _, _, _ => .fail
  | _ => .fail
def slice3S (tb : Tb) (s : St) (t : TypeId) (x : K) (lo : Option K) (h m : K) : T (SV × St) :=
  match h, m with
  | .int _ h, .int _ m => if h.eqb m then slice3B tb { s with ar := frzK3 x s.ar } t x lo h else .fail
  | _, _ => .fail
theorem slice3At_run {P : Program} {tb : Tb} [TbOk P tb] {w : World} {n : Env} {t e : TypeId} {z : Nat} {a : Option Addr} {len cap : Nat} {lo : Option K} {l : Option E} {kh km : IntKind} {h : E} (hu : tb.und t = some (.slice e)) (hz : tb.size e = some z) (hl : ixE lo = some l) {L H : Nat}
    (eL : ((l.getD (.lit 0)).den n.r) = L) (eH : h.den n.r = (H : Int)) (h1 : L ≤ H) (h2 : H ≤ len) (h3 : len ≤ cap) :
    (Instr.sliceAt t (.slice a len cap) (lo.map (K.den n)) (some (K.den n (.int kh h))) (some (K.den n (.int km h)))).run P w = .ok (sliced a L H H z) w := by
  have hu' := und_slice (P := P) hu
  have hsz := run_size (P := P) (w := w) hz
  have hb : (Instr.sliceBound (.int km (H : Int)) cap .slice3Acap).run P w = .ok H w := by rw [run_sliceBound _ _ _ _ _ (by omega) (by omega)]; simp
  have hb1 : (Instr.sliceBound (.int kh (H : Int)) H .slice3B).run P w = .ok H w := by rw [run_sliceBound _ _ _ _ _ (by omega) (by omega)]; simp
  rcases ixE_ok (n := n) hl with ⟨rfl, rfl⟩ | ⟨kl, il, rfl, rfl⟩ <;> simp only [Option.getD_none, Option.getD_some, E.den] at eL
  · have e1 : L = 0 := by omega
    subst e1
    simp [Instr.sliceAt, Instr.slice, run_underlying hu', Instr.sliceBounds, sliced, hsz, K.den, eH, hb, hb1]
  · have hb2 : (Instr.sliceBound (.int kl (L : Int)) H .slice3C).run P w = .ok L w := by rw [run_sliceBound _ _ _ _ _ (by omega) (by omega)]; simp
    simp [Instr.sliceAt, Instr.slice, run_underlying hu', Instr.sliceBounds, sliced, hsz, K.den, eL, eH, hb, hb1, hb2]
theorem slice3B_ok {P : Program} {tb : Tb} [TbOk P tb] {N : Nat} {w0 : World} {C : List Con} {Φ : List DV → SV × St → Prop} {n : Env} {s : St} {a : Act} {w : World} {t : TypeId} {x : K} {lo : Option K} {kh km : IntKind} {hE : E} (hN : N ≤ w0.heap.size) (h : Rep N w0 n s a w) (hd : (slice3B tb s t x lo hE).den C Φ n.r) :
    ∃ m v s', (Instr.sliceAt t (x.den n) (lo.map (K.den n)) (some (K.den n (.int kh hE))) (some (K.den n (.int km hE)))).run P w = .ok (SV.den m v) w ∧ Ext n m ∧ Rep N w0 m s' a w ∧ Φ m.r (v, s') := by
  unfold slice3B at hd
  split at hd
  case h_2 => exact hd.elim
  rename_i e hu
  split at hd
  case h_2 => exact hd.elim
  rename_i z r l hz hr hlo
  simp only at hd
  split at hd
  case isFalse => exact hd.elim
  rename_i hc
  simp only [Bool.and_eq_true, Bool.not_eq_true', List.isEmpty_eq_false_iff] at hc
  obtain ⟨⟨⟨hzr, hrow⟩, hfz, hns⟩, hw, hwl, hwh⟩ := hc
  have hfz : subSt s x = .frz := by
    unfold isFrz at hfz
    split at hfz
    · assumption
    · cases hfz
  have hzr := Nat.eq_of_beq_eq_true hzr
  have hx' : ∀ row, rdOf s row x = some r := fun row => by
    cases x <;> first | exact hr | skip
    simp only [rdOf, Option.some.injEq] at hr
    rw [← hr] at hrow
    exact absurd rfl hrow
  have hrd := rdOf_ok h (row := [.bool]) (by simp) rfl (hx' _)
  have hwl' : wfE n.r.length (l.getD (.lit 0)) = true := by rw [h.lens.1]; exact hwl
  have hwh' : wfE n.r.length hE = true := by rw [h.lens.1]; exact hwh
  have core : (mkAnd (mkLe s.bnd (.lit 0) (l.getD (.lit 0))) (mkAnd (mkLe s.bnd (l.getD (.lit 0)) hE) (mkLe s.bnd hE r.len))).den n.r = true →
      (subCt s r.row r.ct (hE.rng s.bnd).2.toNat (l.getD (.lit 0)) hE fun ct s1 => .ret (.p (.c (.k (.ar s1.ar.length))), { s1 with ar := s1.ar ++ [⟨r.row, ct, mkSub hE (l.getD (.lit 0)), .full, 0⟩] }) : T (SV × St)).den C Φ n.r →
      ∃ m v s', (Instr.sliceAt t (x.den n) (lo.map (K.den n)) (some (K.den n (.int kh hE))) (some (K.den n (.int km hE)))).run P w = .ok (SV.den m v) w ∧ Ext n m ∧ Rep N w0 m s' a w ∧ Φ m.r (v, s') := fun hcd hd => by
    rw [mkAnd_den, mkAnd_den, mkLe_den h.bnd, mkLe_den h.bnd, mkLe_den h.bnd] at hcd
    simp only [Bool.and_eq_true, decide_eq_true_eq] at hcd
    obtain ⟨c1, c2, c3⟩ := hcd
    have c1 : 0 ≤ (l.getD (.lit 0)).den n.r := c1
    generalize hl : l.getD (.lit 0) = le at *
    obtain ⟨m, ct, s1, a1, a2, a3, a4, a5, a6, a8, a9, a10⟩ := subCt_ok h hw hd hrd hwl' hwh'
    obtain ⟨b1, b2, b3⟩ := hrd.shift a1 a2 a3
    obtain ⟨ad, cap, hv, hcap, _⟩ := hrd.laid
    have hlen := hrd.len
    have e1 : le.den m.r = le.den n.r := wfE_den a1.r le hwl'
    have e2 : hE.den m.r = hE.den n.r := wfE_den a1.r hE hwh'
    have hH : (hE.den n.r).toNat ≤ (r.ct.els n.r).length := by omega
    have hL : (le.den n.r).toNat ≤ (hE.den n.r).toNat := by omega
    have hsp := (subP_ok h hx' hrow hns).shift a1 a2 a3 h.dat.wf
    rw [hfz, ← a6, ← b2] at hsp
    have hO1 : ∀ g, Owned m s1.ar g → g < w.heap.size ∨ True := fun g _ => .inr trivial
    have hlast : (newV m (sliced ad (le.den n.r).toNat (hE.den n.r).toNat (hE.den n.r).toNat r.row.length)).sv s1.ar.length = sliced ad (le.den n.r).toNat (hE.den n.r).toNat (hE.den n.r).toNat r.row.length := by rw [← a4.dat.len, newV_last]; rfl
    have hmem : ∀ x ∈ ((r.ct.els n.r).take (hE.den n.r).toNat).drop (le.den n.r).toNat, x ∈ r.ct.els n.r := fun x hx => List.mem_of_mem_take (List.mem_of_mem_drop hx)
    have hwa : wfAr m.r.length ⟨r.row, ct, mkSub hE le, .full, 0⟩ = true := by
      have q1 := wfE_mono a1.r.length_le _ hwl'
      have q2 := wfE_mono a1.r.length_le _ hwh'
      have : wfE m.r.length (mkSub hE le) = true := by unfold mkSub; split <;> simp_all [wfE]
      simp only [wfAr, a9, this, Bool.and_self]
    have hrep := a4.addEnt (a := ⟨r.row, ct, mkSub hE le, .full, 0⟩) (v := sliced ad (le.den n.r).toNat (hE.den n.r).toNat (hE.den n.r).toNat r.row.length) a5 a4.below (fun g _ => rfl) hwa (fun g hg _ => by cases hg) (fun ho => by
      have hk : ∀ b, ¬ Owned m s1.ar b → b < w.heap.size → ¬ Owned (newV m (sliced ad (le.den n.r).toNat (hE.den n.r).toNat (hE.den n.r).toNat r.row.length)) (s1.ar ++ [⟨r.row, ct, mkSub hE le, .full, 0⟩]) b := fun b hb hlt hb' => by
        rcases ho b hb' with k | k
        · exact hb k
        · omega
      have b1' : RdOk m s1.ar w (x.den n) r := by rw [a6]; exact b1
      unfold EntOk
      simp only
      refine ⟨⟨hrd.fine, ?_, ?_, ?_⟩, ?_⟩
      · show Shaped r.row (ct.els m.r)
        rw [a10]
        exact ⟨hrd.shp.1, fun y hy => hrd.shp.2 y (hmem y hy)⟩
      · show (mkSub hE le).den m.r = (ct.els m.r).length
        rw [a10, mkSub_den, e1, e2, List.length_drop, List.length_take]
        omega
      · show Nest w _ r.row (ct.els m.r)
        rw [a10]
        have : Nest w (fun g => ¬ Owned m s1.ar g) r.row (((r.ct.els n.r).take (hE.den n.r).toNat).drop (le.den n.r).toNat) := fun y hy => b1'.nest y (by rw [b2]; exact hmem y hy)
        exact this.keep hrd.fine (fun y hy => hrd.shp.2 y (hmem y hy)) fun b hb hlt => ⟨rfl, hk b hb hlt⟩
      · rw [hlast]
        show LaidAt w _ _ r.row (ct.els m.r) ∧ _
        rw [a10]
        have hsp' : LaidAt w (fun g => ¬ Owned m s1.ar g) (x.den n) r.row (r.ct.els n.r) := by rw [← b2]; exact hsp
        have hcut := LaidAt.cut hsp' hrd.shp hv hL hH hk
        exact hcut.tight hL (by omega))
    refine ⟨newV m _, _, _, ?_, a1.trans (newV_ext m _), hrep, a8⟩
    have hvd : SV.den (newV m (sliced ad (le.den n.r).toNat (hE.den n.r).toNat (hE.den n.r).toNat r.row.length)) (.p (.c (.k (.ar s1.ar.length)))) = sliced ad (le.den n.r).toNat (hE.den n.r).toNat (hE.den n.r).toNat r.row.length := hlast
    rw [hvd, hv]
    have hrun := slice3At_run (P := P) (w := w) (n := n) (kh := kh) (km := km) (a := ad) (len := (r.ct.els n.r).length) (cap := cap) (L := (le.den n.r).toNat) (H := (hE.den n.r).toNat) hu hz hlo (by rw [hl]; omega) (h := hE) (by omega) hL hH hcap
    rw [hzr]
    exact hrun
  split at hd
  · rename_i ht
    exact core (isT_ok ht _) hd
  · simp only [T.den, B.prop_iff] at hd
    cases hb : (mkAnd (mkLe s.bnd (.lit 0) (l.getD (.lit 0))) (mkAnd (mkLe s.bnd (l.getD (.lit 0)) hE) (mkLe s.bnd hE r.len))).den n.r with
    | true => exact core hb (hd.1 hb)
    | false => exact (hd.2 (by simp [hb])).elim
theorem slice3S_ok {P : Program} {tb : Tb} [TbOk P tb] {N : Nat} {w0 : World} {C : List Con} {Φ : List DV → SV × St → Prop} {n : Env} {s : St} {a : Act} {w : World} {t : TypeId} {x : K} {lo : Option K} {h m : K} (hN : N ≤ w0.heap.size) (hr : Rep N w0 n s a w) (hd : (slice3S tb s t x lo h m).den C Φ n.r) :
    ∃ m' v s', (Instr.sliceAt t (x.den n) (lo.map (K.den n)) (some (K.den n h)) (some (K.den n m))).run P w = .ok (SV.den m' v) w ∧ Ext n m' ∧ Rep N w0 m' s' a w ∧ Φ m'.r (v, s') := by
  unfold slice3S at hd
  split at hd
  case h_2 => exact hd.elim
  split at hd
  case isFalse => exact hd.elim
  rename_i he
  obtain rfl := E.eqb_ok he
  refine slice3B_ok hN ?_ hd
  cases x <;> first | exact hr | exact hr.frzAr _
/-! Parts of a slice that is nil. -/
def nil0 : Option K → Bool
  | none => true
  | some (.int _ (.lit 0)) => true
  | _ => false
def isNils : K → Bool
  | .nils => true
  | _ => false
def sliceN (tb : Tb) (s : St) (t : TypeId) (lo hi mx : Option K) (d : T (SV × St)) : T (SV × St) :=
  match tb.und t with
  | some (.slice e) => match tb.size e with
    | some _ => if nil0 lo && (nil0 hi && nil0 mx) then .ret (.p (.c (.k .nils)), s) else d
    | none => d
  | _ => d
theorem nil0_ok {n : Env} {x : Option K} (h : nil0 x = true) : x = none ∨ ∃ k, x.map (K.den n) = some (.int k 0) := by
  unfold nil0 at h
  split at h
  · exact .inl rfl
  · rename_i k; exact .inr ⟨k, rfl⟩
  · cases h
theorem sliceN_run {P : Program} {tb : Tb} [TbOk P tb] {w : World} {n : Env} {t e : TypeId} {z : Nat} {lo hi mx : Option K} (hu : tb.und t = some (.slice e)) (hz : tb.size e = some z) (hl : nil0 lo = true) (hh : nil0 hi = true) (hm : nil0 mx = true) (hmh : mx ≠ none → hi ≠ none) :
    (Instr.sliceAt t (.slice none 0 0) (lo.map (K.den n)) (hi.map (K.den n)) (mx.map (K.den n))).run P w = .ok (.slice none 0 0) w := by
  have hu' := und_slice (P := P) hu
  have hsz := run_size (P := P) (w := w) hz
  have hb : ∀ (k : IntKind) (c : BoundsCode), (Instr.sliceBound (.int k 0) 0 c).run P w = .ok 0 w := fun k c => by rw [run_sliceBound _ _ _ _ _ (by omega) (by omega)]; simp
  rcases nil0_ok (n := n) hl with rfl | ⟨kl, e1⟩ <;> rcases nil0_ok (n := n) hh with rfl | ⟨kh, e2⟩ <;> rcases nil0_ok (n := n) hm with rfl | ⟨km, e3⟩
  all_goals first
    | (exact absurd rfl (hmh (fun h => by rw [h] at e3; cases e3)))
    | (simp [Instr.sliceAt, Instr.slice, run_underlying hu', Instr.sliceBounds, hsz, hb, *])
/-- A part of a slice: of one that is nil, or of any. -/
def sliceA (tb : Tb) (s : St) (t : TypeId) (x : K) (lo hi : Option K) : T (SV × St) := match x with
  | .nils => sliceN tb s t lo hi none (sliceS tb s t x lo hi)
  | _ => sliceS tb s t x lo hi
def slice3A (tb : Tb) (s : St) (t : TypeId) (x : K) (lo : Option K) (h m : K) : T (SV × St) := match x with
  | .nils => sliceN tb s t lo (some h) (some m) (slice3S tb s t x lo h m)
  | _ => slice3S tb s t x lo h m
theorem sliceN_ok {P : Program} {tb : Tb} [TbOk P tb] {N : Nat} {w0 : World} {C : List Con} {Φ : List DV → SV × St → Prop} {n : Env} {s : St} {a : Act} {w : World} {t : TypeId} {lo hi mx : Option K} {d : T (SV × St)} (h : Rep N w0 n s a w) (hmh : mx ≠ none → hi ≠ none) (hd : (sliceN tb s t lo hi mx d).den C Φ n.r)
    (fall : d.den C Φ n.r → ∃ m v s', (Instr.sliceAt t (K.nils.den n) (lo.map (K.den n)) (hi.map (K.den n)) (mx.map (K.den n))).run P w = .ok (SV.den m v) w ∧ Ext n m ∧ Rep N w0 m s' a w ∧ Φ m.r (v, s')) :
    ∃ m v s', (Instr.sliceAt t (K.nils.den n) (lo.map (K.den n)) (hi.map (K.den n)) (mx.map (K.den n))).run P w = .ok (SV.den m v) w ∧ Ext n m ∧ Rep N w0 m s' a w ∧ Φ m.r (v, s') := by
  unfold sliceN at hd
  split at hd
  · rename_i e hu
    split at hd
    · rename_i z hz
      split at hd
      · rename_i hc
        simp only [Bool.and_eq_true] at hc
        exact ⟨n, _, s, sliceN_run hu hz hc.1 hc.2.1 hc.2.2 hmh, Ext.refl n, h, hd⟩
      · exact fall hd
    · exact fall hd
  · exact fall hd
theorem sliceA_ok {P : Program} {tb : Tb} [TbOk P tb] {N : Nat} {w0 : World} {C : List Con} {Φ : List DV → SV × St → Prop} {n : Env} {s : St} {a : Act} {w : World} {t : TypeId} {x : K} {lo hi : Option K} (hN : N ≤ w0.heap.size) (h : Rep N w0 n s a w) (hd : (sliceA tb s t x lo hi).den C Φ n.r) :
    ∃ m v s', (Instr.sliceAt t (x.den n) (lo.map (K.den n)) (hi.map (K.den n)) none).run P w = .ok (SV.den m v) w ∧ Ext n m ∧ Rep N w0 m s' a w ∧ Φ m.r (v, s') := by
  unfold sliceA at hd
  split at hd
  · exact sliceN_ok (mx := none) h (fun h => absurd rfl h) hd fun hd => sliceS_ok hN h hd
  · exact sliceS_ok hN h hd
theorem slice3A_ok {P : Program} {tb : Tb} [TbOk P tb] {N : Nat} {w0 : World} {C : List Con} {Φ : List DV → SV × St → Prop} {n : Env} {s : St} {a : Act} {w : World} {t : TypeId} {x : K} {lo : Option K} {h m : K} (hN : N ≤ w0.heap.size) (hr : Rep N w0 n s a w) (hd : (slice3A tb s t x lo h m).den C Φ n.r) :
    ∃ m' v s', (Instr.sliceAt t (x.den n) (lo.map (K.den n)) (some (K.den n h)) (some (K.den n m))).run P w = .ok (SV.den m' v) w ∧ Ext n m' ∧ Rep N w0 m' s' a w ∧ Φ m'.r (v, s') := by
  unfold slice3A at hd
  split at hd
  · exact sliceN_ok (hi := some h) (mx := some m) hr (fun _ h => by cases h) hd fun hd => slice3S_ok hN hr hd
  · exact slice3S_ok hN hr hd
end Go.Dx

/- A symbolic executor: copies into slices that are owned. -/
namespace Go.Dx
open Go.RowKit
set_option linter.unusedVariables false
set_option linter.unusedSimpArgs false
/-- What an owned slice holds is another thing now. -/
theorem turnCellsG {P : Program} {tb : Tb} [TbOk P tb] {N : Nat} {w0 : World} {n : Env} {s : St} {a : Act} {w w' : World} {k : Nat} {row row' : List Sh} {ct ct' : Ct} {len : E} {ety : TypeId} {els' : List (List DV)}
    (h : Rep N w0 n s a w) (hk : s.ar[k]? = some ⟨row, ct, len, .own, ety⟩) (hBl : Below N w w') (hA : ∀ b, b < w.heap.size → (n.sv k).ownBlock ≠ some b → w'.heap[b]? = w.heap[b]?) (hr' : row' ≠ []) (hrl : row'.length = row.length)
    (hO : w'.ownsRow N ety row.length (n.sv k) (ct.els n.r).length (flatV row' els')) (hwc : wfCt n.r.length ct' = true) (he : ct'.els n.r = els') (hlen : els'.length = (ct.els n.r).length) (hf : Sh.fines row' = true) (hsh : ∀ e ∈ els', HasShs row' e) (hn : Nest w (fun g => ¬ Owned n s.ar g) row' els') :
    Rep N w0 n { s with ar := turnAr k ⟨row', ct', len, .own, ety⟩ s.ar } a w' := by
  have hent := h.dat.ent k _ hk
  unfold EntOk at hent
  simp only at hent
  obtain ⟨e1, e2⟩ := hent
  have hwar := List.all_eq_true.1 h.dat.wf _ (List.mem_of_getElem? hk)
  simp only [wfAr, Bool.and_eq_true] at hwar
  have hEl : (ct'.els n.r).length = (ct.els n.r).length := by rw [he, hlen]
  have hown0 : ∀ b, Owned n (turnAr k ⟨row', ct', len, .own, ety⟩ s.ar ++ []) b ↔ Owned n s.ar b := fun b => by
    rw [List.append_nil]
    have hklt : k < s.ar.length := (List.getElem?_eq_some_iff.1 hk).1
    constructor
    · rintro (hb | ⟨q, c, hq, hc1, hc2⟩)
      · exact .inl hb
      · by_cases e : q = k
        · subst e; exact .inr ⟨q, _, hk, rfl, hc2⟩
        · rw [turn_other e] at hq
          cases hcc : s.ar[q]? with
          | none => rw [hcc] at hq; cases hq
          | some c' => rw [hcc] at hq; cases hq; exact .inr ⟨q, c', hcc, (killV_st hc1).1, hc2⟩
    · rintro (hb | ⟨q, c, hq, hc1, hc2⟩)
      · exact .inl hb
      · by_cases e : q = k
        · subst e; exact .inr ⟨q, _, turn_same hklt, rfl, hc2⟩
        · exact .inr ⟨q, c, by rw [turn_other e, hq]; simp only [Option.map_some, killV_own hc1], hc1, hc2⟩
  refine ⟨h.bnd, ?_, ?_, h.below.trans hBl, h.act⟩
  · refine ⟨h.mem.1, h.mem.2.1, fun i b hi => ?_⟩
    have h1 := h.mem.2.2 i b hi
    refine ⟨h1.1, ?_⟩
    have hlt : i < n.b.length := by rw [h.lens.2]; exact (List.getElem?_eq_some_iff.1 hi).1
    have hmb : n.b.getD i 0 ∈ n.b := by
      rw [List.getD_eq_getElem?_getD, List.getElem?_eq_getElem hlt]
      exact List.getElem_mem hlt
    have hgl : n.b.getD i 0 < w.heap.size := h.mem.lt (by rw [List.getD_eq_getElem?_getD, List.getElem?_eq_getElem hlt]; rfl)
    rw [hA _ hgl fun e => h.dat.disb k _ _ hk rfl e hmb]
    exact h1.2
  · have hd' := DatOk.turn (new := []) (m := n) (w' := w') (bnd' := s.bnd) (x := ⟨row', ct', len, .own, ety⟩) h.dat h.bnd hk rfl (List.prefix_refl _) (List.prefix_refl _) rfl (by rw [List.append_nil, turn_len]; exact h.dat.len) (by simp only [wfAr, hwc, hwar.2, Bool.and_self]) rfl
      (fun b hb hne => hA b hb hne) (fun b hb => .inl ((hown0 b).1 hb)) ?_ (fun i a hi => by simp at hi) (fun i a g hi => by simp at hi) (fun i j a c g hi => by simp at hi) (fun i S hS => .inl ⟨by rw [h.lens.1]; exact (List.getElem?_eq_some_iff.1 hS).1, hS⟩)
    · rw [List.append_nil] at hd'; exact hd'
    · unfold EntOk
      simp only
      refine ⟨⟨hf, ⟨hr', ?_⟩, ?_, ?_⟩, ?_⟩
      · simp only [he]; exact hsh
      · simp only [hEl]; exact e1.len
      · simp only [he]
        have hkeep : ∀ b, ¬ Owned n s.ar b → b < w.heap.size → w'.heap[b]? = w.heap[b]? ∧ ¬ Owned n (turnAr k ⟨row', ct', len, .own, ety⟩ s.ar ++ []) b := fun b hb hs => ⟨hA b hs fun e => hb (.inr ⟨k, _, hk, rfl, e⟩), fun hb' => hb ((hown0 b).1 hb')⟩
        exact Nest.keep hn hf hsh hkeep
      · simp only [he, hlen, hrl]
        exact hO
/-- What an owned slice holds is another thing now. -/
theorem turnCells {P : Program} {tb : Tb} [TbOk P tb] {N : Nat} {w0 : World} {n : Env} {s : St} {a : Act} {w w' : World} {k g L cap : Nat} {row row' : List Sh} {ct ct' : Ct} {len : E} {ety : TypeId} {els' : List (List DV)}
    (h : Rep N w0 n s a w) (hk : s.ar[k]? = some ⟨row, ct, len, .own, ety⟩) (hv : n.sv k = .slice (some ⟨g, 0, none⟩) L cap) (hNg : N ≤ g) (hA : At g w w') (hr' : row' ≠ []) (hrl : row'.length = row.length)
    (hO : w'.ownsRow N ety row.length (n.sv k) (ct.els n.r).length (flatV row' els')) (hwc : wfCt n.r.length ct' = true) (he : ct'.els n.r = els') (hlen : els'.length = (ct.els n.r).length) (hf : Sh.fines row' = true) (hsh : ∀ e ∈ els', HasShs row' e) (hn : Nest w (fun g => ¬ Owned n s.ar g) row' els') :
    Rep N w0 n { s with ar := turnAr k ⟨row', ct', len, .own, ety⟩ s.ar } a w' := by
  refine turnCellsG (tb := tb) (P := P) h hk (hA.below hNg) (fun b _ hne => hA.block b fun e => hne (by rw [hv, e]; rfl)) hr' hrl hO hwc he hlen hf hsh hn
theorem layG_front {α : Type} : ∀ (v l : List α), v.length ≤ l.length → layG l 0 v = v ++ l.drop v.length
  | [], l, _ => by rw [layG_nil]; rfl
  | d :: v, [], h => by simp at h
  | d :: v, x :: l, h => by
    simp only [List.length_cons] at h
    simp only [layG, List.cons_append, List.length_cons, List.drop_succ_cons, layG_front v l (by omega)]
/-- What is there behind a copy. -/
def copyCt {β : Type} (s : St) (row' : List Sh) (x y : Rd) (nn : E) (k : Ct → St → T β) : T β :=
  match x.ct, y.ct, nn with
  | .rows a, .rows b, .lit q => k (.rows (b.take q.toNat ++ a.drop q.toNat)) s
  | a, b, nn => toVar s x.row a fun e mx s1 => toVar s1 y.row b fun f my s2 => letD s2 .sub [f, .num (.lit 0), .num nn] (.sl my y.row) fun g s3 => letD s3 .sub [e, .num nn, .num x.len] (.sl mx x.row) fun i s4 => letD s4 .cat [.var g, .var i] (.sl mx row') fun v s5 => k (.e (.var v)) s5
theorem rows_drop {row : List Sh} {l : List (List DV)} {k : Nat} (h : ∀ e ∈ l, HasShs row e) : ∀ e ∈ l.drop k, HasShs row e := fun e he => h e (List.mem_of_mem_drop he)
theorem rows_take {row : List Sh} {l : List (List DV)} {k : Nat} (h : ∀ e ∈ l, HasShs row e) : ∀ e ∈ l.take k, HasShs row e := fun e he => h e (List.mem_of_mem_take he)
theorem copyCt_ok {β : Type} {N : Nat} {w0 : World} {C : List Con} {Φ : List DV → β → Prop} {n : Env} {s : St} {a : Act} {w : World} {row' : List Sh} {x y : Rd} {vx vy : Value} {nn : E} {q : Nat} {k : Ct → St → T β} (h : Rep N w0 n s a w) (hw : wfSt s = true)
    (hd : (copyCt s row' x y nn k).den C Φ n.r) (hx : RdOk n s.ar w vx x) (hy : RdOk n s.ar w vy y) (hj : joinAt x.row 0 y.row = some row') (hl : x.row.length = y.row.length) (hwn : wfE n.r.length nn = true) (hq : nn.den n.r = (q : Int)) (hqx : q ≤ (x.ct.els n.r).length) (hqy : q ≤ (y.ct.els n.r).length) :
    ∃ m ct s1, Ext n m ∧ m.v = n.v ∧ m.b = n.b ∧ Rep N w0 m s1 a w ∧ wfSt s1 = true ∧ s1.ar = s.ar ∧ s1.tmps = s.tmps ∧ (k ct s1).den C Φ m.r ∧ wfCt m.r.length ct = true ∧ ct.els m.r = (y.ct.els n.r).take q ++ (x.ct.els n.r).drop q := by
  have hf' : Sh.fines row' = true := (joinAt_ok hj).2.2.1 hx.fine hy.fine
  have general : (toVar s x.row x.ct fun e mx s1 => toVar s1 y.row y.ct fun f my s2 => letD s2 .sub [f, .num (.lit 0), .num nn] (.sl my y.row) fun g s3 => letD s3 .sub [e, .num nn, .num x.len] (.sl mx x.row) fun i s4 => letD s4 .cat [.var g, .var i] (.sl mx row') fun v s5 => k (.e (.var v)) s5).den C Φ n.r → ∃ m ct s1, Ext n m ∧ m.v = n.v ∧ m.b = n.b ∧ Rep N w0 m s1 a w ∧ wfSt s1 = true ∧ s1.ar = s.ar ∧ s1.tmps = s.tmps ∧ (k ct s1).den C Φ m.r ∧ wfCt m.r.length ct = true ∧ ct.els m.r = (y.ct.els n.r).take q ++ (x.ct.els n.r).drop q := fun hd => by
    obtain ⟨m1, e, mx, s1, a1, a2, a3, a4, a5, a6, a7, a8, a9, a10, a11, a12, a13, a14, a15⟩ := toVar_ok h hw hd hx.wf.1 hx.fine hx.shp hx.nest
    obtain ⟨y1, y2, y3⟩ := hy.shift a1 a2 a3
    obtain ⟨m2, f, my, s2, b1, b2, b3, b4, b5, b6, b7, b8, b9, b10, b11, b12, b13, b14, b15⟩ := toVar_ok a4 a5 a9 y1.wf.1 y1.fine y1.shp (by rw [a6]; exact y1.nest)
    have hO : ∀ g, Owned m2 s2.ar g ↔ Owned n s.ar g := fun g => by unfold Owned Env.sv; rw [b6, a6, b2, b3, a2, a3, b1.f, a1.f]
    have x2 := a1.trans b1
    have hn2 : nn.den m2.r = (q : Int) := by rw [wfE_den x2.r nn hwn, hq]
    have hf2 : (f.dat m2.r).els = y.ct.els n.r := by rw [b11, y2]
    have g1 : DOp.fn .sub ([f, .num (.lit 0), .num nn].map (E.val m2.r)) = .sl none 0 ((y.ct.els n.r).take q) := by
      have e1 : E.val m2.r f = f.dat m2.r := by simp only [E.val, b14]
      have e2 : E.val m2.r (.num nn) = .n (q : Int) := by simp only [E.val, E.isD, E.den, hn2]
      have e3 : E.val m2.r (.num (.lit 0)) = .n 0 := by simp only [E.val, E.isD, E.den]
      simp only [List.map_cons, List.map_nil, DOp.fn, e1, e2, e3, hf2, DV.int, Int.toNat_natCast, Int.toNat_zero, List.drop_zero]
    obtain ⟨m3, c1, c2, c3, c4, c5, c6⟩ := letD_ok b4 b5 b9 g1 (by rw [List.length_take]; rw [← y2]; omega) b13 hy.shp.1 hy.fine (rows_take hy.shp.2) (by simp only [hO]; exact fun e he => hy.nest e (List.mem_of_mem_take he))
    have x3 := x2.trans c1
    have hn3 : nn.den m3.r = (q : Int) := by rw [wfE_den x3.r nn hwn, hq]
    have hl3 : x.len.den m3.r = (x.ct.els n.r).length := by rw [wfE_den x3.r x.len hx.wf.2, hx.len]
    have he3 : (e.dat m3.r).els = x.ct.els n.r := by rw [wfE_dat (b1.trans c1).r e a10, a11]
    have g2 : DOp.fn .sub ([e, .num nn, .num x.len].map (E.val m3.r)) = .sl none 0 ((x.ct.els n.r).drop q) := by
      have e1 : E.val m3.r e = e.dat m3.r := by simp only [E.val, a14]
      have e2 : E.val m3.r (.num nn) = .n (q : Int) := by simp only [E.val, E.isD, E.den, hn3]
      have e3 : E.val m3.r (.num x.len) = .n ((x.ct.els n.r).length : Int) := by simp only [E.val, E.isD, E.den, hl3]
      simp only [List.map_cons, List.map_nil, DOp.fn, e1, e2, e3, he3, DV.int, Int.toNat_natCast, List.take_length]
    have w3 := wfSt_cat b5 [.d (.sl my y.row)]
    obtain ⟨m4, d1, d2, d3, d4, d5, d6⟩ := letD_ok c4 w3 c5 g2 (by rw [List.length_drop]; omega) a13 hx.shp.1 hx.fine (rows_drop hx.shp.2) (by
      have : ∀ g, Owned m3 s2.ar g ↔ Owned n s.ar g := fun g => by unfold Owned Env.sv; rw [b6, a6, c2, c3, b2, b3, a2, a3, c1.f, b1.f, a1.f]
      simp only [this]; exact fun e he => hx.nest e (List.mem_of_mem_drop he))
    have hg4 : ((E.var s2.bnd.v.length).dat m4.r).els = (y.ct.els n.r).take q := by
      rw [wfE_dat d1.r (.var s2.bnd.v.length) (by rw [c4.lens.1]; simp only [wfE, cat]; simp [Nat.blt]), c6]; rfl
    have g3 : DOp.fn .cat ([E.var s2.bnd.v.length, E.var (cat s2.bnd [.d (.sl my y.row)]).v.length].map (E.val m4.r)) = .sl none 0 ((y.ct.els n.r).take q ++ (x.ct.els n.r).drop q) := by
      have e1 : ∀ v, E.val m4.r (.var v) = (E.var v).dat m4.r := fun v => by simp only [E.val, E.isD]
      simp only [List.map_cons, List.map_nil, DOp.fn, e1, d6]
      rw [hg4]; rfl
    have w4 := wfSt_cat w3 [.d (.sl mx x.row)]
    have hsh : ∀ e ∈ (y.ct.els n.r).take q ++ (x.ct.els n.r).drop q, HasShs row' e := fun e he => by
      rcases List.mem_append.1 he with h | h
      · exact ((joinAll_ok hj hl).1 e (hy.shp.2 e (List.mem_of_mem_take h))).1
      · exact ((joinAt_ok hj).1 e (hx.shp.2 e (List.mem_of_mem_drop h))).1
    have hrow' : row' ≠ [] := fun hn => by
      have := joinAt_len hj
      rw [hn] at this
      exact hx.shp.1 (List.eq_nil_of_length_eq_zero (by simpa using this.symm))
    obtain ⟨m5, f1, f2, f3, f4, f5, f6⟩ := letD_ok d4 w4 d5 g3 (by rw [List.length_append, List.length_take, List.length_drop]; omega) a13 hrow' hf' hsh (by
      have : ∀ g, Owned m4 s2.ar g ↔ Owned n s.ar g := fun g => by unfold Owned Env.sv; rw [b6, a6, d2, d3, c2, c3, b2, b3, a2, a3, d1.f, c1.f, b1.f, a1.f]
      simp only [this]
      intro e he
      rcases List.mem_append.1 he with h | h
      · exact (joinAll_ok hj hl).2 w _ e (hy.nest e (List.mem_of_mem_take h))
      · exact (joinAt_ok hj).2.2.2.1 w _ e (hx.nest e (List.mem_of_mem_drop h)))
    refine ⟨m5, _, _, ((x3.trans d1).trans f1), by rw [f2, d2, c2, b2, a2], by rw [f3, d3, c3, b3, a3], f4, wfSt_cat w4 _, by simp only [b6, a6], by simp only [b7, a7], f5, ?_, ?_⟩
    · rw [f4.lens.1]; simp only [wfCt, wfE, cat]; simp [Nat.blt]
    · show ((E.var _).dat m5.r).els = _
      rw [f6]; rfl
  unfold copyCt at hd
  split at hd
  · rename_i la lb q' ha hb
    have hqq : q'.toNat = q := by
      have : (E.lit q').den n.r = (q : Int) := hq
      simp only [E.den] at this
      omega
    refine ⟨n, _, s, Ext.refl n, rfl, rfl, h, hw, rfl, rfl, hd, ?_, ?_⟩
    · have h1 := hx.wf.1; have h2 := hy.wf.1
      rw [ha] at h1; rw [hb] at h2
      simp only [wfCt] at *
      rw [List.all_append, Bool.and_eq_true]
      exact ⟨List.all_eq_true.2 fun e he => List.all_eq_true.1 h2 e (List.mem_of_mem_take he), List.all_eq_true.2 fun e he => List.all_eq_true.1 h1 e (List.mem_of_mem_drop he)⟩
    · simp only [Ct.els, List.map_append, List.map_take, List.map_drop, ha, hb, hqq]
  · exact general hd
theorem layG_mid {α : Type} : ∀ (k : Nat) (v l : List α), k + v.length ≤ l.length → layG l k v = l.take k ++ (v ++ l.drop (k + v.length))
  | 0, v, l, h => by rw [layG_front v l (by omega), List.take_zero, List.nil_append, Nat.zero_add]
  | k + 1, v, [], h => by simp at h
  | k + 1, v, x :: l, h => by
    simp only [List.length_cons] at h
    simp only [layG, List.take_succ_cons, List.cons_append]
    rw [layG_mid k v l (by omega), show k + 1 + v.length = (k + v.length) + 1 by omega, List.drop_succ_cons]
/-- What is there behind a copy into the middle. -/
def midCt {β : Type} (s : St) (row' : List Sh) (o : Nat) (x y : Rd) (nn : E) (k : Ct → St → T β) : T β :=
  match x.ct, y.ct, nn with
  | .rows a, .rows b, .lit q => k (.rows (a.take o ++ (b.take q.toNat ++ a.drop (o + q.toNat)))) s
  | a, b, nn => toVar s x.row a fun e mx s1 => toVar s1 y.row b fun f my s2 => letD s2 .sub [e, .num (.lit 0), .num (.lit o)] (.sl mx x.row) fun v1 s3 => letD s3 .sub [f, .num (.lit 0), .num nn] (.sl my y.row) fun v2 s4 => letD s4 .sub [e, .num (.add nn (.lit o)), .num x.len] (.sl mx x.row) fun v3 s5 => letD s5 .cat [.var v1, .var v2] (.sl mx row') fun v4 s6 => letD s6 .cat [.var v4, .var v3] (.sl mx row') fun v5 s7 => k (.e (.var v5)) s7
theorem midCt_ok {β : Type} {N : Nat} {w0 : World} {C : List Con} {Φ : List DV → β → Prop} {n : Env} {s : St} {a : Act} {w : World} {row' : List Sh} {x y : Rd} {vx vy : Value} {nn : E} {o q : Nat} {k : Ct → St → T β} (h : Rep N w0 n s a w) (hw : wfSt s = true)
    (hd : (midCt s row' o x y nn k).den C Φ n.r) (hx : RdOk n s.ar w vx x) (hy : RdOk n s.ar w vy y) (hj : joinAt x.row 0 y.row = some row') (hl : x.row.length = y.row.length) (hwn : wfE n.r.length nn = true) (hq : nn.den n.r = (q : Int)) (hqx : o + q ≤ (x.ct.els n.r).length) (hqy : q ≤ (y.ct.els n.r).length) :
    ∃ m ct s1, Ext n m ∧ m.v = n.v ∧ m.b = n.b ∧ Rep N w0 m s1 a w ∧ wfSt s1 = true ∧ s1.ar = s.ar ∧ s1.tmps = s.tmps ∧ (k ct s1).den C Φ m.r ∧ wfCt m.r.length ct = true ∧ ct.els m.r = (x.ct.els n.r).take o ++ ((y.ct.els n.r).take q ++ (x.ct.els n.r).drop (o + q)) := by
  have hf' : Sh.fines row' = true := (joinAt_ok hj).2.2.1 hx.fine hy.fine
  have hrow' : row' ≠ [] := fun hn => by
    have := joinAt_len hj
    rw [hn] at this
    exact hx.shp.1 (List.eq_nil_of_length_eq_zero (by simpa using this.symm))
  have general : (toVar s x.row x.ct fun e mx s1 => toVar s1 y.row y.ct fun f my s2 => letD s2 .sub [e, .num (.lit 0), .num (.lit o)] (.sl mx x.row) fun v1 s3 => letD s3 .sub [f, .num (.lit 0), .num nn] (.sl my y.row) fun v2 s4 => letD s4 .sub [e, .num (.add nn (.lit o)), .num x.len] (.sl mx x.row) fun v3 s5 => letD s5 .cat [.var v1, .var v2] (.sl mx row') fun v4 s6 => letD s6 .cat [.var v4, .var v3] (.sl mx row') fun v5 s7 => k (.e (.var v5)) s7).den C Φ n.r → ∃ m ct s1, Ext n m ∧ m.v = n.v ∧ m.b = n.b ∧ Rep N w0 m s1 a w ∧ wfSt s1 = true ∧ s1.ar = s.ar ∧ s1.tmps = s.tmps ∧ (k ct s1).den C Φ m.r ∧ wfCt m.r.length ct = true ∧ ct.els m.r = (x.ct.els n.r).take o ++ ((y.ct.els n.r).take q ++ (x.ct.els n.r).drop (o + q)) := fun hd => by
    obtain ⟨m1, e, mx, s1, a1, a2, a3, a4, a5, a6, a7, a8, a9, a10, a11, a12, a13, a14, a15⟩ := toVar_ok h hw hd hx.wf.1 hx.fine hx.shp hx.nest
    obtain ⟨y1, y2, y3⟩ := hy.shift a1 a2 a3
    obtain ⟨m2, f, my, s2, b1, b2, b3, b4, b5, b6, b7, b8, b9, b10, b11, b12, b13, b14, b15⟩ := toVar_ok a4 a5 a9 y1.wf.1 y1.fine y1.shp (by rw [a6]; exact y1.nest)
    have x2 := a1.trans b1
    have hO2 : ∀ g, Owned m2 s2.ar g ↔ Owned n s.ar g := fun g => by unfold Owned Env.sv; rw [b6, a6, b2, b3, a2, a3, b1.f, a1.f]
    have he2 : (e.dat m2.r).els = x.ct.els n.r := by rw [wfE_dat b1.r e a10, a11]
    have g0 : DOp.fn .sub ([e, .num (.lit 0), .num (.lit o)].map (E.val m2.r)) = .sl none 0 ((x.ct.els n.r).take o) := by
      have e1 : E.val m2.r e = e.dat m2.r := by simp only [E.val, a14]
      have e2 : E.val m2.r (.num (.lit o)) = .n (o : Int) := by simp only [E.val, E.isD, E.den]
      have e3 : E.val m2.r (.num (.lit 0)) = .n 0 := by simp only [E.val, E.isD, E.den]
      simp only [List.map_cons, List.map_nil, DOp.fn, e1, e2, e3, he2, DV.int, Int.toNat_natCast, Int.toNat_zero, List.drop_zero]
    have lx : (x.ct.els n.r).length ≤ mx := by have := a12; simpa only [a11] using this
    obtain ⟨m3, c1, c2, c3, c4, c5, c6⟩ := letD_ok b4 b5 b9 g0 (by rw [List.length_take]; omega) a13 hx.shp.1 hx.fine (rows_take hx.shp.2) (by simp only [hO2]; exact fun e he => hx.nest e (List.mem_of_mem_take he))
    have x3 := x2.trans c1
    have w3 := wfSt_cat b5 [.d (.sl mx x.row)]
    have hO3 : ∀ g, Owned m3 s2.ar g ↔ Owned n s.ar g := fun g => by unfold Owned Env.sv; rw [b6, a6, c2, c3, b2, b3, a2, a3, c1.f, b1.f, a1.f]
    have hn3 : nn.den m3.r = (q : Int) := by rw [wfE_den x3.r nn hwn, hq]
    have hf3 : (f.dat m3.r).els = y.ct.els n.r := by rw [wfE_dat c1.r f b10, b11, y2]
    have g1 : DOp.fn .sub ([f, .num (.lit 0), .num nn].map (E.val m3.r)) = .sl none 0 ((y.ct.els n.r).take q) := by
      have e1 : E.val m3.r f = f.dat m3.r := by simp only [E.val, b14]
      have e2 : E.val m3.r (.num nn) = .n (q : Int) := by simp only [E.val, E.isD, E.den, hn3]
      have e3 : E.val m3.r (.num (.lit 0)) = .n 0 := by simp only [E.val, E.isD, E.den]
      simp only [List.map_cons, List.map_nil, DOp.fn, e1, e2, e3, hf3, DV.int, Int.toNat_natCast, Int.toNat_zero, List.drop_zero]
    have ly : (y.ct.els n.r).length ≤ my := by have := b12; simpa only [b11, y2] using this
    obtain ⟨m4, d1, d2, d3, d4, d5, d6⟩ := letD_ok c4 w3 c5 g1 (by rw [List.length_take]; omega) b13 hy.shp.1 hy.fine (rows_take hy.shp.2) (by simp only [hO3]; exact fun e he => hy.nest e (List.mem_of_mem_take he))
    have x4 := x3.trans d1
    have w4 := wfSt_cat w3 [.d (.sl my y.row)]
    have hO4 : ∀ g, Owned m4 s2.ar g ↔ Owned n s.ar g := fun g => by unfold Owned Env.sv; rw [b6, a6, d2, d3, c2, c3, b2, b3, a2, a3, d1.f, c1.f, b1.f, a1.f]
    have hn4 : nn.den m4.r = (q : Int) := by rw [wfE_den x4.r nn hwn, hq]
    have hl4 : x.len.den m4.r = (x.ct.els n.r).length := by rw [wfE_den x4.r x.len hx.wf.2, hx.len]
    have he4 : (e.dat m4.r).els = x.ct.els n.r := by rw [wfE_dat ((b1.trans c1).trans d1).r e a10, a11]
    have g2 : DOp.fn .sub ([e, .num (.add nn (.lit o)), .num x.len].map (E.val m4.r)) = .sl none 0 ((x.ct.els n.r).drop (o + q)) := by
      have e1 : E.val m4.r e = e.dat m4.r := by simp only [E.val, a14]
      have e2 : E.val m4.r (.num (.add nn (.lit o))) = .n ((o + q : Nat) : Int) := by simp only [E.val, E.isD, E.den, hn4]; congr 1; omega
      have e3 : E.val m4.r (.num x.len) = .n ((x.ct.els n.r).length : Int) := by simp only [E.val, E.isD, E.den, hl4]
      simp only [List.map_cons, List.map_nil, DOp.fn, e1, e2, e3, he4, DV.int, Int.toNat_natCast, List.take_length]
    obtain ⟨m5, f1, f2, f3, f4, f5, f6⟩ := letD_ok d4 w4 d5 g2 (by rw [List.length_drop]; omega) a13 hx.shp.1 hx.fine (rows_drop hx.shp.2) (by simp only [hO4]; exact fun e he => hx.nest e (List.mem_of_mem_drop he))
    have x5 := x4.trans f1
    have w5 := wfSt_cat w4 [.d (.sl mx x.row)]
    have hO5 : ∀ g, Owned m5 s2.ar g ↔ Owned n s.ar g := fun g => by unfold Owned Env.sv; rw [b6, a6, f2, f3, d2, d3, c2, c3, b2, b3, a2, a3, f1.f, d1.f, c1.f, b1.f, a1.f]
    have v1e : ((E.var s2.bnd.v.length).dat m5.r).els = (x.ct.els n.r).take o := by
      rw [wfE_dat (d1.trans f1).r (.var s2.bnd.v.length) (by rw [c4.lens.1]; simp only [wfE, cat]; simp [Nat.blt]), c6]; rfl
    have v2e : ((E.var (cat s2.bnd [.d (.sl mx x.row)]).v.length).dat m5.r).els = (y.ct.els n.r).take q := by
      rw [wfE_dat f1.r (.var (cat s2.bnd [.d (.sl mx x.row)]).v.length) (by rw [d4.lens.1]; simp only [wfE, cat]; simp [Nat.blt]), d6]; rfl
    have xm : ∀ e ∈ x.ct.els n.r, HasShs row' e := fun e he => ((joinAt_ok hj).1 e (hx.shp.2 e he)).1
    have ym : ∀ e ∈ y.ct.els n.r, HasShs row' e := fun e he => ((joinAll_ok hj hl).1 e (hy.shp.2 e he)).1
    have xn : ∀ e ∈ x.ct.els n.r, LaidL w (fun g => ¬ Owned n s.ar g) row' e := fun e he => (joinAt_ok hj).2.2.2.1 w _ e (hx.nest e he)
    have yn : ∀ e ∈ y.ct.els n.r, LaidL w (fun g => ¬ Owned n s.ar g) row' e := fun e he => (joinAll_ok hj hl).2 w _ e (hy.nest e he)
    have g3 : DOp.fn .cat ([E.var s2.bnd.v.length, E.var (cat s2.bnd [.d (.sl mx x.row)]).v.length].map (E.val m5.r)) = .sl none 0 ((x.ct.els n.r).take o ++ (y.ct.els n.r).take q) := by
      have e1 : ∀ v, E.val m5.r (.var v) = (E.var v).dat m5.r := fun v => by simp only [E.val, E.isD]
      simp only [List.map_cons, List.map_nil, DOp.fn, e1, v1e, v2e]
    obtain ⟨m6, h1, h2, h3, h4, h5, h6⟩ := letD_ok f4 w5 f5 g3 (by rw [List.length_append, List.length_take, List.length_take]; omega) a13 hrow' hf' (fun e he => by
      rcases List.mem_append.1 he with h | h
      · exact xm e (List.mem_of_mem_take h)
      · exact ym e (List.mem_of_mem_take h)) (by
      simp only [hO5]
      intro e he
      rcases List.mem_append.1 he with h | h
      · exact xn e (List.mem_of_mem_take h)
      · exact yn e (List.mem_of_mem_take h))
    have x6 := x5.trans h1
    have w6 := wfSt_cat w5 [.d (.sl mx row')]
    have hO6 : ∀ g, Owned m6 s2.ar g ↔ Owned n s.ar g := fun g => by unfold Owned Env.sv; rw [b6, a6, h2, h3, f2, f3, d2, d3, c2, c3, b2, b3, a2, a3, h1.f, f1.f, d1.f, c1.f, b1.f, a1.f]
    have v3e : ((E.var (cat (cat s2.bnd [.d (.sl mx x.row)]) [.d (.sl my y.row)]).v.length).dat m6.r).els = (x.ct.els n.r).drop (o + q) := by
      rw [wfE_dat h1.r (.var (cat (cat s2.bnd [.d (.sl mx x.row)]) [.d (.sl my y.row)]).v.length) (by rw [f4.lens.1]; simp only [wfE, cat]; simp [Nat.blt]), f6]; rfl
    have g4 : DOp.fn .cat ([E.var (cat (cat (cat s2.bnd [.d (.sl mx x.row)]) [.d (.sl my y.row)]) [.d (.sl mx x.row)]).v.length, E.var (cat (cat s2.bnd [.d (.sl mx x.row)]) [.d (.sl my y.row)]).v.length].map (E.val m6.r)) = .sl none 0 ((x.ct.els n.r).take o ++ ((y.ct.els n.r).take q ++ (x.ct.els n.r).drop (o + q))) := by
      have e1 : ∀ v, E.val m6.r (.var v) = (E.var v).dat m6.r := fun v => by simp only [E.val, E.isD]
      simp only [List.map_cons, List.map_nil, DOp.fn, e1, v3e, h6]
      show DV.sl none 0 (((x.ct.els n.r).take o ++ (y.ct.els n.r).take q) ++ (x.ct.els n.r).drop (o + q)) = _
      rw [List.append_assoc]
    obtain ⟨m7, i1, i2, i3, i4, i5, i6⟩ := letD_ok h4 w6 h5 g4 (by rw [List.length_append, List.length_append, List.length_take, List.length_take, List.length_drop]; omega) a13 hrow' hf' (fun e he => by
      rcases List.mem_append.1 he with h | h
      · exact xm e (List.mem_of_mem_take h)
      · rcases List.mem_append.1 h with h | h
        · exact ym e (List.mem_of_mem_take h)
        · exact xm e (List.mem_of_mem_drop h)) (by
      simp only [hO6]
      intro e he
      rcases List.mem_append.1 he with h | h
      · exact xn e (List.mem_of_mem_take h)
      · rcases List.mem_append.1 h with h | h
        · exact yn e (List.mem_of_mem_take h)
        · exact xn e (List.mem_of_mem_drop h))
    refine ⟨m7, _, _, x6.trans i1, by rw [i2, h2, f2, d2, c2, b2, a2], by rw [i3, h3, f3, d3, c3, b3, a3], i4, wfSt_cat w6 _, by simp only [b6, a6], by simp only [b7, a7], i5, ?_, ?_⟩
    · rw [i4.lens.1]; simp only [wfCt, wfE, cat]; simp [Nat.blt]
    · show ((E.var _).dat m7.r).els = _
      rw [i6]; rfl
  unfold midCt at hd
  split at hd
  · rename_i la lb q' ha hb
    have hqq : q'.toNat = q := by
      have : (E.lit q').den n.r = (q : Int) := hq
      simp only [E.den] at this
      omega
    refine ⟨n, _, s, Ext.refl n, rfl, rfl, h, hw, rfl, rfl, hd, ?_, ?_⟩
    · have h1 := hx.wf.1; have h2 := hy.wf.1
      rw [ha] at h1; rw [hb] at h2
      simp only [wfCt] at *
      rw [List.all_append, List.all_append, Bool.and_eq_true, Bool.and_eq_true]
      exact ⟨List.all_eq_true.2 fun e he => List.all_eq_true.1 h1 e (List.mem_of_mem_take he), List.all_eq_true.2 fun e he => List.all_eq_true.1 h2 e (List.mem_of_mem_take he), List.all_eq_true.2 fun e he => List.all_eq_true.1 h1 e (List.mem_of_mem_drop he)⟩
    · simp only [Ct.els, List.map_append, List.map_take, List.map_drop, ha, hb, hqq]
  · exact general hd
theorem mkMin_wf {r : Nat} {s : Bnd} {a b : E} (ha : wfE r a = true) (hb : wfE r b = true) : wfE r (mkMin s a b) = true := by
  unfold mkMin
  split
  · exact ha
  · split
    · exact hb
    · simp only [wfE, ha, hb, Bool.and_self]
theorem baseK_le {N : Nat} {w0 : World} {n : Env} {s : St} {a : Act} {w : World} (h : Rep N w0 n s a w) {e : TypeId} {row : List Sh} {x : K} {p : Nat} {r : Rd} {q : Ar} (hx : baseK s e row x = some (some p, r)) (hp : s.ar[p]? = some q) : (r.ct.els n.r).length ≤ (q.ct.els n.r).length := by
  unfold baseK at hx
  split at hx
  · cases hx
  · rename_i k
    split at hx
    · rename_i r' ct len st t hk
      split at hx
      · split at hx
        · cases hx
          rw [hk] at hp
          cases hp
          exact Nat.le_refl _
        · cases hx
      · rename_i p'
        split at hx
        · cases hx
          have he := h.dat.ent k _ hk
          unfold EntOk at he
          obtain ⟨_, _, q', e3, _, e5⟩ := he
          obtain ⟨_, _, _, _, _, _, _, _, _, e11⟩ := e5.1 rfl
          rw [e3] at hp
          cases hp
          simp only at e11 ⊢
          rw [e11]
          rw [List.length_take]; exact Nat.min_le_right _ _
        · cases hx
      · cases hx
    · cases hx
  · cases hx
/-- A copy of a slice into an owned one, or into its beginning. -/
def copyA (tb : Tb) (s : St) (t : TypeId) (x y : K) : T (SV × St) :=
  match tb.und t, rdOf s [] y with
  | some (.slice e), some ry => match tb.size e, baseK s e ry.row x with
    | some z, some (some p, rx) => match s.ar[p]? with
      | some ⟨row, ct, len, .own, ety⟩ => match joinAt row 0 ry.row with
        | some row' =>
          if (Nat.beq row.length z && Nat.beq ry.row.length z) && (wfSt s && !ry.row.isEmpty) && isT (mkLe s.bnd (.lit 1) rx.len) then
            copyCt s row' ⟨row, ct, len⟩ ry (mkMin s.bnd rx.len ry.len) fun ct' s1 => .ret (int .i64 (mkMin s.bnd rx.len ry.len), { s1 with ar := turnAr p ⟨row', ct', len, .own, ety⟩ s1.ar })
          else .fail
        | none => .fail
      | _ => .fail
    | _, _ => .fail
  | _, _ => .fail
theorem copyA_ok {P : Program} {tb : Tb} [TbOk P tb] {N : Nat} {w0 : World} {C : List Con} {Φ : List DV → SV × St → Prop} {n : Env} {s : St} {a : Act} {w : World} {t t' ty : TypeId} {x y : K} (h : Rep N w0 n s a w) (hd : (copyA tb s t x y).den C Φ n.r) :
    ∃ m v s' w', (Builtin.copy_ #[t, t'] ty #[x.den n, y.den n]).run P w = .ok (SV.den m v) w' ∧ Ext n m ∧ Rep N w0 m s' a w' ∧ Φ m.r (v, s') := by
  unfold copyA at hd
  split at hd
  case h_2 => exact hd.elim
  rename_i e ry hu hry
  split at hd
  case h_2 => exact hd.elim
  rename_i z p rx hz hbase
  split at hd
  case h_2 => exact hd.elim
  rename_i row ct len ety hk
  split at hd
  case h_2 => exact hd.elim
  rename_i row' hj
  split at hd
  case isFalse => exact hd.elim
  rename_i hc
  simp only [Bool.and_eq_true, Bool.not_eq_true', List.isEmpty_eq_false_iff] at hc
  obtain ⟨⟨⟨c1, c2⟩, hw, c4⟩, c5⟩ := hc
  have c1 := Nat.eq_of_beq_eq_true c1
  have c2 := Nat.eq_of_beq_eq_true c2
  have hyne : y = .nils → ry = ⟨[], .rows [], .lit 0⟩ := fun hy => by subst hy; simp only [rdOf, Option.some.injEq] at hry; exact hry.symm
  have hry' : rdOf s ry.row y = some ry := by
    cases y <;> first | exact hry | (have := hyne rfl; subst this; exact hry)
  have hyf : Sh.fines ry.row = true := by
    by_cases hy : y = .nils
    · have := hyne hy; subst this; exact absurd rfl c4
    · have : ∀ row, rdOf s row y = some ry := fun row => by cases y <;> first | exact hry | exact absurd rfl hy
      exact (rdOf_ok h (row := [.bool]) (by simp) rfl (this _)).fine
  have hy := rdOf_ok h c4 hyf hry'
  obtain ⟨hx, hown, a0, ha0, hst, hob⟩ := baseK_ok h c4 hyf hbase
  rw [hk] at ha0
  cases ha0
  have hl : row.length = ry.row.length := by rw [c1, c2]
  -- what the owned slice is
  have hent := h.dat.ent p _ hk
  unfold EntOk at hent
  simp only at hent
  obtain ⟨e1, e2⟩ := hent
  have hwar := List.all_eq_true.1 h.dat.wf _ (List.mem_of_getElem? hk)
  simp only [wfAr, Bool.and_eq_true] at hwar
  have hlen := e1.len
  simp only at hlen
  have hp : RdOk n s.ar w (n.sv p) ⟨row, ct, len⟩ := rdOf_ok h c4 hyf (x := .ar p) (by simp only [rdOf, hk])
  have hr1 : 1 ≤ rx.len.den n.r := by
    have := isT_ok c5 n.r
    rw [mkLe_den h.bnd] at this
    simpa only [E.den] using of_decide_eq_true this
  have hle : rx.len.den n.r ≤ len.den n.r := by
    have k : (rx.ct.els n.r).length ≤ (ct.els n.r).length := baseK_le h hbase hk
    rw [hx.len, hlen]; omega
  have hpos : 0 < (rx.ct.els n.r).length := by have := hx.len; omega
  obtain ⟨g, cap, hxv, hNg⟩ := ownsRow_some hown hpos
  obtain ⟨g', cap', hpv, _⟩ := ownsRow_some e2 (by have := hx.len; omega)
  obtain rfl : g' = g := by
    rw [hxv, hpv] at hob
    simpa [Value.ownBlock] using hob.symm
  -- how much is copied
  obtain ⟨q, hq⟩ : ∃ q, q = Nat.min (ry.ct.els n.r).length (rx.ct.els n.r).length := ⟨_, rfl⟩
  have hqm : (mkMin s.bnd rx.len ry.len).den n.r = (q : Int) := by
    rw [mkMin_den h.bnd, hx.len, hy.len, hq]
    simp only [Nat.min_def, Int.min_def]
    split <;> split <;> omega
  have hqy : q ≤ (ry.ct.els n.r).length := by rw [hq]; exact Nat.min_le_left _ _
  have hqx0 : q ≤ (rx.ct.els n.r).length := by rw [hq]; exact Nat.min_le_right _ _
  have hqx : q ≤ (ct.els n.r).length := by have := hx.len; omega
  have hwn : wfE n.r.length (mkMin s.bnd rx.len ry.len) = true := mkMin_wf hx.wf.2 hy.wf.2
  obtain ⟨m, ct', s1, a1, a2, a3, a4, a5, a6, a7, a8, a9, a10⟩ := copyCt_ok (x := ⟨row, ct, len⟩) (q := q) h hw hd hp hy hj hl hwn hqm hqx hqy
  -- the store
  have hys := hy.shp.2
  have hv : flatV ry.row ((ry.ct.els n.r).take q) = (flatV ry.row (ry.ct.els n.r)).take (q * ry.row.length) := flatV_take hys
  have hvl : (flatV ry.row ((ry.ct.els n.r).take q)).length = q * ry.row.length := by
    rw [flatV_len (rows_take hys), List.length_take, Nat.min_eq_left hqy]
  have hfl := flatV_len e1.shp.2
  simp only at hfl
  have hfit : q * ry.row.length ≤ (flatV row (ct.els n.r)).length := by
    rw [hfl, hl]; exact Nat.mul_le_mul_right _ hqx
  have e2' := e2
  rw [hpv] at e2'
  obtain ⟨w', hr, hA, hO⟩ := run_storeOwn (P := P) (flatV ry.row ((ry.ct.els n.r).take q)) _ 0 0 w e2' (by rw [hvl]; omega) (flat_of _ _)
  rw [Nat.add_zero, layG_front _ _ (by rw [hvl]; exact hfit), hvl, ← hl, ← flatV_drop (k := q) e1.shp.2] at hO
  obtain ⟨b, capy, hyv, hyc, hycell⟩ := hy.laid
  have hrun : (Builtin.copy_ #[t, t'] ty #[x.den n, y.den n]).run P w = .ok (.int .i64 (q : Int)) w' := by
    rw [hxv, hyv]
    cases b with
    | none =>
      have he : ry.ct.els n.r = [] := Classical.byContradiction fun hne => by obtain ⟨b, o, h, _⟩ := hycell hne; cases h
      have hq0 : q = 0 := by rw [he] at hqy; simpa using hqy
      rw [hq0, List.take_zero] at hr
      simp only [flatV, List.flatMap_nil] at hr
      have hr : (storeCells ⟨g', 0, none⟩ []).run P w = .ok () w' := hr
      simp only [Builtin.copy_, Sem.run_bind, run_slice hu, Result.andThen_ok, Builtin.lenOf, Sem.run_pure, Builtin.firstCells, run_size hz, List.getElem?_toArray, List.getElem?_cons_zero, List.getElem?_cons_succ, hr, ← hq, hq0]
      rfl
    | some ad =>
      have hl := run_loadCells_list (P := P) (w := w) ad (flatV ry.row ((ry.ct.els n.r).take q)) (fun j v hj => by
        rw [hv, List.getElem?_take] at hj
        split at hj
        · have hne : ry.ct.els n.r ≠ [] := by intro e; rw [e] at hj; simp [flatV] at hj
          obtain ⟨b, o, h1, _, h2⟩ := hycell hne
          cases h1
          rw [addr_plus]; exact h2 j v hj
        · cases hj)
      rw [hvl, c2] at hl
      simp only [Builtin.copy_, Sem.run_bind, run_slice hu, Result.andThen_ok, Builtin.lenOf, Sem.run_pure, Builtin.firstCells, run_size hz, List.getElem?_toArray, List.getElem?_cons_zero, List.getElem?_cons_succ, ← hq, hl, hr]
      rfl
  have hsv : m.sv p = n.sv p := by unfold Env.sv; rw [a2]
  have hct : ct.els m.r = ct.els n.r := wfCt_den a1.r ct hwar.1
  have hOw : ∀ g, Owned m s1.ar g ↔ Owned n s.ar g := fun g => by unfold Owned Env.sv; rw [a6, a2, a3, a1.f]
  have hrow' : row' ≠ [] := fun hn => by
    have := joinAt_len hj
    rw [hn] at this
    exact e1.shp.1 (List.eq_nil_of_length_eq_zero (by simpa using this.symm))
  have hf' : Sh.fines row' = true := (joinAt_ok hj).2.2.1 e1.fine hyf
  have hrep := turnCells (P := P) (tb := tb) (ct' := ct') (row' := row') (els' := (ry.ct.els n.r).take q ++ (ct.els n.r).drop q) a4 (by rw [a6]; exact hk) (by rw [hsv]; exact hpv) hNg hA hrow' (joinAt_len hj)
    (by
      rw [hct, hsv, flatV_app, flatV_joinAll hj hl (rows_take hys), flatV_join hj (rows_drop e1.shp.2), hpv]
      exact hO) a9 a10 (by rw [hct, List.length_append, List.length_take, List.length_drop, Nat.min_eq_left hqy]; omega) hf' (fun e he => by
      rcases List.mem_append.1 he with h | h
      · exact ((joinAll_ok hj hl).1 e (hys e (List.mem_of_mem_take h))).1
      · exact ((joinAt_ok hj).1 e (e1.shp.2 e (List.mem_of_mem_drop h))).1) (by
      simp only [hOw]
      intro e he
      rcases List.mem_append.1 he with h | h
      · exact (joinAll_ok hj hl).2 w _ e (hy.nest e (List.mem_of_mem_take h))
      · exact (joinAt_ok hj).2.2.2.1 w _ e (hp.nest e (List.mem_of_mem_drop h)))
  refine ⟨m, _, _, w', ?_, a1, hrep, a8⟩
  rw [hrun]
  simp only [int, SV.den, PV.den, CV.den, K.den, wfE_den a1.r _ hwn, hqm]
/-- A copy of a slice into a part of an owned one. -/
def copyM (tb : Tb) (s : St) (t : TypeId) (x y : K) : T (SV × St) :=
  match x with
  | .ar k => match s.ar[k]? with
    | some ⟨rx, cx, lx, .view p (o + 2), tx⟩ => match tb.und t, rdOf s [] y with
      | some (.slice e), some ry => match tb.size e, s.ar[p]? with
        | some z, some ⟨row, ct, len, .own, ety⟩ => match joinAt row 0 ry.row with
          | some row' =>
            if (Nat.beq row.length z && Nat.beq ry.row.length z) && ((wfSt s && !Nat.beq (o + 2) suf) && !ry.row.isEmpty) && isT (mkLe s.bnd (.lit 1) lx) then
              midCt s row' o ⟨row, ct, len⟩ ry (mkMin s.bnd lx ry.len) fun ct' s1 => .ret (int .i64 (mkMin s.bnd lx ry.len), { s1 with ar := turnAr p ⟨row', ct', len, .own, ety⟩ s1.ar })
            else .fail
          | none => .fail
        | _, _ => .fail
      | _, _ => .fail
    | _ => .fail
  | _ => .fail
theorem copyM_ok {P : Program} {tb : Tb} [TbOk P tb] {N : Nat} {w0 : World} {C : List Con} {Φ : List DV → SV × St → Prop} {n : Env} {s : St} {a : Act} {w : World} {t t' ty : TypeId} {x y : K} (h : Rep N w0 n s a w) (hd : (copyM tb s t x y).den C Φ n.r) :
    ∃ m v s' w', (Builtin.copy_ #[t, t'] ty #[x.den n, y.den n]).run P w = .ok (SV.den m v) w' ∧ Ext n m ∧ Rep N w0 m s' a w' ∧ Φ m.r (v, s') := by
  unfold copyM at hd
  split at hd
  case h_2 => exact hd.elim
  rename_i k
  split at hd
  case h_2 => exact hd.elim
  rename_i rx cx lx p o tx hxk
  split at hd
  case h_2 => exact hd.elim
  rename_i e ry hu hry
  split at hd
  case h_2 => exact hd.elim
  rename_i z row ct len ety hz hk
  split at hd
  case h_2 => exact hd.elim
  rename_i row' hj
  split at hd
  case isFalse => exact hd.elim
  rename_i hc
  simp only [Bool.and_eq_true, Bool.not_eq_true', List.isEmpty_eq_false_iff] at hc
  obtain ⟨⟨⟨c1, c2⟩, ⟨hw, c6⟩, c4⟩, c5⟩ := hc
  have c1 := Nat.eq_of_beq_eq_true c1
  have c2 := Nat.eq_of_beq_eq_true c2
  have hyne : y = .nils → ry = ⟨[], .rows [], .lit 0⟩ := fun hy => by subst hy; simp only [rdOf, Option.some.injEq] at hry; exact hry.symm
  have hry' : rdOf s ry.row y = some ry := by
    cases y <;> first | exact hry | (have := hyne rfl; subst this; exact hry)
  have hyf : Sh.fines ry.row = true := by
    by_cases hy : y = .nils
    · have := hyne hy; subst this; exact absurd rfl c4
    · have : ∀ row, rdOf s row y = some ry := fun row => by cases y <;> first | exact hry | exact absurd rfl hy
      exact (rdOf_ok h (row := [.bool]) (by simp) rfl (this _)).fine
  have hy := rdOf_ok h c4 hyf hry'
  have hl : row.length = ry.row.length := by rw [c1, c2]
  -- the part
  have hv := h.dat.ent k _ hxk
  unfold EntOk at hv
  simp only at hv
  obtain ⟨v1, _, q', v3, v4, _, v6⟩ := hv
  rw [hk] at v3
  cases v3
  obtain ⟨t1, t2, xa, mm, H, cc, t3, t4, t5, t6, t7⟩ := v6.1 o rfl (fun e => by rw [show o + 2 = suf from e, Nat.beq_refl] at c6; cases c6)
  simp only at t1 t2 t7
  subst t1; subst t2
  -- what the owned slice is
  have hent := h.dat.ent p _ hk
  unfold EntOk at hent
  simp only at hent
  obtain ⟨e1, e2⟩ := hent
  have hwar := List.all_eq_true.1 h.dat.wf _ (List.mem_of_getElem? hk)
  have hwax := List.all_eq_true.1 h.dat.wf _ (List.mem_of_getElem? hxk)
  simp only [wfAr, Bool.and_eq_true] at hwar hwax
  have hlen := e1.len
  have hlx := v1.len
  simp only at hlen hlx
  have hp : RdOk n s.ar w (n.sv p) ⟨row, ct, len⟩ := rdOf_ok h c4 hyf (x := .ar p) (by simp only [rdOf, hk])
  have hr1 : 1 ≤ lx.den n.r := by
    have := isT_ok c5 n.r
    rw [mkLe_den h.bnd] at this
    simpa only [E.den] using of_decide_eq_true this
  have hcl : (cx.els n.r).length = H - o ∧ H ≤ (ct.els n.r).length := by
    obtain ⟨_, _, hpl, _⟩ := hp.laid
    rw [t3] at hpl
    simp only [Value.slice.injEq] at hpl
    have hm := hpl.2.1
    rw [t7, List.length_drop, List.length_take]
    omega
  have hpos : 0 < (ct.els n.r).length := by omega
  obtain ⟨g, cap, hpv, hNg⟩ := ownsRow_some e2 hpos
  have hcap : cap = cc ∧ xa = some ⟨g, 0, none⟩ ∧ mm = (ct.els n.r).length := by
    rw [t3] at hpv
    simp only [Value.slice.injEq] at hpv
    exact ⟨hpv.2.2.symm, hpv.1, hpv.2.1⟩
  obtain ⟨rfl, rfl, rfl⟩ := hcap
  have hcm : (ct.els n.r).length ≤ cap := by
    obtain ⟨_, _, hpl, hle, _⟩ := hp.laid
    rw [hpv] at hpl
    simp only [Value.slice.injEq] at hpl
    rw [hpl.2.2]; exact hle
  have hxv : n.sv k = .slice (some ⟨g, o * row.length, none⟩) (H - o) (cap - o) := by
    rw [t6]
    simp only [sliced]
    rw [if_neg (by omega), Option.map_some, addr_plus, Nat.zero_add]
  -- how much is copied
  obtain ⟨q, hq⟩ : ∃ q, q = Nat.min (ry.ct.els n.r).length (cx.els n.r).length := ⟨_, rfl⟩
  have hqm : (mkMin s.bnd lx ry.len).den n.r = (q : Int) := by
    rw [mkMin_den h.bnd, hlx, hy.len, hq]
    simp only [Nat.min_def, Int.min_def]
    split <;> split <;> omega
  have hqy : q ≤ (ry.ct.els n.r).length := by rw [hq]; exact Nat.min_le_left _ _
  have hqx0 : q ≤ (cx.els n.r).length := by rw [hq]; exact Nat.min_le_right _ _
  have hqx : o + q ≤ (ct.els n.r).length := by omega
  have hwn : wfE n.r.length (mkMin s.bnd lx ry.len) = true := mkMin_wf hwax.2 hy.wf.2
  obtain ⟨m, ct', s1, a1, a2, a3, a4, a5, a6, a7, a8, a9, a10⟩ := midCt_ok (x := ⟨row, ct, len⟩) (o := o) (q := q) h hw hd hp hy hj hl hwn hqm hqx hqy
  -- the store
  have hys := hy.shp.2
  have hvv : flatV ry.row ((ry.ct.els n.r).take q) = (flatV ry.row (ry.ct.els n.r)).take (q * ry.row.length) := flatV_take hys
  have hvl : (flatV ry.row ((ry.ct.els n.r).take q)).length = q * ry.row.length := by
    rw [flatV_len (rows_take hys), List.length_take, Nat.min_eq_left hqy]
  have hfl := flatV_len e1.shp.2
  simp only at hfl
  have hfit : o * row.length + q * ry.row.length ≤ (flatV row (ct.els n.r)).length := by
    rw [hfl, ← hl, ← Nat.add_mul]; exact Nat.mul_le_mul_right _ hqx
  have e2' := e2
  rw [hpv] at e2'
  obtain ⟨w', hr, hA, hO⟩ := run_storeOwn (P := P) (flatV ry.row ((ry.ct.els n.r).take q)) _ (o * row.length) 0 w e2' (by rw [hvl]; omega) (flat_of _ _)
  rw [Nat.add_zero, layG_mid _ _ _ (by rw [hvl]; exact hfit), hvl, ← hl, ← Nat.add_mul, ← flatV_drop (k := o + q) e1.shp.2, ← flatV_take (k := o) e1.shp.2] at hO
  obtain ⟨b, capy, hyv, hyc, hycell⟩ := hy.laid
  have hHo : Nat.min (ry.ct.els n.r).length (H - o) = q := by rw [hq, hcl.1]
  have hrun : (Builtin.copy_ #[t, t'] ty #[n.sv k, y.den n]).run P w = .ok (.int .i64 (q : Int)) w' := by
    rw [hxv, hyv]
    cases b with
    | none =>
      have he : ry.ct.els n.r = [] := Classical.byContradiction fun hne => by obtain ⟨b, o, h, _⟩ := hycell hne; cases h
      have hq0 : q = 0 := by rw [he] at hqy; simpa using hqy
      rw [hq0, List.take_zero] at hr
      simp only [flatV, List.flatMap_nil] at hr
      have hr : (storeCells ⟨g, o * row.length, none⟩ []).run P w = .ok () w' := hr
      simp only [Builtin.copy_, Sem.run_bind, run_slice hu, Result.andThen_ok, Builtin.lenOf, Sem.run_pure, Builtin.firstCells, run_size hz, List.getElem?_toArray, List.getElem?_cons_zero, List.getElem?_cons_succ, hr, hHo, hq0]
      rfl
    | some ad =>
      have hl := run_loadCells_list (P := P) (w := w) ad (flatV ry.row ((ry.ct.els n.r).take q)) (fun j v hj => by
        rw [hvv, List.getElem?_take] at hj
        split at hj
        · have hne : ry.ct.els n.r ≠ [] := by intro e; rw [e] at hj; simp [flatV] at hj
          obtain ⟨b, o, h1, _, h2⟩ := hycell hne
          cases h1
          rw [addr_plus]; exact h2 j v hj
        · cases hj)
      rw [hvl, c2] at hl
      simp only [Builtin.copy_, Sem.run_bind, run_slice hu, Result.andThen_ok, Builtin.lenOf, Sem.run_pure, Builtin.firstCells, run_size hz, List.getElem?_toArray, List.getElem?_cons_zero, List.getElem?_cons_succ, hHo, hl, hr]
      rfl
  have hsv : m.sv p = n.sv p := by unfold Env.sv; rw [a2]
  have hct : ct.els m.r = ct.els n.r := wfCt_den a1.r ct hwar.1
  have hOw : ∀ g, Owned m s1.ar g ↔ Owned n s.ar g := fun g => by unfold Owned Env.sv; rw [a6, a2, a3, a1.f]
  have hrow' : row' ≠ [] := fun hn => by
    have := joinAt_len hj
    rw [hn] at this
    exact e1.shp.1 (List.eq_nil_of_length_eq_zero (by simpa using this.symm))
  have hf' : Sh.fines row' = true := (joinAt_ok hj).2.2.1 e1.fine hyf
  have hrep := turnCells (P := P) (tb := tb) (ct' := ct') (row' := row') (els' := (ct.els n.r).take o ++ ((ry.ct.els n.r).take q ++ (ct.els n.r).drop (o + q))) a4 (by rw [a6]; exact hk) (by rw [hsv]; exact hpv) hNg hA hrow' (joinAt_len hj)
    (by
      rw [hct, hsv, flatV_app, flatV_app, flatV_joinAll hj hl (rows_take hys), flatV_join hj (rows_drop e1.shp.2), flatV_join hj (rows_take e1.shp.2), hpv]
      exact hO) a9 a10 (by rw [hct, List.length_append, List.length_append, List.length_take, List.length_take, List.length_drop, Nat.min_eq_left hqy]; omega) hf' (fun e he => by
      rcases List.mem_append.1 he with h | h
      · exact ((joinAt_ok hj).1 e (e1.shp.2 e (List.mem_of_mem_take h))).1
      · rcases List.mem_append.1 h with h | h
        · exact ((joinAll_ok hj hl).1 e (hys e (List.mem_of_mem_take h))).1
        · exact ((joinAt_ok hj).1 e (e1.shp.2 e (List.mem_of_mem_drop h))).1) (by
      simp only [hOw]
      intro e he
      rcases List.mem_append.1 he with h | h
      · exact (joinAt_ok hj).2.2.2.1 w _ e (hp.nest e (List.mem_of_mem_take h))
      · rcases List.mem_append.1 h with h | h
        · exact (joinAll_ok hj hl).2 w _ e (hy.nest e (List.mem_of_mem_take h))
        · exact (joinAt_ok hj).2.2.2.1 w _ e (hp.nest e (List.mem_of_mem_drop h)))
  refine ⟨m, _, _, w', ?_, a1, hrep, a8⟩
  show (Builtin.copy_ #[t, t'] ty #[n.sv k, y.den n]).run P w = _
  rw [hrun]
  simp only [int, SV.den, PV.den, CV.den, K.den, wfE_den a1.r _ hwn, hqm]
/-- A copy into an owned slice, or into a part of one. -/
def copyB (tb : Tb) (s : St) (t : TypeId) (x y : K) : T (SV × St) :=
  match x with
  | .ar k => match s.ar[k]? with
    | some ⟨_, _, _, .view _ (_ + 2), _⟩ => copyM tb s t x y
    | _ => copyA tb s t x y
  | _ => copyA tb s t x y
theorem copyB_ok {P : Program} {tb : Tb} [TbOk P tb] {N : Nat} {w0 : World} {C : List Con} {Φ : List DV → SV × St → Prop} {n : Env} {s : St} {a : Act} {w : World} {t t' ty : TypeId} {x y : K} (h : Rep N w0 n s a w) (hd : (copyB tb s t x y).den C Φ n.r) :
    ∃ m v s' w', (Builtin.copy_ #[t, t'] ty #[x.den n, y.den n]).run P w = .ok (SV.den m v) w' ∧ Ext n m ∧ Rep N w0 m s' a w' ∧ Φ m.r (v, s') := by
  unfold copyB at hd
  split at hd
  · split at hd
    · exact copyM_ok h hd
    · exact copyA_ok h hd
  · exact copyA_ok h hd
/-! The end of an owned slice is cleared. -/
def sufCt {β : Type} (s : St) (row' : List Sh) (x : Rd) (zr : List Sh) (ze : List E) (q : E) (k : Ct → St → T β) : T β :=
  match x.ct, x.len, q with
  | .rows a, .lit m, .lit q => k (.rows (a.take (m - q).toNat ++ rep q.toNat ze)) s
  | ct, len, q => toVar s x.row ct fun e mx s1 => letD s1 .sub [e, .num (.lit 0), .num (.sub len q)] (.sl mx x.row) fun v1 s2 => letD s2 .rep (.num q :: ze) (.sl mx zr) fun v2 s3 => letD s3 .cat [.var v1, .var v2] (.sl mx row') fun v3 s4 => k (.e (.var v3)) s4
theorem sufCt_ok {β : Type} {N : Nat} {w0 : World} {C : List Con} {Φ : List DV → β → Prop} {n : Env} {s : St} {a : Act} {w : World} {row' zr : List Sh} {ze : List E} {x : Rd} {vx : Value} {qE : E} {q : Nat} {k : Ct → St → T β} (h : Rep N w0 n s a w) (hw : wfSt s = true)
    (hd : (sufCt s row' x zr ze qE k).den C Φ n.r) (hx : RdOk n s.ar w vx x) (hj : joinAt x.row 0 zr = some row') (hl : x.row.length = zr.length) (hwn : wfE n.r.length qE = true) (hq : qE.den n.r = (q : Int)) (hqx : q ≤ (x.ct.els n.r).length)
    (hzf : Sh.fines zr = true) (hzs : ∀ r, HasShs zr (ze.map (E.val r))) (hzl : ∀ r w Q, LaidL w Q zr (ze.map (E.val r))) (hzw : ∀ r, ze.all (wfE r) = true) (hzv : ∀ r, ze.map (E.val r) = ze.map (E.val n.r)) :
    ∃ m ct s1, Ext n m ∧ m.v = n.v ∧ m.b = n.b ∧ Rep N w0 m s1 a w ∧ wfSt s1 = true ∧ s1.ar = s.ar ∧ s1.tmps = s.tmps ∧ (k ct s1).den C Φ m.r ∧ wfCt m.r.length ct = true ∧ ct.els m.r = (x.ct.els n.r).take ((x.ct.els n.r).length - q) ++ List.replicate q (ze.map (E.val n.r)) := by
  have hf' : Sh.fines row' = true := (joinAt_ok hj).2.2.1 hx.fine hzf
  have hrow' : row' ≠ [] := fun hn => by
    have := joinAt_len hj
    rw [hn] at this
    exact hx.shp.1 (List.eq_nil_of_length_eq_zero (by simpa using this.symm))
  have hzr : zr ≠ [] := fun hn => by
    rw [hn] at hl
    exact hx.shp.1 (List.eq_nil_of_length_eq_zero (by simpa using hl))
  have general : (toVar s x.row x.ct fun e mx s1 => letD s1 .sub [e, .num (.lit 0), .num (.sub x.len qE)] (.sl mx x.row) fun v1 s2 => letD s2 .rep (.num qE :: ze) (.sl mx zr) fun v2 s3 => letD s3 .cat [.var v1, .var v2] (.sl mx row') fun v3 s4 => k (.e (.var v3)) s4).den C Φ n.r → ∃ m ct s1, Ext n m ∧ m.v = n.v ∧ m.b = n.b ∧ Rep N w0 m s1 a w ∧ wfSt s1 = true ∧ s1.ar = s.ar ∧ s1.tmps = s.tmps ∧ (k ct s1).den C Φ m.r ∧ wfCt m.r.length ct = true ∧ ct.els m.r = (x.ct.els n.r).take ((x.ct.els n.r).length - q) ++ List.replicate q (ze.map (E.val n.r)) := fun hd => by
    obtain ⟨m1, e, mx, s1, a1, a2, a3, a4, a5, a6, a7, a8, a9, a10, a11, a12, a13, a14, a15⟩ := toVar_ok h hw hd hx.wf.1 hx.fine hx.shp hx.nest
    have hO1 : ∀ g, Owned m1 s1.ar g ↔ Owned n s.ar g := fun g => by unfold Owned Env.sv; rw [a6, a2, a3, a1.f]
    have hn1 : qE.den m1.r = (q : Int) := by rw [wfE_den a1.r qE hwn, hq]
    have hl1 : x.len.den m1.r = (x.ct.els n.r).length := by rw [wfE_den a1.r x.len hx.wf.2, hx.len]
    have g1 : DOp.fn .sub ([e, .num (.lit 0), .num (.sub x.len qE)].map (E.val m1.r)) = .sl none 0 ((x.ct.els n.r).take ((x.ct.els n.r).length - q)) := by
      have e1 : E.val m1.r e = e.dat m1.r := by simp only [E.val, a14]
      have e2 : E.val m1.r (.num (.sub x.len qE)) = .n (((x.ct.els n.r).length - q : Nat) : Int) := by
        simp only [E.val, E.isD, E.den, hn1, hl1]; congr 1; omega
      have e3 : E.val m1.r (.num (.lit 0)) = .n 0 := by simp only [E.val, E.isD, E.den]
      simp only [List.map_cons, List.map_nil, DOp.fn, e1, e2, e3, a11, DV.int, Int.toNat_natCast, Int.toNat_zero, List.drop_zero]
    have lx : (x.ct.els n.r).length ≤ mx := by have := a12; simpa only [a11] using this
    obtain ⟨m2, b1, b2, b3, b4, b5, b6⟩ := letD_ok a4 a5 a9 g1 (by rw [List.length_take]; omega) a13 hx.shp.1 hx.fine (rows_take hx.shp.2) (by simp only [hO1]; exact fun e he => hx.nest e (List.mem_of_mem_take he))
    have x2 := a1.trans b1
    have w2 := wfSt_cat a5 [.d (.sl mx x.row)]
    have hn2 : qE.den m2.r = (q : Int) := by rw [wfE_den x2.r qE hwn, hq]
    have g2 : DOp.fn .rep ((.num qE :: ze).map (E.val m2.r)) = .sl none 0 (List.replicate q (ze.map (E.val n.r))) := by
      have e2 : E.val m2.r (.num qE) = .n (q : Int) := by simp only [E.val, E.isD, E.den, hn2]
      simp only [List.map_cons, DOp.fn, e2, DV.int, Int.toNat_natCast, hzv]
    obtain ⟨m3, c1, c2, c3, c4, c5, c6⟩ := letD_ok b4 w2 b5 g2 (by rw [List.length_replicate]; omega) a13 hzr hzf (fun e he => by rw [List.eq_of_mem_replicate he]; exact hzs _) (fun e he => by rw [List.eq_of_mem_replicate he]; exact hzl _ _ _)
    have w3 := wfSt_cat w2 [.d (.sl mx zr)]
    have v1e : ((E.var s1.bnd.v.length).dat m3.r).els = (x.ct.els n.r).take ((x.ct.els n.r).length - q) := by
      rw [wfE_dat c1.r (.var s1.bnd.v.length) (by rw [b4.lens.1]; simp only [wfE, cat]; simp [Nat.blt]), b6]; rfl
    have hO3 : ∀ g, Owned m3 s1.ar g ↔ Owned n s.ar g := fun g => by unfold Owned Env.sv; rw [a6, c2, c3, b2, b3, a2, a3, c1.f, b1.f, a1.f]
    have g3 : DOp.fn .cat ([E.var s1.bnd.v.length, E.var (cat s1.bnd [.d (.sl mx x.row)]).v.length].map (E.val m3.r)) = .sl none 0 ((x.ct.els n.r).take ((x.ct.els n.r).length - q) ++ List.replicate q (ze.map (E.val n.r))) := by
      have e1 : ∀ v, E.val m3.r (.var v) = (E.var v).dat m3.r := fun v => by simp only [E.val, E.isD]
      simp only [List.map_cons, List.map_nil, DOp.fn, e1, v1e, c6]
      rfl
    obtain ⟨m4, d1, d2, d3, d4, d5, d6⟩ := letD_ok c4 w3 c5 g3 (by rw [List.length_append, List.length_take, List.length_replicate]; omega) a13 hrow' hf' (fun e he => by
      rcases List.mem_append.1 he with h | h
      · exact ((joinAt_ok hj).1 e (hx.shp.2 e (List.mem_of_mem_take h))).1
      · rw [List.eq_of_mem_replicate h]; exact ((joinAll_ok hj hl).1 _ (hzs _)).1) (by
      simp only [hO3]
      intro e he
      rcases List.mem_append.1 he with h | h
      · exact (joinAt_ok hj).2.2.2.1 w _ e (hx.nest e (List.mem_of_mem_take h))
      · rw [List.eq_of_mem_replicate h]; exact (joinAll_ok hj hl).2 w _ _ (hzl _ _ _))
    refine ⟨m4, _, _, (x2.trans c1).trans d1, by rw [d2, c2, b2, a2], by rw [d3, c3, b3, a3], d4, wfSt_cat w3 _, a6, a7, d5, ?_, ?_⟩
    · rw [d4.lens.1]; simp only [wfCt, wfE, cat]; simp [Nat.blt]
    · show ((E.var _).dat m4.r).els = _
      rw [d6]; rfl
  unfold sufCt at hd
  split at hd
  · rename_i la lm q' ha hm
    have hqq : q' = (q : Int) := hq
    have hmm : lm = ((x.ct.els n.r).length : Int) := by
      have := hx.len
      rw [hm] at this
      exact this
    refine ⟨n, _, s, Ext.refl n, rfl, rfl, h, hw, rfl, rfl, hd, ?_, ?_⟩
    · have h1 := hx.wf.1
      rw [ha] at h1
      simp only [wfCt] at *
      rw [List.all_append, Bool.and_eq_true]
      exact ⟨List.all_eq_true.2 fun e he => List.all_eq_true.1 h1 e (List.mem_of_mem_take he), List.all_eq_true.2 fun e he => by rw [rep_eq] at he; rw [List.eq_of_mem_replicate he]; exact hzw _⟩
    · have e1 : (lm - q').toNat = (x.ct.els n.r).length - q := by omega
      have e2 : q'.toNat = q := by omega
      rw [e1, e2]
      simp only [Ct.els, List.map_append, List.map_take, rep_eq, List.map_replicate, ha]
  · exact general hd
theorem zeroCells_made (z : Array Value) (n : Nat) : Builtin.zeroCells z n = madeCells z (n * z.size) := by
  unfold Builtin.zeroCells madeCells
  rfl
def clearS (tb : Tb) (s : St) (t : TypeId) (x : K) : T (SV × St) :=
  match x with
  | .ar k => match s.ar[k]? with
    | some ⟨rx, cx, lx, .view p pre, tx⟩ => match tb.und t with
      | some (.slice e) => match tb.size e, tb.zero e, s.ar[p]? with
        | some z, some zv, some ⟨row, ct, len, .own, ety⟩ => match joinAt row 0 (row.map zeroSh) with
          | some row' =>
            if (Nat.beq pre suf && Nat.beq row.length z) && ((zeroQs row zv.cells && Sh.fines row) && (wfSt s && !row.isEmpty)) then
              sufCt s row' ⟨row, ct, len⟩ (row.map zeroSh) (row.map zeroE) lx fun ct' s1 => .ret (.tup [], { s1 with ar := turnAr p ⟨row', ct', len, .own, ety⟩ s1.ar })
            else .fail
          | none => .fail
        | _, _, _ => .fail
      | _ => .fail
    | _ => .fail
  | _ => .fail
theorem clearS_ok {P : Program} {tb : Tb} [TbOk P tb] {N : Nat} {w0 : World} {C : List Con} {Φ : List DV → SV × St → Prop} {n : Env} {s : St} {a : Act} {w : World} {t ty : TypeId} {x : K} (h : Rep N w0 n s a w) (hd : (clearS tb s t x).den C Φ n.r) :
    ∃ m v s' w', (Builtin.clear_ #[t] ty #[x.den n]).run P w = .ok (SV.den m v) w' ∧ Ext n m ∧ Rep N w0 m s' a w' ∧ Φ m.r (v, s') := by
  unfold clearS at hd
  split at hd
  case h_2 => exact hd.elim
  rename_i k
  split at hd
  case h_2 => exact hd.elim
  rename_i rx cx lx p pre tx hxk
  split at hd
  case h_2 => exact hd.elim
  rename_i e hu
  split at hd
  case h_2 => exact hd.elim
  rename_i z zv row ct len ety hz hzv hk
  split at hd
  case h_2 => exact hd.elim
  rename_i row' hj
  split at hd
  case isFalse => exact hd.elim
  rename_i hc
  simp only [Bool.and_eq_true, Bool.not_eq_true', List.isEmpty_eq_false_iff] at hc
  obtain ⟨⟨c1, c2⟩, ⟨c3, c4⟩, hw, c5⟩ := hc
  obtain rfl := Nat.eq_of_beq_eq_true c1
  have c2 := Nat.eq_of_beq_eq_true c2
  have hv := h.dat.ent k _ hxk
  unfold EntOk at hv
  simp only at hv
  obtain ⟨v1, _, q', v3, v4, _, _, v6⟩ := hv
  rw [hk] at v3
  cases v3
  obtain ⟨t1, t2, xa, mm, o, cc, t3, t5, t4, t6⟩ := v6 trivial
  simp only at t1 t2 t6
  subst t1; subst t2
  have hent := h.dat.ent p _ hk
  unfold EntOk at hent
  simp only at hent
  obtain ⟨e1, e2⟩ := hent
  have hwar := List.all_eq_true.1 h.dat.wf _ (List.mem_of_getElem? hk)
  have hwax := List.all_eq_true.1 h.dat.wf _ (List.mem_of_getElem? hxk)
  simp only [wfAr, Bool.and_eq_true] at hwar hwax
  have hlen := e1.len
  have hlx := v1.len
  simp only at hlen hlx
  have hp : RdOk n s.ar w (n.sv p) ⟨row, ct, len⟩ := rdOf_ok h (row := [.bool]) (by simp) rfl (x := .ar p) (by simp only [rdOf, hk])
  have hmm : mm = (ct.els n.r).length := by
    obtain ⟨_, _, hpl, _⟩ := hp.laid
    rw [t3] at hpl
    simp only [Value.slice.injEq] at hpl
    exact hpl.2.1
  have hcl : (cx.els n.r).length = (ct.els n.r).length - o := by rw [t6, List.length_drop]
  obtain ⟨q, hq⟩ : ∃ q, q = (ct.els n.r).length - o := ⟨_, rfl⟩
  have hqE : lx.den n.r = (q : Int) := by rw [hlx, hcl, hq]
  have hqo : (ct.els n.r).length - q = o := by omega
  obtain ⟨z1, z2, z3, z4⟩ := zeroQs_ok (n := n) c3 c4
  have hze : ∀ r, (row.map zeroE).map (E.val r) = (row.map zeroE).map (E.val n.r) := fun r => by
    refine List.map_congr_left fun y hy => ?_
    obtain ⟨s0, _, rfl⟩ := List.mem_map.1 hy
    cases s0 <;> rfl
  have hzw : ∀ r, (row.map zeroE).all (wfE r) = true := fun r => List.all_eq_true.2 fun y hy => by
    obtain ⟨s0, _, rfl⟩ := List.mem_map.1 hy
    cases s0 <;> rfl
  obtain ⟨m, ct', s1, a1, a2, a3, a4, a5, a6, a7, a8, a9, a10⟩ := sufCt_ok (x := ⟨row, ct, len⟩) (q := q) h hw hd hp hj (by simp) hwax.2 hqE (by simp only; omega) z3 (fun r => by rw [hze r]; exact z1) (fun r w Q => by rw [hze r]; exact z4 w Q) hzw hze
  simp only at a10
  rw [hqo] at a10
  -- the store
  obtain ⟨iz, zvv, hz1, hz2, hz3⟩ := zero_ok (P := P) hzv
  have hzc : zvv.cells = (zv.cells.map (CV.den n)).toArray := by rw [← ofPV_den n hz3, PV.cells_den]
  have hzlen : zv.cells.length = row.length := by
    have := congrArg List.length z2
    rw [rowV_len z1] at this
    simpa using this.symm
  have hpos : 0 < row.length := List.length_pos_iff.2 c5
  have hzsz : zvv.cells.size = row.length := by rw [hzc]; simp [hzlen]
  have hfl : flatV (row.map zeroSh) (List.replicate q ((row.map zeroE).map (E.val n.r))) = (Builtin.zeroCells zvv.cells q).toList := by
    have e2 := made_rep zvv.cells (by omega) q
    rw [zeroCells_made, ← e2]
    unfold flatV
    rw [List.flatMap_def, List.map_replicate, z2, hzc]
  have hvl : (flatV (row.map zeroSh) (List.replicate q ((row.map zeroE).map (E.val n.r)))).length = q * row.length := by
    rw [flatV_len (fun e he => by rw [List.eq_of_mem_replicate he]; exact z1), List.length_replicate, List.length_map]
  have hfll := flatV_len e1.shp.2
  simp only at hfll
  have hsv : m.sv p = n.sv p := by unfold Env.sv; rw [a2]
  have hct : ct.els m.r = ct.els n.r := wfCt_den a1.r ct hwar.1
  have hOw : ∀ g, Owned m s1.ar g ↔ Owned n s.ar g := fun g => by unfold Owned Env.sv; rw [a6, a2, a3, a1.f]
  have hrow' : row' ≠ [] := fun hn => by
    have := joinAt_len hj
    rw [hn] at this
    exact e1.shp.1 (List.eq_nil_of_length_eq_zero (by simpa using this.symm))
  have hf' : Sh.fines row' = true := (joinAt_ok hj).2.2.1 e1.fine z3
  have hels' : ∀ e ∈ (ct.els n.r).take o ++ List.replicate q ((row.map zeroE).map (E.val n.r)), HasShs row' e := fun e he => by
    rcases List.mem_append.1 he with h | h
    · exact ((joinAt_ok hj).1 e (e1.shp.2 e (List.mem_of_mem_take h))).1
    · rw [List.eq_of_mem_replicate h]; exact ((joinAll_ok hj (by simp)).1 _ z1).1
  have hflat' : flatV row' ((ct.els n.r).take o ++ List.replicate q ((row.map zeroE).map (E.val n.r))) = (flatV row (ct.els n.r)).take (o * row.length) ++ flatV (row.map zeroSh) (List.replicate q ((row.map zeroE).map (E.val n.r))) := by
    have hs1 : ∀ e ∈ ct.els n.r, HasShs row e := e1.shp.2
    have hz1 : ∀ e ∈ List.replicate q ((row.map zeroE).map (E.val n.r)), HasShs (row.map zeroSh) e := fun e he => by rw [List.eq_of_mem_replicate he]; exact z1
    rw [flatV_app, flatV_joinAll hj (by simp) hz1, flatV_join hj (rows_take hs1), flatV_take hs1]
  have hlen' : ((ct.els n.r).take o ++ List.replicate q ((row.map zeroE).map (E.val n.r))).length = (ct.els n.r).length := by
    rw [List.length_append, List.length_take, List.length_replicate]; omega
  have fin : ∀ w', (∀ b, b < w.heap.size → (n.sv p).ownBlock ≠ some b → w'.heap[b]? = w.heap[b]?) → Below N w w' → w'.ownsRow N ety row.length (n.sv p) (ct.els n.r).length (flatV row' ((ct.els n.r).take o ++ List.replicate q ((row.map zeroE).map (E.val n.r)))) → Rep N w0 m { s1 with ar := turnAr p ⟨row', ct', len, .own, ety⟩ s1.ar } a w' := fun w' hA hB hO => by
    refine turnCellsG (P := P) (tb := tb) (ct' := ct') (row' := row') (els' := (ct.els n.r).take o ++ List.replicate q ((row.map zeroE).map (E.val n.r))) a4 (by rw [a6]; exact hk) hB (by rw [hsv]; exact hA) hrow' (joinAt_len hj) (by rw [hct, hsv]; exact hO) a9 a10 (by rw [hct]; exact hlen') hf' hels' (by
      simp only [hOw]
      intro e he
      rcases List.mem_append.1 he with h | h
      · exact (joinAt_ok hj).2.2.2.1 w _ e (hp.nest e (List.mem_of_mem_take h))
      · rw [List.eq_of_mem_replicate h]; exact (joinAll_ok hj (by simp)).2 w _ _ (z4 _ _))
  have hu' := run_slice (P := P) (w := w) hu
  by_cases hq0 : q = 0
  · -- nothing is cleared
    refine ⟨m, _, _, w, ?_, a1, fin w (fun b _ _ => rfl) (Below.refl _ _) ?_, a8⟩
    · have hxv : K.den n (.ar k) = .slice (if cc = o then xa else xa.map (·.add (o * row.length))) 0 (cc - o) := by
        show n.sv k = _
        rw [t4]; simp only [sliced, Value.slice.injEq, true_and, and_true]; omega
      rw [hxv]
      cases hxa : (if cc = o then xa else xa.map (·.add (o * row.length))) <;>
        simp only [Builtin.clear_, Sem.run_bind, List.getElem?_toArray, List.getElem?_cons_zero, hu', Result.andThen_ok, Sem.run_pure] <;> rfl
    · have he : (ct.els n.r).take o ++ List.replicate q ((row.map zeroE).map (E.val n.r)) = ct.els n.r := by
        rw [hq0, List.replicate_zero, List.append_nil, List.take_of_length_le (by omega)]
      rw [he, flatV_join hj e1.shp.2]
      exact e2
  · have hpos' : 0 < (ct.els n.r).length := by omega
    obtain ⟨g, cap, hpv, hNg⟩ := ownsRow_some e2 hpos'
    have hcap : cap = cc ∧ xa = some ⟨g, 0, none⟩ := by
      rw [t3] at hpv
      simp only [Value.slice.injEq] at hpv
      exact ⟨hpv.2.2.symm, hpv.1⟩
    obtain ⟨rfl, rfl⟩ := hcap
    have hcm : (ct.els n.r).length ≤ cap := by
      obtain ⟨_, _, hpl, hle, _⟩ := hp.laid
      rw [hpv] at hpl
      simp only [Value.slice.injEq] at hpl
      rw [hpl.2.2]; exact hle
    have hxv : K.den n (.ar k) = .slice (some ⟨g, o * row.length, none⟩) q (cap - o) := by
      show n.sv k = _
      rw [t4]
      simp only [sliced]
      rw [if_neg (by omega), Option.map_some, addr_plus, Nat.zero_add, hmm, ← hq]
    have e2' := e2
    rw [hpv] at e2'
    have hfit : o * row.length + q * row.length ≤ (flatV row (ct.els n.r)).length := by
      rw [hfll, ← Nat.add_mul]; exact Nat.mul_le_mul_right _ (by omega)
    obtain ⟨w', hr, hA, hO⟩ := run_storeOwn (P := P) (flatV (row.map zeroSh) (List.replicate q ((row.map zeroE).map (E.val n.r)))) _ (o * row.length) 0 w e2' (by rw [hvl]; omega) (flat_of _ _)
    rw [Nat.add_zero, layG_mid _ _ _ (by rw [hvl]; exact hfit), hvl] at hO
    have hdrop : (flatV row (ct.els n.r)).drop (o * row.length + q * row.length) = [] := by
      refine List.drop_eq_nil_of_le ?_
      rw [hfll, ← Nat.add_mul]; exact Nat.mul_le_mul_right _ (by omega)
    rw [hdrop, List.append_nil, ← hflat', ← hpv] at hO
    refine ⟨m, _, _, w', ?_, a1, fin w' (fun b _ hne => hA.block b fun e => hne (by rw [hpv, e]; rfl)) (hA.below hNg) hO, a8⟩
    rw [hxv]
    rw [hfl] at hr
    have hzz : (zeroValue e).run P w = .ok zvv w := by
      simp [zeroValue, typeInfo, hz1, hz2]
    obtain ⟨q1, rfl⟩ : ∃ q1, q = q1 + 1 := ⟨q - 1, by omega⟩
    simp only [Builtin.clear_, Sem.run_bind, List.getElem?_toArray, List.getElem?_cons_zero, hu', Result.andThen_ok, Sem.run_pure, hzz, hr]
    rfl
/-! The beginning of an owned slice becomes what is owned. -/
def promAr (k p : Nat) (ar : List Ar) : List Ar := match ar[k]?, ar[p]? with
  | some a, some b => (turnAr p { b with st := .dead } ar).set k { a with st := .own }
  | _, _ => ar
theorem promAr_len (k p : Nat) (ar : List Ar) : (promAr k p ar).length = ar.length := by
  unfold promAr
  split
  · rw [List.length_set, turn_len]
  · rfl
theorem Rep.promote {N : Nat} {w0 : World} {n : Env} {s : St} {act : Act} {w : World} {k p : Nat} {a : Ar} (h : Rep N w0 n s act w) (hk : s.ar[k]? = some a) (hst : a.st = .view p 1) : Rep N w0 n { s with ar := promAr k p s.ar } act w := by
  have he := h.dat.ent k a hk
  unfold EntOk at he
  rw [hst] at he
  simp only at he
  obtain ⟨e1, e2, q, e3, e4, e5, _⟩ := he
  obtain ⟨t1, t2, x, m, k', c, t3, t4, t5, t6⟩ := e5 trivial
  have hkp : k ≠ p := fun e => by subst e; rw [hk] at e3; cases e3; rw [hst] at e4; cases e4
  have hkl : k < s.ar.length := (List.getElem?_eq_some_iff.1 hk).1
  have hpl : p < s.ar.length := (List.getElem?_eq_some_iff.1 e3).1
  have hpr : promAr k p s.ar = (turnAr p { q with st := .dead } s.ar).set k { a with st := .own } := by unfold promAr; rw [hk, e3]
  have gk : (promAr k p s.ar)[k]? = some { a with st := .own } := by rw [hpr, List.getElem?_set_self (by rw [turn_len]; exact hkl)]
  have gp : (promAr k p s.ar)[p]? = some { q with st := .dead } := by rw [hpr, List.getElem?_set_ne hkp, turn_same hpl]
  have go : ∀ i, i ≠ k → i ≠ p → (promAr k p s.ar)[i]? = (s.ar[i]?).map (killV p) := fun i h1 h2 => by rw [hpr, List.getElem?_set_ne (Ne.symm h1), turn_other h2]
  have hob : (n.sv k).ownBlock = (n.sv p).ownBlock := by rw [t3, t4]; cases x <;> rfl
  have hq := h.dat.ent p q e3
  unfold EntOk at hq
  rw [e4] at hq
  simp only at hq
  obtain ⟨q1, q2⟩ := hq
  have hown : ∀ i c, (promAr k p s.ar)[i]? = some c → c.st = .own → (i = k ∧ c = { a with st := .own }) ∨ (i ≠ k ∧ i ≠ p ∧ s.ar[i]? = some c) := fun i c hi hc => by
    by_cases h1 : i = k
    · subst h1; rw [gk] at hi; cases hi; exact .inl ⟨rfl, rfl⟩
    · by_cases h2 : i = p
      · subst h2; rw [gp] at hi; cases hi; cases hc
      · rw [go i h1 h2] at hi
        cases hcc : s.ar[i]? with
        | none => rw [hcc] at hi; cases hi
        | some c' => rw [hcc] at hi; cases hi; exact .inr ⟨h1, h2, by rw [(killV_st hc).2]⟩
  have hO : ∀ g, Owned n (promAr k p s.ar) g ↔ Owned n s.ar g := fun g => by
    constructor
    · rintro (hb | ⟨i, c, hi, hc1, hc2⟩)
      · exact .inl hb
      · rcases hown i c hi hc1 with ⟨rfl, _⟩ | ⟨_, _, h3⟩
        · exact .inr ⟨p, q, e3, e4, by rw [← hob]; exact hc2⟩
        · exact .inr ⟨i, c, h3, hc1, hc2⟩
    · rintro (hb | ⟨i, c, hi, hc1, hc2⟩)
      · exact .inl hb
      · by_cases h2 : i = p
        · subst h2; exact .inr ⟨k, _, gk, rfl, by rw [hob]; exact hc2⟩
        · have h1 : i ≠ k := fun e => by subst e; rw [hk] at hi; cases hi; rw [hst] at hc1; cases hc1
          exact .inr ⟨i, c, by rw [go i h1 h2, hi]; simp only [Option.map_some, killV_own hc1], hc1, hc2⟩
  have hent : ∀ c, Ent n s.ar w c → Ent n (promAr k p s.ar) w c := fun c hc => ⟨hc.fine, hc.shp, hc.len, by simp only [hO]; exact hc.nest⟩
  refine ⟨h.bnd, h.mem, ⟨by rw [promAr_len]; exact h.dat.len, ?_, ?_, ?_, ?_, ?_, h.dat.fb⟩, h.below, h.act⟩
  · refine List.all_eq_true.2 fun c hc => ?_
    obtain ⟨i, hi⟩ := List.mem_iff_getElem?.1 hc
    have wf : ∀ j d, s.ar[j]? = some d → wfAr n.r.length d = true := fun j d hd => List.all_eq_true.1 h.dat.wf d (List.mem_of_getElem? hd)
    by_cases h1 : i = k
    · subst h1; rw [gk] at hi; cases hi; exact wf i a hk
    · by_cases h2 : i = p
      · subst h2; rw [gp] at hi; cases hi; exact wf i q e3
      · rw [go i h1 h2] at hi
        cases hcc : s.ar[i]? with
        | none => rw [hcc] at hi; cases hi
        | some c' =>
          rw [hcc] at hi; cases hi
          have := wf i c' hcc
          unfold killV
          split
          · split
            · exact this
            · exact this
          · exact this
  · intro i c hi
    by_cases h1 : i = k
    · subst h1; rw [gk] at hi; cases hi
      unfold EntOk
      simp only
      have hent' := hent a e1
      refine ⟨⟨hent'.fine, hent'.shp, hent'.len, hent'.nest⟩, ?_⟩
      have hl : (a.ct.els n.r).length = k' := by
        rw [t6, List.length_take]
        rcases q2.2 with ⟨hv, h0⟩ | ⟨g, cap, cur, hv, _⟩
        · rw [t3] at hv; simp only [Value.slice.injEq] at hv; omega
        · rw [t3] at hv; simp only [Value.slice.injEq] at hv; omega
      have hsh : ∀ e ∈ q.ct.els n.r, HasShs a.row e := by rw [← t2]; exact q1.shp.2
      have hfl := flatV_take (k := k') hsh
      have hq2 := q2.1
      refine ⟨?_, ?_⟩
      · rw [hl, t6, hfl, List.length_take, ← t2, hq2]
        have : k' ≤ (q.ct.els n.r).length := by rw [t6, List.length_take] at hl; omega
        have := Nat.mul_le_mul_right q.row.length this
        omega
      · rcases q2.2 with ⟨hv, h0⟩ | ⟨g, cap, cur, hv, u1, u2, u3, u4, u5, u6⟩
        · left
          rw [t3] at hv; simp only [Value.slice.injEq] at hv
          obtain ⟨rfl, rfl, rfl⟩ := hv
          have : k' = 0 := by omega
          subst this
          exact ⟨t4, hl⟩
        · right
          rw [t3] at hv; simp only [Value.slice.injEq] at hv
          obtain ⟨rfl, rfl, rfl⟩ := hv
          refine ⟨g, c, cur, by rw [t4, hl], u1, by rw [← t1]; exact u2, by rw [hl]; omega, u4, by rw [← t2]; exact u5, ?_⟩
          rw [hl, t6, hfl, ← t2, ← u6, List.take_take]
          congr 1
          have : k' ≤ (q.ct.els n.r).length := by omega
          have := Nat.mul_le_mul_right q.row.length this
          omega
    · by_cases h2 : i = p
      · subst h2; rw [gp] at hi; cases hi; unfold EntOk; trivial
      · rw [go i h1 h2] at hi
        cases hcc : s.ar[i]? with
        | none => rw [hcc] at hi; cases hi
        | some c' =>
          rw [hcc] at hi
          simp only [Option.map_some, Option.some.injEq] at hi
          rcases killV_eq (p := p) (a := c') with hkk | hkk
          · rw [hkk] at hi
            subst hi
            have hc := h.dat.ent i c' hcc
            unfold EntOk at hc ⊢
            cases hcs : c'.st with
            | dead => trivial
            | frz => rw [hcs] at hc; simp only [hO]; exact ⟨hent c' hc.1, hc.2⟩
            | full => rw [hcs] at hc; simp only [hO]; exact ⟨hent c' hc.1, hc.2⟩
            | told f => rw [hcs] at hc; simp only [hO]; exact ⟨hent c' hc.1, hc.2⟩
            | own => rw [hcs] at hc; exact ⟨hent c' hc.1, hc.2⟩
            | view qq pre =>
              rw [hcs] at hc
              simp only [hO]
              obtain ⟨f1, f2, qa, f3, f4, f5⟩ := hc
              have hqp := killV_view hcs hkk
              have hqk : qq ≠ k := fun e => by subst e; rw [hk] at f3; cases f3; rw [hst] at f4; cases f4
              refine ⟨hent c' f1, f2, qa, ?_, f4, f5⟩
              rw [go qq hqk hqp, f3]
              simp only [Option.map_some, killV_own f4]
          · rw [hi] at hkk; unfold EntOk; rw [hkk]; trivial
  · intro i j c d g hi hj hc hd hg1 hg2
    rcases hown i c hi hc with ⟨rfl, _⟩ | ⟨n1, n2, h3⟩ <;> rcases hown j d hj hd with ⟨rfl, _⟩ | ⟨m1, m2, h4⟩
    · rfl
    · rw [hob] at hg1
      exact absurd (h.dat.dis p j q d g e3 h4 e4 hd hg1 hg2).symm m2
    · rw [hob] at hg2
      exact absurd (h.dat.dis i p c q g h3 e3 hc e4 hg1 hg2) n2
    · exact h.dat.dis i j c d g h3 h4 hc hd hg1 hg2
  · intro i c g hi hc hg
    rcases hown i c hi hc with ⟨rfl, _⟩ | ⟨_, _, h3⟩
    · rw [hob] at hg; exact h.dat.disb p q g e3 e4 hg
    · exact h.dat.disb i c g h3 hc hg
  · intro i S hS
    simp only [hO]
    exact h.dat.perm i S hS
end Go.Dx

/- A symbolic executor: contracts. -/
namespace Go.Dx
open Go.RowKit
set_option linter.unusedVariables false
set_option linter.unusedSimpArgs false
inductive X where
  | nrm
  | ext (id : Nat)
  | ret
  deriving DecidableEq
def X.exit : X → Exit
  | .nrm => .normal
  | .ext i => .exit i
  | .ret => .ret
abbrev Ex := Option Nat → Code → St → T (X × St)
/-- All is let in; a round of loop ro, or none. -/
def Wd (ro : Option Nat) : Fence := { fn := fun _ => True, depth := none, alive := false, round := ro }
/-! One shape is in another. -/
mutual
def shLe : Sh → Sh → Bool
  | .int k a b, .int l c d => Nat.beq (kq k) (kq l) && (decide (c ≤ a) && decide (b ≤ d))
  | .bool, .bool => true
  | .str m, .str n => Nat.ble m n
  | .sl m r, .sl n q => Nat.ble m n && shLes r q
  | _, _ => false
def shLes : List Sh → List Sh → Bool
  | [], [] => true
  | x :: l, y :: r => shLe x y && shLes l r
  | _, _ => false
end
mutual
theorem shLe_ok : ∀ {a b : Sh} {d : DV}, shLe a b = true → HasSh a d → HasSh b d ∧ cellV b d = cellV a d ∧ (∀ w S, Laid w S a d → Laid w S b d)
  | .int k a b, .int l c e, d, h, hd => by
    simp only [shLe, Bool.and_eq_true, decide_eq_true_eq] at h
    obtain rfl := kq_ok h.1
    simp only [HasSh] at hd ⊢
    obtain ⟨x, rfl, h1, h2⟩ := hd
    exact ⟨⟨x, rfl, by omega, h2⟩, rfl, fun w S h => by simp only [Laid]⟩
  | .bool, .bool, d, h, hd => ⟨hd, rfl, fun w S h => h⟩
  | .str m, .str n, d, h, hd => by
    simp only [shLe] at h
    simp only [HasSh] at hd ⊢
    exact ⟨Nat.le_trans hd (Nat.le_of_ble_eq_true h), rfl, fun w S h => by simp only [Laid]⟩
  | .sl m r, .sl n q, d, h, hd => by
    simp only [shLe, Bool.and_eq_true] at h
    simp only [HasSh] at hd ⊢
    have key : ∀ e ∈ d.els, HasShs q e ∧ rowV q e = rowV r e ∧ (∀ w S, LaidL w S r e → LaidL w S q e) := fun e he => shLes_ok h.2 (hd.2 e he)
    refine ⟨⟨Nat.le_trans hd.1 (Nat.le_of_ble_eq_true h.1), fun e he => (key e he).1⟩, rfl, fun w S hl => ?_⟩
    simp only [Laid] at hl ⊢
    refine ⟨?_, fun e he => (key e he).2.2 w S (hl.2 e he)⟩
    obtain ⟨a, cap, e1, e2, e3⟩ := hl.1
    have : flatV q d.els = flatV r d.els := by
      unfold flatV
      have : ∀ l : List (List DV), (∀ e ∈ l, rowV q e = rowV r e) → l.flatMap (rowV q) = l.flatMap (rowV r) := fun l => by
        induction l with
        | nil => intro _; rfl
        | cons x l ih => intro hl; rw [List.flatMap_cons, List.flatMap_cons, hl x (List.mem_cons_self ..), ih fun e he => hl e (List.mem_cons_of_mem _ he)]
      exact this _ fun e he => (key e he).2.1
    exact ⟨a, cap, e1, e2, by rw [this]; exact e3⟩
  | .int _ _ _, .bool, _, h, _ => by simp [shLe] at h
  | .int _ _ _, .str _, _, h, _ => by simp [shLe] at h
  | .int _ _ _, .sl _ _, _, h, _ => by simp [shLe] at h
  | .bool, .int _ _ _, _, h, _ => by simp [shLe] at h
  | .bool, .str _, _, h, _ => by simp [shLe] at h
  | .bool, .sl _ _, _, h, _ => by simp [shLe] at h
  | .str _, .int _ _ _, _, h, _ => by simp [shLe] at h
  | .str _, .bool, _, h, _ => by simp [shLe] at h
  | .str _, .sl _ _, _, h, _ => by simp [shLe] at h
  | .sl _ _, .int _ _ _, _, h, _ => by simp [shLe] at h
  | .sl _ _, .bool, _, h, _ => by simp [shLe] at h
  | .sl _ _, .str _, _, h, _ => by simp [shLe] at h
theorem shLes_ok : ∀ {a b : List Sh} {d : List DV}, shLes a b = true → HasShs a d → HasShs b d ∧ rowV b d = rowV a d ∧ (∀ w S, LaidL w S a d → LaidL w S b d)
  | [], [], d, h, hd => ⟨hd, rfl, fun w S h => h⟩
  | x :: l, y :: r, [], h, hd => by simp [HasShs] at hd
  | x :: l, y :: r, d :: ds, h, hd => by
    simp only [shLes, Bool.and_eq_true] at h
    simp only [HasShs] at hd ⊢
    obtain ⟨a1, a2, a3⟩ := shLe_ok h.1 hd.1
    obtain ⟨b1, b2, b3⟩ := shLes_ok h.2 hd.2
    refine ⟨⟨a1, b1⟩, by simp only [rowV, a2, b2], fun w S hl => ?_⟩
    simp only [LaidL] at hl ⊢
    exact ⟨a3 w S hl.1, b3 w S hl.2⟩
  | [], _ :: _, _, h, _ => by simp [shLes] at h
  | _ :: _, [], _, h, _ => by simp [shLes] at h
end
theorem shLes_flat {r q : List Sh} {els : List (List DV)} (h : shLes r q = true) (hd : ∀ e ∈ els, HasShs r e) : (∀ e ∈ els, HasShs q e) ∧ flatV q els = flatV r els ∧ (∀ w S, Nest w S r els → Nest w S q els) ∧ (∀ w S v, LaidAt w S v r els → LaidAt w S v q els) := by
  have key : ∀ e ∈ els, HasShs q e ∧ rowV q e = rowV r e ∧ (∀ w S, LaidL w S r e → LaidL w S q e) := fun e he => shLes_ok h (hd e he)
  have hf : flatV q els = flatV r els := by
    unfold flatV
    have : ∀ l : List (List DV), (∀ e ∈ l, rowV q e = rowV r e) → l.flatMap (rowV q) = l.flatMap (rowV r) := fun l => by
      induction l with
      | nil => intro _; rfl
      | cons x l ih => intro hl; rw [List.flatMap_cons, List.flatMap_cons, hl x (List.mem_cons_self ..), ih fun e he => hl e (List.mem_cons_of_mem _ he)]
    exact this _ fun e he => (key e he).2.1
  refine ⟨fun e he => (key e he).1, hf, fun w S hl e he => (key e he).2.2 w S (hl e he), fun w S v hl => ?_⟩
  obtain ⟨a, cap, e1, e2, e3⟩ := hl
  exact ⟨a, cap, e1, e2, by rw [hf]; exact e3⟩
theorem shLes_len : ∀ {a b : List Sh}, shLes a b = true → b.length = a.length
  | [], [], _ => rfl
  | x :: l, y :: r, h => by simp only [shLes, Bool.and_eq_true] at h; simp [shLes_len h.2]
  | [], _ :: _, h => by simp [shLes] at h
  | _ :: _, [], h => by simp [shLes] at h
/-! Arguments: data, values, where they lie. -/
def cellA (w : World) (s : Sh) (x : DV) (v : Value) : Prop := HasSh s x ∧ match s with
  | .sl mx row => x.top (.sl mx row) ∧ svOf v = v ∧ LaidAt w (fun _ => True) v row x.els ∧ Nest w (fun _ => True) row x.els
  | .str mx => x.top (.str mx) ∧ v = .string x.str
  | s => v = cellV s x
def cellsA (w : World) : List Sh → List DV → List Value → Prop
  | [], [], [] => True
  | s :: l, x :: xs, v :: vs => cellA w s x v ∧ cellsA w l xs vs
  | _, _, _ => False
def ArgsV (w : World) : List ASh → List DV → List Value → Prop
  | [], [], [] => True
  | .c s :: l, x :: xs, v :: vs => cellA w s x v ∧ ArgsV w l xs vs
  | .agg ss :: l, xs, v :: vs => ∃ ys r cs, xs = ys ++ r ∧ v = .agg cs.toArray ∧ cellsA w ss ys cs ∧ ArgsV w l r vs
  | _, _, _ => False
/-- The same, in blocks of which Z holds. -/
def cellS (w : World) (Z : Nat → Prop) (s : Sh) (x : DV) (v : Value) : Prop := HasSh s x ∧ match s with
  | .sl mx row => x.top (.sl mx row) ∧ svOf v = v ∧ LaidAt w Z v row x.els ∧ Nest w Z row x.els
  | .str mx => x.top (.str mx) ∧ v = .string x.str
  | s => v = cellV s x
def cellsS (w : World) (Z : Nat → Prop) : List Sh → List DV → List Value → Prop
  | [], [], [] => True
  | s :: l, x :: xs, v :: vs => cellS w Z s x v ∧ cellsS w Z l xs vs
  | _, _, _ => False
def ArgsS (w : World) (Z : Nat → Prop) : List ASh → List DV → List Value → Prop
  | [], [], [] => True
  | .c s :: l, x :: xs, v :: vs => cellS w Z s x v ∧ ArgsS w Z l xs vs
  | .agg ss :: l, xs, v :: vs => ∃ ys r cs, xs = ys ++ r ∧ v = .agg cs.toArray ∧ cellsS w Z ss ys cs ∧ ArgsS w Z l r vs
  | _, _, _ => False
theorem cellA_S {w : World} {s : Sh} {x : DV} {v : Value} (h : cellA w s x v) : cellS w (fun _ => True) s x v := by
  cases s <;> exact h
theorem cellsA_S {w : World} : ∀ {l : List Sh} {xs : List DV} {vs : List Value}, cellsA w l xs vs → cellsS w (fun _ => True) l xs vs
  | [], [], [], _ => by simp only [cellsS]
  | s :: l, x :: xs, v :: vs, h => by simp only [cellsA] at h; simp only [cellsS]; exact ⟨cellA_S h.1, cellsA_S h.2⟩
  | [], _ :: _, vs, h => by cases vs <;> simp only [cellsA] at h
  | [], [], _ :: _, h => by simp only [cellsA] at h
  | _ :: _, [], vs, h => by cases vs <;> simp only [cellsA] at h
  | _ :: _, _ :: _, [], h => by simp only [cellsA] at h
theorem argsV_S {w : World} : ∀ {l : List ASh} {xs : List DV} {vs : List Value}, ArgsV w l xs vs → ArgsS w (fun _ => True) l xs vs
  | [], [], [], _ => by simp only [ArgsS]
  | .c s :: l, x :: xs, v :: vs, h => by simp only [ArgsV] at h; simp only [ArgsS]; exact ⟨cellA_S h.1, argsV_S h.2⟩
  | .agg ss :: l, xs, v :: vs, h => by
    simp only [ArgsV] at h
    obtain ⟨ys, r, cs, e1, e2, h1, h2⟩ := h
    simp only [ArgsS]
    exact ⟨ys, r, cs, e1, e2, cellsA_S h1, argsV_S h2⟩
  | [], _ :: _, vs, h => by cases vs <;> simp only [ArgsV] at h
  | [], [], _ :: _, h => by simp only [ArgsV] at h
  | .c _ :: _, [], vs, h => by simp only [ArgsV] at h
  | .c _ :: _, _ :: _, [], h => by simp only [ArgsV] at h
  | .agg _ :: _, xs, [], h => by simp only [ArgsV] at h
theorem cellS.mono {w : World} {Z Y : Nat → Prop} (h : ∀ g, Z g → Y g) {s : Sh} {x : DV} {v : Value} (k : cellS w Z s x v) : cellS w Y s x v := by
  cases s with
  | sl mx row => exact ⟨k.1, k.2.1, k.2.2.1, k.2.2.2.1.mono h, nest_mono h k.2.2.2.2⟩
  | _ => exact k
theorem cellsS.mono {w : World} {Z Y : Nat → Prop} (h : ∀ g, Z g → Y g) : ∀ {l : List Sh} {xs : List DV} {vs : List Value}, cellsS w Z l xs vs → cellsS w Y l xs vs
  | [], [], [], _ => by simp only [cellsS]
  | s :: l, x :: xs, v :: vs, k => by simp only [cellsS] at k ⊢; exact ⟨k.1.mono h, k.2.mono h⟩
  | [], _ :: _, vs, k => by cases vs <;> simp only [cellsS] at k
  | [], [], _ :: _, k => by simp only [cellsS] at k
  | _ :: _, [], vs, k => by cases vs <;> simp only [cellsS] at k
  | _ :: _, _ :: _, [], k => by simp only [cellsS] at k
theorem ArgsS.mono {w : World} {Z Y : Nat → Prop} (h : ∀ g, Z g → Y g) : ∀ {l : List ASh} {xs : List DV} {vs : List Value}, ArgsS w Z l xs vs → ArgsS w Y l xs vs
  | [], [], [], _ => by simp only [ArgsS]
  | .c s :: l, x :: xs, v :: vs, k => by simp only [ArgsS] at k ⊢; exact ⟨k.1.mono h, k.2.mono h⟩
  | .agg ss :: l, xs, v :: vs, k => by
    simp only [ArgsS] at k ⊢
    obtain ⟨ys, r, cs, e1, e2, h1, h2⟩ := k
    exact ⟨ys, r, cs, e1, e2, h1.mono h, h2.mono h⟩
  | [], _ :: _, vs, k => by cases vs <;> simp only [ArgsS] at k
  | [], [], _ :: _, k => by simp only [ArgsS] at k
  | .c _ :: _, [], vs, k => by simp only [ArgsS] at k
  | .c _ :: _, _ :: _, [], k => by simp only [ArgsS] at k
  | .agg _ :: _, xs, [], k => by simp only [ArgsS] at k
/-! Results. -/
def flatRow : List Sh → Bool
  | [] => true
  | .sl _ _ :: _ => false
  | _ :: l => flatRow l
theorem flatRow_nest {w : World} {S : Nat → Prop} : ∀ {row : List Sh} {e : List DV}, flatRow row = true → LaidL w S row e
  | [], e, _ => by simp only [LaidL]
  | s :: l, [], _ => by simp only [LaidL]
  | s :: l, x :: r, h => by
    simp only [LaidL]
    cases s with
    | sl _ _ => cases h
    | _ => exact ⟨by simp only [Laid], flatRow_nest h⟩
def ResC (N : Nat) (w' : World) (Z : Nat → Prop) (x : RC) (y : DV) (v : Value) : Prop := x.vd.ok y ∧ match x.s with
  | .sl _ row => (row ≠ [] ∧ x.s.fine = true) ∧ svOf v = v ∧ Nest w' Z row y.els ∧ match x.own with
    | some ety => w'.ownsRow N ety row.length v y.els.length (flatV row y.els)
    | none => LaidAt w' Z v row y.els
  | s => v = cellV s y
def ResA (N : Nat) (w' : World) (Z : Nat → Prop) : List RC → List DV → List Value → Prop
  | [], [], [] => True
  | x :: l, y :: ys, v :: vs => ResC N w' Z x y v ∧ ResA N w' Z l ys vs
  | _, _, _ => False
/-- Is it a slice that is not owned, or holds slices? -/
def RC.needs (x : RC) : Bool := match x.s with
  | .sl _ row => x.own.isNone || !flatRow row
  | _ => false
def needs (res : List RSh) : Bool := (res.flatMap RSh.l).any RC.needs
/-- The slices among them. -/
def slsV : List RC → List Value → List Value
  | x :: l, v :: vs => match x.s with
    | .sl _ _ => v :: slsV l vs
    | _ => slsV l vs
  | _, _ => []
/-- The owned ones. -/
def ownV : List RC → List Value → List Value
  | x :: l, v :: vs => match x.s with
    | .sl _ _ => (match x.own with | some _ => v | none => .slice none 0 0) :: ownV l vs
    | _ => ownV l vs
  | _, _ => []
def arR (x : RC) (v : Nat) : List Ar := match x.s with
  | .sl _ row => [⟨row, .e (.var v), .len (.var v), (match x.own with | some _ => .own | none => .frz), x.own.getD 0⟩]
  | _ => []
def arsR : List RC → Nat → List Ar
  | [], _ => []
  | x :: l, v => arR x v ++ arsR l (v + 1)
/-- No two lie in one block. -/
def Apart (l : List Value) : Prop := ∀ (i j : Nat) (u v : Value) (g : Nat), l[i]? = some u → l[j]? = some v → u.ownBlock = some g → v.ownBlock = some g → i = j
def packs : List RSh → List Value → List Value
  | [], _ => []
  | .one _ :: l, c :: cs => c :: packs l cs
  | .one _ :: l, [] => .agg #[] :: packs l []
  | .agg r :: l, cs => .agg (cs.take r.length).toArray :: packs l (cs.drop r.length)
def packR (res : List RSh) (cs : List Value) : Value := match packs res cs with
  | [x] => x
  | l => .tuple l.toArray
/-- Where results lie: not in the caller's blocks (F), nor in what is owned. -/
def Rz (F : Nat → Prop) (L : List RC) (cs : List Value) (g : Nat) : Prop := ¬ F g ∧ ∀ u ∈ ownV L cs, u.ownBlock ≠ some g
def ConCall (P : Program) (tb : Tb) (N : Nat) (w0 : World) (c : Con) : Prop :=
  ∀ (F : Nat → Prop) (xs : List DV) (vs : List Value) (w : World), (∀ g, F g → g < w.heap.size) → ArgsS w (fun g => ¬ F g) c.args xs vs → c.pre xs → Below N w0 w → Glb tb w →
    Calls P c.f vs.toArray w fun e w' => ∃ ys cs, inB ys (resB c.res) ∧ c.post xs ys ∧ ResA w.heap.size w' (Rz F (resL' c.res) cs) (resL' c.res) ys cs ∧ Apart (ownV (resL' c.res) cs) ∧ e = .returned (packR c.res cs) ∧ Below w.heap.size w w'
def moreF : Option FuncId → List Value
  | some g => [.func (.func g) #[] #[]]
  | none => []
def Inp.more (q : Inp) : List Value := moreF q.g
/-- A function that turns an owned slice in place. -/
def ConIn (P : Program) (tb : Tb) (N : Nat) (w0 : World) (c : Con) (q : Inp) : Prop :=
  ∀ (x : DV) (v : Value) (w : World) (M : Nat) (ety : TypeId), VD.ok (.d (.sl q.mx q.row)) x → w.ownsRow M ety q.row.length v x.els.length (flatV q.row x.els) → c.pre [x] → Below N w0 w → Glb tb w →
    Calls P c.f (v :: q.more).toArray w fun e w' => e = .returned (.tuple #[]) ∧ ∃ y, VD.ok (.d (.sl q.mx q.row)) y ∧ inB [y] (resB c.res) ∧ c.post [x] [y] ∧ y.els.length = x.els.length ∧ w'.ownsRow M ety q.row.length v x.els.length (flatV q.row y.els) ∧ Below 0 w w' ∧ ∀ b, b < w.heap.size → v.ownBlock ≠ some b → w'.heap[b]? = w.heap[b]?
def ConOk (P : Program) (tb : Tb) (N : Nat) (w0 : World) (c : Con) : Prop :=
  c.lp = none → (c.inp = none → ConCall P tb N w0 c) ∧ ∀ q, c.inp = some q → ConIn P tb N w0 c q
/-- Cells that are no slices say what they are. -/
def CellA : List RC → List DV → List Value → Prop
  | [], [], [] => True
  | x :: l, y :: ys, v :: vs => ((∀ m r, x.s ≠ .sl m r) → v = cellV x.s y) ∧ CellA l ys vs
  | _, _, _ => False
theorem ResA.cells {N : Nat} {w : World} {Z : Nat → Prop} : ∀ {l : List RC} {ys : List DV} {vs : List Value}, ResA N w Z l ys vs → CellA l ys vs
  | [], [], [], _ => by simp only [CellA]
  | [], [], _ :: _, h => by simp only [ResA] at h
  | [], _ :: _, vs, h => by cases vs <;> simp only [ResA] at h
  | x :: l, [], vs, h => by simp only [ResA] at h
  | x :: l, y :: ys, [], h => by simp only [ResA] at h
  | x :: l, y :: ys, v :: vs, h => by
    simp only [ResA] at h
    simp only [CellA]
    refine ⟨fun hn => ?_, h.2.cells⟩
    obtain ⟨_, h2⟩ := h.1
    cases hs : x.s with
    | sl m r => exact absurd hs (hn m r)
    | _ => rw [hs] at h2; exact h2
/-! What the results are, for the one who called. -/
theorem resAt_den {n : Env} : ∀ (res : List RSh) (ys : List DV) (cs : List Value) (v a : Nat), CellA (resL' res) ys cs →
    (∀ i y, ys[i]? = some y → n.r.getD (v + i) (.n 0) = y) → (∀ i u, (slsV (resL' res) cs)[i]? = some u → n.sv (a + i) = u) → (resAt res v a).map (PV.den n) = packs res cs := by
  have hcell : ∀ (x : RC) (y : DV) (c : Value) (v a : Nat), ((∀ m r, x.s ≠ .sl m r) → c = cellV x.s y) → n.r.getD v (.n 0) = y → ((∃ m r, x.s = .sl m r) → n.sv a = c) → (cellAt x.s v a).den n = c := fun x y c v a h2 hy ha => by
    unfold cellAt
    cases hs : x.s with
    | int k p q =>
      rw [h2 (by rw [hs]; simp), hs]
      simp only [CV.den, K.den, E.den, hy, cellV]
    | bool =>
      rw [h2 (by rw [hs]; simp), hs]
      simp only [CV.den, K.den, B.den, E.den, hy, cellV]
    | str m =>
      rw [h2 (by rw [hs]; simp), hs]
      simp only [CV.den, K.den, E.dat, hy, cellV]
    | sl m r => exact ha ⟨m, r, hs⟩
  have hcells : ∀ (l : List RC) (ys : List DV) (cs : List Value) (v a : Nat), CellA l ys cs → (∀ i y, ys[i]? = some y → n.r.getD (v + i) (.n 0) = y) → (∀ i u, (slsV l cs)[i]? = some u → n.sv (a + i) = u) → (cellsAt l v a).map (CV.den n) = cs := by
    intro l
    induction l with
    | nil => intro ys cs v a h _ _; cases ys <;> cases cs <;> first | rfl | (simp only [CellA] at h)
    | cons x l ih =>
      intro ys cs v a h hy ha
      cases ys with
      | nil => simp only [CellA] at h
      | cons y ys => cases cs with
        | nil => simp only [CellA] at h
        | cons c cs =>
          simp only [CellA] at h
          simp only [cellsAt, List.map_cons]
          rw [hcell x y c v a h.1 (by simpa using hy 0 y rfl) (fun ⟨m, r, hs⟩ => by simpa using ha 0 c (by simp [slsV, hs]))]
          rw [ih ys cs (v + 1) (a + nAr x.s) h.2 (fun i y hi => by rw [Nat.add_assoc, Nat.add_comm 1]; exact hy (i + 1) y hi) fun i u hi => ?_]
          cases hs : x.s with
          | sl m r => simp only [nAr]; rw [Nat.add_assoc, Nat.add_comm 1]; exact ha (i + 1) u (by simp only [slsV, hs]; exact hi)
          | _ => simp only [nAr]; exact ha i u (by simp only [slsV, hs]; exact hi)
  have hsplit : ∀ (l : List RC) (l2 : List RC) (ys : List DV) (cs : List Value), CellA (l ++ l2) ys cs → CellA l (ys.take l.length) (cs.take l.length) ∧ CellA l2 (ys.drop l.length) (cs.drop l.length) ∧ slsV (l ++ l2) cs = slsV l (cs.take l.length) ++ slsV l2 (cs.drop l.length) ∧ (slsV l (cs.take l.length)).length = numAr l := by
    intro l
    induction l with
    | nil => intro l2 ys cs h; exact ⟨by simp [CellA], h, by simp [slsV], rfl⟩
    | cons x l ih =>
      intro l2 ys cs h
      cases ys with
      | nil => simp only [List.cons_append, CellA] at h
      | cons y ys => cases cs with
        | nil => simp only [List.cons_append, CellA] at h
        | cons c cs =>
          simp only [List.cons_append, CellA] at h
          obtain ⟨i1, i2, i3, i4⟩ := ih l2 ys cs h.2
          simp only [List.length_cons, List.take_succ_cons, List.drop_succ_cons, ResA, List.cons_append, slsV, numAr]
          refine ⟨⟨h.1, i1⟩, i2, ?_, ?_⟩ <;> cases hs : x.s <;> simp [i3, i4, nAr, Nat.add_comm]
  intro res
  induction res with
  | nil => intro ys cs v a _ _ _; rfl
  | cons x l ih =>
    intro ys cs v a h hy ha
    rw [show resL' (x :: l) = x.l ++ resL' l from by simp [resL']] at h ha
    obtain ⟨i1, i2, i3, i4⟩ := hsplit _ _ _ _ h
    rw [i3] at ha
    have hrest := ih (ys.drop x.l.length) (cs.drop x.l.length) (v + x.l.length) (a + numAr x.l) i2 (fun i y hi => by
      rw [List.getElem?_drop] at hi; rw [Nat.add_assoc]; exact hy _ y hi) (fun i u hi => by
      rw [Nat.add_assoc]
      refine ha _ u ?_
      rw [List.getElem?_append_right (by omega), i4, Nat.add_sub_cancel_left]; exact hi)
    have hfst := hcells x.l (ys.take x.l.length) (cs.take x.l.length) v a i1 (fun i y hi => by
      rw [List.getElem?_take] at hi
      split at hi
      · exact hy i y hi
      · cases hi) (fun i u hi => by
      refine ha _ u ?_
      rw [List.getElem?_append_left (List.getElem?_eq_some_iff.1 hi).1]; exact hi)
    cases x with
    | one r =>
      cases cs with
      | nil =>
        cases ys <;> simp [RSh.l, CellA] at i1
      | cons c cs =>
        simp only [RSh.l, List.length_cons, List.length_nil, Nat.zero_add, List.take_succ_cons, List.take_zero, cellsAt, List.map_cons, List.map_nil, List.cons.injEq, and_true] at hfst
        simp only [resAt, RSh.at, List.map_cons, packs, PV.den]
        rw [hfst]
        simp only [RSh.l, List.length_cons, List.length_nil, Nat.zero_add, List.drop_succ_cons, List.drop_zero] at hrest ⊢
        rw [hrest]
    | agg r =>
      simp only [resAt, RSh.at, List.map_cons, packs, PV.den]
      simp only [RSh.l] at hfst hrest ⊢
      rw [hfst, hrest]
end Go.Dx

/- A symbolic executor: what a contract is given. -/
namespace Go.Dx
open Go.RowKit
set_option linter.unusedVariables false
set_option linter.unusedSimpArgs false
def frzK (s : St) : K → Bool
  | .nils => true
  | .nest _ => true
  | .ar k => match s.ar[k]? with
    | some a => match a.st with
      | .frz => true
      | .full => true
      | .told _ => true
      | _ => false
    | none => false
  | _ => false
theorem frz_laid {N : Nat} {w0 : World} {n : Env} {s : St} {a : Act} {w : World} (h : Rep N w0 n s a w) {row : List Sh} {z : K} {r : Rd} (hr : rdOf s row z = some r) (hf : frzK s z = true) : LaidAt w (fun g => ¬ Owned n s.ar g) (z.den n) r.row (r.ct.els n.r) := by
  unfold frzK at hf
  split at hf
  · simp only [rdOf, Option.some.injEq] at hr
    subst hr
    exact ⟨none, 0, rfl, Nat.le_refl _, fun hn => absurd rfl hn⟩
  · rename_i p
    simp only [rdOf] at hr
    split at hr
    · rename_i mx r' hsh
      split at hr
      · rename_i hc
        simp only [Option.some.injEq] at hr
        subst hr
        simp only [Bool.and_eq_true] at hc
        obtain ⟨f1, _, f3⟩ := path_laid h.perm p _ hsh
        show LaidAt w _ ((p.dat n.r).sv) r' ((p.dat n.r).els)
        rcases f3 hc.1 with f3 | f3
        · simp only [Laid] at f3; exact f3.1
        · rw [f3]
          exact ⟨none, 0, rfl, Nat.le_refl _, fun h => absurd rfl h⟩
      · cases hr
    · cases hr
  · rename_i k
    split at hf
    · rename_i a' hk
      simp only [rdOf, hk] at hr
      have he := h.dat.ent k _ hk
      unfold EntOk at he
      cases hs : a'.st with
      | frz =>
        rw [hs] at hr he
        simp only [Option.some.injEq] at hr
        subst hr
        exact he.2
      | full =>
        rw [hs] at hr he
        simp only [Option.some.injEq] at hr
        subst hr
        exact he.2.1
      | told e =>
        rw [hs] at hr he
        simp only [Option.some.injEq] at hr
        subst hr
        exact he.2.1
      | _ => rw [hs] at hf; cases hf
    · cases hf
  · cases hf
/-- A string as a variable. -/
def isCan : E → Bool
  | .var _ => true
  | .str _ => true
  | _ => false
theorem letS_ok {β : Type} {N : Nat} {w0 : World} {C : List Con} {Φ : List DV → β → Prop} {n : Env} {s : St} {a : Act} {w : World} {f : DOp} {xs : List E} {mx : Nat} {k : Nat → St → T β} (h : Rep N w0 n s a w) (hw : wfSt s = true)
    (hd : (letD s f xs (.str mx) k).den C Φ n.r) {l : ByteArray} (he : f.fn (xs.map (E.val n.r)) = .s l) (hl : l.size ≤ mx) :
    ∃ m, Ext n m ∧ m.v = n.v ∧ m.b = n.b ∧ Rep N w0 m { s with bnd := cat s.bnd [.d (.str mx)] } a w ∧ (k s.bnd.v.length { s with bnd := cat s.bnd [.d (.str mx)] }).den C Φ m.r ∧ (E.var s.bnd.v.length).dat m.r = .s l := by
  simp only [letD, T.den, he] at hd
  refine ⟨n.moreZ [.s l], Ext.more n _ _ (by simp), rfl, rfl, ?_, hd, ?_⟩
  · exact h.letD hw (by simp only [HasSh, DV.str]; exact hl) ⟨l, rfl⟩ rfl (by simp only [NestD])
  · simp only [E.dat, ← h.lens.1]
    simp [Env.moreZ, Env.more]
/-- An argument of a contract. -/
def argC {β : Type} (s : St) (t : Sh) (c : CV) (k : E → St → T β) : T β :=
  match t with
  | .sl mx row => match c with
    | .k x => match rdOf s row x with
      | some r => if (!row.isEmpty && Sh.fines row) && shLes r.row row then
          toVar s r.row r.ct fun e m s1 => match e with
            | .var i => if Nat.ble m mx then k (.var i) s1 else .ite (.le r.len (.lit mx)) (k (.var i) s1) .fail
            | e => letD s1 .sub [e, .num (.lit 0), .num r.len] (.sl m r.row) fun v s2 => if Nat.ble m mx then k (.var v) s2 else .ite (.le r.len (.lit mx)) (k (.var v) s2) .fail
        else .fail
      | none => .fail
    | _ => .fail
  | t => litC s.bnd c fun c => match eOf s.bnd t c with
    | some (e, t') => if wfE s.bnd.v.length e then match t with
        | .int _ a b => if shLe t' t then k e s else .ite (.and (.le (.lit a) e) (.le e (.lit b))) (k e s) .fail
        | .str m => if shLe t' t then match t' with
            | .str m' => if isCan e then k e s else letD s .str [e] (.str m') fun v s1 => k (.var v) s1
            | _ => .fail
          else .fail
        | _ => if shLe t' t then k e s else .fail
      else .fail
    | none => .fail
theorem eOf_int {s : Bnd} {k : IntKind} {a b : Int} {c : CV} {e : E} {S : Sh} (h : eOf s (.int k a b) c = some (e, S)) : ∃ e' x y, e = .num e' ∧ S = .int k x y ∧ c = .k (.int k e') := by
  unfold eOf at h
  split at h <;> rename_i h1 <;> first | (cases h; done) | skip
  · simp only at h
    split at h
    · rename_i hc
      cases h
      simp only [Bool.and_eq_true] at hc
      cases h1
      obtain rfl := kq_ok hc.1
      exact ⟨_, _, _, rfl, rfl, rfl⟩
    · cases h
  all_goals (cases h1)
theorem eOf_str {s : Bnd} {m : Nat} {c : CV} {e : E} {S : Sh} (h : eOf s (.str m) c = some (e, S)) : ∃ m', S = .str m' ∧ e.isD = true ∧ c = .k (.str e) ∧ e.shp s = some (.str m') := by
  unfold eOf at h
  split at h <;> rename_i h1 <;> first | (cases h; done) | skip
  all_goals first | (cases h1; done) | skip
  split at h
  · rename_i m' hm
    split at h
    · rename_i hd
      cases h
      exact ⟨_, rfl, hd, rfl, hm⟩
    · cases h
  · cases h
theorem eOf_bool {s : Bnd} {c : CV} {e : E} {S : Sh} (h : eOf s .bool c = some (e, S)) : S = .bool ∧ e.isD = false := by
  unfold eOf at h
  split at h <;> rename_i h1 <;> first | (cases h; done) | skip
  all_goals first | (cases h; exact ⟨rfl, rfl⟩) | (cases h1; done) | skip
  simp only at h
  split at h
  · cases h; exact ⟨rfl, rfl⟩
  · cases h
theorem canon_n {d : DV} {x : Int} (h : d = .n x) : d.canon = .n x := by rw [h]; rfl
theorem argC_full {β : Type} {N : Nat} {w0 : World} {C : List Con} {Φ : List DV → β → Prop} {n : Env} {s : St} {a : Act} {w : World} {t : Sh} {c : CV} {k : E → St → T β} (h : Rep N w0 n s a w) (hw : wfSt s = true) (hd : (argC s t c k).den C Φ n.r) :
    ∃ m e s1, Ext n m ∧ m.v = n.v ∧ m.b = n.b ∧ Rep N w0 m s1 a w ∧ wfSt s1 = true ∧ s1.ar = s.ar ∧ s1.tmps = s.tmps ∧ (k e s1).den C Φ m.r ∧ wfE m.r.length e = true ∧ cellA w t (e.top m.r) (c.den n) ∧ (∀ mx row x, t = .sl mx row → c = .k x → ∃ r, rdOf s row x = some r ∧ shLes r.row row = true ∧ (e.top m.r).els = r.ct.els n.r) := by
  have flat : ∀ (t : Sh), (∀ mx row, t ≠ .sl mx row) → (litC s.bnd c fun c => match eOf s.bnd t c with
    | some (e, t') => if wfE s.bnd.v.length e then match t with
        | .int _ a b => if shLe t' t then k e s else .ite (.and (.le (.lit a) e) (.le e (.lit b))) (k e s) .fail
        | .str m => if shLe t' t then match t' with
            | .str m' => if isCan e then k e s else letD s .str [e] (.str m') fun v s1 => k (.var v) s1
            | _ => .fail
          else .fail
        | _ => if shLe t' t then k e s else .fail
      else .fail
    | none => .fail).den C Φ n.r → ∃ m e s1, Ext n m ∧ m.v = n.v ∧ m.b = n.b ∧ Rep N w0 m s1 a w ∧ wfSt s1 = true ∧ s1.ar = s.ar ∧ s1.tmps = s.tmps ∧ (k e s1).den C Φ m.r ∧ wfE m.r.length e = true ∧ cellA w t (e.top m.r) (c.den n) ∧ (∀ mx row x, t = .sl mx row → c = .k x → ∃ r, rdOf s row x = some r ∧ shLes r.row row = true ∧ (e.top m.r).els = r.ct.els n.r) := fun t ht hd => by
    obtain ⟨c', _, e2, hd⟩ := litC_ok (q := sz s) _ _ hd
    rw [← e2]
    split at hd
    case h_2 => exact hd.elim
    rename_i e t' he
    have hft : t.fine = true := by cases t <;> first | rfl | exact absurd rfl (ht _ _)
    obtain ⟨o1, o2, _, _⟩ := eOf_ok h.bnd h.perm he hft
    split at hd
    case isFalse => exact hd.elim
    rename_i hwe
    have hwe' : wfE n.r.length e = true := by rw [h.lens.1]; exact hwe
    cases t with
    | int kk x y =>
      obtain ⟨e', p, q, rfl, rfl, rfl⟩ := eOf_int he
      have ev : E.val n.r (.num e') = .n (e'.den n.r) := by simp only [E.val, E.isD, E.den]
      have et : E.top n.r (.num e') = .n (e'.den n.r) := canon_n ev
      simp only at hd
      split at hd
      · rename_i hle
        obtain ⟨q1, q2, _⟩ := shLe_ok hle o1
        refine ⟨n, _, s, Ext.refl n, rfl, rfl, h, hw, rfl, rfl, hd, hwe', ?_⟩
        rw [et, ← ev]
        exact ⟨⟨q1, by show _ = cellV (.int kk x y) _; rw [q2, o2]⟩, fun mx row x h => absurd h (ht mx row)⟩
      · simp only [T.den, B.prop, E.den] at hd
        by_cases hr : x ≤ e'.den n.r ∧ e'.den n.r ≤ y
        · refine ⟨n, _, s, Ext.refl n, rfl, rfl, h, hw, rfl, rfl, hd.1 hr, hwe', ?_⟩
          rw [et]
          rw [ev] at o1
          simp only [HasSh] at o1
          obtain ⟨z, e1, _, e3⟩ := o1
          cases e1
          exact ⟨⟨by simp only [HasSh]; exact ⟨_, rfl, hr, e3⟩, rfl⟩, fun mx row x h => absurd h (ht mx row)⟩
        · exact (hd.2 hr).elim
    | bool =>
      obtain ⟨rfl, hnd⟩ := eOf_bool he
      simp only at hd
      split at hd
      · refine ⟨n, _, s, Ext.refl n, rfl, rfl, h, hw, rfl, rfl, hd, hwe', ?_⟩
        have et : E.top n.r e = E.val n.r e := by
          unfold E.top E.val
          rw [hnd]
          rfl
        rw [et]
        exact ⟨⟨o1, o2.symm⟩, fun mx row x h => absurd h (ht mx row)⟩
      · exact hd.elim
    | str m0 =>
      obtain ⟨m', rfl, hdd, rfl, hsh⟩ := eOf_str he
      simp only at hd
      split at hd
      case isFalse => exact hd.elim
      rename_i hle
      have ev : E.val n.r e = e.dat n.r := by simp only [E.val, hdd]
      have hs := E.shp_str h.bnd hsh
      split at hd
      · rename_i hcan
        refine ⟨n, _, s, Ext.refl n, rfl, rfl, h, hw, rfl, rfl, hd, hwe', ?_⟩
        have hb : ∃ b, e.dat n.r = .s b := by
          cases e with
          | var i =>
            simp only [E.shp] at hsh
            split at hsh
            · rename_i S hi
              cases hsh
              have := h.bnd.vok i
              rw [List.getD_eq_getElem?_getD, hi] at this
              exact this.2
            · cases hsh
          | str b => exact ⟨b, rfl⟩
          | _ => cases hcan
        obtain ⟨b, hb⟩ := hb
        have et : E.top n.r e = .s b := by unfold E.top; rw [ev, hb]; rfl
        rw [et]
        rw [hb] at hs
        exact ⟨⟨(shLe_ok hle hs).1, ⟨b, rfl⟩, by simp only [CV.den, K.den, hb, DV.str]⟩, fun mx row x h => absurd h (ht mx row)⟩
      · have hfn : (DOp.str).fn ([e].map (E.val n.r)) = .s (e.dat n.r).str := by simp only [List.map_cons, List.map_nil, DOp.fn, ev]
        have hs' := hs
        simp only [HasSh] at hs'
        obtain ⟨m, c1, c2, c3, c4, c5, c6⟩ := letS_ok h hw hd hfn hs'
        refine ⟨m, _, _, c1, c2, c3, c4, wfSt_cat hw _, rfl, rfl, c5, ?_, ?_⟩
        · rw [c4.lens.1]; simp only [wfE, cat]; simp [Nat.blt]
        · have et : E.top m.r (.var s.bnd.v.length) = .s (e.dat n.r).str := by unfold E.top E.val; simp only [E.isD, c6]; rfl
          rw [et]
          have hs2 : HasSh (.str m') (.s (e.dat n.r).str) := by simp only [HasSh, DV.str]; exact hs'
          exact ⟨⟨(shLe_ok hle hs2).1, ⟨_, rfl⟩, rfl⟩, fun mx row x h => absurd h (ht mx row)⟩
    | sl mx row => exact absurd rfl (ht _ _)
  cases t with
  | int kk x y => exact flat _ (by simp) hd
  | bool => exact flat _ (by simp) hd
  | str m => exact flat _ (by simp) hd
  | sl mx row =>
    simp only [argC] at hd
    split at hd
    case h_2 => exact hd.elim
    rename_i x
    split at hd
    case h_2 => exact hd.elim
    rename_i r hr
    split at hd
    case isFalse => exact hd.elim
    rename_i hc
    simp only [Bool.and_eq_true, Bool.not_eq_true', List.isEmpty_eq_false_iff] at hc
    obtain ⟨⟨hne, hf⟩, hle⟩ := hc
    have hrd := rdOf_ok h hne hf hr
    obtain ⟨m1, e, mx1, s1, a1, a2, a3, a4, a5, a6, a7, a8, a9, a10, a11, a12, a13, a14, a15⟩ := toVar_ok h hw hd hrd.wf.1 hrd.fine hrd.shp hrd.nest
    obtain ⟨b1, b2, b3⟩ := hrd.shift a1 a2 a3
    obtain ⟨f1, f2, f3, f4⟩ := shLes_flat hle hrd.shp.2
    have hsv : svOf (x.den n) = x.den n := by
      obtain ⟨a', c', e1, _⟩ := hrd.laid
      rw [e1]; rfl
    have fin : ∀ (m : Env) (i : Nat) (s2 : St), Ext n m → m.v = n.v → m.b = n.b → Rep N w0 m s2 a w → wfSt s2 = true → s2.ar = s.ar → s2.tmps = s.tmps → wfE m.r.length (.var i) = true → (E.var i).dat m.r = .sl none 0 (r.ct.els n.r) → (if Nat.ble mx1 mx then k (.var i) s2 else .ite (.le r.len (.lit mx)) (k (.var i) s2) .fail : T β).den C Φ m.r → 
        ∃ m e s1, Ext n m ∧ m.v = n.v ∧ m.b = n.b ∧ Rep N w0 m s1 a w ∧ wfSt s1 = true ∧ s1.ar = s.ar ∧ s1.tmps = s.tmps ∧ (k e s1).den C Φ m.r ∧ wfE m.r.length e = true ∧ cellA w (.sl mx row) (e.top m.r) ((CV.k x).den n) ∧ (∀ mx' row' x', Sh.sl mx row = .sl mx' row' → CV.k x = .k x' → ∃ r, rdOf s row' x' = some r ∧ shLes r.row row' = true ∧ (e.top m.r).els = r.ct.els n.r) := fun m i s2 q1 q2 q3 q4 q5 q6 q7 q8 q9 hd => by
      have et : E.top m.r (.var i) = .sl none 0 (r.ct.els n.r) := by unfold E.top E.val; simp only [E.isD, q9]; rfl
      have lnk : ∀ mx' row' x', Sh.sl mx row = .sl mx' row' → CV.k x = .k x' → ∃ r, rdOf s row' x' = some r ∧ shLes r.row row' = true ∧ (E.top m.r (.var i)).els = r.ct.els n.r := fun mx' row' x' h1 h2 => by
        cases h1; cases h2
        exact ⟨r, hr, hle, by rw [et]; rfl⟩
      have done : (r.ct.els n.r).length ≤ mx → cellA w (.sl mx row) (E.top m.r (.var i)) ((CV.k x).den n) := fun hl => by
        rw [et]
        refine ⟨by simp only [HasSh, DV.els]; exact ⟨hl, f1⟩, ⟨_, rfl⟩, hsv, f4 _ _ _ hrd.laid, f3 _ _ ?_⟩
        intro y hy
        exact (hrd.nest y hy).true
      split at hd
      · rename_i hble
        exact ⟨m, _, s2, q1, q2, q3, q4, q5, q6, q7, hd, q8, done (Nat.le_trans a12 (Nat.le_of_ble_eq_true hble)), lnk⟩
      · simp only [T.den, B.prop, E.den] at hd
        obtain ⟨_, _, z3⟩ := hrd.shift q1 q2 q3
        by_cases hl : r.len.den m.r ≤ (mx : Int)
        · refine ⟨m, _, s2, q1, q2, q3, q4, q5, q6, q7, hd.1 hl, q8, done ?_, lnk⟩
          rw [z3, hrd.len] at hl
          omega
        · exact (hd.2 hl).elim
    split at a9
    · rename_i i
      have hcan : (E.var i).dat m1.r = .sl none 0 (r.ct.els n.r) := by
        simp only [E.shp] at a15
        split at a15
        · rename_i S hi
          cases a15
          have := a4.bnd.vok i
          rw [List.getD_eq_getElem?_getD, hi] at this
          obtain ⟨_, l, hl⟩ := this
          have hl : (E.var i).dat m1.r = .sl none 0 l := hl
          rw [hl] at a11
          rw [hl, ← a11]; rfl
        · cases a15
      exact fin m1 i s1 a1 a2 a3 a4 a5 a6 a7 a10 hcan a9
    · have hlen : r.len.den m1.r = (r.ct.els n.r).length := by rw [b3, hrd.len]
      have hfn : (DOp.sub).fn ([e, .num (.lit 0), .num r.len].map (E.val m1.r)) = .sl none 0 (r.ct.els n.r) := by
        have e1 : E.val m1.r e = e.dat m1.r := by simp only [E.val, a14]
        have e2 : E.val m1.r (.num (.lit 0)) = .n 0 := by simp only [E.val, E.isD, E.den]
        have e3 : E.val m1.r (.num r.len) = .n (r.ct.els n.r).length := by simp only [E.val, E.isD, E.den, hlen]
        simp only [List.map_cons, List.map_nil, DOp.fn, e1, e2, e3, a11, DV.int]
        simp
      obtain ⟨m2, c1, c2, c3, c4, c5, c6⟩ := letD_ok a4 a5 a9 hfn a12 a13 hrd.shp.1 hrd.fine hrd.shp.2 (by rw [a6]; exact b1.nest |> fun h => by rw [b2] at h; exact h)
      refine fin m2 _ _ (a1.trans c1) (by rw [c2, a2]) (by rw [c3, a3]) c4 (wfSt_cat a5 _) a6 a7 ?_ c6 c5
      rw [c4.lens.1]; simp only [wfE, cat]; simp [Nat.blt]
theorem argC_ok {β : Type} {N : Nat} {w0 : World} {C : List Con} {Φ : List DV → β → Prop} {n : Env} {s : St} {a : Act} {w : World} {t : Sh} {c : CV} {k : E → St → T β} (h : Rep N w0 n s a w) (hw : wfSt s = true) (hd : (argC s t c k).den C Φ n.r) :
    ∃ m e s1, Ext n m ∧ m.v = n.v ∧ m.b = n.b ∧ Rep N w0 m s1 a w ∧ wfSt s1 = true ∧ s1.ar = s.ar ∧ s1.tmps = s.tmps ∧ (k e s1).den C Φ m.r ∧ wfE m.r.length e = true ∧ cellA w t (e.top m.r) (c.den n) := by
  obtain ⟨m, e, s1, a1, a2, a3, a4, a5, a6, a7, a8, a9, a10, _⟩ := argC_full h hw hd
  exact ⟨m, e, s1, a1, a2, a3, a4, a5, a6, a7, a8, a9, a10⟩
end Go.Dx

/- A symbolic executor: what a contract gives. -/
namespace Go.Dx
open Go.RowKit
set_option linter.unusedVariables false
set_option linter.unusedSimpArgs false
def cellsC {β : Type} : St → List Sh → List CV → (List E → St → T β) → T β
  | s, [], [], k => k [] s
  | s, t :: l, c :: r, k => argC s t c fun e s => cellsC s l r fun es s => k (e :: es) s
  | _, _, _, _ => .fail
def argsC {β : Type} : St → List ASh → List PV → (List E → St → T β) → T β
  | s, [], [], k => k [] s
  | s, .c t :: l, .c c :: r, k => argC s t c fun e s => argsC s l r fun es s => k (e :: es) s
  | s, .agg ts :: l, .agg cs :: r, k => cellsC s ts cs fun es s => argsC s l r fun fs s => k (es ++ fs) s
  | _, _, _, _ => .fail
theorem wfE_top {r m : List DV} (h : r <+: m) (e : E) (he : wfE r.length e = true) : e.top m = e.top r := by unfold E.top; rw [wfE_val h e he]
theorem wfEs_top {r m : List DV} (h : r <+: m) {es : List E} (he : es.all (wfE r.length) = true) : es.map (E.top m) = es.map (E.top r) :=
  List.map_congr_left fun e hm => wfE_top h e (List.all_eq_true.1 he e hm)
theorem cellsC_ok {β : Type} {N : Nat} {w0 : World} {C : List Con} {Φ : List DV → β → Prop} {a : Act} {w : World} : ∀ (l : List Sh) (r : List CV) {n : Env} {s : St} {k : List E → St → T β}, Rep N w0 n s a w → wfSt s = true → r.all (wfC (nz n)) = true → (cellsC s l r k).den C Φ n.r →
    ∃ m es s1, Ext n m ∧ m.v = n.v ∧ m.b = n.b ∧ Rep N w0 m s1 a w ∧ wfSt s1 = true ∧ s1.ar = s.ar ∧ s1.tmps = s.tmps ∧ (k es s1).den C Φ m.r ∧ es.all (wfE m.r.length) = true ∧ cellsA w l (es.map (E.top m.r)) (r.map (CV.den n))
  | [], [], n, s, k, h, hw, _, hd => ⟨n, [], s, Ext.refl n, rfl, rfl, h, hw, rfl, rfl, hd, rfl, by simp [cellsA]⟩
  | t :: l, c :: r, n, s, k, h, hw, hc, hd => by
    simp only [List.all_cons, Bool.and_eq_true] at hc
    simp only [cellsC] at hd
    obtain ⟨m, e, s1, a1, a2, a3, a4, a5, a6, a7, a8, a9, a10⟩ := argC_ok h hw hd
    have hnz : nz m = ⟨m.r.length, n.b.length, n.v.length⟩ := by unfold nz; rw [a2, a3]
    have hmono : ∀ c, wfC (nz n) c = true → wfC (nz m) c = true := fun c hc => wfC_mono a1.r.length_le a1.b.length_le a1.v.length_le c hc
    obtain ⟨m2, es, s2, b1, b2, b3, b4, b5, b6, b7, b8, b9, b10⟩ := cellsC_ok l r a4 a5 (List.all_eq_true.2 fun c hm => hmono c (List.all_eq_true.1 hc.2 c hm)) a8
    have hcs : r.map (CV.den m) = r.map (CV.den n) := wfCs_den a1 r hc.2
    refine ⟨m2, e :: es, s2, a1.trans b1, by rw [b2, a2], by rw [b3, a3], b4, b5, by rw [b6, a6], by rw [b7, a7], b8, ?_, ?_⟩
    · simp only [List.all_cons, b9, Bool.and_true]
      exact wfE_mono b1.r.length_le e a9
    · simp only [List.map_cons, cellsA]
      rw [wfE_top b1.r e a9]
      exact ⟨a10, by rw [← hcs]; exact b10⟩
  | [], _ :: _, n, s, k, _, _, _, hd => by simp only [cellsC] at hd; exact hd.elim
  | _ :: _, [], n, s, k, _, _, _, hd => by simp only [cellsC] at hd; exact hd.elim
theorem argsV_app {w : World} : ∀ {ss : List Sh} {ys : List DV} {cs : List Value} {l : List ASh} {r : List DV} {vs : List Value}, cellsA w ss ys cs → ArgsV w l r vs → ArgsV w (.agg ss :: l) (ys ++ r) (.agg cs.toArray :: vs) := fun {ss ys cs l r vs} h1 h2 => by
  simp only [ArgsV]
  exact ⟨ys, r, cs, rfl, rfl, h1, h2⟩
theorem argsC_ok {β : Type} {N : Nat} {w0 : World} {C : List Con} {Φ : List DV → β → Prop} {a : Act} {w : World} : ∀ (l : List ASh) (r : List PV) {n : Env} {s : St} {k : List E → St → T β}, Rep N w0 n s a w → wfSt s = true → r.all (wfP (nz n)) = true → (argsC s l r k).den C Φ n.r →
    ∃ m es s1, Ext n m ∧ m.v = n.v ∧ m.b = n.b ∧ Rep N w0 m s1 a w ∧ wfSt s1 = true ∧ s1.ar = s.ar ∧ s1.tmps = s.tmps ∧ (k es s1).den C Φ m.r ∧ es.all (wfE m.r.length) = true ∧ ArgsV w l (es.map (E.top m.r)) (r.map (PV.den n))
  | [], [], n, s, k, h, hw, _, hd => ⟨n, [], s, Ext.refl n, rfl, rfl, h, hw, rfl, rfl, hd, rfl, by simp [ArgsV]⟩
  | .c t :: l, .c c :: r, n, s, k, h, hw, hc, hd => by
    simp only [List.all_cons, Bool.and_eq_true] at hc
    simp only [argsC] at hd
    obtain ⟨m, e, s1, a1, a2, a3, a4, a5, a6, a7, a8, a9, a10⟩ := argC_ok h hw hd
    have hmono : ∀ c, wfP (nz n) c = true → wfP (nz m) c = true := fun c hc => wfP_mono a1.r.length_le a1.b.length_le a1.v.length_le c hc
    obtain ⟨m2, es, s2, b1, b2, b3, b4, b5, b6, b7, b8, b9, b10⟩ := argsC_ok l r a4 a5 (List.all_eq_true.2 fun c hm => hmono c (List.all_eq_true.1 hc.2 c hm)) a8
    have hcs : r.map (PV.den m) = r.map (PV.den n) := wfPs_den a1 r hc.2
    refine ⟨m2, e :: es, s2, a1.trans b1, by rw [b2, a2], by rw [b3, a3], b4, b5, by rw [b6, a6], by rw [b7, a7], b8, ?_, ?_⟩
    · simp only [List.all_cons, b9, Bool.and_true]
      exact wfE_mono b1.r.length_le e a9
    · simp only [List.map_cons, ArgsV, PV.den]
      rw [wfE_top b1.r e a9]
      exact ⟨a10, by rw [← hcs]; exact b10⟩
  | .agg ts :: l, .agg cs :: r, n, s, k, h, hw, hc, hd => by
    simp only [List.all_cons, Bool.and_eq_true] at hc
    simp only [argsC] at hd
    obtain ⟨m, e, s1, a1, a2, a3, a4, a5, a6, a7, a8, a9, a10⟩ := cellsC_ok ts cs h hw (by simpa only [wfP] using hc.1) hd
    have hmono : ∀ c, wfP (nz n) c = true → wfP (nz m) c = true := fun c hc => wfP_mono a1.r.length_le a1.b.length_le a1.v.length_le c hc
    obtain ⟨m2, es, s2, b1, b2, b3, b4, b5, b6, b7, b8, b9, b10⟩ := argsC_ok l r a4 a5 (List.all_eq_true.2 fun c hm => hmono c (List.all_eq_true.1 hc.2 c hm)) a8
    have hcs : r.map (PV.den m) = r.map (PV.den n) := wfPs_den a1 r hc.2
    refine ⟨m2, e ++ es, s2, a1.trans b1, by rw [b2, a2], by rw [b3, a3], b4, b5, by rw [b6, a6], by rw [b7, a7], b8, ?_, ?_⟩
    · simp only [List.all_append, b9, Bool.and_true]
      exact List.all_eq_true.2 fun x hx => wfE_mono b1.r.length_le x (List.all_eq_true.1 a9 x hx)
    · simp only [List.map_cons, PV.den]
      rw [List.map_append, wfEs_top b1.r a9]
      exact argsV_app a10 (by rw [← hcs]; exact b10)
  | [], _ :: _, n, s, k, _, _, _, hd => by simp only [argsC] at hd; exact hd.elim
  | .c _ :: _, [], n, s, k, _, _, _, hd => by simp only [argsC] at hd; exact hd.elim
  | .agg _ :: _, [], n, s, k, _, _, _, hd => by simp only [argsC] at hd; exact hd.elim
  | .c _ :: _, .agg _ :: _, n, s, k, _, _, _, hd => by simp only [argsC] at hd; exact hd.elim
  | .agg _ :: _, .c _ :: _, n, s, k, _, _, _, hd => by simp only [argsC] at hd; exact hd.elim
/-! Arguments that nobody may write to any more. -/
def frzC (s : St) : CV → Bool
  | .k (.ar k) => frzK s (.ar k)
  | .k (.sl _ _ _ _) => false
  | _ => true
def frzAll : List CV → List Ar → List Ar
  | [], ar => ar
  | .k x :: l, ar => frzAll l (frzK3 x ar)
  | _ :: l, ar => frzAll l ar
theorem Rep.frzAll {N : Nat} {w0 : World} {n : Env} {a : Act} {w : World} : ∀ (l : List CV) {s : St}, Rep N w0 n s a w → Rep N w0 n { s with ar := Dx.frzAll l s.ar } a w
  | [], s, h => h
  | x :: l, s, h => by
    cases x with
    | k x =>
      have h1 : Rep N w0 n { s with ar := frzK3 x s.ar } a w := by
        cases x <;> first | exact h | exact h.frzAr _
      exact Rep.frzAll l h1
    | clo f a b => exact Rep.frzAll l h
    | con v => exact Rep.frzAll l h
theorem frzAll_len : ∀ (l : List CV) (ar : List Ar), (frzAll l ar).length = ar.length
  | [], ar => rfl
  | .k x :: l, ar => by
    show (frzAll l (frzK3 x ar)).length = _
    rw [frzAll_len l]
    cases x <;> first | rfl | exact frzAr_len _ _
  | .clo _ _ _ :: l, ar => frzAll_len l ar
  | .con _ :: l, ar => frzAll_len l ar
theorem argC_S {β : Type} {N : Nat} {w0 : World} {C : List Con} {Φ : List DV → β → Prop} {n : Env} {s : St} {a : Act} {w : World} {t : Sh} {c : CV} {k : E → St → T β} (h : Rep N w0 n s a w) (hw : wfSt s = true) (hfz : frzC s c = true) (hd : (argC s t c k).den C Φ n.r) :
    ∃ m e s1, Ext n m ∧ m.v = n.v ∧ m.b = n.b ∧ Rep N w0 m s1 a w ∧ wfSt s1 = true ∧ s1.ar = s.ar ∧ s1.tmps = s.tmps ∧ (k e s1).den C Φ m.r ∧ wfE m.r.length e = true ∧ cellS w (fun g => ¬ Owned n s.ar g) t (e.top m.r) (c.den n) := by
  obtain ⟨m, e, s1, a1, a2, a3, a4, a5, a6, a7, a8, a9, a10, a11⟩ := argC_full h hw hd
  refine ⟨m, e, s1, a1, a2, a3, a4, a5, a6, a7, a8, a9, ?_⟩
  cases t with
  | sl mx row =>
    obtain ⟨b1, b2, b3, _, _⟩ := a10
    have hk : ∃ x, c = .k x := by
      simp only [argC] at hd
      split at hd
      · exact ⟨_, rfl⟩
      · exact hd.elim
    obtain ⟨x, rfl⟩ := hk
    obtain ⟨r, r1, r2, r3⟩ := a11 mx row x rfl rfl
    by_cases hn : x = .nils
    · subst hn
      simp only [rdOf, Option.some.injEq] at r1
      subst r1
      have he : (e.top m.r).els = [] := r3
      refine ⟨b1, b2, b3, ?_, ?_⟩
      · rw [he]; exact ⟨none, 0, rfl, Nat.le_refl _, fun h => absurd rfl h⟩
      · rw [he]; exact fun y hy => by cases hy
    · have hr : rdOf s [.bool] x = some r := by cases x <;> first | exact r1 | exact absurd rfl hn
      have hrd := rdOf_ok h (row := [.bool]) (by simp) rfl hr
      have hf : frzK s x = true := by
        cases x <;> first | exact hfz | rfl | (simp only [rdOf] at hr; cases hr)
      have hl := frz_laid h hr hf
      obtain ⟨_, _, f3, f4⟩ := shLes_flat r2 hrd.shp.2
      refine ⟨b1, b2, b3, ?_, ?_⟩
      · rw [r3]; exact f4 _ _ _ hl
      · rw [r3]; exact f3 _ _ hrd.nest
  | int k a b => exact a10
  | bool => exact a10
  | str m => exact a10
theorem owned_same {n m : Env} {ar ar' : List Ar} (hx : Ext n m) (hv : m.v = n.v) (hb : m.b = n.b) (ha : ar' = ar) (g : Nat) : Owned m ar' g ↔ Owned n ar g := by
  unfold Owned Env.sv; rw [ha, hv, hb, hx.f]
theorem frzC_same {s s' : St} (h : s'.ar = s.ar) (c : CV) : frzC s' c = frzC s c := by
  unfold frzC frzK; rw [h]
theorem frzC_fun {s s' : St} (h : s'.ar = s.ar) : frzC s' = frzC s := funext fun c => frzC_same h c
theorem cellsC_S {β : Type} {N : Nat} {w0 : World} {C : List Con} {Φ : List DV → β → Prop} {a : Act} {w : World} {Z : Nat → Prop} : ∀ (l : List Sh) (r : List CV) {n : Env} {s : St} {k : List E → St → T β}, Rep N w0 n s a w → wfSt s = true → r.all (wfC (nz n)) = true → r.all (frzC s) = true → (Z = fun g => ¬ Owned n s.ar g) → (cellsC s l r k).den C Φ n.r →
    ∃ m es s1, Ext n m ∧ m.v = n.v ∧ m.b = n.b ∧ Rep N w0 m s1 a w ∧ wfSt s1 = true ∧ s1.ar = s.ar ∧ s1.tmps = s.tmps ∧ (k es s1).den C Φ m.r ∧ es.all (wfE m.r.length) = true ∧ cellsS w Z l (es.map (E.top m.r)) (r.map (CV.den n))
  | [], [], n, s, k, h, hw, _, _, _, hd => ⟨n, [], s, Ext.refl n, rfl, rfl, h, hw, rfl, rfl, hd, rfl, by simp [cellsS]⟩
  | t :: l, c :: r, n, s, k, h, hw, hc, hfz, hZ, hd => by
    simp only [List.all_cons, Bool.and_eq_true] at hc hfz
    simp only [cellsC] at hd
    obtain ⟨m, e, s1, a1, a2, a3, a4, a5, a6, a7, a8, a9, a10⟩ := argC_S h hw hfz.1 hd
    have hnz : nz m = ⟨m.r.length, n.b.length, n.v.length⟩ := by unfold nz; rw [a2, a3]
    have hmono : ∀ c, wfC (nz n) c = true → wfC (nz m) c = true := fun c hc => wfC_mono a1.r.length_le a1.b.length_le a1.v.length_le c hc
    obtain ⟨m2, es, s2, b1, b2, b3, b4, b5, b6, b7, b8, b9, b10⟩ := cellsC_S (Z := Z) l r a4 a5 (List.all_eq_true.2 fun c hm => hmono c (List.all_eq_true.1 hc.2 c hm)) (by rw [frzC_fun a6]; exact hfz.2) (by rw [hZ]; funext g; rw [owned_same a1 a2 a3 a6]) a8
    have hcs : r.map (CV.den m) = r.map (CV.den n) := wfCs_den a1 r hc.2
    refine ⟨m2, e :: es, s2, a1.trans b1, by rw [b2, a2], by rw [b3, a3], b4, b5, by rw [b6, a6], by rw [b7, a7], b8, ?_, ?_⟩
    · simp only [List.all_cons, b9, Bool.and_true]
      exact wfE_mono b1.r.length_le e a9
    · simp only [List.map_cons, cellsS]
      rw [wfE_top b1.r e a9]
      exact ⟨by rw [hZ]; exact a10, by rw [← hcs]; exact b10⟩
  | [], _ :: _, n, s, k, _, _, _, _, _, hd => by simp only [cellsC] at hd; exact hd.elim
  | _ :: _, [], n, s, k, _, _, _, _, _, hd => by simp only [cellsC] at hd; exact hd.elim
theorem argsC_S {β : Type} {N : Nat} {w0 : World} {C : List Con} {Φ : List DV → β → Prop} {a : Act} {w : World} {Z : Nat → Prop} : ∀ (l : List ASh) (r : List PV) {n : Env} {s : St} {k : List E → St → T β}, Rep N w0 n s a w → wfSt s = true → r.all (wfP (nz n)) = true → (r.all fun p => p.cells.all (frzC s)) = true → (Z = fun g => ¬ Owned n s.ar g) → (argsC s l r k).den C Φ n.r →
    ∃ m es s1, Ext n m ∧ m.v = n.v ∧ m.b = n.b ∧ Rep N w0 m s1 a w ∧ wfSt s1 = true ∧ s1.ar = s.ar ∧ s1.tmps = s.tmps ∧ (k es s1).den C Φ m.r ∧ es.all (wfE m.r.length) = true ∧ ArgsS w Z l (es.map (E.top m.r)) (r.map (PV.den n))
  | [], [], n, s, k, h, hw, _, _, _, hd => ⟨n, [], s, Ext.refl n, rfl, rfl, h, hw, rfl, rfl, hd, rfl, by simp [ArgsS]⟩
  | .c t :: l, .c c :: r, n, s, k, h, hw, hc, hfz, hZ, hd => by
    simp only [List.all_cons, Bool.and_eq_true] at hc hfz
    simp only [argsC] at hd
    obtain ⟨m, e, s1, a1, a2, a3, a4, a5, a6, a7, a8, a9, a10⟩ := argC_S h hw (by simpa [PV.cells] using hfz.1) hd
    have hmono : ∀ c, wfP (nz n) c = true → wfP (nz m) c = true := fun c hc => wfP_mono a1.r.length_le a1.b.length_le a1.v.length_le c hc
    obtain ⟨m2, es, s2, b1, b2, b3, b4, b5, b6, b7, b8, b9, b10⟩ := argsC_S (Z := Z) l r a4 a5 (List.all_eq_true.2 fun c hm => hmono c (List.all_eq_true.1 hc.2 c hm)) (by rw [frzC_fun a6]; exact hfz.2) (by rw [hZ]; funext g; rw [owned_same a1 a2 a3 a6]) a8
    have hcs : r.map (PV.den m) = r.map (PV.den n) := wfPs_den a1 r hc.2
    refine ⟨m2, e :: es, s2, a1.trans b1, by rw [b2, a2], by rw [b3, a3], b4, b5, by rw [b6, a6], by rw [b7, a7], b8, ?_, ?_⟩
    · simp only [List.all_cons, b9, Bool.and_true]
      exact wfE_mono b1.r.length_le e a9
    · simp only [List.map_cons, ArgsS, PV.den]
      rw [wfE_top b1.r e a9]
      exact ⟨by rw [hZ]; exact a10, by rw [← hcs]; exact b10⟩
  | .agg ts :: l, .agg cs :: r, n, s, k, h, hw, hc, hfz, hZ, hd => by
    simp only [List.all_cons, Bool.and_eq_true] at hc hfz
    simp only [argsC] at hd
    obtain ⟨m, e, s1, a1, a2, a3, a4, a5, a6, a7, a8, a9, a10⟩ := cellsC_S ts cs h hw (by simpa only [wfP] using hc.1) hfz.1 hZ hd
    have hmono : ∀ c, wfP (nz n) c = true → wfP (nz m) c = true := fun c hc => wfP_mono a1.r.length_le a1.b.length_le a1.v.length_le c hc
    obtain ⟨m2, es, s2, b1, b2, b3, b4, b5, b6, b7, b8, b9, b10⟩ := argsC_S (Z := Z) l r a4 a5 (List.all_eq_true.2 fun c hm => hmono c (List.all_eq_true.1 hc.2 c hm)) (by rw [frzC_fun a6]; exact hfz.2) (by rw [hZ]; funext g; rw [owned_same a1 a2 a3 a6]) a8
    have hcs : r.map (PV.den m) = r.map (PV.den n) := wfPs_den a1 r hc.2
    refine ⟨m2, e ++ es, s2, a1.trans b1, by rw [b2, a2], by rw [b3, a3], b4, b5, by rw [b6, a6], by rw [b7, a7], b8, ?_, ?_⟩
    · simp only [List.all_append, b9, Bool.and_true]
      exact List.all_eq_true.2 fun x hx => wfE_mono b1.r.length_le x (List.all_eq_true.1 a9 x hx)
    · simp only [List.map_cons, PV.den]
      rw [List.map_append, wfEs_top b1.r a9]
      simp only [ArgsS]
      exact ⟨_, _, _, rfl, rfl, a10, by rw [← hcs]; exact b10⟩
  | [], _ :: _, n, s, k, _, _, _, _, _, hd => by simp only [argsC] at hd; exact hd.elim
  | .c _ :: _, [], n, s, k, _, _, _, _, _, hd => by simp only [argsC] at hd; exact hd.elim
  | .agg _ :: _, [], n, s, k, _, _, _, _, _, hd => by simp only [argsC] at hd; exact hd.elim
  | .c _ :: _, .agg _ :: _, n, s, k, _, _, _, _, _, hd => by simp only [argsC] at hd; exact hd.elim
  | .agg _ :: _, .c _ :: _, n, s, k, _, _, _, _, _, hd => by simp only [argsC] at hd; exact hd.elim
/-! Results. -/
theorem inB_bnd : ∀ {ys : List DV} {l : List VD}, inB ys l → BndOk ys ⟨l, [], []⟩
  | [], [], _ => ⟨rfl, fun i => by simp only [List.getD_nil]; exact ⟨0, rfl, Int.le_refl _, Int.le_refl _⟩, fun f hf => (by cases hf), fun b hb => (by cases hb)⟩
  | y :: ys, b :: l, h => by
    simp only [inB] at h
    have ih := inB_bnd h.2
    refine ⟨by simp [ih.len], fun i => ?_, fun f hf => (by cases hf), fun b hb => (by cases hb)⟩
    cases i with
    | zero => exact h.1
    | succ i => simp only [List.getD_cons_succ]; exact ih.vok i
  | [], _ :: _, h => by simp only [inB] at h
  | _ :: _, [], h => by simp only [inB] at h
theorem arsR_get {N : Nat} {w' : World} {Z : Nat → Prop} : ∀ {L : List RC} {ys : List DV} {cs : List Value} {v : Nat} {i : Nat} {a : Ar}, ResA N w' Z L ys cs → (arsR L v)[i]? = some a →
    ∃ j x y c mx row, L[j]? = some x ∧ x.s = .sl mx row ∧ (x.own = none ∨ (ownV L cs)[i]? = some c) ∧ ys[j]? = some y ∧ (slsV L cs)[i]? = some c ∧ a = ⟨row, .e (.var (v + j)), .len (.var (v + j)), (match x.own with | some _ => .own | none => .frz), x.own.getD 0⟩ ∧ ResC N w' Z x y c
  | [], ys, cs, v, i, a, h, hi => by simp [arsR] at hi
  | x :: l, [], cs, v, i, a, h, hi => by simp only [ResA] at h
  | x :: l, y :: ys, [], v, i, a, h, hi => by simp only [ResA] at h
  | x :: l, y :: ys, c :: cs, v, i, a, h, hi => by
    simp only [ResA] at h
    have rest : ∀ k, (arsR l (v + 1))[k]? = some a → ∃ j x y c mx row, l[j]? = some x ∧ x.s = .sl mx row ∧ (x.own = none ∨ (ownV l cs)[k]? = some c) ∧ ys[j]? = some y ∧ (slsV l cs)[k]? = some c ∧ a = ⟨row, .e (.var (v + 1 + j)), .len (.var (v + 1 + j)), (match x.own with | some _ => .own | none => .frz), x.own.getD 0⟩ ∧ ResC N w' Z x y c := fun k hk => arsR_get h.2 hk
    cases hs : x.s with
    | sl mx row =>
      simp only [arsR, arR, hs, List.cons_append, List.nil_append] at hi
      cases i with
      | zero =>
        simp only [List.getElem?_cons_zero, Option.some.injEq] at hi
        refine ⟨0, x, y, c, mx, row, rfl, hs, ?_, rfl, by simp [slsV, hs], hi.symm, h.1⟩
        cases he : x.own with
        | none => exact .inl rfl
        | some e => exact .inr (by simp [ownV, hs, he])
      | succ i =>
        simp only [List.getElem?_cons_succ] at hi
        obtain ⟨j, x', y', c', mx', row', q1, q2, q3, q4, q5, q6, q7⟩ := rest i hi
        exact ⟨j + 1, x', y', c', mx', row', q1, q2, q3.imp id (fun q => by simp only [ownV, hs]; exact q), q4, by simp only [slsV, hs]; exact q5, by rw [q6]; simp only [show v + 1 + j = v + (j + 1) by omega], q7⟩
    | _ =>
      simp only [arsR, arR, hs, List.nil_append] at hi
      obtain ⟨j, x', y', c', mx', row', q1, q2, q3, q4, q5, q6, q7⟩ := rest i hi
      exact ⟨j + 1, x', y', c', mx', row', q1, q2, q3.imp id (fun q => by simp only [ownV, hs]; exact q), q4, by simp only [slsV, hs]; exact q5, by rw [q6]; simp only [show v + 1 + j = v + (j + 1) by omega], q7⟩
theorem arsR_len {N : Nat} {w' : World} {Z : Nat → Prop} : ∀ {L : List RC} {ys : List DV} {cs : List Value} {v : Nat}, ResA N w' Z L ys cs → (arsR L v).length = (slsV L cs).length
  | [], ys, cs, v, h => by simp [arsR, slsV]
  | x :: l, [], cs, v, h => by simp only [ResA] at h
  | x :: l, y :: ys, [], v, h => by simp only [ResA] at h
  | x :: l, y :: ys, c :: cs, v, h => by
    simp only [ResA] at h
    have ih := arsR_len (v := v + 1) h.2
    simp only [arsR, arR, slsV]
    cases hs : x.s <;> simp [ih, Nat.add_comm]
theorem resA_vd {N : Nat} {w' : World} {Z : Nat → Prop} : ∀ {L : List RC} {ys : List DV} {cs : List Value} {j : Nat} {S : Sh}, ResA N w' Z L ys cs → (L.map RC.vd)[j]? = some (.d S) → ∃ x y, L[j]? = some x ∧ x.s = S ∧ ys[j]? = some y ∧ HasSh S y ∧ S.fine = true ∧ NestD w' Z S y
  | [], ys, cs, j, S, h, hj => by simp at hj
  | x :: l, [], cs, j, S, h, hj => by simp only [ResA] at h
  | x :: l, y :: ys, [], j, S, h, hj => by simp only [ResA] at h
  | x :: l, y :: ys, c :: cs, j, S, h, hj => by
    simp only [ResA] at h
    cases j with
    | zero =>
      simp only [List.map_cons, List.getElem?_cons_zero, Option.some.injEq] at hj
      refine ⟨x, y, rfl, ?_⟩
      obtain ⟨h1, h2⟩ := h.1
      rw [hj] at h1
      unfold RC.vd at hj
      cases hs : x.s with
      | int k p q => rw [hs] at hj; cases hj
      | bool => rw [hs] at hj; cases hj
      | str m =>
        rw [hs] at hj
        simp only [VD.d.injEq] at hj
        subst hj
        exact ⟨rfl, rfl, h1.1, rfl, by simp only [NestD]⟩
      | sl m r =>
        rw [hs] at hj h2
        simp only [VD.d.injEq] at hj
        subst hj
        simp only at h2
        obtain ⟨⟨_, h5⟩, _, h6, _⟩ := h2
        exact ⟨rfl, rfl, h1.1, h5, by simp only [NestD]; exact h6⟩
    | succ j =>
      simp only [List.map_cons, List.getElem?_cons_succ] at hj ⊢
      exact resA_vd h.2 hj
theorem ownsRow_sv {w : World} {N : Nat} {e : TypeId} {z : Nat} {v : Value} {k : Nat} {xs : List Value} (h : w.ownsRow N e z v k xs) : svOf v = v := svOf_own h
theorem ownsRow_le {w : World} {N M : Nat} {e : TypeId} {z : Nat} {v : Value} {k : Nat} {xs : List Value} (h : w.ownsRow N e z v k xs) (hM : M ≤ N) : w.ownsRow M e z v k xs := by
  refine ⟨h.1, ?_⟩
  rcases h.2 with hn | ⟨g, cap, cur, h1, h2, rest⟩
  · exact .inl hn
  · exact .inr ⟨g, cap, cur, h1, Nat.le_trans hM h2, rest⟩
def conEnv (n : Env) (ys : List DV) (vs : List Value) : Env := { n.moreZ ys with v := n.v ++ vs }
theorem conEnv_ext (n : Env) (ys : List DV) (vs : List Value) : Ext n (conEnv n ys vs) := ⟨List.prefix_append _ _, List.prefix_append _ _, List.prefix_refl _, List.prefix_append _ _, rfl⟩
theorem Rep.con {N : Nat} {w0 : World} {n : Env} {s : St} {a : Act} {w w' : World} {F : Nat → Prop} (hN : N ≤ w0.heap.size) (h : Rep N w0 n s a w) (hw : wfSt s = true) {res : List RSh} {ys : List DV} {cs : List Value} (hF : needs res = true → ∀ g, Owned n s.ar g → F g) (hb : inB ys (resB res)) (hr : ResA w.heap.size w' (Rz F (resL' res) cs) (resL' res) ys cs) (hap : Apart (ownV (resL' res) cs)) (hB : Below w.heap.size w w') :
    Rep N w0 (conEnv n ys (slsV (resL' res) cs)) { s with bnd := cat s.bnd (resB res), ar := s.ar ++ arsR (resL' res) s.bnd.v.length } a w' ∧ SV.den (conEnv n ys (slsV (resL' res) cs)) (resVal res s.bnd.v.length s.ar.length) = packR res cs := by
  have hx := conEnv_ext n ys (slsV (resL' res) cs)
  have hw' := hw
  simp only [wfSt, Bool.and_eq_true] at hw
  have hnz := h.nz
  have hlv : n.v.length = s.ar.length := h.dat.len
  have hlr : n.r.length = s.bnd.v.length := h.lens.1
  have hNw : N ≤ w.heap.size := Nat.le_trans hN h.below.size
  have hyget : ∀ j y, ys[j]? = some y → (conEnv n ys (slsV (resL' res) cs)).r.getD (s.bnd.v.length + j) (.n 0) = y := fun j y hj => by
    rw [← hlr]
    show (n.r ++ ys).getD _ _ = y
    rw [List.getD_eq_getElem?_getD, List.getElem?_append_right (by omega), Nat.add_sub_cancel_left, hj]; rfl
  have hvget : ∀ i c, (slsV (resL' res) cs)[i]? = some c → (conEnv n ys (slsV (resL' res) cs)).sv (s.ar.length + i) = svOf c := fun i c hi => by
    unfold Env.sv
    show svOf ((n.v ++ _).getD _ _) = _
    rw [← hlv, List.getD_eq_getElem?_getD, List.getElem?_append_right (by omega), Nat.add_sub_cancel_left, hi]; rfl
  have hold : ∀ i, i < s.ar.length → (conEnv n ys (slsV (resL' res) cs)).sv i = n.sv i := fun i hi => Env.sv_pre hx.v (by rw [hlv]; exact hi)
  have new : ∀ i a, (arsR (resL' res) s.bnd.v.length)[i]? = some a → ∃ x y c mx, x ∈ resL' res ∧ x.s = .sl mx a.row ∧ (slsV (resL' res) cs)[i]? = some c ∧ svOf c = c ∧ wfAr (conEnv n ys (slsV (resL' res) cs)).r.length a = true ∧ HasSh (.sl mx a.row) y ∧ a.row ≠ [] ∧ Sh.fines a.row = true ∧ Nest w' (Rz F (resL' res) cs) a.row y.els ∧ a.ct.els (conEnv n ys (slsV (resL' res) cs)).r = y.els ∧ a.len.den (conEnv n ys (slsV (resL' res) cs)).r = (y.els.length : Int) ∧
      ((a.st = .frz ∧ x.own = none ∧ LaidAt w' (Rz F (resL' res) cs) c a.row y.els) ∨ (a.st = .own ∧ (ownV (resL' res) cs)[i]? = some c ∧ w'.ownsRow w.heap.size a.ety a.row.length c y.els.length (flatV a.row y.els))) := fun i a hi => by
    obtain ⟨j, x, y, c, mx, row, q1, q2, q3, q4, q5, q6, q7⟩ := arsR_get hr hi
    subst q6
    obtain ⟨r1, r2⟩ := q7
    have hvd : x.vd = .d (.sl mx row) := by unfold RC.vd; rw [q2]
    rw [hvd] at r1
    rw [q2] at r2
    simp only at r2
    obtain ⟨⟨e2, e3⟩, e0, e4, e5⟩ := r2
    have hd : (E.var (s.bnd.v.length + j)).dat (conEnv n ys (slsV (resL' res) cs)).r = y := hyget j y q4
    have hfi := e3
    simp only [Sh.fine, Bool.and_eq_true] at hfi
    have hmx := Nat.le_of_ble_eq_true hfi.2
    have hs := r1.1
    have hs' := hs
    simp only [HasSh] at hs'
    have hjl : j < ys.length := (List.getElem?_eq_some_iff.1 q4).1
    have hwf : Nat.blt (s.bnd.v.length + j) (conEnv n ys (slsV (resL' res) cs)).r.length = true := by
      show Nat.blt _ (n.r ++ ys).length = true
      simp [Nat.blt]; omega
    refine ⟨x, y, c, mx, List.mem_of_getElem? q1, q2, q5, e0, by simp only [wfAr, wfCt, wfE, hwf, Bool.and_self], hs, e2, hfi.1.2, e4, ?_, ?_, ?_⟩
    · show ((E.var (s.bnd.v.length + j)).dat _).els = _
      rw [hd]
    · simp only [E.den, hd, DV.len]
      exact clampL_eq (Nat.le_trans hs'.1 hmx)
    cases ho : x.own with
    | none => rw [ho] at e5; exact .inl ⟨rfl, rfl, e5⟩
    | some ety => rw [ho] at e5; exact .inr ⟨rfl, q3.resolve_left (by rw [ho]; exact fun h => by cases h), e5⟩
  have hon : ∀ g, Owned (conEnv n ys (slsV (resL' res) cs)) (s.ar ++ arsR (resL' res) s.bnd.v.length) g → Owned n s.ar g ∨ (w.heap.size ≤ g ∧ ∃ u ∈ ownV (resL' res) cs, u.ownBlock = some g) := fun g hg => by
    rcases hg with hg | ⟨i, c, hi, hc, hg⟩
    · exact .inl (.inl hg)
    · rw [List.getElem?_append] at hi
      split at hi
      · rename_i hlt
        rw [hold i hlt] at hg
        exact .inl (.inr ⟨i, c, hi, hc, hg⟩)
      · rename_i hge
        obtain ⟨x, y, c', mx, _, _, q2, q3, _, _, _, _, _, _, _, ⟨q, _⟩ | ⟨_, qv, q9⟩⟩ := new _ _ hi
        · rw [q] at hc; cases hc
        have := hvget _ _ q2
        rw [show s.ar.length + (i - s.ar.length) = i by omega] at this
        rw [this, q3] at hg
        exact .inr ⟨(q9.lt g hg).1, c', List.mem_of_getElem? qv, hg⟩
  have hZ : needs res = true → ∀ g, Rz F (resL' res) cs g → ¬ Owned (conEnv n ys (slsV (resL' res) cs)) (s.ar ++ arsR (resL' res) s.bnd.v.length) g := fun hne g hg ho => by
    rcases hon g ho with k | ⟨_, u, hu, k⟩
    · exact hg.1 (hF hne g k)
    · exact hg.2 u hu k
  have hneed : ∀ x ∈ resL' res, x.needs = true → needs res = true := fun x hx hn => List.any_eq_true.2 ⟨x, hx, hn⟩
  have hnest : ∀ (x : RC) (mx : Nat) (row : List Sh) (els : List (List DV)), x ∈ resL' res → x.s = .sl mx row → Nest w' (Rz F (resL' res) cs) row els → Nest w' (fun g => ¬ Owned (conEnv n ys (slsV (resL' res) cs)) (s.ar ++ arsR (resL' res) s.bnd.v.length) g) row els := fun x mx row els hx hs hn => by
    cases hf : flatRow row with
    | true => exact fun e he => flatRow_nest hf
    | false => exact nest_mono (hZ (hneed x hx (by unfold RC.needs; rw [hs]; simp [hf]))) hn
  have hmemb : ∀ {x : Nat}, x ∈ n.b → x < w.heap.size := fun {x} hm => by
    obtain ⟨q, hq⟩ := List.mem_iff_getElem?.1 hm
    exact h.mem.lt hq
  refine ⟨⟨cat_ok h.bnd (inB_bnd hb), ?_, ?_, ?_, ?_⟩, ?_⟩
  · exact (h.mem.ext (by rw [hnz]; exact hw.1.2) hx rfl).below hB
  · refine h.dat.grow h.bnd hx.v hx.r ?_ ?_ (fun g hg => (hon g hg).imp id And.left) (fun g hg => .inl hg) (fun g hg _ => hB.block g hg) (fun i a hi => ?_) (fun i a g hi ha hg => ?_) (fun i j a c g hi hj st1 st2 hg1 hg2 => ?_) (fun i S hS => ?_)
    · refine List.all_eq_true.2 fun a ha => ?_
      obtain ⟨i, hi⟩ := List.mem_iff_getElem?.1 ha
      obtain ⟨_, _, _, _, _, _, _, _, q, _⟩ := new i a hi
      exact q
    · show (n.v ++ _).length = _
      rw [List.length_append, List.length_append, hlv, arsR_len hr]
    · obtain ⟨x, y, c, mx, p1, p2, q2, q3, _, q4, q6, q7, q8, q10, q11, q⟩ := new i a hi
      have q4' := q4
      simp only [HasSh] at q4'
      have hent : Ent (conEnv n ys (slsV (resL' res) cs)) (s.ar ++ arsR (resL' res) s.bnd.v.length) w' a := by
        refine ⟨q7, ?_, ?_, ?_⟩
        · rw [q10]; exact ⟨q6, q4'.2⟩
        · rw [q10, q11]
        · rw [q10]; exact hnest x mx a.row y.els p1 p2 q8
      unfold EntOk
      rcases q with ⟨st, ho, hl⟩ | ⟨st, _, ho⟩
      · rw [st, hvget i c q2, q3]
        simp only
        refine ⟨hent, ?_⟩
        rw [q10]
        exact hl.mono (hZ (hneed x p1 (by unfold RC.needs; rw [p2, ho]; rfl)))
      · rw [st, hvget i c q2, q3]
        simp only
        refine ⟨hent, ?_⟩
        rw [q10]; exact ownsRow_le ho hNw
    · obtain ⟨x, y, c, mx, p1, p2, q2, q3, _, q4, q6, q7, q8, q10, q11, ⟨q, _⟩ | ⟨_, _, q9⟩⟩ := new i a hi
      · rw [q] at ha; cases ha
      rw [hvget i c q2, q3] at hg
      have hge := (q9.lt g hg).1
      exact ⟨hge, fun hm => by have := hmemb hm; omega⟩
    · obtain ⟨_, _, c1, _, _, _, q2, q3, _, _, _, _, _, _, _, ⟨q, _⟩ | ⟨_, qv, _⟩⟩ := new i a hi
      · rw [q] at st1; cases st1
      obtain ⟨_, _, c2, _, _, _, p2, p3, _, _, _, _, _, _, _, ⟨p, _⟩ | ⟨_, pv, _⟩⟩ := new j c hj
      · rw [p] at st2; cases st2
      rw [hvget i c1 q2, q3] at hg1
      rw [hvget j c2 p2, p3] at hg2
      exact hap i j c1 c2 g qv pv hg1 hg2
    · simp only [cat] at hS
      rw [List.getElem?_append] at hS
      split at hS
      · rename_i hlt; exact .inl ⟨by rw [hlr]; exact hlt, hS⟩
      · rename_i hge
        obtain ⟨x, y, o1, o2, p1, p2, p3, p4⟩ := resA_vd hr (show ((resL' res).map RC.vd)[i - s.bnd.v.length]? = some (.d S) from hS)
        refine .inr ⟨p3, ?_⟩
        have := hyget _ _ p1
        rw [show s.bnd.v.length + (i - s.bnd.v.length) = i by omega] at this
        rw [this]
        cases S with
        | sl mx row => simp only [NestD] at p4 ⊢; exact hnest x mx row _ (List.mem_of_getElem? o1) o2 p4
        | _ => simp only [NestD]
  · exact h.below.trans (hB.mono hNw)
  · rw [h.act]
    have h1 := wfSs_den hx s.tmps (by rw [hnz]; exact hw.1.1)
    simp only [h1]
    rfl
  · have hden := resAt_den (n := conEnv n ys (slsV (resL' res) cs)) res ys cs s.bnd.v.length s.ar.length hr.cells (fun i y hi => hyget i y hi) (fun i u hi => by
      rw [hvget i u hi]
      have hlt : i < (arsR (resL' res) s.bnd.v.length).length := by rw [arsR_len hr]; exact (List.getElem?_eq_some_iff.1 hi).1
      obtain ⟨x, y, c, mx, _, _, q2, q3, _⟩ := new i _ (List.getElem?_eq_getElem hlt)
      rw [hi] at q2
      cases q2
      exact q3)
    unfold resVal packR
    rw [← hden]
    cases hra : resAt res s.bnd.v.length s.ar.length with
    | nil => rfl
    | cons x l => cases l with
      | nil => rfl
      | cons y l => simp only [SV.den, List.map_cons]
end Go.Dx
