/- DERIVED. A symbolic executor over data, proved sound; part 3. -/
import Derived.Test.YtcjdheaaddaagaaDx2
/- A symbolic executor: what an operation yields. -/
namespace Go.Dx
open Go.RowKit
set_option linter.unusedVariables false
set_option linter.unusedSimpArgs false
/-- What may be read: cells of blocks, slices (the last list: their rows' sizes and their lengths), and the variables whose nested data lies in memory. -/
structure Mm where
  m : List (List (Option CV))
  a : List (Option Ar)
  p : Bnd
  l : List (Option (Nat × E))
def PermQ (Q : Nat → Prop) (n0 : Env) (p : Bnd) (w : World) : Prop := ∀ i S, p.v[i]? = some (.d S) → S.fine = true ∧ NestD w Q S (n0.r.getD i (.n 0))
def PermR (n0 : Env) (p : Bnd) (w : World) : Prop := BndOk n0.r p ∧ PermQ (fun _ => True) n0 p w
def EntR (n : Env) (w : World) (i : Nat) (a : Ar) : Prop := Shaped a.row (a.ct.els n.r) ∧ a.len.den n.r = (a.ct.els n.r).length ∧ LaidAt w (fun _ => True) (n.sv i) a.row (a.ct.els n.r) ∧ ∀ e, a.st = .told e → (e.dat n.r).sv = n.sv i
def cellM (m : List (List (Option CV))) (i j : Nat) : Option CV := match m[i]? with
  | some l => match l[j]? with
    | some x => x
    | none => none
  | none => none
def sureL : List (Option CV) → Option (List CV)
  | [] => some []
  | some x :: l => (sureL l).map (x :: ·)
  | none :: _ => none
theorem sureL_get : ∀ {l : List (Option CV)} {m : List CV}, sureL l = some m → ∀ (k : Nat) (c : CV), m[k]? = some c → l[k]? = some (some c)
  | [], m, h, k, c, hk => by cases h; simp at hk
  | none :: l, m, h, k, c, hk => by cases h
  | some x :: l, m, h, k, c, hk => by
    simp only [sureL, Option.map_eq_some_iff] at h
    obtain ⟨q, h1, rfl⟩ := h
    cases k with
    | zero => simpa using hk
    | succ k => simp only [List.getElem?_cons_succ] at *; exact sureL_get h1 k c hk
def LenR (n : Env) (i : Nat) (e : E) : Prop := ∃ a m c, n.sv i = .slice a m c ∧ e.den n.r = m ∧ (0 < m → ∃ b o, a = some ⟨b, o, none⟩)
theorem EntR.lenR {n : Env} {w : World} {i : Nat} {a : Ar} (h : EntR n w i a) : LenR n i a.len := by
  obtain ⟨e1, e2, e3, _⟩ := h
  obtain ⟨ao, cap, e4, _, e5⟩ := e3
  refine ⟨ao, _, cap, e4, e2, fun h0 => ?_⟩
  obtain ⟨b, o, h1, _⟩ := e5 (by intro h; rw [h] at h0; simp at h0)
  exact ⟨b, o, h1⟩
structure Reads (tb : Tb) (n : Env) (mem : Mm) (w : World) : Prop where
  blk : ∀ (i j : Nat) (c : CV), cellM mem.m i j = some c → w.cell? ⟨n.b.getD i 0, j, none⟩ = some (c.den n)
  ent : ∀ (i : Nat) (a : Ar), mem.a[i]? = some (some a) → EntR n w i a
  perm : ∃ n0 : Env, n0.r <+: n.r ∧ PermR n0 mem.p w
  lens : ∀ (i z : Nat) (e : E), mem.l[i]? = some (some (z, e)) → LenR n i e
  glb : Glb tb w
def isT : B → Bool
  | .lit true => true
  | _ => false
theorem isT_ok {b : B} (h : isT b = true) (r : List DV) : b.den r = true := by
  unfold isT at h; split at h
  · rfl
  · cases h
def inR (s : Bnd) (i l : E) : Bool := isT (mkLe s (.lit 0) i) && isT (mkLt s i l)
theorem inR_ok {r : List DV} {s : Bnd} (h : BndOk r s) {i l : E} (hr : inR s i l = true) : 0 ≤ i.den r ∧ i.den r < l.den r := by
  simp only [inR, Bool.and_eq_true] at hr
  have h1 := isT_ok hr.1 r
  have h2 := isT_ok hr.2 r
  rw [mkLe_den h] at h1
  rw [mkLt_den h] at h2
  have k1 := of_decide_eq_true h1
  simp only [E.den] at k1
  exact ⟨k1, of_decide_eq_true h2⟩
def isEl : E → Bool
  | .el _ _ _ => true
  | _ => false
theorem Laid.nestD {w : World} {S : Nat → Prop} : ∀ {s : Sh} {d : DV}, Laid w S s d → NestD w S s d
  | .int _ _ _, d, _ => by simp only [NestD]
  | .bool, d, _ => by simp only [NestD]
  | .str _, d, _ => by simp only [NestD]
  | .sl mx row, d, h => by simp only [Laid] at h; simp only [NestD]; exact h.2
theorem fines_get : ∀ {l : List Sh} {j : Nat} {s : Sh}, Sh.fines l = true → l[j]? = some s → s.fine = true
  | [], j, s, _, h => by simp at h
  | t :: l, j, s, hf, h => by
    simp only [Sh.fines, Bool.and_eq_true] at hf
    cases j with
    | zero => simp only [List.getElem?_cons_zero, Option.some.injEq] at h; subst h; exact hf.1
    | succ j => simp only [List.getElem?_cons_succ] at h; exact fines_get hf.2 h
/-- What a path leads to lies in memory. -/
theorem path_laid {Q : Nat → Prop} {n0 : Env} {p : Bnd} {w : World} (h : PermQ Q n0 p w) : ∀ (e : E) (S : Sh), e.shp p = some S → S.fine = true ∧ NestD w Q S (e.dat n0.r) ∧ (isEl e = true → Laid w Q S (e.dat n0.r) ∨ e.dat n0.r = .n 0) := by
  intro e
  induction e with
  | var i =>
    intro S hS
    simp only [E.shp] at hS
    split at hS
    · rename_i T hi
      cases hS
      have := h i _ hi
      exact ⟨this.1, this.2, fun h => by cases h⟩
    · cases hS
  | el a i j ha hi =>
    intro S hS
    simp only [E.shp] at hS
    split at hS
    · rename_i mx row hr
      obtain ⟨f1, f2, _⟩ := ha _ hr
      simp only [Sh.fine, Bool.and_eq_true] at f1
      have f3 := fines_get f1.1.2 hS
      simp only [E.dat, DV.cell]
      cases hl : (a.dat n0.r).els[(i.den n0.r).toNat]? with
      | none =>
        rw [List.getD_eq_getElem?_getD (l := (a.dat n0.r).els), hl]
        refine ⟨f3, ?_, fun _ => .inr rfl⟩
        cases S <;> simp [NestD, Nest, DV.els]
      | some y =>
        rw [List.getD_eq_getElem?_getD (l := (a.dat n0.r).els), hl]
        simp only [NestD] at f2
        have hy := f2 y (List.mem_of_getElem? hl)
        simp only [Option.getD_some]
        cases hx : y[j]? with
        | none =>
          rw [List.getD_eq_getElem?_getD, hx]
          refine ⟨f3, ?_, fun _ => .inr rfl⟩
          cases S <;> simp [NestD, Nest, DV.els]
        | some x =>
          rw [List.getD_eq_getElem?_getD, hx]
          have := hy.get hS hx
          exact ⟨f3, this.nestD, fun _ => .inl this⟩
    · cases hS
  | str b => intro S hS; simp only [E.shp, Option.some.injEq] at hS; subst hS; exact ⟨rfl, by simp only [NestD], fun h => by cases h⟩
  | bs a ha =>
    intro S hS
    simp only [E.shp] at hS
    split at hS
    · cases hS; exact ⟨rfl, by simp only [NestD], fun h => by cases h⟩
    · cases hS
  | _ => intro S hS; cases hS
def rowCells (s : Bnd) (x i : E) : List Sh → Nat → List CV
  | [], _ => []
  | t :: l, j => cvOf s t (.el x i j) :: rowCells s x i l (j + 1)
def zipCells (s : Bnd) : List Sh → List E → List CV
  | t :: l, c :: r => cvOf s t c :: zipCells s l r
  | _, _ => []
/-- Slices in rows that are known are data. -/
def zipOk : List Sh → List E → Bool
  | t :: l, c :: r => (match t with
    | .sl _ _ => c.isD
    | .str _ => c.isD
    | _ => true) && zipOk l r
  | [], [] => true
  | _, _ => false
theorem blt_lt {a b : Nat} (h : Nat.blt a b = true) : a < b := Nat.le_of_ble_eq_true h
theorem getD_prefix {α : Type} {l m : List α} (h : l <+: m) {i : Nat} (hi : i < l.length) (d : α) : m.getD i d = l.getD i d := by
  obtain ⟨t, rfl⟩ := h
  simp [List.getD_eq_getElem?_getD, List.getElem?_append_left hi]
theorem wfE_both {r m : List DV} (h : r <+: m) : ∀ e : E, wfE r.length e = true → e.den m = e.den r ∧ e.dat m = e.dat r := by
  intro e he
  induction e with
  | lit n => exact ⟨rfl, rfl⟩
  | str b => exact ⟨rfl, rfl⟩
  | emp => exact ⟨rfl, rfl⟩
  | var i => constructor <;> simp only [E.den, E.dat, getD_prefix h (blt_lt he)]
  | wrap k a ih => constructor <;> simp only [E.den, E.dat, (ih he).1]
  | p2 k a ih => constructor <;> simp only [E.den, E.dat, (ih he).1]
  | num a ih => constructor <;> simp only [E.den, E.dat, (ih he).1]
  | len a ih => constructor <;> simp only [E.den, E.dat, (ih he).2]
  | slen a ih => constructor <;> simp only [E.den, E.dat, (ih he).2]
  | bs a ih => constructor <;> simp only [E.den, E.dat, (ih he).2]
  | el a i j ha hi => simp only [wfE, Bool.and_eq_true] at he; constructor <;> simp only [E.den, E.dat, (ha he.1).2, (hi he.2).1]
  | chr a i ha hi => simp only [wfE, Bool.and_eq_true] at he; constructor <;> simp only [E.den, E.dat, (ha he.1).2, (hi he.2).1]
  | bit o k a b ha hb => simp only [wfE, Bool.and_eq_true] at he; constructor <;> simp only [E.den, E.dat, (ha he.1).1, (hb he.2).1]
  | _ a b ha hb => simp only [wfE, Bool.and_eq_true] at he; constructor <;> simp only [E.den, E.dat, (ha he.1).1, (hb he.2).1]
theorem wfE_den {r m : List DV} (h : r <+: m) (e : E) (he : wfE r.length e = true) : e.den m = e.den r := (wfE_both h e he).1
theorem wfE_dat {r m : List DV} (h : r <+: m) (e : E) (he : wfE r.length e = true) : e.dat m = e.dat r := (wfE_both h e he).2
theorem wfE_val {r m : List DV} (h : r <+: m) (e : E) (he : wfE r.length e = true) : e.val m = e.val r := by
  unfold E.val; rw [wfE_den h e he, wfE_dat h e he]
/-- What is told by a path may be an entry. -/
def unal (e : E) : List (Option Ar) → Nat → Option Nat
  | [], _ => none
  | some ⟨_, _, _, .told f, _⟩ :: l, i => if e.eqb f then some i else unal e l (i + 1)
  | _ :: l, i => unal e l (i + 1)
def unalC (a : List (Option Ar)) (c : CV) : CV := match c with
  | .k (.nest e) => match unal e a 0 with
    | some i => .k (.ar i)
    | none => c
  | c => c
theorem unal_ok {e : E} : ∀ {l : List (Option Ar)} {i j : Nat}, unal e l i = some j → ∃ k a, j = i + k ∧ l[k]? = some (some a) ∧ a.st = .told e
  | [], i, j, h => by cases h
  | x :: l, i, j, h => by
    have rest : unal e l (i + 1) = some j → ∃ k a, j = i + k ∧ (x :: l)[k]? = some (some a) ∧ a.st = .told e := fun h => by
      obtain ⟨k, a, h1, h2, h3⟩ := unal_ok h
      exact ⟨k + 1, a, by omega, by simpa using h2, h3⟩
    cases x with
    | none => exact rest h
    | some a =>
      obtain ⟨r, c, le, st, t⟩ := a
      cases st with
      | told f =>
        simp only [unal] at h
        split at h
        · rename_i he
          cases h
          exact ⟨0, _, rfl, rfl, by rw [E.eqb_ok he]⟩
        · exact rest h
      | _ => exact rest h
theorem unalC_den {tb : Tb} {n : Env} {mem : Mm} {w : World} (hm : Reads tb n mem w) (c : CV) : (unalC mem.a c).den n = c.den n := by
  unfold unalC
  split
  · rename_i e
    split
    · rename_i i hi
      obtain ⟨k, a, h1, h2, h3⟩ := unal_ok hi
      rw [Nat.zero_add] at h1
      subst h1
      have h4 := (hm.ent _ _ h2).2.2.2 e h3
      show n.sv i = (e.dat n.r).sv
      rw [h4]
    · rfl
  · rfl
/-- The cells of an element of a slice. -/
def srcCells (mem : Mm) (s : Bnd) (src : Src) (z : Nat) (i : E) : Option (List CV) :=
  match src with
  | .ar k => match mem.a[k]? with
    | some (some ⟨row, ct, len, _, _⟩) => if Nat.beq z row.length && inR s i len then match ct with
      | .e x => some (rowCells s x i row 0)
      | .rows l => match i with
        | .lit m => match l[m.toNat]? with
          | some cs => if zipOk row cs then some ((zipCells s row cs).map (unalC mem.a)) else none
          | none => none
        | _ => none
      else none
    | _ => none
  | .dat e => match e.shp mem.p with
    | some (.sl _ row) => if isEl e && wfE mem.p.v.length e && Nat.beq z row.length && inR s i (.len e) then some (rowCells s e i row 0) else none
    | _ => none
theorem rowCells_get {s : Bnd} {x i : E} : ∀ {row : List Sh} {j k : Nat} {c : CV}, (rowCells s x i row j)[k]? = some c → ∃ t, row[k]? = some t ∧ c = cvOf s t (.el x i (j + k))
  | [], j, k, c, h => by simp [rowCells] at h
  | t :: l, j, k, c, h => by
    cases k with
    | zero => simp only [rowCells, List.getElem?_cons_zero, Option.some.injEq] at h; exact ⟨t, rfl, h.symm⟩
    | succ k =>
      simp only [rowCells, List.getElem?_cons_succ] at h
      obtain ⟨u, h1, h2⟩ := rowCells_get h
      exact ⟨u, h1, by rw [h2, show j + 1 + k = j + (k + 1) by omega]⟩
theorem zipCells_get {s : Bnd} : ∀ {row : List Sh} {cs : List E} {k : Nat} {c : CV}, zipOk row cs = true → (zipCells s row cs)[k]? = some c → ∃ t e, row[k]? = some t ∧ cs[k]? = some e ∧ c = cvOf s t e ∧ ((∃ m r, t = .sl m r) ∨ (∃ m, t = .str m) → e.isD = true)
  | [], cs, k, c, _, h => by cases cs <;> simp [zipCells] at h
  | _ :: _, [], k, c, h, _ => by simp [zipOk] at h
  | t :: l, e :: r, k, c, hz, h => by
    simp only [zipOk, Bool.and_eq_true] at hz
    cases k with
    | zero =>
      simp only [zipCells, List.getElem?_cons_zero, Option.some.injEq] at h
      refine ⟨t, e, rfl, rfl, h.symm, fun hk => ?_⟩
      rcases hk with ⟨m, r, rfl⟩ | ⟨m, rfl⟩ <;> exact hz.1
    | succ k =>
      simp only [zipCells, List.getElem?_cons_succ] at h
      have := zipCells_get (s := s) (row := l) (cs := r) hz.2 h
      simpa only [List.getElem?_cons_succ] using this
theorem srcCells_ok {tb : Tb} {n : Env} {mem : Mm} {s : Bnd} {w : World} (hm : Reads tb n mem w) (hs : BndOk n.r s) {src : Src} {z : Nat} {i : E} {cs : List CV} (h : srcCells mem s src z i = some cs) {k : Nat} {c : CV} (hk : cs[k]? = some c) :
    ∃ b o, baseOf (src.val n) = some (b, o) ∧ w.cell? ⟨b, o + ((i.den n.r).toNat * z + k), none⟩ = some (c.den n) := by
  unfold srcCells at h
  split at h
  · rename_i q
    split at h
    · rename_i row ct len st ety hq
      split at h
      · rename_i hc
        simp only [Bool.and_eq_true] at hc
        obtain rfl := Nat.eq_of_beq_eq_true hc.1
        obtain ⟨h0, h1⟩ := inR_ok hs hc.2
        obtain ⟨e1, e2, e3, e30⟩ := hm.ent q _ hq
        clear e30
        simp only at e1 e2 e3
        have hi : (i.den n.r).toNat < (ct.els n.r).length := by omega
        split at h
        · rename_i x
          cases h
          obtain ⟨t, ht, rfl⟩ := rowCells_get hk
          obtain ⟨b, o, y, a1, _, a2, a3, a4⟩ := e3.get e1 hi ht
          refine ⟨b, o, a1, ?_⟩
          rw [a4, Nat.zero_add]
          have ev : E.val n.r (.el x i k) = y := by
            simp only [E.val, E.isD, E.dat, DV.cell]
            simp only [Ct.els] at a2
            rw [List.getD_eq_getElem?_getD (l := (x.dat n.r).els.getD _ _), a2]; rfl
          rw [cvOf_den hs (by rw [ev]; exact a3) (fun _ => rfl), ev]
        · rename_i l
          split at h
          · rename_i m
            split at h
            · rename_i ce hl
              split at h
              · rename_i hz
                cases h
                rw [List.getElem?_map, Option.map_eq_some_iff] at hk
                obtain ⟨c0, hk, rfl⟩ := hk
                rw [unalC_den hm c0]
                obtain ⟨t, e, ht, he, rfl, hd⟩ := zipCells_get hz hk
                obtain ⟨b, o, y, a1, _, a2, a3, a4⟩ := e3.get e1 hi ht
                refine ⟨b, o, a1, ?_⟩
                rw [a4]
                have ev : E.val n.r e = y := by
                  simp only [Ct.els, E.den] at a2
                  rw [List.getD_eq_getElem?_getD, List.getElem?_map, hl] at a2
                  simp only [Option.map_some, Option.getD_some, List.getElem?_map, he, Option.some.injEq] at a2
                  exact a2
                rw [cvOf_den hs (by rw [ev]; exact a3) hd, ev]
              · cases h
            · cases h
          · cases h
      · cases h
    · cases h
  · rename_i e
    split at h
    · rename_i mx row hsh
      split at h
      · rename_i hc
        cases h
        simp only [Bool.and_eq_true] at hc
        obtain rfl := Nat.eq_of_beq_eq_true hc.1.2
        obtain ⟨h0, h1⟩ := inR_ok hs hc.2
        obtain ⟨n0, hp, hP⟩ := hm.perm
        have he : e.dat n.r = e.dat n0.r := wfE_dat hp e (by rw [hP.1.len]; exact hc.1.1.2)
        obtain ⟨f1, _, f2⟩ := path_laid hP.2 e _ hsh
        have f3 := E.shp_sl hP.1 hsh
        have f2 := f2 hc.1.1.1
        rw [← he] at f2 f3
        simp only [E.den] at h1
        have hno : e.dat n.r ≠ .n 0 := fun h => by rw [h] at h1; simp [DV.len, DV.els, clampL] at h1; omega
        have f2 := f2.resolve_right hno
        simp only [Sh.fine, Bool.and_eq_true, Bool.not_eq_true', List.isEmpty_eq_false_iff] at f1
        have f4 := DV.els_shape f3 f1.1.1
        simp only [Laid] at f2
        have hi : (i.den n.r).toNat < (e.dat n.r).els.length := by
          have := clampL_le (e.dat n.r).els.length
          simp only [DV.len] at h1
          omega
        obtain ⟨t, ht, rfl⟩ := rowCells_get hk
        obtain ⟨b, o, y, a1, _, a2, a3, a4⟩ := f2.1.get f4 hi ht
        refine ⟨b, o, a1, ?_⟩
        rw [a4, Nat.zero_add]
        have ev : E.val n.r (.el e i k) = y := by
          simp only [E.val, E.isD, E.dat, DV.cell]
          rw [List.getD_eq_getElem?_getD (l := (e.dat n.r).els.getD _ _), a2]; rfl
        rw [cvOf_den hs (by rw [ev]; exact a3) (fun _ => rfl), ev]
      · cases h
    · cases h
def loadS (tb : Tb) (mem : Mm) (s : Bnd) (t : TypeId) (x : K) : Option PV :=
  match x with
  | .addr b o => match mem.m[b]?, tb.und t, tb.size t with
    | some l, some d, some i => match sureL ((l.drop o).take (if isAggD d then i else 1)) with
      | some cells => if isAggD d then (if 0 + i ≤ cells.length then some (.agg ((cells.drop 0).take i)) else none) else (cells[0]?).map .c
      | none => none
    | _, _, _ => none
  | .glo g o => match tb.glob g, tb.und t, tb.size t with
    | some l, some d, some i => match ofCells ((l.drop o).take (if isAggD d then i else 1)) with
      | some cells => if isAggD d then (if 0 + i ≤ cells.length then some (.agg ((cells.drop 0).take i)) else none) else (cells[0]?).map .c
      | none => none
    | _, _, _ => none
  | .ptr src z i j => match srcCells mem s src z i, tb.und t, tb.size t with
    | some cells, some d, some m =>
      if Nat.blt j cells.length then
        if isAggD d then (if j + m ≤ cells.length then some (.agg ((cells.drop j).take m)) else none) else (cells[j]?).map .c
      else none
    | _, _, _ => none
  | _ => none
theorem cell_at {w : World} {B : Nat} {n : Env} {b : Blk} (h : w.heap[B]? = some (b.obj n)) (o : Nat) : w.cell? ⟨B, o, none⟩ = (b.cells[o]?).map (CV.den n) := by
  simp [World.cell?, h, Blk.obj]
theorem frozen_at {w : World} {B : Nat} {n : Env} {b : Blk} (h : w.heap[B]? = some (b.obj n)) (o : Nat) : w.frozen? ⟨B, o, none⟩ = false := by
  simp [World.frozen?, h, Blk.obj]
/-- Cells that lie in memory, loaded. -/
theorem load_cells {P : Program} {tb : Tb} [TbOk P tb] {w : World} {n : Env} {t : TypeId} {d : TD} {m : Nat} {cells : List CV} {b o j : Nat} {v : PV} (hd : tb.und t = some d) (hi : tb.size t = some m)
    (hc : ∀ k c, cells[k]? = some c → w.cell? ⟨b, o + k, none⟩ = some (c.den n)) (h : (if isAggD d then (if j + m ≤ cells.length then some (PV.agg ((cells.drop j).take m)) else none) else (cells[j]?).map .c) = some v) :
    (loadVar t ⟨b, o + j, none⟩).run P w = .ok (v.den n) w := by
  simp only [loadVar, Sem.run_bind, run_isAgg hd, Result.andThen_ok]
  split at h
  · rename_i ha
    split at h
    · rename_i hl
      cases h
      simp only [ha, if_true, Sem.run_bind, run_size hi, Result.andThen_ok]
      have := run_loadCells_list (P := P) (w := w) ⟨b, o + j, none⟩ (((cells.drop j).take m).map (CV.den n)) (fun q v hj => by
        rw [addr_plus]
        rw [List.getElem?_map, List.getElem?_take] at hj
        split at hj
        · rw [List.getElem?_drop] at hj
          cases hx : cells[j + q]? with
          | none => rw [hx] at hj; cases hj
          | some x =>
            rw [hx] at hj
            cases hj
            rw [Nat.add_assoc]
            exact hc _ _ hx
        · cases hj)
      have hlen : (((cells.drop j).take m).map (CV.den n)).length = m := by simp; omega
      rw [hlen] at this
      rw [this]; rfl
    · cases h
  · rename_i ha
    simp only [ha, Bool.false_eq_true, if_false, run_load]
    cases ho : cells[j]? with
    | none => rw [ho] at h; cases h
    | some x =>
      rw [ho] at h; cases h
      rw [hc _ _ ho]; rfl
theorem loadS_var {P : Program} {tb : Tb} [TbOk P tb] {w : World} {n : Env} {mem : Mm} (hm : Reads tb n mem w) {s : Bnd} (hs : BndOk n.r s) {t : TypeId} {x : K} {v : PV} (h : loadS tb mem s t x = some v) :
    ∃ a, x.den n = .pointer (some a) ∧ (loadVar t a).run P w = .ok (v.den n) w := by
  unfold loadS at h
  split at h
  · rename_i b o
    split at h
    · rename_i l d i hk hd hi
      split at h
      case h_2 => cases h
      rename_i cells hcs
      refine ⟨_, rfl, ?_⟩
      have := load_cells (P := P) (w := w) (n := n) (b := n.b.getD b 0) (o := o) (j := 0) hd hi (fun k c hkc => by
        have h1 := sureL_get hcs k c hkc
        rw [List.getElem?_take] at h1
        by_cases hlt : k < (if isAggD d = true then i else 1)
        · rw [if_pos hlt, List.getElem?_drop] at h1
          exact hm.blk b (o + k) c (by unfold cellM; rw [hk]; simp only; rw [h1])
        · rw [if_neg hlt] at h1; cases h1) h
      rw [Nat.add_zero] at this
      exact this
    · cases h
  · rename_i g o
    split at h
    · rename_i l d i hk hd hi
      split at h
      case h_2 => cases h
      rename_i cells hcs
      refine ⟨_, rfl, ?_⟩
      have := load_cells (P := P) (w := w) (n := n) (b := g) (o := o) (j := 0) hd hi (fun k c hkc => by
        have h1 := congrArg (fun l => l[k]?) (ofCells_den n _ hcs)
        simp only [List.getElem?_map, hkc, Option.map_some] at h1
        rw [List.getElem?_take] at h1
        by_cases hlt : k < (if isAggD d = true then i else 1)
        · rw [if_pos hlt, List.getElem?_drop] at h1
          exact hm.glb g l hk (o + k) _ h1.symm
        · rw [if_neg hlt] at h1; cases h1) h
      rw [Nat.add_zero] at this
      exact this
    · cases h
  · rename_i src z i j
    split at h
    · rename_i cells d m hc hd hi
      have hcc := fun k c hk => srcCells_ok hm hs hc (k := k) (c := c) hk
      split at h
      case isFalse => cases h
      rename_i hlt
      have hlt := blt_lt hlt
      obtain ⟨b, o, hb, _⟩ := hcc j _ (List.getElem?_eq_getElem hlt)
      refine ⟨⟨b, o + ((i.den n.r).toNat * z + j), none⟩, ?_, ?_⟩
      · simp only [K.den, hb, adr, Option.map_some]
      · have := load_cells (P := P) (w := w) (n := n) (b := b) (o := o + (i.den n.r).toNat * z) (j := j) hd hi (fun k c hk => by
          obtain ⟨b', o', hb', hcell⟩ := hcc k c hk
          rw [hb] at hb'
          cases hb'
          rw [Nat.add_assoc]; exact hcell) h
        rw [Nat.add_assoc] at this
        exact this
    · cases h
  · cases h
theorem loadS_run {P : Program} {tb : Tb} [TbOk P tb] {w : World} {n : Env} {mem : Mm} (hm : Reads tb n mem w) {s : Bnd} (hs : BndOk n.r s) {t : TypeId} {x : K} {v : PV} (h : loadS tb mem s t x = some v) :
    (Instr.loadAt t (x.den n)).run P w = .ok (v.den n) w := by
  obtain ⟨a, e, hr⟩ := loadS_var (P := P) hm hs h
  simp only [Instr.loadAt, e, Instr.sureAddr, Sem.run_bind, Sem.run_pure, Result.andThen_ok, hr]
def opKs (tmps : List SV) (asm : List B) : List Operand → Option (List K)
  | [] => some []
  | x :: l => match opK tmps asm x, opKs tmps asm l with
    | some v, some r => some (v :: r)
    | _, _ => none
theorem opKs_den {n : Env} {tmps : List SV} {asm : List B} {a : Act} (ht : a.tmps = (tmps.map (SV.den n)).toArray) (ha : Asm n.r asm) : ∀ (l : List Operand) (v : List K),
    opKs tmps asm l = some v → l.map a.eval = v.map (K.den n)
  | [], v, h => by cases h; rfl
  | x :: l, v, h => by
    simp only [opKs] at h
    split at h
    · rename_i u r hu hr
      cases h
      simp [opK_den ht ha hu, opKs_den ht ha l r hr]
    · cases h
def unS (s : Bnd) (op : UnOp) (x : K) : Option K :=
  match op, x with
  | .not, .bool b => some (.bool (mkNot b))
  | .neg, .int k e => some (.int k (mkWrap s k (mkSub (.lit 0) e)))
  | .xor, .int k (.lit y) => some (.int k (.lit (bitD 2 k (if k.signed then -1 else k.max) y)))
  | .xor, .int k e => some (.int k (.bit 2 k (.lit (if k.signed then -1 else k.max)) e))
  | _, _ => none
theorem unS_run {P : Program} {w : World} {n : Env} {s : Bnd} (h : BndOk n.r s) {op : UnOp} {x v : K} (hv : unS s op x = some v) : (Op.unary op (x.den n)).run P w = .ok (v.den n) w := by
  unfold unS at hv
  split at hv
  · cases hv; simp [Op.unary, K.den, mkNot_den]
  · cases hv; simp [Op.unary, K.den, Op.intArith, mkWrap_den h, mkSub_den, E.den]
  · cases hv
    simp only [Op.unary, K.den, E.den]
    exact bitO_run (o := 2) rfl _ _ _
  · cases hv
    simp only [Op.unary, K.den, E.den]
    exact bitO_run (o := 2) rfl _ _ _
  · cases hv
def moveK (x : K) (d : Nat) : Option K := match x with
  | .addr b o => some (.addr b (o + d))
  | .ptr s z i j => some (.ptr s z i (j + d))
  | _ => none
/-- Is an element there? -/
def srcAt (mem : Mm) (s : Bnd) (src : Src) (z : Nat) (i : E) : Bool := match src with
  | .ar q => match mem.l[q]? with
    | some (some (z', l)) => Nat.beq z z' && inR s i l
    | _ => false
  | .dat _ => match srcCells mem s src z i with
    | some (_ :: _) => true
    | _ => false
def fieldPtr (tb : Tb) (mem : Mm) (s : Bnd) (t : TypeId) (x : K) (f : Nat) : Option K :=
  match tb.und t with
  | some (.str fs) => match fs[f]? with
    | some fd => match tb.size fd.type with
      | some 0 => none
      | some (i + 1) => match x with
        | .addr b o => some (.addr b (o + fd.offset))
        | .glo g o => some (.glo g (o + fd.offset))
        | .ptr src z k j => if srcAt mem s src z k then some (.ptr src z k (j + fd.offset)) else none
        | _ => none
      | none => none
    | none => none
  | _ => none
theorem ptr_at {tb : Tb} {n : Env} {mem : Mm} {s : Bnd} {w : World} (hm : Reads tb n mem w) (hs : BndOk n.r s) {src : Src} {z : Nat} {i : E} (h : srcAt mem s src z i = true) :
    ∃ b o, ∀ j, (K.ptr src z i j).den n = .pointer (some ⟨b, o + j, none⟩) := by
  have key : ∀ b o, baseOf (src.val n) = some (b, o) → ∃ b o, ∀ j, (K.ptr src z i j).den n = .pointer (some ⟨b, o + j, none⟩) := fun b o hb =>
    ⟨b, o + (i.den n.r).toNat * z, fun j => by simp only [K.den, hb, adr, Option.map_some, Nat.add_assoc]⟩
  unfold srcAt at h
  split at h
  · rename_i q
    split at h
    · rename_i z' l hq
      simp only [Bool.and_eq_true] at h
      obtain ⟨h0, h1⟩ := inR_ok hs h.2
      obtain ⟨a, m, c, e1, e2, e3⟩ := hm.lens q _ _ hq
      obtain ⟨b, o, rfl⟩ := e3 (by omega)
      have e4 : (Src.ar q).val n = .slice (some ⟨b, o, none⟩) m c := e1
      exact key b o (by rw [e4]; rfl)
    · cases h
  · split at h
    · rename_i c cs hc
      obtain ⟨b, o, hb, _⟩ := srcCells_ok hm hs hc (k := 0) (c := c) rfl
      exact key b o hb
    · cases h
theorem fd_at {fs : Array Field} {f : Nat} {fd : FD} (h : (fs.toList.map fun f => (⟨f.name == "_", f.type, f.offset⟩ : FD))[f]? = some fd) : ∃ g, fs[f]? = some g ∧ g.type = fd.type ∧ g.offset = fd.offset := by
  rw [List.getElem?_map] at h
  cases hc : fs.toList[f]? with
  | none => rw [hc] at h; cases h
  | some g => rw [hc] at h; cases h; exact ⟨g, by simpa using hc, rfl, rfl⟩
theorem fieldPtr_run {P : Program} {tb : Tb} [TbOk P tb] {w : World} {n : Env} {mem : Mm} {s : Bnd} (hm : Reads tb n mem w) (hs : BndOk n.r s) {t : TypeId} {x v : K} {f : Nat} (h : fieldPtr tb mem s t x f = some v) : (Instr.fieldAt t (x.den n) f).run P w = .ok (v.den n) w := by
  unfold fieldPtr at h
  split at h
  · rename_i fs hu
    obtain ⟨fs, hu', hl⟩ := run_str (P := P) (w := w) hu
    subst hl
    split at h
    · rename_i fd hf
      obtain ⟨g, hg, e1, e2⟩ := fd_at hf
      rw [← e1, ← e2] at h
      split at h
      · cases h
      · rename_i i hi
        split at h
        · cases h
          simp [Instr.fieldAt, Sem.run_bind, hu', hg, K.den, Instr.sureAddr, fieldPlace, run_size hi, addr_plus]
        · cases h
          simp [Instr.fieldAt, Sem.run_bind, hu', hg, K.den, Instr.sureAddr, fieldPlace, run_size hi, addr_plus]
        · split at h
          · rename_i hc
            cases h
            obtain ⟨b, o, hp⟩ := ptr_at hm hs hc
            rw [hp, hp]
            simp [Instr.fieldAt, Sem.run_bind, hu', hg, Instr.sureAddr, fieldPlace, run_size hi, addr_plus, Nat.add_assoc]
          · cases h
        · cases h
      · cases h
    · cases h
  · cases h
def fieldV (tb : Tb) (t : TypeId) (x : PV) (f : Nat) : Option PV :=
  match x, tb.und t with
  | .agg l, some (.str fs) => match fs[f]? with
    | some fd => partS tb fd.type l fd.offset
    | none => none
  | _, _ => none
theorem fieldV_run {P : Program} {tb : Tb} [TbOk P tb] {w : World} {n : Env} {t : TypeId} {x v : PV} {f : Nat} (h : fieldV tb t x f = some v) : (Instr.field t (x.den n) f).run P w = .ok (v.den n) w := by
  unfold fieldV at h
  split at h
  · rename_i l fs hu
    obtain ⟨fs, hu', hl⟩ := run_str (P := P) (w := w) hu
    subst hl
    split at h
    · rename_i fd hf
      obtain ⟨g, hg, e1, e2⟩ := fd_at hf
      rw [← e1, ← e2] at h
      simp [Instr.field, Sem.run_bind, hu', hg, PV.den, asAgg, partS_run (n := n) h]
    · cases h
  · cases h
def indexV (tb : Tb) (s : Bnd) (t : TypeId) (x : PV) (i : K) : Option PV :=
  match x, i, tb.und t with
  | .agg l, .int _ (.lit m), some (.array len e) => match tb.size e with
    | some inf => if 0 ≤ m ∧ m < len then partS tb e l (m.toNat * inf) else none
    | none => none
  | .c (.k (.str (.str b))), .int _ (.lit m), some .string => if 0 ≤ m then (b[m.toNat]?).map fun u => .c (.k (.int .u8 (.lit u.toNat))) else none
  | .c (.k (.str e)), .int _ i, some .string => match e.shp s with
    | some (.str mx) => if Nat.ble mx 9223372036854775807 && inR s i (.slen e) then some (.c (.k (.int .u8 (.chr e i)))) else none
    | _ => none
  | _, _, _ => none
theorem indexV_run {P : Program} {tb : Tb} [TbOk P tb] {w : World} {n : Env} {s : Bnd} (hs : BndOk n.r s) {t : TypeId} {x v : PV} {i : K} (h : indexV tb s t x i = some v) : (Instr.index t (x.den n) (i.den n)).run P w = .ok (v.den n) w := by
  unfold indexV at h
  split at h
  · rename_i l k m len e hu
    split at h
    · rename_i inf hi
      split at h
      · rename_i hm
        simp [Instr.index, Sem.run_bind, run_array hu, PV.den, K.den, E.den, asIntOf, hm, run_size hi, partS_run (n := n) h]
      · cases h
    · cases h
  · rename_i b k m hu
    split at h
    · rename_i hm
      cases hb : b[m.toNat]? with
      | none => rw [hb] at h; cases h
      | some u =>
        rw [hb] at h; cases h
        simp [Instr.index, Sem.run_bind, run_string hu, PV.den, CV.den, K.den, E.den, E.dat, DV.str, asIntOf, hm, hb]
    · cases h
  · rename_i e k i' _ hu
    split at h
    · rename_i mx hsh
      split at h
      · rename_i hc
        cases h
        simp only [Bool.and_eq_true] at hc
        obtain ⟨h0, h1⟩ := inR_ok hs hc.2
        simp only [E.den] at h1
        have hlt := clampL_le (e.dat n.r).str.size
        simp only [DV.slen] at h1
        have hlt' : (i'.den n.r).toNat < (e.dat n.r).str.size := by omega
        have hg : (e.dat n.r).str[(i'.den n.r).toNat]? = some (e.dat n.r).str[(i'.den n.r).toNat] := getElem?_pos (e.dat n.r).str _ hlt'
        simp only [Instr.index, Sem.run_bind, run_string hu, PV.den, CV.den, K.den, E.den, DV.byte, asIntOf, h0, hg]
        simp [hg, h0]
      · cases h
    · cases h
  · cases h
/-- What is told of a slice: its row's size, its length. -/
def arI (mem : Mm) : K → Option (Src × Nat × E)
  | .ar k => match mem.l[k]? with
    | some (some (z, l)) => some (.ar k, z, l)
    | _ => none
  | .nest e => match e.shp mem.p with
    | some (.sl _ row) => if isEl e && wfE mem.p.v.length e then some (.dat e, row.length, .len e) else none
    | _ => none
  | _ => none
theorem arI_ok {tb : Tb} {n : Env} {mem : Mm} {w : World} (hm : Reads tb n mem w) {x : K} {src : Src} {z : Nat} {l : E} (h : arI mem x = some (src, z, l)) :
    ∃ a m c, x.den n = .slice a m c ∧ l.den n.r = m ∧ src.val n = .slice a m c ∧ (0 < m → ∃ b o, a = some ⟨b, o, none⟩) := by
  unfold arI at h
  split at h
  · rename_i k
    split at h
    · rename_i z' l' ha
      cases h
      obtain ⟨ao, m, cap, e4, e2, e5⟩ := hm.lens k _ _ ha
      exact ⟨ao, _, cap, e4, e2, e4, e5⟩
    · cases h
  · rename_i e
    split at h
    · rename_i mx row hsh
      split at h
      · rename_i hc
        cases h
        simp only [Bool.and_eq_true] at hc
        obtain ⟨n0, hp, hP⟩ := hm.perm
        have he : e.dat n.r = e.dat n0.r := wfE_dat hp e (by rw [hP.1.len]; exact hc.2)
        have f3 := E.shp_sl hP.1 hsh
        obtain ⟨f1, _, f2⟩ := path_laid hP.2 e _ hsh
        have f2 := f2 hc.1
        simp only [Sh.fine, Bool.and_eq_true] at f1
        rw [← he] at f3 f2
        simp only [K.den, Src.val, E.den]
        rcases f2 with f2 | f2
        · simp only [Laid] at f2
          simp only [HasSh] at f3
          obtain ⟨⟨a, cap, e4, _, e5⟩, _⟩ := f2
          refine ⟨a, _, cap, e4, clampL_eq (Nat.le_trans f3.1 (Nat.le_of_ble_eq_true f1.2)), e4, fun h0 => ?_⟩
          obtain ⟨b, o, h1, _⟩ := e5 (by intro h; rw [h] at h0; simp at h0)
          exact ⟨b, o, h1⟩
        · rw [f2]
          exact ⟨none, 0, 0, rfl, rfl, rfl, fun h => absurd h (by omega)⟩
      · cases h
    · cases h
  · cases h
def indexPtr (tb : Tb) (mem : Mm) (s : Bnd) (t : TypeId) (x : K) (i : K) : Option K :=
  match x, i, tb.und t with
  | .sl b o l c, .int _ (.lit m), some (.slice e) => match tb.size e with
    | some inf => if 0 ≤ m ∧ m < l then some (.addr b (o + m.toNat * inf)) else none
    | none => none
  | .addr b o, .int _ (.lit m), some (.array l e) => match tb.size e with
    | some inf => if 0 ≤ m ∧ m < l then some (.addr b (o + m.toNat * inf)) else none
    | none => none
  | .glo b o, .int _ (.lit m), some (.array l e) => match tb.size e with
    | some inf => if 0 ≤ m ∧ m < l then some (.glo b (o + m.toNat * inf)) else none
    | none => none
  | .ptr src z k j, .int _ (.lit m), some (.array l e) => match tb.size e with
    | some inf => if srcAt mem s src z k then (if 0 ≤ m ∧ m < l then some (.ptr src z k (j + m.toNat * inf)) else none) else none
    | _ => none
  | x, .int _ i, some (.slice e) => match tb.size e, arI mem x with
    | some inf, some (src, z, l) => if Nat.beq inf z && inR s i l then some (.ptr src z i 0) else none
    | _, _ => none
  | _, _, _ => none
theorem indexAr_run {P : Program} {tb : Tb} [TbOk P tb] {w : World} {n : Env} {mem : Mm} (hm : Reads tb n mem w) {t e : TypeId} {x : K} {k : IntKind} {i : E} {src : Src} {z : Nat} {l : E} (hu : tb.und t = some (.slice e)) (hi : tb.size e = some z) (ha : arI mem x = some (src, z, l)) (h0 : 0 ≤ i.den n.r) (h1 : i.den n.r < l.den n.r) :
    (Instr.indexAt t (x.den n) (.int k (i.den n.r))).run P w = .ok ((K.ptr src z i 0).den n) w := by
  obtain ⟨a, m, c, e1, e2, e3, e4⟩ := arI_ok hm ha
  obtain ⟨b, o, rfl⟩ := e4 (by omega)
  have hlt : i.den n.r < (m : Int) := by omega
  have ep : (K.ptr src z i 0).den n = .pointer (some ⟨b, o + (i.den n.r).toNat * z, none⟩) := by simp only [K.den, e3, baseOf, adr, Option.map_some, Nat.add_zero]
  rw [e1, ep]
  simp [Instr.indexAt, Sem.run_bind, run_slice hu, asIntOf, h0, hlt, run_size hi, addr_plus]
theorem indexPtr_run {P : Program} {tb : Tb} [TbOk P tb] {w : World} {n : Env} {mem : Mm} {s : Bnd} (hm : Reads tb n mem w) (hs : BndOk n.r s) {t : TypeId} {x v : K} {i : K} (h : indexPtr tb mem s t x i = some v) : (Instr.indexAt t (x.den n) (i.den n)).run P w = .ok (v.den n) w := by
  unfold indexPtr at h
  split at h
  · rename_i b o l c k m e hu
    split at h
    · rename_i inf hi
      split at h
      · rename_i hm
        cases h
        simp [Instr.indexAt, Sem.run_bind, run_slice hu, K.den, E.den, asIntOf, hm, run_size hi, addr_plus]
      · cases h
    · cases h
  · rename_i b o k m l e hu
    split at h
    · rename_i inf hi
      split at h
      · rename_i hm
        cases h
        simp [Instr.indexAt, Sem.run_bind, run_array hu, K.den, E.den, asIntOf, hm, run_size hi, addr_plus, Instr.sureAddr]
      · cases h
    · cases h
  · rename_i b o k m l e hu
    split at h
    · rename_i inf hi
      split at h
      · rename_i hm
        cases h
        simp [Instr.indexAt, Sem.run_bind, run_array hu, K.den, E.den, asIntOf, hm, run_size hi, addr_plus, Instr.sureAddr]
      · cases h
    · cases h
  · rename_i src z k j kk m l e hu
    split at h
    · rename_i inf hi
      split at h
      · rename_i hc
        split at h
        · rename_i hmm
          cases h
          obtain ⟨b, o, hp⟩ := ptr_at hm hs hc
          rw [hp, hp]
          simp [Instr.indexAt, Sem.run_bind, run_array hu, K.den, E.den, asIntOf, hmm, run_size hi, addr_plus, Instr.sureAddr, Nat.add_assoc]
        · cases h
      · cases h
    · cases h
  · rename_i kk i' e _ _ hu
    split at h
    · rename_i inf src z l hi ha
      split at h
      · rename_i hc
        cases h
        simp only [Bool.and_eq_true] at hc
        obtain rfl := Nat.eq_of_beq_eq_true hc.1
        obtain ⟨h0, h1⟩ := inR_ok hs hc.2
        exact indexAr_run (P := P) hm hu hi ha h0 h1
      · cases h
    · cases h
  · cases h
def lenS (tb : Tb) (mem : Mm) (s : Bnd) (t : TypeId) (x : PV) : Option E :=
  match tb.und t, x with
  | some (.slice _), .c (.k (.sl _ _ l _)) => some (.lit l)
  | some (.slice _), .c (.k .nils) => some (.lit 0)
  | some .string, .c (.k (.str e)) => match e with
    | .str b => some (.lit b.size)
    | e => match e.shp s with
      | some (.str mx) => if Nat.ble mx 9223372036854775807 then some (.slen e) else none
      | _ => none
  | some (.slice _), .c (.k x) => (arI mem x).map fun p => p.2.2
  | some (.array l _), _ => some (.lit l)
  | _, _ => none
theorem lenS_run {P : Program} {tb : Tb} [TbOk P tb] {w : World} {n : Env} {mem : Mm} (hm : Reads tb n mem w) {s : Bnd} (h : BndOk n.r s) {t ty : TypeId} {x : PV} {e : E} (hv : lenS tb mem s t x = some e) :
    (Builtin.len_ #[t] ty #[x.den n]).run P w = .ok (.int .i64 (e.den n.r)) w := by
  unfold lenS at hv
  split at hv
  · rename_i hu; cases hv; simp [Builtin.len_, run_slice hu, PV.den, CV.den, K.den, E.den, goInt]
  · rename_i hu; cases hv; simp [Builtin.len_, run_slice hu, PV.den, CV.den, K.den, E.den, goInt]
  · rename_i e' hu
    split at hv
    · cases hv
      simp [Builtin.len_, run_string hu, PV.den, CV.den, K.den, E.den, E.dat, DV.str, goInt]
    · split at hv
      · rename_i mx hsh
        split at hv
        · rename_i hmx
          cases hv
          have h1 := E.shp_str h hsh
          simp only [HasSh] at h1
          have hl : (e'.dat n.r).slen = ((e'.dat n.r).str.size : Nat) := clampL_eq (Nat.le_trans h1 (Nat.le_of_ble_eq_true hmx))
          simp [Builtin.len_, run_string hu, PV.den, CV.den, K.den, E.den, goInt, hl]
        · cases hv
      · cases hv
  · rename_i x' _ _ hu
    cases ha : arI mem x' with
    | none => rw [ha] at hv; cases hv
    | some p =>
      obtain ⟨src, z, l⟩ := p
      rw [ha] at hv
      cases hv
      obtain ⟨a, m, c, e1, e2, _⟩ := arI_ok hm ha
      simp [Builtin.len_, run_slice hu, PV.den, CV.den, e1, goInt, e2]
  · rename_i l e' hu; cases hv
    simp [Builtin.len_, run_array hu, E.den, goInt]
  · cases hv
def mmE (s : Bnd) (mx : Bool) (x y : E) : E := match mx with
  | true => mkMax s x y
  | false => mkMin s x y
def mmL (s : Bnd) (mx : Bool) (k : IntKind) : E → List K → Option E
  | x, [] => some x
  | x, .int k' y :: l => if Nat.beq (kq k) (kq k') then mmL s mx k (mmE s mx x y) l else none
  | _, _ => none
def mmS (s : Bnd) (b : Builtin) : List K → Option K
  | .int k x :: l => match b with
    | .min => (mmL s false k x l).map fun e => .int k e
    | .max => (mmL s true k x l).map fun e => .int k e
    | _ => none
  | _ => none
theorem mmL_max {P : Program} {w : World} {n : Env} {s : Bnd} (h : BndOk n.r s) {k : IntKind} : ∀ {l : List K} {x e : E}, mmL s true k x l = some e →
    ((l.map (K.den n)).foldlM Builtin.max2 (.int k (x.den n.r)) : Sem Value).run P w = .ok (.int k (e.den n.r)) w
  | [], x, e, hv => by cases hv; rfl
  | .int k' y :: l, x, e, hv => by
    simp only [mmL] at hv
    split at hv
    · rename_i hk
      obtain rfl := kq_ok hk
      have ih := mmL_max (P := P) (w := w) h hv
      have e1 : (if y.den n.r > x.den n.r then y.den n.r else x.den n.r) = (mmE s true x y).den n.r := by
        simp only [mmE, mkMax_den h]; split <;> omega
      simp only [List.map_cons, List.foldlM_cons, K.den, Builtin.max2, Sem.run_bind, Sem.run_pure, Result.andThen_ok, e1]
      exact ih
    · cases hv
  | .bool _ :: _, _, _, hv => by cases hv
  | .addr _ _ :: _, _, _, hv => by cases hv
  | .nilp :: _, _, _, hv => by cases hv
  | .nils :: _, _, _, hv => by cases hv
  | .nilf :: _, _, _, hv => by cases hv
  | .sl _ _ _ _ :: _, _, _, hv => by cases hv
  | .yld _ :: _, _, _, hv => by cases hv
  | .ar _ :: _, _, _, hv => by cases hv
  | .nest _ :: _, _, _, hv => by cases hv
  | .ptr _ _ _ _ :: _, _, _, hv => by cases hv
  | .str _ :: _, _, _, hv => by cases hv
theorem mmL_min {P : Program} {w : World} {n : Env} {s : Bnd} (h : BndOk n.r s) {k : IntKind} : ∀ {l : List K} {x e : E}, mmL s false k x l = some e →
    ((l.map (K.den n)).foldlM Builtin.min2 (.int k (x.den n.r)) : Sem Value).run P w = .ok (.int k (e.den n.r)) w
  | [], x, e, hv => by cases hv; rfl
  | .int k' y :: l, x, e, hv => by
    simp only [mmL] at hv
    split at hv
    · rename_i hk
      obtain rfl := kq_ok hk
      have ih := mmL_min (P := P) (w := w) h hv
      have e1 : (if y.den n.r < x.den n.r then y.den n.r else x.den n.r) = (mmE s false x y).den n.r := by
        simp only [mmE, mkMin_den h]; split <;> omega
      simp only [List.map_cons, List.foldlM_cons, K.den, Builtin.min2, Sem.run_bind, Sem.run_pure, Result.andThen_ok, e1]
      exact ih
    · cases hv
  | .bool _ :: _, _, _, hv => by cases hv
  | .addr _ _ :: _, _, _, hv => by cases hv
  | .nilp :: _, _, _, hv => by cases hv
  | .nils :: _, _, _, hv => by cases hv
  | .nilf :: _, _, _, hv => by cases hv
  | .sl _ _ _ _ :: _, _, _, hv => by cases hv
  | .yld _ :: _, _, _, hv => by cases hv
  | .ar _ :: _, _, _, hv => by cases hv
  | .nest _ :: _, _, _, hv => by cases hv
  | .ptr _ _ _ _ :: _, _, _, hv => by cases hv
  | .str _ :: _, _, _, hv => by cases hv
theorem mmS_max {P : Program} {w : World} {n : Env} {s : Bnd} (h : BndOk n.r s) {ts : Array TypeId} {ty : TypeId} {l : List K} {v : K} (hv : mmS s .max l = some v) :
    (Builtin.max_ ts ty (l.map (K.den n)).toArray).run P w = .ok (v.den n) w := by
  unfold mmS at hv
  split at hv
  · rename_i k x t
    cases he : mmL s true k x t with
    | none => rw [he] at hv; cases hv
    | some e => rw [he] at hv; cases hv; exact mmL_max h he
  · cases hv
theorem mmS_min {P : Program} {w : World} {n : Env} {s : Bnd} (h : BndOk n.r s) {ts : Array TypeId} {ty : TypeId} {l : List K} {v : K} (hv : mmS s .min l = some v) :
    (Builtin.min_ ts ty (l.map (K.den n)).toArray).run P w = .ok (v.den n) w := by
  unfold mmS at hv
  split at hv
  · rename_i k x t
    cases he : mmL s false k x t with
    | none => rw [he] at hv; cases hv
    | some e => rw [he] at hv; cases hv; exact mmL_min h he
  · cases hv
end Go.Dx

/- A symbolic executor: operations that compute or read, in one function. -/
namespace Go.Dx
open Go.RowKit
set_option linter.unusedVariables false
set_option linter.unusedSimpArgs false
def convS (tb : Tb) (s : Bnd) (src dst : TypeId) (x : K) : Option K :=
  match x, tb.und src, tb.und dst with
  | .int _ e, some _, some (.int k) => some (.int k (mkWrap s k e))
  | _, _, _ => none
theorem convS_run {P : Program} {tb : Tb} [TbOk P tb] {w : World} {n : Env} {s : Bnd} (h : BndOk n.r s) {src dst : TypeId} {x v : K} (hv : convS tb s src dst x = some v) : (convert src dst (x.den n)).run P w = .ok (v.den n) w := by
  unfold convS at hv
  split at hv
  · rename_i k' e d k hs hd
    cases hv
    obtain ⟨u, hu, _⟩ := run_und (P := P) (w := w) hs
    simp [convert, Sem.run_bind, hu, run_int hd, K.den, Conv.intToInt, mkWrap_den h]
  · cases hv
def nilS (x : PV) : Option PV :=
  match x with
  | .c (.k (.addr b o)) => some x
  | .c (.clo (.func f) a b) => some x
  | _ => none
/-- A bound that is written out. -/
def litO (tmps : List SV) (asm : List B) : Option Operand → Option (Option (IntKind × Nat))
  | none => some none
  | some x => match opK tmps asm x with
    | some (.int k (.lit (.ofNat m))) => some (some (k, m))
    | _ => none
def litN (d : Nat) : Option (IntKind × Nat) → Nat
  | none => d
  | some x => x.2
/-- A part of an array that is a block. -/
def arrS (tb : Tb) (t : TypeId) (b o : Nat) (lo hi : Option (IntKind × Nat)) : Option K :=
  match tb.und t with
  | some (.array n e) => match tb.size e with
    | some z => if litN 0 lo ≤ litN n hi ∧ litN n hi ≤ n then some (.sl b (if n = litN 0 lo then o else o + litN 0 lo * z) (litN n hi - litN 0 lo) (n - litN 0 lo)) else none
    | none => none
  | _ => none
theorem litO_den {n : Env} {tmps : List SV} {asm : List B} {a : Act} (ht : a.tmps = (tmps.map (SV.den n)).toArray) (ha : Asm n.r asm) {x : Option Operand} {v : Option (IntKind × Nat)} (h : litO tmps asm x = some v) : x.map a.eval = v.map fun y => .int y.1 y.2 := by
  cases x with
  | none => cases h; rfl
  | some x =>
    simp only [litO] at h
    split at h
    · rename_i k m hk
      cases h
      simp only [Option.map_some, opK_den ht ha hk]
      rfl
    · cases h
theorem arrS_run {P : Program} {tb : Tb} [TbOk P tb] {w : World} {n : Env} {t : TypeId} {b o : Nat} {lo hi : Option (IntKind × Nat)} {v : K} (h : arrS tb t b o lo hi = some v) :
    (Instr.sliceAt t ((K.addr b o).den n) (lo.map fun y => .int y.1 y.2) (hi.map fun y => .int y.1 y.2) none).run P w = .ok (v.den n) w := by
  unfold arrS at h
  split at h
  case h_2 => cases h
  rename_i m e hu
  split at h
  case h_2 => cases h
  rename_i z hz
  split at h
  case isFalse => cases h
  rename_i hc
  cases h
  have hsz := run_size (P := P) (w := w) hz
  have bd : ∀ (k : IntKind) (i y : Nat) (code : BoundsCode), i ≤ y → (Instr.sliceBound (.int k (i : Int)) y code).run P w = .ok i w := fun k i y code hi => by rw [run_sliceBound _ _ _ _ _ (by omega) (by omega)]; simp
  cases lo with
  | none => cases hi with
    | none =>
      simp only [litN] at hc ⊢
      simp [Instr.sliceAt, run_array hu, K.den, Instr.sureAddr, Instr.sliceBounds, hsz, addr_plus]
    | some y =>
      simp only [litN] at hc ⊢
      simp [Instr.sliceAt, run_array hu, K.den, Instr.sureAddr, Instr.sliceBounds, hsz, addr_plus, bd _ _ _ _ hc.2]
  | some x => cases hi with
    | none =>
      simp only [litN] at hc ⊢
      simp [Instr.sliceAt, run_array hu, K.den, Instr.sureAddr, Instr.sliceBounds, hsz, addr_plus, bd _ _ _ _ hc.1]
      split <;> rename_i h1 <;> simp [h1]
    | some y =>
      simp only [litN] at hc ⊢
      simp [Instr.sliceAt, run_array hu, K.den, Instr.sureAddr, Instr.sliceBounds, hsz, addr_plus, bd _ _ _ _ hc.1, bd _ _ _ _ hc.2]
      split <;> rename_i h1 <;> simp [h1]
theorem convB_run {P : Program} {tb : Tb} [TbOk P tb] {w : World} {src dst e : TypeId} {lo hi : Int} {v : Value} {els : List (List DV)} (hs : tb.und src = some (.slice e)) (hd : tb.und dst = some .string) (he : tb.und e = some (.int .u8)) (hl : LaidAt w (fun _ => True) v [.int .u8 lo hi] els) (hsh : ∀ x ∈ els, HasShs [.int .u8 lo hi] x) :
    (convert src dst v).run P w = .ok (.string (strOfNums (numsOf els))) w := by
  have hs' := und_slice (P := P) hs
  have he' : P.underlying e = some (.int .u8) := und_int he
  have hd' : P.underlying dst = some .string := und_string hd
  obtain ⟨a, c, rfl, _, hx⟩ := hl
  by_cases hn : els = []
  · subst hn
    rw [run_convert_bytes_string w src dst e _ _ c hs' he' hd']
    cases a <;> simp [Conv.bytesToString, numsOf, strOfNums, loadCells, loadCellsFrom] <;> rfl
  · obtain ⟨b, o, rfl, _, hx⟩ := hx hn
    have hflat : ∀ l : List (List DV), (∀ x ∈ l, HasShs [.int .u8 lo hi] x) → flatV [.int .u8 lo hi] l = (numsOf l).map (Value.int .u8) := fun l hl => by
      induction l with
      | nil => rfl
      | cons y t ih =>
        have h1 := hl y (List.mem_cons_self ..)
        have ih := ih fun x hx => hl x (List.mem_cons_of_mem _ hx)
        unfold flatV numsOf at *
        rw [List.flatMap_cons, ih, List.map_cons, List.map_cons]
        match y, h1 with
        | [z], h1 =>
          rfl
    refine run_convert_bytes_arg w src e hs' he' b o els.length c (numsOf els) (by simp [numsOf]) (fun i hi' => ?_) dst hd'
    refine hx i _ ?_
    rw [hflat els hsh, List.getElem?_map]
    have : i < (numsOf els).length := by simpa [numsOf] using hi'
    rw [List.getElem?_eq_getElem this]
    simp [List.getD_eq_getElem?_getD, List.getElem?_eq_getElem this]
/-- Numbers turned, and bytes as a string. -/
def convM (tb : Tb) (mem : Mm) (s : Bnd) (src dst : TypeId) (u : K) : Option K :=
  match convS tb s src dst u with
  | some v => some v
  | none => match tb.und src, tb.und dst, u with
    | some (.slice e), some .string, .ar k => match tb.und e, mem.a[k]? with
      | some (.int .u8), some (some a) => match a.row, a.ct with
        | [.int .u8 _ _], .e x => some (.str (.bs x))
        | _, _ => none
      | _, _ => none
    | _, _, _ => none
theorem convM_run {P : Program} {tb : Tb} [TbOk P tb] {w : World} {n : Env} {mem : Mm} {s : Bnd} {src dst : TypeId} {u v : K} (hm : Reads tb n mem w) (hs : BndOk n.r s) (h : convM tb mem s src dst u = some v) :
    (convert src dst (u.den n)).run P w = .ok (v.den n) w := by
  unfold convM at h
  split at h
  · rename_i z hz
    cases h
    exact convS_run hs hz
  · split at h
    · rename_i e k hu hd _
      split at h
      · rename_i a he ha
        split at h
        · rename_i lo hi x hrow hct
          cases h
          obtain ⟨e1, e2, e3, _⟩ := hm.ent k a ha
          rw [hrow] at e1 e3
          have := convB_run (P := P) hu hd he e3 e1.2
          rw [hct] at this
          exact this
        · cases h
      · cases h
    · cases h
/-- A pointer that must not be nil. -/
def nilM (mem : Mm) (s : Bnd) (x : PV) : Option PV := match x with
  | .c (.k (.ptr src z i j)) => if srcAt mem s src z i then some (.c (.k (.ptr src z i j))) else none
  | x => nilS x
/-- What an operation leaves in its slot, if it only computes or reads. -/
def valOp (tb : Tb) (mem : Mm) (s : Bnd) (tmps : List SV) (asm : List B) (o : Oper) : Option SV :=
  match o.op with
  | .move x => opd tmps asm x
  | .assign x => opd tmps asm x
  | .pick c a b => match opB tmps asm c with
    | some (.lit true) => opd tmps asm a
    | some (.lit false) => opd tmps asm b
    | some c => match opB tmps (c :: asm) a, opB tmps (mkNot c :: asm) b with
      | some p, some q => some (bool (mkSel c p q))
      | _, _ => none
    | none => none
  | .load t a => match opK tmps asm a with
    | some x => (loadS tb mem s t x).map .p
    | _ => none
  | .binOp op t x y _ => match opP tmps asm x, opP tmps asm y with
    | some u, some v => (binS tb s op t u v).map .p
    | _, _ => none
  | .unOp op _ x => match opK tmps asm x with
    | some u => (unS s op u).map fun v => .p (.c (.k v))
    | none => none
  | .convert src dst x => match opK tmps asm x with
    | some u => (convM tb mem s src dst u).map fun v => .p (.c (.k v))
    | none => none
  | .fieldAddr t x f => match opK tmps asm x with
    | some u => (fieldPtr tb mem s t u f).map fun v => .p (.c (.k v))
    | none => none
  | .field t x f => match opP tmps asm x with
    | some u => (fieldV tb t u f).map .p
    | none => none
  | .index t x i => match opP tmps asm x, opK tmps asm i with
    | some u, some v => (indexV tb s t u v).map .p
    | _, _ => none
  | .indexAddr t x i => match opK tmps asm x, opK tmps asm i with
    | some u, some v => (indexPtr tb mem s t u v).map fun v => .p (.c (.k v))
    | _, _ => none
  | .extract x i => match opd tmps asm x with
    | some (.tup l) => (l[i]?).map .p
    | _ => none
  | .nilCheck x => match opP tmps asm x with
    | some u => (nilM mem s u).map .p
    | none => none
  | .makeFunc f first cap => match opKs tmps asm first.toList, opKs tmps asm cap.toList with
    | some a, some b => some (.p (.c (.clo f a b)))
    | _, _ => none
  | .build t parts => match partsS tmps asm parts.toList with
    | some l => (buildS tb t l).map .p
    | none => none
  | .slice t x lo hi none => match opK tmps asm x, litO tmps asm lo, litO tmps asm hi with
    | some (.addr b o), some l, some h => (arrS tb t b o l h).map fun v => .p (.c (.k v))
    | _, _, _ => none
  | .call c => match c.callee with
    | .builtin .len => match c.args.toList, c.argTypes.toList with
      | [x], [t] => match opP tmps asm x with
        | some u => (lenS tb mem s t u).map (int .i64)
        | none => none
      | _, _ => none
    | .builtin .max => match opKs tmps asm c.args.toList with
      | some l => (mmS s .max l).map fun v => .p (.c (.k v))
      | none => none
    | .builtin .min => match opKs tmps asm c.args.toList with
      | some l => (mmS s .min l).map fun v => .p (.c (.k v))
      | none => none
    | _ => none
  | _ => none
theorem valOp_run {P : Program} {tb : Tb} [TbOk P tb] {w : World} {n : Env} {mem : Mm} {s : Bnd} {tmps : List SV} {asm : List B} {a : Act} {o : Oper} {v : SV}
    (hm : Reads tb n mem w) (hs : BndOk n.r s) (ht : a.tmps = (tmps.map (SV.den n)).toArray) (ha : Asm n.r asm) (h : valOp tb mem s tmps asm o = some v) :
    (execOp a.eval o).run P w = .ok (.value (v.den n)) w := by
  unfold valOp at h
  unfold execOp
  split at h <;> rename_i hop <;> simp only [hop]
  · rw [opd_den ht ha h]; rfl
  · rw [opd_den ht ha h]; rfl
  · rename_i c x y
    split at h
    · rename_i hc
      simp only [opB_den ht ha hc, asBool, B.den, Sem.run_bind, Sem.run_pure, Result.andThen_ok, if_true, opd_den ht ha h]
    · rename_i hc
      simp only [opB_den ht ha hc, asBool, B.den, Sem.run_bind, Sem.run_pure, Result.andThen_ok, Bool.false_eq_true, if_false, opd_den ht ha h]
    · rename_i c' _ _ hc
      split at h
      · rename_i p q hp hq
        cases h
        simp only [opB_den ht ha hc, asBool, Sem.run_bind, Sem.run_pure, Result.andThen_ok]
        cases hd : c'.den n.r with
        | true =>
          rw [opB_den ht (fun g hg => by rcases List.mem_cons.1 hg with e | e; (exact e ▸ hd); exact ha g e) hp]
          simp [SV.den, PV.den, CV.den, K.den, mkSel_den, hd]
        | false =>
          have hk : (mkNot c').den n.r = true := by rw [mkNot_den, hd]; rfl
          rw [opB_den ht (fun g hg => by rcases List.mem_cons.1 hg with e | e; (exact e ▸ hk); exact ha g e) hq]
          simp [SV.den, PV.den, CV.den, K.den, mkSel_den, hd]
      · cases h
    · cases h
  · split at h
    · rename_i x hx
      cases hl : loadS tb mem s _ x with
      | none => rw [hl] at h; cases h
      | some u =>
        rw [hl] at h; cases h
        simp only [opK_den ht ha hx, Sem.run_bind, loadS_run hm hs hl, Result.andThen_ok, Sem.run_pure, SV.den]
    · cases h
  · split at h
    · rename_i u x hu hx
      cases hl : binS tb s _ _ u x with
      | none => rw [hl] at h; cases h
      | some z =>
        rw [hl] at h; cases h
        rw [opP_den ht ha hu, opP_den ht ha hx, Sem.run_bind, binS_run hs hl]
        rfl
    · cases h
  · split at h
    · rename_i u hu
      cases hl : unS s _ u with
      | none => rw [hl] at h; cases h
      | some z =>
        rw [hl] at h; cases h
        rw [opK_den ht ha hu, Sem.run_bind, unS_run hs hl]
        rfl
    · cases h
  · split at h
    · rename_i u hu
      cases hl : convM tb mem s _ _ u with
      | none => rw [hl] at h; cases h
      | some z =>
        rw [hl] at h; cases h
        rw [opK_den ht ha hu, Sem.run_bind, convM_run hm hs hl]
        rfl
    · cases h
  · split at h
    · rename_i u hu
      cases hl : fieldPtr tb mem s _ u _ with
      | none => rw [hl] at h; cases h
      | some z =>
        rw [hl] at h; cases h
        rw [opK_den ht ha hu, Sem.run_bind, fieldPtr_run hm hs hl]
        rfl
    · cases h
  · split at h
    · rename_i u hu
      cases hl : fieldV tb _ u _ with
      | none => rw [hl] at h; cases h
      | some z =>
        rw [hl] at h; cases h
        rw [opP_den ht ha hu, Sem.run_bind, fieldV_run hl]
        rfl
    · cases h
  · split at h
    · rename_i u x hu hx
      cases hl : indexV tb s _ u x with
      | none => rw [hl] at h; cases h
      | some z =>
        rw [hl] at h; cases h
        rw [opP_den ht ha hu, opK_den ht ha hx, Sem.run_bind, indexV_run hs hl]
        rfl
    · cases h
  · split at h
    · rename_i u x hu hx
      cases hl : indexPtr tb mem s _ u x with
      | none => rw [hl] at h; cases h
      | some z =>
        rw [hl] at h; cases h
        rw [opK_den ht ha hu, opK_den ht ha hx, Sem.run_bind, indexPtr_run hm hs hl]
        rfl
    · cases h
  · rename_i x i
    split at h
    · rename_i l hl
      cases hi : l[i]? with
      | none => rw [hi] at h; cases h
      | some z =>
        rw [hi] at h; cases h
        rw [opd_den ht ha hl]
        simp [Instr.extract, SV.den, hi]
    · cases h
  · split at h
    · rename_i u hu
      cases hl : nilM mem s u with
      | none => rw [hl] at h; cases h
      | some z =>
        rw [hl] at h; cases h
        rw [opP_den ht ha hu]
        unfold nilM at hl
        split at hl
        · rename_i src z i j
          split at hl
          · rename_i hc
            cases hl
            obtain ⟨b, o, hp⟩ := ptr_at hm hs hc
            have hp' : (PV.c (.k (.ptr src z i j))).den n = .pointer (some ⟨b, o + j, none⟩) := hp j
            simp only [SV.den, hp']
            rfl
          · cases hl
        · unfold nilS at hl
          split at hl
          · cases hl; rfl
          · cases hl; rfl
          · cases hl
    · cases h
  · rename_i f first cap
    split at h
    · rename_i u x hu hx
      cases h
      have e1 := opKs_den ht ha _ _ hu
      have e2 := opKs_den ht ha _ _ hx
      have e3 : first.map a.eval = (u.map (K.den n)).toArray := by rw [← e1]; apply Array.toList_inj.1; simp
      have e4 : cap.map a.eval = (x.map (K.den n)).toArray := by rw [← e2]; apply Array.toList_inj.1; simp
      rw [e3, e4]; rfl
    · cases h
  · rename_i t parts
    split at h
    · rename_i l hl
      cases hb : buildS tb t l with
      | none => rw [hb] at h; cases h
      | some z =>
        rw [hb] at h; cases h
        have e := partsS_den ht ha _ _ hl
        rw [Sem.run_bind, buildS_run (n := n) hb _ (by rw [Array.toList_map, e])]
        rfl
    · cases h
  · split at h
    · rename_i b o l hh hx hl hhi
      cases hb : arrS tb _ b o l hh with
      | none => rw [hb] at h; cases h
      | some z =>
        rw [hb] at h; cases h
        simp only [opK_den ht ha hx, litO_den ht ha hl, litO_den ht ha hhi, Option.map_none]
        rw [Sem.run_bind, arrS_run (n := n) hb]
        rfl
    · cases h
  · rename_i c
    split at h
    · rename_i hcal
      simp only [resolve, hcal, Sem.run_bind, Sem.run_pure, Result.andThen_ok, invoke, builtin]
      split at h
      · rename_i x t hx ht'
        split at h
        · rename_i u hu
          cases hl : lenS tb mem s t u with
          | none => rw [hl] at h; cases h
          | some z =>
            rw [hl] at h; cases h
            have e1 : c.args.map a.eval = #[u.den n] := by apply Array.toList_inj.1; rw [Array.toList_map, hx]; simp [opP_den ht ha hu]
            have e2 : c.argTypes = #[t] := by apply Array.toList_inj.1; rw [ht']
            rw [e1, e2, lenS_run hm hs hl]; rfl
        · cases h
      · cases h
    · rename_i hcal
      simp only [resolve, hcal, Sem.run_bind, Sem.run_pure, Result.andThen_ok, invoke, builtin]
      split at h
      · rename_i l hl
        cases hm' : mmS s .max l with
        | none => rw [hm'] at h; cases h
        | some z =>
          rw [hm'] at h; cases h
          have e1 : c.args.map a.eval = (l.map (K.den n)).toArray := by apply Array.toList_inj.1; rw [Array.toList_map, opKs_den ht ha _ _ hl]
          rw [e1, mmS_max hs hm']; rfl
      · cases h
    · rename_i hcal
      simp only [resolve, hcal, Sem.run_bind, Sem.run_pure, Result.andThen_ok, invoke, builtin]
      split at h
      · rename_i l hl
        cases hm' : mmS s .min l with
        | none => rw [hm'] at h; cases h
        | some z =>
          rw [hm'] at h; cases h
          have e1 : c.args.map a.eval = (l.map (K.den n)).toArray := by apply Array.toList_inj.1; rw [Array.toList_map, opKs_den ht ha _ _ hl]
          rw [e1, mmS_min hs hm']; rfl
      · cases h
    · cases h
  · cases h
/-- Is an operation wanted? none: it cannot be told. -/
def gdS (ops : Array Oper) (tmps : List SV) (o : Oper) : Option B :=
  match o.guard with
  | none => some (.lit true)
  | some (j, want) => match (ops[j]?).bind (·.dst) with
    | none => none
    | some d => match tmps[d]? with
      | some (.p (.c (.k (.bool b)))) => some (if want then b else mkNot b)
      | some (.g g (.c (.k (.bool b)))) => some (mkAnd g (if want then b else mkNot b))
      | some (.tup []) => some (.lit false)
      | _ => none
theorem gdS_ok {n : Env} {ops : Array Oper} {tmps : List SV} {a : Act} {o : Oper} {g : B} (ht : a.tmps = (tmps.map (SV.den n)).toArray) (h : gdS ops tmps o = some g) :
    Region.wanted o (yielded ops a.tmps) = g.den n.r := by
  unfold gdS at h
  unfold Region.wanted
  split at h
  · rename_i hg; cases h; rw [hg]; rfl
  · rename_i j want hg
    rw [hg]
    simp only
    split at h
    · cases h
    · rename_i d hd
      have e : ∀ v, tmps[d]? = some v → yielded ops a.tmps j = (match v.den n with | .bool b => some b | _ => none) := fun v hv => by
        unfold yielded
        rw [hd, ht]
        simp only [Option.bind_some, List.getElem?_toArray, List.getElem?_map, hv, Option.map_some]
        cases v.den n <;> rfl
      split at h
      · rename_i b hb
        cases h
        rw [e _ hb]
        simp only [SV.den, PV.den, CV.den, K.den]
        cases want <;> simp [mkNot_den]
      · rename_i q b hb
        cases h
        rw [e _ hb]
        simp only [SV.den, PV.den, CV.den, K.den]
        rw [mkAnd_den]
        cases q.den n.r <;> cases want <;> simp [mkNot_den, undef]
      · rename_i hb
        cases h
        rw [e _ hb]
        simp [SV.den, B.den]
      · cases h
/-- What an operation of a region leaves in its slot, its guard looked at. -/
def yieldOp (tb : Tb) (ops : Array Oper) (mem : Mm) (s : Bnd) (tmps : List SV) (o : Oper) : Option SV :=
  match gdS ops tmps o with
  | none => none
  | some (.lit true) => valOp tb mem s tmps [] o
  | some (.lit false) => some undefS
  | some g => match refineK g s true fun s => valOp tb mem s tmps [g] o with
    | some (.p x) => some (.g g x)
    | _ => none
theorem yieldOp_ok {P : Program} {tb : Tb} [TbOk P tb] {n : Env} {ops : Array Oper} {mem : Mm} {s : Bnd} {tmps : List SV} {a : Act} {o : Oper} {v : SV}
    (hs : BndOk n.r s) (ht : a.tmps = (tmps.map (SV.den n)).toArray) (h : yieldOp tb ops mem s tmps o = some v) : YieldsIf P ops (Reads tb n mem) o (v.den n) a := by
  unfold yieldOp at h
  split at h
  · cases h
  · rename_i hg
    exact .inl ⟨by rw [gdS_ok ht hg]; rfl, fun w hw => valOp_run hw hs ht (fun g hg => by cases hg) h⟩
  · rename_i hg
    cases h
    exact .inr ⟨by rw [gdS_ok ht hg]; rfl, rfl⟩
  · rename_i g _ _ hg
    rw [refineK_eq] at h
    split at h
    · rename_i x hx
      cases h
      cases hd : g.den n.r with
      | true =>
        refine .inl ⟨by rw [gdS_ok ht hg, hd], fun w hw => ?_⟩
        have := valOp_run (P := P) (w := w) hw (refine_ok g hs true hd) ht (asm := [g]) (fun q hq => by rw [List.mem_singleton.1 hq]; exact hd) hx
        rw [this]; simp [SV.den, hd]
      | false => exact .inr ⟨by rw [gdS_ok ht hg, hd], by simp [SV.den, hd]⟩
    · cases h
end Go.Dx

/- A symbolic executor: what stays as it is when more is known; new blocks; stores. -/
namespace Go.Dx
open Go.RowKit
set_option linter.unusedVariables false
set_option linter.unusedSimpArgs false
set_option linter.unusedSectionVars false
/-- How many variables, blocks, slices there are. -/
structure Sz where
  r : Nat
  b : Nat
  a : Nat
def sz (s : St) : Sz := ⟨s.bnd.v.length, s.bs.length, s.ar.length⟩
def nz (n : Env) : Sz := ⟨n.r.length, n.b.length, n.v.length⟩
def wfB (r : Nat) : B → Bool
  | .lit _ => true
  | .seq a b => wfE r a && wfE r b
  | .slt a b => wfE r a && wfE r b
  | .lt a b => wfE r a && wfE r b
  | .le a b => wfE r a && wfE r b
  | .eq a b => wfE r a && wfE r b
  | .not b => wfB r b
  | .and a b => wfB r a && wfB r b
  | .or a b => wfB r a && wfB r b
def wfSrc (q : Sz) : Src → Bool
  | .ar i => Nat.blt i q.a
  | .dat e => wfE q.r e
def wfK (q : Sz) : K → Bool
  | .int _ e => wfE q.r e
  | .bool x => wfB q.r x
  | .addr i _ => Nat.blt i q.b
  | .sl i _ _ _ => Nat.blt i q.b
  | .yld i => Nat.blt i q.b
  | .ar i => Nat.blt i q.a
  | .nest e => wfE q.r e
  | .ptr s _ i _ => wfSrc q s && wfE q.r i
  | .str e => wfE q.r e
  | _ => true
def wfC (q : Sz) : CV → Bool
  | .k x => wfK q x
  | .clo _ x y => x.all (wfK q) && y.all (wfK q)
  | .con _ => true
def wfP (q : Sz) : PV → Bool
  | .c x => wfC q x
  | .agg l => l.all (wfC q)
def wfS (q : Sz) : SV → Bool
  | .p x => wfP q x
  | .g g x => wfB q.r g && wfP q x
  | .tup l => l.all (wfP q)
  | .u i => Nat.blt i q.r
def wfLq (q : Sz) : Lq → Bool
  | .loop _ _ t _ _ _ d => t.all (wfS q) && Nat.blt d q.b
  | .dfr _ => true
  | .gone => true
def wfBlk (q : Sz) (k : Blk) : Bool := k.cells.all (wfC q) && match k.kd with
  | none => true
  | some l => wfLq q l
def wfSt (s : St) : Bool := s.tmps.all (wfS (sz s)) && s.bs.all (wfBlk (sz s)) && s.df.all fun d => Nat.blt d s.bs.length
theorem blt_mono {a b c : Nat} (h : b ≤ c) (x : Nat.blt a b = true) : Nat.blt a c = true := by
  have : a < b := Nat.le_of_ble_eq_true x
  exact Nat.ble_eq_true_of_le (show a + 1 ≤ c by omega)
theorem wfE_mono {r m : Nat} (h : r ≤ m) : ∀ e : E, wfE r e = true → wfE m e = true := by
  intro e he
  induction e with
  | lit n => rfl
  | str b => rfl
  | emp => rfl
  | var i => exact blt_mono h he
  | wrap k a ih => exact ih he
  | p2 k a ih => exact ih he
  | num a ih => exact ih he
  | len a ih => exact ih he
  | slen a ih => exact ih he
  | bs a ih => exact ih he
  | el a i j ha hi => simp only [wfE, Bool.and_eq_true] at *; exact ⟨ha he.1, hi he.2⟩
  | chr a i ha hi => simp only [wfE, Bool.and_eq_true] at *; exact ⟨ha he.1, hi he.2⟩
  | bit o k a b ha hb => simp only [wfE, Bool.and_eq_true] at *; exact ⟨ha he.1, hb he.2⟩
  | _ a b ha hb => simp only [wfE, Bool.and_eq_true] at *; exact ⟨ha he.1, hb he.2⟩
theorem wfB_mono {r m : Nat} (h : r ≤ m) : ∀ e : B, wfB r e = true → wfB m e = true := by
  intro e he
  induction e with
  | lit b => rfl
  | not b ih => exact ih he
  | and a b ha hb => simp only [wfB, Bool.and_eq_true] at *; exact ⟨ha he.1, hb he.2⟩
  | or a b ha hb => simp only [wfB, Bool.and_eq_true] at *; exact ⟨ha he.1, hb he.2⟩
  | _ a b => simp only [wfB, Bool.and_eq_true] at *; exact ⟨wfE_mono h _ he.1, wfE_mono h _ he.2⟩
section
variable {q p : Sz} (hr : q.r ≤ p.r) (h : q.b ≤ p.b) (ha : q.a ≤ p.a)
include hr h ha
theorem wfSrc_mono (x : Src) (hx : wfSrc q x = true) : wfSrc p x = true := by
  cases x with
  | ar i => exact blt_mono ha hx
  | dat e => exact wfE_mono hr e hx
theorem wfK_mono (x : K) (hx : wfK q x = true) : wfK p x = true := by
  cases x with
  | int k e => exact wfE_mono hr e hx
  | bool b => exact wfB_mono hr b hx
  | nest e => exact wfE_mono hr e hx
  | str e => exact wfE_mono hr e hx
  | addr i o => exact blt_mono h hx
  | sl i o l c => exact blt_mono h hx
  | yld l => exact blt_mono h hx
  | ar i => exact blt_mono ha hx
  | ptr s z i j => simp only [wfK, Bool.and_eq_true] at *; exact ⟨wfSrc_mono hr h ha _ hx.1, wfE_mono hr i hx.2⟩
  | nilp => rfl
  | nils => rfl
  | nilf => rfl
  | glo g o => rfl
theorem wfC_mono (x : CV) (hx : wfC q x = true) : wfC p x = true := by
  cases x with
  | k x => exact wfK_mono hr h ha x hx
  | clo f l m =>
    simp only [wfC, Bool.and_eq_true] at *
    exact ⟨List.all_eq_true.2 fun y hy => wfK_mono hr h ha y (List.all_eq_true.1 hx.1 y hy), List.all_eq_true.2 fun y hy => wfK_mono hr h ha y (List.all_eq_true.1 hx.2 y hy)⟩
  | con v => rfl
theorem wfP_mono (x : PV) (hx : wfP q x = true) : wfP p x = true := by
  cases x with
  | c x => exact wfC_mono hr h ha x hx
  | agg l => exact List.all_eq_true.2 fun y hy => wfC_mono hr h ha y (List.all_eq_true.1 hx y hy)
theorem wfS_mono (x : SV) (hx : wfS q x = true) : wfS p x = true := by
  cases x with
  | p x => exact wfP_mono hr h ha x hx
  | g g x => simp only [wfS, Bool.and_eq_true] at *; exact ⟨wfB_mono hr _ hx.1, wfP_mono hr h ha x hx.2⟩
  | tup l => exact List.all_eq_true.2 fun y hy => wfP_mono hr h ha y (List.all_eq_true.1 hx y hy)
  | u i => exact blt_mono hr hx
theorem wfBlk_mono (x : Blk) (hx : wfBlk q x = true) : wfBlk p x = true := by
  obtain ⟨cells, ty, kd⟩ := x
  simp only [wfBlk, Bool.and_eq_true] at *
  refine ⟨List.all_eq_true.2 fun y hy => wfC_mono hr h ha y (List.all_eq_true.1 hx.1 y hy), ?_⟩
  cases kd with
  | none => rfl
  | some q =>
    cases q with
    | dfr o => rfl
    | gone => rfl
    | loop st p t a e f d =>
      simp only [wfLq, Bool.and_eq_true] at *
      exact ⟨List.all_eq_true.2 fun y hy => wfS_mono hr h ha y (List.all_eq_true.1 hx.2.1 y hy), blt_mono h hx.2.2⟩
end
structure Ext (n m : Env) : Prop where
  v : n.v <+: m.v
  r : n.r <+: m.r
  b : n.b <+: m.b
  u : n.u <+: m.u
  f : m.f = n.f := by rfl
theorem Ext.refl (n : Env) : Ext n n := ⟨List.prefix_refl _, List.prefix_refl _, List.prefix_refl _, List.prefix_refl _, rfl⟩
theorem Ext.trans {a b c : Env} (h : Ext a b) (k : Ext b c) : Ext a c := ⟨h.v.trans k.v, h.r.trans k.r, h.b.trans k.b, h.u.trans k.u, k.f.trans h.f⟩
theorem Ext.more (n : Env) (ys : List DV) (us : List Value) (h : us.length = ys.length) : Ext n (n.more ys us h) := ⟨List.prefix_refl _, List.prefix_append _ _, List.prefix_refl _, List.prefix_append _ _, rfl⟩
theorem wfB_den {r m : List DV} (h : r <+: m) : ∀ e : B, wfB r.length e = true → e.den m = e.den r := by
  intro e he
  induction e with
  | lit b => rfl
  | seq a b => simp only [wfB, Bool.and_eq_true] at he; simp only [B.den, wfE_dat h _ he.1, wfE_dat h _ he.2]
  | slt a b => simp only [wfB, Bool.and_eq_true] at he; simp only [B.den, wfE_dat h _ he.1, wfE_dat h _ he.2]
  | lt a b => simp only [wfB, Bool.and_eq_true] at he; simp only [B.den, wfE_den h _ he.1, wfE_den h _ he.2]
  | le a b => simp only [wfB, Bool.and_eq_true] at he; simp only [B.den, wfE_den h _ he.1, wfE_den h _ he.2]
  | eq a b => simp only [wfB, Bool.and_eq_true] at he; simp only [B.den, wfE_den h _ he.1, wfE_den h _ he.2]
  | not b ih => simp only [B.den, ih he]
  | and a b ha hb => simp only [wfB, Bool.and_eq_true] at he; simp only [B.den, ha he.1, hb he.2]
  | or a b ha hb => simp only [wfB, Bool.and_eq_true] at he; simp only [B.den, ha he.1, hb he.2]
section
variable {n m : Env} (h : Ext n m)
include h
theorem wfSrc_val (x : Src) (hx : wfSrc (nz n) x = true) : x.val m = x.val n := by
  cases x with
  | ar i => simp only [Src.val, getD_prefix h.v (blt_lt hx)]
  | dat e => simp only [Src.val, wfE_dat h.r e hx]
theorem wfK_den (x : K) (hx : wfK (nz n) x = true) : x.den m = x.den n := by
  cases x with
  | int k e => simp only [K.den, wfE_den h.r e hx]
  | bool b => simp only [K.den, wfB_den h.r b hx]
  | addr i o => simp only [K.den, getD_prefix h.b (blt_lt hx)]
  | sl i o l c => simp only [K.den, getD_prefix h.b (blt_lt hx)]
  | yld l => simp only [K.den, getD_prefix h.b (blt_lt hx)]
  | ar i => exact wfSrc_val h (.ar i) hx
  | nest e => exact wfSrc_val h (.dat e) hx
  | ptr s z i j => simp only [wfK, Bool.and_eq_true] at hx; simp only [K.den, wfSrc_val h s hx.1, wfE_den h.r i hx.2]
  | str e => simp only [K.den, wfE_dat h.r e hx]
  | _ => rfl
theorem wfKs_den (l : List K) (hl : l.all (wfK (nz n)) = true) : l.map (K.den m) = l.map (K.den n) :=
  List.map_congr_left fun x hx => wfK_den h x (List.all_eq_true.1 hl x hx)
theorem wfC_den (x : CV) (hx : wfC (nz n) x = true) : x.den m = x.den n := by
  cases x with
  | k x => exact wfK_den h x hx
  | clo f a b => simp only [wfC, Bool.and_eq_true] at hx; simp only [CV.den, wfKs_den h a hx.1, wfKs_den h b hx.2]
  | con v => rfl
theorem wfCs_den (l : List CV) (hl : l.all (wfC (nz n)) = true) : l.map (CV.den m) = l.map (CV.den n) :=
  List.map_congr_left fun x hx => wfC_den h x (List.all_eq_true.1 hl x hx)
theorem wfP_den (x : PV) (hx : wfP (nz n) x = true) : x.den m = x.den n := by
  cases x with
  | c x => exact wfC_den h x hx
  | agg l => simp only [PV.den, wfCs_den h l hx]
theorem wfPs_den (l : List PV) (hl : l.all (wfP (nz n)) = true) : l.map (PV.den m) = l.map (PV.den n) :=
  List.map_congr_left fun x hx => wfP_den h x (List.all_eq_true.1 hl x hx)
theorem wfS_den (x : SV) (hx : wfS (nz n) x = true) : x.den m = x.den n := by
  cases x with
  | p x => exact wfP_den h x hx
  | g b x => simp only [wfS, Bool.and_eq_true] at hx; simp only [SV.den, wfB_den h.r b hx.1, wfP_den h x hx.2]
  | tup l => simp only [SV.den, wfPs_den h l hx]
  | u i => exact getD_prefix h.u (by rw [n.hu]; exact blt_lt hx) _
theorem wfSs_den (l : List SV) (hl : l.all (wfS (nz n)) = true) : l.map (SV.den m) = l.map (SV.den n) :=
  List.map_congr_left fun x hx => wfS_den h x (List.all_eq_true.1 hl x hx)
theorem wfLq_obj (q : Lq) (fn : FuncId) (hq : wfLq (nz n) q = true) : q.obj m fn = q.obj n fn := by
  cases q with
  | loop st p t a b c d =>
    simp only [wfLq, Bool.and_eq_true] at hq
    simp only [Lq.obj, wfSs_den h t hq.1, getD_prefix h.b (blt_lt hq.2)]
  | dfr o => cases o <;> rfl
  | gone => rfl
theorem wfBlk_at (k : Blk) (o : Option Obj) (hk : wfBlk (nz n) k = true) : k.at m o ↔ k.at n o := by
  obtain ⟨cells, ty, kd⟩ := k
  simp only [wfBlk, Bool.and_eq_true] at hk
  unfold Blk.at
  cases kd with
  | none => simp only [Blk.obj, wfCs_den h cells hk.1]
  | some q =>
    have hq := fun fn => wfLq_obj h q fn hk.2
    cases q <;> simp only [Lq.at, hq]
theorem wfDf (l : List Nat) (hl : (l.all fun d => Nat.blt d n.b.length) = true) : (l.map fun b => ({ target := .collected (m.b.getD b 0), args := #[] } : Deferred)) = l.map fun b => { target := .collected (n.b.getD b 0), args := #[] } :=
  List.map_congr_left fun x hx => by rw [getD_prefix h.b (blt_lt (List.all_eq_true.1 hl x hx))]
end
theorem Rep.lens {N : Nat} {w0 : World} {n : Env} {s : St} {a : Act} {w : World} (h : Rep N w0 n s a w) : n.r.length = s.bnd.v.length ∧ n.b.length = s.bs.length := ⟨h.bnd.len, h.mem.1⟩
theorem Rep.tmps {N : Nat} {w0 : World} {n : Env} {s : St} {a : Act} {w : World} (h : Rep N w0 n s a w) : a.tmps = (s.tmps.map (SV.den n)).toArray := by rw [h.act]
/-- The blocks at a larger memory. -/
theorem Mem.ext {N : Nat} {n m : Env} {bs : List Blk} {w : World} (h : Mem N n bs w) (hw : bs.all (wfBlk (nz n)) = true) (he : Ext n m) (hb : m.b = n.b) : Mem N m bs w := by
  refine ⟨by rw [hb]; exact h.1, by rw [hb]; exact h.2.1, fun i b hi => ?_⟩
  rw [hb, wfBlk_at he b _ (List.all_eq_true.1 hw b (List.mem_of_getElem? hi))]
  exact h.2.2 i b hi
theorem Mem.lt {N : Nat} {n : Env} {bs : List Blk} {w : World} (h : Mem N n bs w) {i x : Nat} (hx : n.b[i]? = some x) : x < w.heap.size := by
  have hi : i < n.b.length := (List.getElem?_eq_some_iff.1 hx).1
  have hb : i < bs.length := by rw [← h.1]; exact hi
  have := (h.2.2 i bs[i] (List.getElem?_eq_getElem hb)).2
  rw [List.getD_eq_getElem?_getD, hx] at this
  have h2 := Blk.at_some this
  cases hc : w.heap[x]? with
  | none => simp only [Option.getD_some] at h2; rw [hc] at h2; cases h2
  | some o => exact (Array.getElem?_eq_some_iff.1 hc).1
/-- Memory that was there stays: another world. -/
theorem Mem.below {N : Nat} {n : Env} {bs : List Blk} {w w' : World} (h : Mem N n bs w) (hB : Below w.heap.size w w') : Mem N n bs w' := by
  refine ⟨h.1, h.2.1, fun i b hi => ⟨(h.2.2 i b hi).1, ?_⟩⟩
  have h1 := (h.2.2 i b hi).2
  have h2 := Blk.at_some h1
  have hlt : n.b.getD i 0 < w.heap.size := by
    cases hc : w.heap[n.b.getD i 0]? with
    | none => rw [hc] at h2; cases h2
    | some o => exact (Array.getElem?_eq_some_iff.1 hc).1
  rw [hB.block _ hlt]
  exact h1
theorem Rep.nz {N : Nat} {w0 : World} {n : Env} {s : St} {a : Act} {w : World} (h : Rep N w0 n s a w) : nz n = sz s := by
  unfold Dx.nz sz
  rw [h.lens.1, h.lens.2, h.dat.len]
theorem wfCt_den {r m : List DV} (h : r <+: m) (c : Ct) (hc : wfCt r.length c = true) : c.els m = c.els r := by
  cases c with
  | e x => simp only [Ct.els, wfE_dat h x hc]
  | rows l =>
    simp only [Ct.els]
    refine List.map_congr_left fun e he => List.map_congr_left fun x hx => ?_
    exact wfE_val h x (List.all_eq_true.1 (List.all_eq_true.1 hc e he) x hx)
theorem wfAr_mono {r m : Nat} (h : r ≤ m) (a : Ar) (ha : wfAr r a = true) : wfAr m a = true := by
  simp only [wfAr, Bool.and_eq_true] at *
  refine ⟨?_, wfE_mono h _ ha.2⟩
  have ha := ha.1
  revert ha
  cases a.ct with
  | e x => exact wfE_mono h x
  | rows l => exact fun ha => List.all_eq_true.2 fun e he => List.all_eq_true.2 fun x hx => wfE_mono h x (List.all_eq_true.1 (List.all_eq_true.1 ha e he) x hx)
/-- What is owned stays owned while its block stays as it is. -/
theorem ownsRow_block {w w' : World} {N : Nat} {e : TypeId} {z : Nat} {v : Value} {k : Nat} {xs : List Value} (h : w.ownsRow N e z v k xs) (hk : ∀ g, v.ownBlock = some g → w'.heap[g]? = w.heap[g]?) : w'.ownsRow N e z v k xs := by
  refine ⟨h.1, ?_⟩
  rcases h.2 with hn | ⟨g, cap, cur, rfl, hb, hgg, rest⟩
  · exact .inl hn
  · exact .inr ⟨g, cap, cur, rfl, hb, by rw [hk g rfl]; exact hgg, rest⟩
theorem LaidAt.mono {w : World} {S S' : Nat → Prop} {v : Value} {row : List Sh} {els : List (List DV)} (h : LaidAt w S v row els) (hk : ∀ b, S b → S' b) : LaidAt w S' v row els := by
  obtain ⟨a, cap, e, hcap, hc⟩ := h
  refine ⟨a, cap, e, hcap, fun hne => ?_⟩
  obtain ⟨b, o, h1, h2, h3⟩ := hc hne
  exact ⟨b, o, h1, hk b h2, h3⟩
theorem Env.sv_pre {n m : Env} (h : n.v <+: m.v) {i : Nat} (hi : i < n.v.length) : m.sv i = n.sv i := by
  unfold Env.sv; rw [getD_prefix h hi]
/-- Data stays where it is while blocks are written that no data lies in, and new slices come. -/
theorem DatOk.grow {N : Nat} {n m : Env} {bnd bnd' : Bnd} {ar new : List Ar} {w w' : World} (h : DatOk N n bnd ar w) (hB : BndOk n.r bnd) (hv : n.v <+: m.v) (hr : n.r <+: m.r) (hnwf : new.all (wfAr m.r.length) = true) (hlen : m.v.length = (ar ++ new).length)
    (ho : ∀ g, Owned m (ar ++ new) g → Owned n ar g ∨ w.heap.size ≤ g) (hmb : ∀ g, g ∈ m.b → g ∈ n.b ∨ w.heap.size ≤ g)
    (hw : ∀ g, g < w.heap.size → g ∉ n.b → w'.heap[g]? = w.heap[g]?)
    (hnew : ∀ i a, new[i]? = some a → EntOk N m (ar ++ new) w' (ar.length + i) a)
    (hfresh : ∀ i a g, new[i]? = some a → a.st = .own → (m.sv (ar.length + i)).ownBlock = some g → w.heap.size ≤ g ∧ g ∉ m.b)
    (hdis : ∀ i j a c g, new[i]? = some a → new[j]? = some c → a.st = .own → c.st = .own → (m.sv (ar.length + i)).ownBlock = some g → (m.sv (ar.length + j)).ownBlock = some g → i = j)
    (hp : ∀ i S, bnd'.v[i]? = some (.d S) → (i < n.r.length ∧ bnd.v[i]? = some (.d S)) ∨ (S.fine = true ∧ NestD w' (fun g => ¬ Owned m (ar ++ new) g) S (m.r.getD i (.n 0)))) (hf : m.f = n.f := by rfl) : DatOk N m bnd' (ar ++ new) w' := by
  have hsv : ∀ i, i < ar.length → m.sv i = n.sv i := fun i hi => Env.sv_pre hv (by rw [h.len]; exact hi)
  have hown : ∀ (i : Nat) (a : Ar) (g : Nat), ar[i]? = some a → a.st = .own → (n.sv i).ownBlock = some g → g < w.heap.size := fun i a g hi ha hg => by
    have he := h.ent i a hi
    unfold EntOk at he
    rw [ha] at he
    exact (he.2.lt g hg).2
  have hkS : ∀ b, ¬ Owned n ar b → b < w.heap.size → w'.heap[b]? = w.heap[b]? ∧ ¬ Owned m (ar ++ new) b := fun b hb hlt => ⟨hw b hlt fun hm => hb (.inl (.inl hm)), fun ho' => by
    rcases ho b ho' with h1 | h1
    · exact hb h1
    · omega⟩
  have hEnt : ∀ (i : Nat) (a : Ar), ar[i]? = some a → Ent n ar w a → Ent m (ar ++ new) w' a := fun i a hi he => by
    have hwa := List.all_eq_true.1 h.wf a (List.mem_of_getElem? hi)
    simp only [wfAr, Bool.and_eq_true] at hwa
    have e1 := wfCt_den hr a.ct hwa.1
    have e2 := wfE_den hr a.len hwa.2
    exact ⟨he.fine, by rw [e1]; exact he.shp, by rw [e1, e2]; exact he.len, by rw [e1]; exact he.nest.keep he.fine he.shp.2 hkS⟩
  have hels : ∀ (i : Nat) (a : Ar), ar[i]? = some a → a.ct.els m.r = a.ct.els n.r := fun i a hi => by
    have hwa := List.all_eq_true.1 h.wf a (List.mem_of_getElem? hi)
    simp only [wfAr, Bool.and_eq_true] at hwa
    exact wfCt_den hr a.ct hwa.1
  refine ⟨hlen, ?_, fun i a hi => ?_, fun i j a c g hi hj h1 h2 h3 h4 => ?_, fun i a g hi h1 h2 => ?_, fun i S hS => ?_, by rw [hf]; exact h.fb⟩
  · rw [List.all_append, Bool.and_eq_true]
    refine ⟨List.all_eq_true.2 fun a ha => ?_, hnwf⟩
    have := List.all_eq_true.1 h.wf a ha
    exact wfAr_mono hr.length_le a this
  · rw [List.getElem?_append] at hi
    split at hi
    · rename_i hlt
      have he := h.ent i a hi
      unfold EntOk at he ⊢
      rw [hsv i hlt, hels i a hi]
      cases hst : a.st with
      | dead => trivial
      | frz =>
        rw [hst] at he
        exact ⟨hEnt i a hi he.1, he.2.keep he.1.shp hkS⟩
      | full =>
        rw [hst] at he
        exact ⟨hEnt i a hi he.1, he.2.1.keep he.1.shp hkS, he.2.2⟩
      | told e =>
        rw [hst] at he
        exact ⟨hEnt i a hi he.1, he.2.1.keep he.1.shp hkS, wfE_mono hr.length_le e he.2.2.1, by rw [wfE_dat hr e he.2.2.1]; exact he.2.2.2⟩
      | own =>
        rw [hst] at he
        refine ⟨hEnt i a hi he.1, ownsRow_block he.2 fun g hg => ?_⟩
        exact hw g (hown i a g hi hst hg) (h.disb i a g hi hst hg)
      | view p pre =>
        rw [hst] at he
        obtain ⟨e1, e2, q, e3, e4, e5⟩ := he
        have hp : p < ar.length := (List.getElem?_eq_some_iff.1 e3).1
        refine ⟨hEnt i a hi e1, ?_, q, by rw [List.getElem?_append_left hp]; exact e3, e4, ?_⟩
        · rw [hsv p hp]
          refine e2.keep e1.shp fun b hb hlt => ?_
          rcases hb with hb | hb
          · exact ⟨(hkS b hb hlt).1, .inl (hkS b hb hlt).2⟩
          · exact ⟨hw b hlt (h.disb p q b e3 e4 hb), .inr hb⟩
        · rw [hsv p hp, hels p q e3]; exact e5
    · rename_i hge
      have := hnew (i - ar.length) a hi
      rwa [show ar.length + (i - ar.length) = i by omega] at this
  · rw [List.getElem?_append] at hi hj
    split at hi <;> split at hj
    · rename_i l1 l2
      rw [hsv i l1] at h3; rw [hsv j l2] at h4
      exact h.dis i j a c g hi hj h1 h2 h3 h4
    · rename_i l1 l2
      rw [hsv i l1] at h3
      have k1 := hown i a g hi h1 h3
      have k2 := (hfresh (j - ar.length) c g hj h2 (by rwa [show ar.length + (j - ar.length) = j by omega])).1
      omega
    · rename_i l1 l2
      rw [hsv j l2] at h4
      have k1 := hown j c g hj h2 h4
      have k2 := (hfresh (i - ar.length) a g hi h1 (by rwa [show ar.length + (i - ar.length) = i by omega])).1
      omega
    · rename_i l1 l2
      have := hdis (i - ar.length) (j - ar.length) a c g hi hj h1 h2 (by rwa [show ar.length + (i - ar.length) = i by omega]) (by rwa [show ar.length + (j - ar.length) = j by omega])
      omega
  · rw [List.getElem?_append] at hi
    split at hi
    · rename_i l1
      rw [hsv i l1] at h2
      intro hm
      rcases hmb g hm with k | k
      · exact h.disb i a g hi h1 h2 k
      · have := hown i a g hi h1 h2; omega
    · rename_i l1
      exact (hfresh (i - ar.length) a g hi h1 (by rwa [show ar.length + (i - ar.length) = i by omega])).2
  · rcases hp i S hS with ⟨k1, k2⟩ | k
    · obtain ⟨f1, f2⟩ := h.perm i S k2
      refine ⟨f1, ?_⟩
      rw [getD_prefix hr k1]
      have hs := hB.vok i
      rw [List.getD_eq_getElem?_getD, k2] at hs
      have hs := hs.1
      cases S with
      | sl mx row =>
        simp only [NestD] at f2 ⊢
        simp only [Sh.fine, Bool.and_eq_true, Bool.not_eq_true', List.isEmpty_eq_false_iff] at f1
        exact f2.keep f1.1.2 (DV.els_shape hs f1.1.1).2 hkS
      | _ => simp only [NestD]
    · exact k
theorem append_nil' {α : Type} (l : List α) : l ++ [] = l := List.append_nil l
/-- No new slices. -/
theorem DatOk.move {N : Nat} {n m : Env} {bnd bnd' : Bnd} {ar : List Ar} {w w' : World} (h : DatOk N n bnd ar w) (hB : BndOk n.r bnd) (hv : m.v = n.v) (hr : n.r <+: m.r)
    (hmb : ∀ g, g ∈ m.b → g ∈ n.b ∨ w.heap.size ≤ g) (hw : ∀ g, g < w.heap.size → g ∉ n.b → w'.heap[g]? = w.heap[g]?)
    (hp : ∀ i S, bnd'.v[i]? = some (.d S) → (i < n.r.length ∧ bnd.v[i]? = some (.d S)) ∨ (S.fine = true ∧ NestD w' (fun g => ¬ Owned m ar g) S (m.r.getD i (.n 0)))) (hf : m.f = n.f := by rfl) : DatOk N m bnd' ar w' := by
  have hsv : ∀ i, m.sv i = n.sv i := fun i => by unfold Env.sv; rw [hv]
  have := DatOk.grow (new := []) (bnd' := bnd') (m := m) (w' := w') h hB (by rw [hv]; exact List.prefix_refl _) hr rfl (by rw [hv, h.len]; simp) (fun g hg => ?_) hmb hw (fun i a hi => by simp at hi) (fun i a g hi => by simp at hi) (fun i j a c g hi => by simp at hi) (by simpa using hp) hf
  · simpa using this
  · simp only [List.append_nil] at hg
    rcases hg with hg | ⟨i, a, h1, h2, h3⟩
    · rcases hg with hg | hg
      · rcases hmb g hg with k | k
        · exact .inl (.inl (.inl k))
        · exact .inr k
      · exact .inl (.inl (.inr (by rw [← hf]; exact hg)))
    · rw [hsv] at h3; exact .inl (.inr ⟨i, a, h1, h2, h3⟩)
/-- The same variables, blocks: another world. -/
theorem DatOk.world {N : Nat} {n : Env} {bnd : Bnd} {ar : List Ar} {w w' : World} (h : DatOk N n bnd ar w) (hB : BndOk n.r bnd) (hw : ∀ g, g < w.heap.size → g ∉ n.b → w'.heap[g]? = w.heap[g]?) : DatOk N n bnd ar w' :=
  h.move hB rfl (List.prefix_refl _) (fun g hg => .inl hg) hw fun i S hS => .inl ⟨by rw [hB.len]; exact (List.getElem?_eq_some_iff.1 hS).1, hS⟩
def newEnv (n : Env) (x : Nat) : Env := { n with b := n.b ++ [x] }
theorem newEnv_ext (n : Env) (x : Nat) : Ext n (newEnv n x) := ⟨List.prefix_refl _, List.prefix_refl _, List.prefix_append _ _, List.prefix_refl _, rfl⟩
def put (s : St) (o : Oper) (v : SV) : St := { s with tmps := match o.dst with | some d => s.tmps.set d v | none => s.tmps }
/-- The same, strict. -/
def putK (s : St) (o : Oper) (v : SV) : T St :=
  fS v fun v => match s with
    | ⟨t, b, n, f, a⟩ => match o.dst with
      | some d => setF t d v fun t => .ret ⟨t, b, n, f, a⟩
      | none => .ret ⟨t, b, n, f, a⟩
theorem putK_eq (s : St) (o : Oper) (v : SV) : putK s o v = .ret (put s o v) := by
  unfold putK put
  rw [fS_eq]
  cases o.dst <;> simp only [setF_eq]
theorem Rep.put {N : Nat} {w0 : World} {n : Env} {s : St} {a : Act} {w : World} (h : Rep N w0 n s a w) (o : Oper) (v : SV) : Rep N w0 n (Dx.put s o v) (a.put o.dst (v.den n)) w := by
  refine ⟨h.bnd, h.mem, h.dat, h.below, ?_⟩
  rw [h.act]
  unfold Act.put Dx.put
  cases o.dst with
  | none => rfl
  | some d => simp [List.map_set]
/-- A new block. -/
def newS (s : St) (cells : List CV) (ty : TypeId) (v : Nat → SV) : T (SV × St) :=
  if wfSt s && cells.all (wfC (sz s)) then .ret (v s.bs.length, { s with bs := s.bs ++ [⟨cells, ty, none⟩] }) else .fail
theorem Mem.newB {N : Nat} {n : Env} {bs : List Blk} {w : World} (h : Mem N n bs w) (hN : N ≤ w.heap.size) (hw : bs.all (wfBlk (nz n)) = true) {k : Blk} {o : Obj} (ho : k.at (newEnv n w.heap.size) (some o)) :
    Mem N (newEnv n w.heap.size) (bs ++ [k]) (w.alloc o) := by
  have he := newEnv_ext n w.heap.size
  refine ⟨by simp [newEnv, h.1], fun i j x hi hj => ?_, fun i b hi => ?_⟩
  · simp only [newEnv] at hi hj
    rw [List.getElem?_append] at hi hj
    split at hi <;> split at hj
    · exact h.2.1 i j x hi hj
    · have h1 := h.lt hi
      have : x = w.heap.size := by
        cases hk : j - n.b.length with
        | zero => rw [hk] at hj; simpa using hj.symm
        | succ k => rw [hk] at hj; simp at hj
      omega
    · have h1 := h.lt hj
      have : x = w.heap.size := by
        cases hk : i - n.b.length with
        | zero => rw [hk] at hi; simpa using hi.symm
        | succ k => rw [hk] at hi; simp at hi
      omega
    · have a1 : i - n.b.length = 0 := by
        cases hk : i - n.b.length with
        | zero => rfl
        | succ k => rw [hk] at hi; simp at hi
      have a2 : j - n.b.length = 0 := by
        cases hk : j - n.b.length with
        | zero => rfl
        | succ k => rw [hk] at hj; simp at hj
      omega
  · rw [List.getElem?_append] at hi
    split at hi
    · rename_i hlt
      have hlt' : i < n.b.length := by rw [h.1]; exact hlt
      have h1 := h.2.2 i b hi
      rw [show (newEnv n w.heap.size).b.getD i 0 = n.b.getD i 0 from getD_prefix he.b hlt' 0]
      refine ⟨h1.1, ?_⟩
      rw [wfBlk_at he b _ (List.all_eq_true.1 hw b (List.mem_of_getElem? hi))]
      have hx : n.b.getD i 0 < w.heap.size := by
        refine h.lt (i := i) ?_
        simp [List.getD_eq_getElem?_getD, List.getElem?_eq_getElem hlt']
      rw [Below.heap_alloc _ _ _ hx]
      exact h1.2
    · rename_i hlt
      have hi0 : i = bs.length := by
        cases hk : i - bs.length with
        | zero => omega
        | succ k => rw [hk] at hi; simp at hi
      subst hi0
      have hb : b = k := by simpa using hi.symm
      subst hb
      have e1 : (newEnv n w.heap.size).b.getD bs.length 0 = w.heap.size := by
        simp [newEnv, List.getD_eq_getElem?_getD, ← h.1]
      rw [e1]
      refine ⟨hN, ?_⟩
      have e2 : (w.alloc o).heap[w.heap.size]? = some o := by
        show (w.heap.push _)[w.heap.size]? = _
        simp [Array.getElem?_push]
      rw [e2]; exact ho
theorem Mem.new {N : Nat} {n : Env} {s : St} {w : World} (h : Mem N n s.bs w) (hz : Dx.nz n = sz s) (hN : N ≤ w.heap.size) (hw : s.bs.all (wfBlk (sz s)) = true) {cells : List CV} (hc : cells.all (wfC (sz s)) = true) (ty : TypeId) :
    Mem N (newEnv n w.heap.size) (s.bs ++ [⟨cells, ty, none⟩]) (w.alloc (Blk.obj n ⟨cells, ty, none⟩)) := by
  rw [← hz] at hw hc
  exact h.newB hN hw ((wfBlk_at (newEnv_ext n w.heap.size) ⟨cells, ty, none⟩ _ (by simp only [wfBlk, hc, Bool.and_self])).2 rfl)
theorem DatOk.newB {N : Nat} {n : Env} {bnd : Bnd} {ar : List Ar} {w : World} (h : DatOk N n bnd ar w) (hB : BndOk n.r bnd) (o : Obj) : DatOk N (newEnv n w.heap.size) bnd ar (w.alloc o) :=
  h.move hB rfl (List.prefix_refl _) (fun g hg => by
    simp only [newEnv, List.mem_append, List.mem_singleton] at hg
    rcases hg with k | k
    · exact .inl k
    · exact .inr (by omega)) (fun g hg _ => Below.heap_alloc _ _ _ hg) fun i S hS => .inl ⟨by rw [hB.len]; exact (List.getElem?_eq_some_iff.1 hS).1, hS⟩
theorem Rep.new {N : Nat} {w0 : World} {n : Env} {s : St} {a : Act} {w : World} (h : Rep N w0 n s a w) (hN : N ≤ w0.heap.size) (hw : wfSt s = true) {cells : List CV} (hc : cells.all (wfC (sz s)) = true) (ty : TypeId) :
    Rep N w0 (newEnv n w.heap.size) { s with bs := s.bs ++ [⟨cells, ty, none⟩] } a (w.alloc (Blk.obj n ⟨cells, ty, none⟩)) := by
  simp only [wfSt, Bool.and_eq_true] at hw
  have hN' : N ≤ w.heap.size := Nat.le_trans hN h.below.size
  refine ⟨h.bnd, h.mem.new h.nz hN' hw.1.2 hc ty, h.dat.newB h.bnd _, h.below.alloc hN' _, ?_⟩
  rw [h.act]
  have := wfSs_den (newEnv_ext n w.heap.size) s.tmps (by rw [h.nz]; exact hw.1.1)
  have h2 := wfDf (newEnv_ext n w.heap.size) s.df (by rw [h.lens.2]; exact hw.2)
  simp only [this, h2]
theorem newEnv_last {n : Env} {s : St} (h : n.b.length = s.bs.length) (x : Nat) : (newEnv n x).b.getD s.bs.length 0 = x := by
  simp [newEnv, List.getD_eq_getElem?_getD, ← h]
end Go.Dx

/- A symbolic executor: stores, and blocks that are made. -/
namespace Go.Dx
open Go.RowKit
set_option linter.unusedVariables false
set_option linter.unusedSimpArgs false
/-- w' is w with other content in block B. -/
structure At (B : Nat) (w w' : World) : Prop where
  os : w'.os = w.os
  tape : w'.tape = w.tape
  output : w'.output = w.output
  size : w'.heap.size = w.heap.size
  block : ∀ k, k ≠ B → w'.heap[k]? = w.heap[k]?
theorem At.refl (B : Nat) (w : World) : At B w w := ⟨rfl, rfl, rfl, rfl, fun _ _ => rfl⟩
theorem At.trans {B : Nat} {a b c : World} (h : At B a b) (k : At B b c) : At B a c := ⟨k.os.trans h.os, k.tape.trans h.tape, k.output.trans h.output, k.size.trans h.size, fun i hi => (k.block i hi).trans (h.block i hi)⟩
theorem At.below {B N : Nat} {a b : World} (h : At B a b) (hB : N ≤ B) : Below N a b := ⟨h.os, h.tape, h.output, by rw [h.size]; exact Nat.le_refl _, fun k hk => h.block k (by omega)⟩
theorem one_flat {v : Value} (h : isFlat v) : v.oneCell' = true := by cases v <;> first | rfl | exact absurd rfl (h _).1 | exact absurd rfl (h _).2
theorem set_heap {W : World} {B i : Nat} {cs : Array Value} {ty : TypeId} (x : Value) (h : W.heap[B]? = some (.cells cs ty (0, 0))) : (W.setCell ⟨B, i, none⟩ x).heap[B]? = some (.cells (cs.setIfInBounds i x) ty (0, 0)) := by
  obtain ⟨hlt, hk⟩ := Array.getElem?_eq_some_iff.1 h
  show (W.heap.modify B _)[B]? = _
  rw [Array.getElem?_eq_getElem (by rw [Array.size_modify]; exact hlt), Array.getElem_modify_self, hk]; rfl
theorem set_at (W : World) (B i : Nat) (x : Value) : At B W (W.setCell ⟨B, i, none⟩ x) :=
  ⟨rfl, rfl, rfl, by simp [World.setCell], fun k hk => Below.heap_setCell _ _ _ _ hk⟩
theorem run_storeS {P : Program} {n : Env} {B : Nat} {ty : TypeId} : ∀ (l : List CV) (cs : List CV) (o i : Nat) (w : World), w.heap[B]? = some (Blk.obj n ⟨cs, ty, none⟩) → o + i + l.length ≤ cs.length →
    ∃ w', (storeCells ⟨B, o, none⟩ (l.map (CV.den n)) i).run P w = .ok () w' ∧ At B w w' ∧ w'.heap[B]? = some (Blk.obj n ⟨lay cs (o + i) l, ty, none⟩)
  | [], cs, o, i, w, h, hl => ⟨w, rfl, At.refl B w, h⟩
  | v :: l, cs, o, i, w, h, hl => by
    simp only [List.length_cons] at hl
    have h1 : (w.setCell ⟨B, o + i, none⟩ (v.den n)).heap[B]? = some (Blk.obj n ⟨cs.set (o + i) v, ty, none⟩) := by
      rw [set_heap (v.den n) h]
      simp [Blk.obj, List.map_set]
    obtain ⟨w', hr, hA, hB⟩ := run_storeS l (cs.set (o + i) v) o (i + 1) _ h1 (by simp; omega)
    refine ⟨w', ?_, (set_at w B (o + i) (v.den n)).trans hA, hB⟩
    have hcell : w.cell? ⟨B, o + i, none⟩ = some ((cs[o + i]'(by omega)).den n) := by
      rw [cell_at h]; simp [List.getElem?_eq_getElem (show o + i < cs.length from by omega)]
    simp only [List.map_cons, storeCells, Sem.run_bind, addr_plus]
    rw [run_store P w _ _ _ (one_flat (v.flat n)), hcell]
    simp only [frozen_at h, Bool.false_eq_true, if_false, Result.andThen_ok]
    exact hr
def storeS (tb : Tb) (s : St) (t : TypeId) (b off : Nat) (v : PV) : T (SV × St) :=
  match tb.size t, s.bs[b]? with
    | some i, some ⟨cells, ty, none⟩ =>
      if v.cells.length = i ∧ off + v.cells.length ≤ cells.length then .ret (undefS, { s with bs := s.bs.set b ⟨lay cells off v.cells, ty, none⟩ }) else .fail
    | _, _ => .fail
theorem Mem.set {N : Nat} {n : Env} {bs : List Blk} {w w' : World} (h : Mem N n bs w) {b : Nat} {k k' : Blk} (hk : bs[b]? = some k) (hA : At (n.b.getD b 0) w w') (hB : k'.at n (w'.heap[n.b.getD b 0]?)) : Mem N n (bs.set b k') w' := by
  have hlt : b < bs.length := (List.getElem?_eq_some_iff.1 hk).1
  refine ⟨by simp [h.1], h.2.1, fun i c hi => ?_⟩
  rw [List.getElem?_set] at hi
  split at hi
  · rename_i e; subst e
    obtain rfl : k' = c := by simpa using hi
    exact ⟨(h.2.2 _ k hk).1, hB⟩
  · rename_i e
    have h1 := h.2.2 i c hi
    refine ⟨h1.1, ?_⟩
    have hsame : w'.heap[n.b.getD i 0]? = w.heap[n.b.getD i 0]? := by
     refine hA.block _ fun he => e ?_
     have hi' : i < n.b.length := by rw [h.1]; exact (List.getElem?_eq_some_iff.1 hi).1
     have hb' : b < n.b.length := by rw [h.1]; exact hlt
     refine h.2.1 b i (n.b.getD b 0) ?_ ?_
     · simp [List.getD_eq_getElem?_getD, List.getElem?_eq_getElem hb']
     · rw [← he]; simp [List.getD_eq_getElem?_getD, List.getElem?_eq_getElem hi']
    rw [hsame]; exact h1.2
theorem storeS_ok {P : Program} {tb : Tb} [TbOk P tb] {N : Nat} {w0 : World} {C : List Con} {Φ : List DV → SV × St → Prop} {n : Env} {s : St} {a : Act} {w : World} {t : TypeId} {b off : Nat} {v : PV}
    (h : Rep N w0 n s a w) (hd : (storeS tb s t b off v).den C Φ n.r) :
    ∃ w' s', (Instr.storeAt t ((K.addr b off).den n) (v.den n)).run P w = .ok () w' ∧ Rep N w0 n s' a w' ∧ Φ n.r (undefS, s') := by
  unfold storeS at hd
  split at hd
  · rename_i i cells ty hi hk
    split at hd
    · rename_i hc
      have hm := (h.mem.2.2 b ⟨cells, ty, none⟩ hk)
      obtain ⟨w', hr, hA, hB⟩ := run_storeS (P := P) (n := n) (ty := ty) v.cells cells off 0 w hm.2 (by omega)
      have hbn : n.b.getD b 0 ∈ n.b := by
        have hlt : b < n.b.length := by rw [h.lens.2]; exact (List.getElem?_eq_some_iff.1 hk).1
        rw [List.getD_eq_getElem?_getD, List.getElem?_eq_getElem hlt]
        exact List.getElem_mem hlt
      refine ⟨w', _, ?_, ?_, hd⟩
      · simp only [Instr.storeAt, K.den, Instr.sureAddr, Sem.run_bind, Sem.run_pure, Result.andThen_ok, storeVar, run_size hi, PV.cells_den]
        rw [if_neg (by simp; exact hc.1)]
        simpa using hr
      · exact ⟨h.bnd, h.mem.set hk hA (by simpa [Blk.at] using hB), h.dat.world h.bnd fun g _ hg => hA.block g fun e => hg (e ▸ hbn), h.below.trans (hA.below hm.1), h.act⟩
    · exact hd.elim
  · exact hd.elim
def bslS (tb : Tb) (s : St) (t : TypeId) (len : Nat) (l : List (Nat × PV)) : T (SV × St) :=
  match tb.und t with
  | some (.slice e) => match tb.size e, zeroS tb e with
    | some i, some z =>
      if len * i > 2 ^ 24 || z.cells.length = 0 then .fail
      else match fillS (fun j => some (j * i, i)) ((List.range (len * i)).map fun j => z.cells.getD (j % z.cells.length) (.k .nilp)) l with
        | some cs => newS s cs e fun b => .p (.c (.k (.sl b 0 len len)))
        | none => .fail
    | _, _ => .fail
  | _ => .fail
theorem bslS_run {P : Program} {tb : Tb} [TbOk P tb] {w : World} {n : Env} {e : TypeId} {i : Nat} {z : PV} {t : TypeId} {len : Nat} {l : List (Nat × PV)} {cs : List CV} (hu : tb.und t = some (.slice e)) (hi : tb.size e = some i) (hz : zeroS tb e = some z)
    (hc : ¬ (len * i > 2 ^ 24 || decide (z.cells.length = 0)) = true)
    (hf : fillS (fun j => some (j * i, i)) ((List.range (len * i)).map fun j => z.cells.getD (j % z.cells.length) (.k .nilp)) l = some cs)
    (ps : Array (Nat × Value)) (hp : ps.toList = l.map fun (i, x) => (i, x.den n)) :
    (Instr.buildSlice t len ps).run P w = .ok (.slice (some ⟨w.heap.size, 0, none⟩) len len) (w.alloc (Blk.obj n ⟨cs, e, none⟩)) := by
  simp only [Bool.or_eq_true, decide_eq_true_eq, not_or] at hc
  have h1 := fillS_run (n := n) _ l _ cs hf
  have hz' : ∀ j, ((z.cells.map (CV.den n)).toArray)[j % z.cells.length]! = (z.cells.getD (j % z.cells.length) (.k .nilp)).den n := fun j => by
    have : j % z.cells.length < z.cells.length := Nat.mod_lt _ (by omega)
    rw [getElem!_pos _ _ (by simpa using this)]
    simp [List.getD_eq_getElem?_getD, List.getElem?_eq_getElem this]
  have h2 : ((List.range (len * i)).map fun j => z.cells.getD (j % z.cells.length) (.k .nilp)).map (CV.den n) = (List.range (len * i)).map fun j => ((z.cells.map (CV.den n)).toArray)[j % z.cells.length]! := by
    rw [List.map_map]; apply List.map_congr_left; intro j _; rw [hz']; rfl
  rw [h2] at h1
  simp only [Instr.buildSlice, Sem.run_bind, run_slice hu, run_size hi, Result.andThen_ok]
  rw [if_neg hc.1]
  by_cases h0 : len * i = 0
  · have hr0 : Array.range 0 = #[] := rfl
    simp only [h0, if_true, Sem.run_pure, Result.andThen_ok, hr0, List.map_toArray, Array.map_empty] at h1 ⊢
    simp only [List.range_zero, List.map_nil] at h1
    simp only [List.map_nil, hp, h1, newRow, Sem.run_bind, run_newObj, Result.andThen_ok, Sem.run_pure]
    rfl
  · simp only [h0, if_false, Sem.run_bind, zeroS_run (n := n) hz, Result.andThen_ok, Sem.run_pure, PV.cells_den]
    have h3 : (Array.range (len * i)).map (fun j => ((z.cells.map (CV.den n)).toArray)[j % ((z.cells.map (CV.den n)).toArray).size]!) = ((List.range (len * i)).map fun j => ((z.cells.map (CV.den n)).toArray)[j % z.cells.length]!).toArray := by
      apply Array.toList_inj.1; simp
    rw [h3, hp, h1]
    simp only [newRow, Sem.run_bind, run_newObj, Result.andThen_ok, Sem.run_pure]
    rfl
end Go.Dx
