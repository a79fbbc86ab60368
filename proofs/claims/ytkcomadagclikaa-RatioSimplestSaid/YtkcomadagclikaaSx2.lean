/- DERIVED. A symbolic executor over the walk, proved sound; part 2. -/
import Derived.Test.YtkcomadagclikaaSx1
/- A symbolic executor: aggregates that are built, and what an operation yields. -/
namespace Go.Sx
open Go.RowKit
set_option linter.unusedVariables false
set_option linter.unusedSimpArgs false
/-- Cells laid over others. -/
def lay : List CV → Nat → List CV → List CV
  | cs, _, [] => cs
  | cs, off, v :: l => lay (cs.set off v) (off + 1) l
def fillS (place : Nat → Option (Nat × Nat)) (cells : List CV) : List (Nat × PV) → Option (List CV)
  | [] => some cells
  | (i, v) :: rest =>
    match place i with
    | none => none
    | some (off, size) =>
      if v.cells.length ≠ size || off + v.cells.length > cells.length then none
      else fillS place (lay cells off v.cells) rest
theorem lay_length : ∀ (l : List CV) (cs : List CV) (off : Nat), (lay cs off l).length = cs.length
  | [], cs, off => rfl
  | v :: l, cs, off => by simp [lay, lay_length l]
theorem lay_den (n : Env) : ∀ (l : List CV) (cs : List CV) (off i : Nat),
    (((l.map (CV.den n)).zipIdx i).foldl (fun (a : Array Value) (x : Value × Nat) => a.setIfInBounds (off + x.2) x.1) (cs.map (CV.den n)).toArray) = ((lay cs (off + i) l).map (CV.den n)).toArray
  | [], cs, off, i => rfl
  | v :: l, cs, off, i => by
    simp only [List.map_cons, List.zipIdx_cons, List.foldl_cons, lay]
    rw [List.setIfInBounds_toArray, ← List.map_set, lay_den n l _ off (i + 1)]
    rfl
theorem fillS_run {n : Env} (place : Nat → Option (Nat × Nat)) : ∀ (l : List (Nat × PV)) (cells : List CV) (v : List CV), fillS place cells l = some v →
    Instr.fill place (cells.map (CV.den n)).toArray (l.map fun (i, x) => (i, x.den n)) = some (v.map (CV.den n)).toArray
  | [], cells, v, h => by simp only [fillS] at h; cases h; rfl
  | (i, x) :: rest, cells, v, h => by
    simp only [fillS] at h
    simp only [List.map_cons, Instr.fill]
    cases hp : place i with
    | none => rw [hp] at h; cases h
    | some q =>
      obtain ⟨off, size⟩ := q
      rw [hp] at h
      simp only at h ⊢
      split at h
      · cases h
      · rename_i hc
        simp only [Bool.or_eq_true, decide_eq_true_eq, not_or, ne_eq, Decidable.not_not] at hc
        rw [PV.cells_den]
        rw [if_neg (by simp; omega)]
        have := fillS_run (n := n) place rest _ v h
        rw [← this]
        congr 1
        have := lay_den n x.cells cells off 0
        rw [Nat.add_zero] at this
        rw [← this]
        rw [← Array.foldl_toList]
        simp
def placesS (tb : Tb) : List FD → Option (List (Nat × Nat))
  | [] => some []
  | f :: fs => match tb.size f.type, placesS tb fs with
    | some i, some l => some ((f.offset, i) :: l)
    | _, _ => none
theorem placesS_run {P : Program} {tb : Tb} [TbOk P tb] {w : World} : ∀ (fs : List Field) (l : List (Nat × Nat)), placesS tb (fs.map fun f => (⟨f.name == "_", f.type, f.offset⟩ : FD)) = some l →
    (fs.mapM fun f => (do pure (f.offset, ← sizeOf f.type) : Sem (Nat × Nat))).run P w = .ok l w
  | [], l, h => by cases h; rfl
  | f :: fs, l, h => by
    simp only [List.map_cons, placesS] at h
    split at h
    · rename_i i r hi hr
      cases h
      simp only [List.mapM_cons, Sem.run_bind, run_size hi, Result.andThen_ok, Sem.run_pure, placesS_run fs r hr]
    · cases h
/-- Operands of parts. -/
def partsS (tmps : List SV) (asm : List B) : List (Nat × Operand) → Option (List (Nat × PV))
  | [] => some []
  | (i, x) :: l => match opP tmps asm x, partsS tmps asm l with
    | some v, some r => some ((i, v) :: r)
    | _, _ => none
theorem partsS_den {n : Env} {tmps : List SV} {asm : List B} {a : Act} (ht : a.tmps = (tmps.map (SV.den n)).toArray) (ha : Asm n.r asm) : ∀ (l : List (Nat × Operand)) (v : List (Nat × PV)),
    partsS tmps asm l = some v → (l.map fun (i, x) => (i, a.eval x)) = v.map fun (i, x) => (i, x.den n)
  | [], v, h => by cases h; rfl
  | (i, x) :: l, v, h => by
    simp only [partsS] at h
    split at h
    · rename_i u r hu hr
      cases h
      simp [opP_den ht ha hu, partsS_den ht ha l r hr]
    · cases h
def zeroS (tb : Tb) (t : TypeId) : Option PV := tb.zero t
theorem zeroS_run {P : Program} {tb : Tb} [TbOk P tb] {w : World} {n : Env} {t : TypeId} {v : PV} (h : zeroS tb t = some v) : (zeroValue t).run P w = .ok (v.den n) w := by
  obtain ⟨i, u, hi, hu, hv⟩ := zero_ok (P := P) h
  simp [zeroValue, typeInfo, hi, hu, ofPV_den n hv]
def buildS (tb : Tb) (t : TypeId) (l : List (Nat × PV)) : Option PV :=
  match zeroS tb t, tb.und t with
  | some z, some (.str fs) => match placesS tb fs with
    | some ps => (fillS (fun i => ps[i]?) z.cells l).map .agg
    | none => none
  | some z, some (.array _ e) => match tb.size e with
    | some i => (fillS (fun j => some (j * i, i)) z.cells l).map .agg
    | none => none
  | _, _ => none
theorem buildS_run {P : Program} {tb : Tb} [TbOk P tb] {w : World} {n : Env} {t : TypeId} {l : List (Nat × PV)} {v : PV} (h : buildS tb t l = some v) (ps : Array (Nat × Value)) (hp : ps.toList = l.map fun (i, x) => (i, x.den n)) :
    (Instr.build t ps).run P w = .ok (v.den n) w := by
  unfold buildS at h
  split at h
  · rename_i z fs hz hu
    split at h
    · rename_i pl hpl
      cases hf : fillS (fun i => pl[i]?) z.cells l with
      | none => rw [hf] at h; cases h
      | some cs =>
        rw [hf] at h; cases h
        have h1 := fillS_run (n := n) (fun i => pl[i]?) l z.cells cs hf
        obtain ⟨fs, hu', hl'⟩ := run_str (P := P) (w := w) hu
        subst hl'
        have h2 := placesS_run (P := P) (w := w) fs.toList pl hpl
        have h3 : (fs.mapM fun f => (do pure (f.offset, ← sizeOf f.type) : Sem (Nat × Nat))).run P w = .ok pl.toArray w := by
          rw [← Array.toArray_toList (xs := fs), List.mapM_toArray]
          simp only [Sem.run_map, h2, Result.andThen_ok]
        simp only [Instr.build, Sem.run_bind, zeroS_run (n := n) hz, hu', Result.andThen_ok, h3, hp, PV.cells_den]
        simp only [List.getElem?_toArray, h1, Sem.run_pure]
        rfl
    · cases h
  · rename_i z k e hz hu
    split at h
    · rename_i i hi
      cases hf : fillS (fun j => some (j * i, i)) z.cells l with
      | none => rw [hf] at h; cases h
      | some cs =>
        rw [hf] at h; cases h
        have h1 := fillS_run (n := n) (fun j => some (j * i, i)) l z.cells cs hf
        simp only [Instr.build, Sem.run_bind, zeroS_run (n := n) hz, run_array hu, run_size hi, Result.andThen_ok, hp, PV.cells_den, h1, Sem.run_pure]
        rfl
    · cases h
  · cases h
end Go.Sx

/- A symbolic executor: what an operation yields. -/
namespace Go.Sx
open Go.RowKit
set_option linter.unusedVariables false
set_option linter.unusedSimpArgs false
def Reads (n : Env) (mem : List (Option Blk)) (w : World) : Prop := ∀ (i : Nat) (b : Blk), mem[i]? = some (some b) → b.at n (w.heap[n.b.getD i 0]?)
def loadS (tb : Tb) (mem : List (Option Blk)) (t : TypeId) (b o : Nat) : Option PV :=
  match mem[b]?, tb.und t, tb.size t with
  | some (some ⟨cells, ty, none⟩), some d, some i =>
    let k : Blk := ⟨cells, ty, none⟩
    if isAggD d then (if o + i ≤ k.cells.length then some (.agg ((k.cells.drop o).take i)) else none) else (k.cells[o]?).map .c
  | _, _, _ => none
theorem addr_plus (b o i : Nat) : Addr.add ⟨b, o, none⟩ i = ⟨b, o + i, none⟩ := by unfold Addr.add; split <;> simp_all
theorem cell_at {w : World} {B : Nat} {n : Env} {b : Blk} (h : w.heap[B]? = some (b.obj n)) (o : Nat) : w.cell? ⟨B, o, none⟩ = (b.cells[o]?).map (CV.den n) := by
  simp [World.cell?, h, Blk.obj]
theorem frozen_at {w : World} {B : Nat} {n : Env} {b : Blk} (h : w.heap[B]? = some (b.obj n)) (o : Nat) : w.frozen? ⟨B, o, none⟩ = false := by
  simp [World.frozen?, h, Blk.obj]
theorem loadS_var {P : Program} {tb : Tb} [TbOk P tb] {w : World} {n : Env} {mem : List (Option Blk)} (hm : Reads n mem w) {t : TypeId} {b o : Nat} {v : PV} (h : loadS tb mem t b o = some v) :
    (loadVar t ⟨n.b.getD b 0, o, none⟩).run P w = .ok (v.den n) w := by
  unfold loadS at h
  split at h
  · rename_i cells ty d i hk hd hi
    have hc : w.heap[n.b.getD b 0]? = some (Blk.obj n ⟨cells, ty, none⟩) := hm b ⟨cells, ty, none⟩ hk
    simp only at h
    generalize hkk : (⟨cells, ty, none⟩ : Blk) = k at hc h
    have hkc : k.cells = cells := by rw [← hkk]
    rw [← hkc] at h
    simp only [loadVar, Sem.run_bind, run_isAgg hd, Result.andThen_ok]
    split at h
    · rename_i ha
      split at h
      · rename_i hl
        cases h
        simp only [ha, if_true, Sem.run_bind, run_size hi, Result.andThen_ok]
        have := run_loadCells_list (P := P) (w := w) ⟨n.b.getD b 0, o, none⟩ (((k.cells.drop o).take i).map (CV.den n)) (fun j v hj => by
          rw [addr_plus, cell_at hc]
          rw [List.getElem?_map, List.getElem?_take, ] at hj
          split at hj
          · rw [List.getElem?_drop] at hj; exact hj
          · cases hj)
        have hlen : (((k.cells.drop o).take i).map (CV.den n)).length = i := by simp; omega
        rw [hlen] at this
        rw [this]; rfl
      · cases h
    · rename_i ha
      simp only [ha, Bool.false_eq_true, if_false, run_load]
      cases ho : k.cells[o]? with
      | none => rw [ho] at h; cases h
      | some x =>
        rw [ho] at h; cases h
        rw [cell_at hc, ho]; rfl
  · cases h
theorem loadS_run {P : Program} {tb : Tb} [TbOk P tb] {w : World} {n : Env} {mem : List (Option Blk)} (hm : Reads n mem w) {t : TypeId} {b o : Nat} {v : PV} (h : loadS tb mem t b o = some v) :
    (Instr.loadAt t (K.den n (.addr b o))).run P w = .ok (v.den n) w := by
  simp only [Instr.loadAt, K.den, Instr.sureAddr, Sem.run_bind, Sem.run_pure, Result.andThen_ok, loadS_var hm h]
def opKs (tmps : List SV) (asm : List B) : List Operand → Option (List K)
  | [] => some []
  | x :: l => match opK tmps asm x, opKs tmps asm l with
    | some v, some r => some (v :: r)
    | _, _ => none
theorem opKs_den {n : Env} {tmps : List SV} {asm : List B} {a : Act} (ht : a.tmps = (tmps.map (SV.den n)).toArray) (ha : Asm n.r asm) : ∀ (l : List Operand) (v : List K),
    opKs tmps asm l = some v → l.map a.eval = v.map (K.den n)
  | [], v, h => by cases h; rfl
  | x :: l, v, h => by
    simp only [opKs] at h
    split at h
    · rename_i u r hu hr
      cases h
      simp [opK_den ht ha hu, opKs_den ht ha l r hr]
    · cases h
def unS (s : Bnd) (op : UnOp) (x : K) : Option K :=
  match op, x with
  | .not, .bool b => some (.bool (mkNot b))
  | .neg, .int k e => some (.int k (mkWrap s k (mkSub (.lit 0) e)))
  | _, _ => none
theorem unS_run {P : Program} {w : World} {n : Env} {s : Bnd} (h : BndOk n.r s) {op : UnOp} {x v : K} (hv : unS s op x = some v) : (Op.unary op (x.den n)).run P w = .ok (v.den n) w := by
  unfold unS at hv
  split at hv
  · cases hv; simp [Op.unary, K.den, mkNot_den]
  · cases hv; simp [Op.unary, K.den, Op.intArith, mkWrap_den h, mkSub_den, E.den]
  · cases hv
def fieldPtr (tb : Tb) (t : TypeId) (x : K) (f : Nat) : Option K :=
  match x, tb.und t with
  | .addr b o, some (.str fs) => match fs[f]? with
    | some fd => match tb.size fd.type with
      | some 0 => none
      | some (i + 1) => some (.addr b (o + fd.offset))
      | none => none
    | none => none
  | _, _ => none
theorem fd_at {fs : Array Field} {f : Nat} {fd : FD} (h : (fs.toList.map fun f => (⟨f.name == "_", f.type, f.offset⟩ : FD))[f]? = some fd) : ∃ g, fs[f]? = some g ∧ g.type = fd.type ∧ g.offset = fd.offset := by
  rw [List.getElem?_map] at h
  cases hc : fs.toList[f]? with
  | none => rw [hc] at h; cases h
  | some g => rw [hc] at h; cases h; exact ⟨g, by simpa using hc, rfl, rfl⟩
theorem fieldPtr_run {P : Program} {tb : Tb} [TbOk P tb] {w : World} {n : Env} {t : TypeId} {x v : K} {f : Nat} (h : fieldPtr tb t x f = some v) : (Instr.fieldAt t (x.den n) f).run P w = .ok (v.den n) w := by
  unfold fieldPtr at h
  split at h
  · rename_i b o fs hu
    obtain ⟨fs, hu', hl⟩ := run_str (P := P) (w := w) hu
    subst hl
    split at h
    · rename_i fd hf
      obtain ⟨g, hg, e1, e2⟩ := fd_at hf
      rw [← e1, ← e2] at h
      split at h
      · cases h
      · rename_i i hi
        cases h
        simp [Instr.fieldAt, Sem.run_bind, hu', hg, K.den, Instr.sureAddr, fieldPlace, run_size hi, addr_plus]
      · cases h
    · cases h
  · cases h
def fieldV (tb : Tb) (t : TypeId) (x : PV) (f : Nat) : Option PV :=
  match x, tb.und t with
  | .agg l, some (.str fs) => match fs[f]? with
    | some fd => partS tb fd.type l fd.offset
    | none => none
  | _, _ => none
theorem fieldV_run {P : Program} {tb : Tb} [TbOk P tb] {w : World} {n : Env} {t : TypeId} {x v : PV} {f : Nat} (h : fieldV tb t x f = some v) : (Instr.field t (x.den n) f).run P w = .ok (v.den n) w := by
  unfold fieldV at h
  split at h
  · rename_i l fs hu
    obtain ⟨fs, hu', hl⟩ := run_str (P := P) (w := w) hu
    subst hl
    split at h
    · rename_i fd hf
      obtain ⟨g, hg, e1, e2⟩ := fd_at hf
      rw [← e1, ← e2] at h
      simp [Instr.field, Sem.run_bind, hu', hg, PV.den, asAgg, partS_run (n := n) h]
    · cases h
  · cases h
def indexV (tb : Tb) (t : TypeId) (x : PV) (i : K) : Option PV :=
  match x, i, tb.und t with
  | .agg l, .int _ (.lit m), some (.array len e) => match tb.size e with
    | some inf => if 0 ≤ m ∧ m < len then partS tb e l (m.toNat * inf) else none
    | none => none
  | .c (.con (.string b)), .int _ (.lit m), some .string => if 0 ≤ m then (b[m.toNat]?).map fun u => .c (.k (.int .u8 (.lit u.toNat))) else none
  | _, _, _ => none
theorem indexV_run {P : Program} {tb : Tb} [TbOk P tb] {w : World} {n : Env} {t : TypeId} {x v : PV} {i : K} (h : indexV tb t x i = some v) : (Instr.index t (x.den n) (i.den n)).run P w = .ok (v.den n) w := by
  unfold indexV at h
  split at h
  · rename_i l k m len e hu
    split at h
    · rename_i inf hi
      split at h
      · rename_i hm
        simp [Instr.index, Sem.run_bind, run_array hu, PV.den, K.den, E.den, asIntOf, hm, run_size hi, partS_run (n := n) h]
      · cases h
    · cases h
  · rename_i b k m hu
    split at h
    · rename_i hm
      cases hb : b[m.toNat]? with
      | none => rw [hb] at h; cases h
      | some u =>
        rw [hb] at h; cases h
        simp [Instr.index, Sem.run_bind, run_string hu, PV.den, CV.den, flat, K.den, E.den, asIntOf, hm, hb]
    · cases h
  · cases h
def indexPtr (tb : Tb) (t : TypeId) (x : K) (i : K) : Option K :=
  match x, i, tb.und t with
  | .sl b o l c, .int _ (.lit m), some (.slice e) => match tb.size e with
    | some inf => if 0 ≤ m ∧ m < l then some (.addr b (o + m.toNat * inf)) else none
    | none => none
  | .addr b o, .int _ (.lit m), some (.array l e) => match tb.size e with
    | some inf => if 0 ≤ m ∧ m < l then some (.addr b (o + m.toNat * inf)) else none
    | none => none
  | _, _, _ => none
theorem indexPtr_run {P : Program} {tb : Tb} [TbOk P tb] {w : World} {n : Env} {t : TypeId} {x v : K} {i : K} (h : indexPtr tb t x i = some v) : (Instr.indexAt t (x.den n) (i.den n)).run P w = .ok (v.den n) w := by
  unfold indexPtr at h
  split at h
  · rename_i b o l c k m e hu
    split at h
    · rename_i inf hi
      split at h
      · rename_i hm
        cases h
        simp [Instr.indexAt, Sem.run_bind, run_slice hu, K.den, E.den, asIntOf, hm, run_size hi, addr_plus]
      · cases h
    · cases h
  · rename_i b o k m l e hu
    split at h
    · rename_i inf hi
      split at h
      · rename_i hm
        cases h
        simp [Instr.indexAt, Sem.run_bind, run_array hu, K.den, E.den, asIntOf, hm, run_size hi, addr_plus, Instr.sureAddr]
      · cases h
    · cases h
  · cases h
def lenS (tb : Tb) (s : Bnd) (t : TypeId) (x : PV) : Option E :=
  match tb.und t, x with
  | some (.slice _), .c (.k (.sl _ _ l _)) => some (.lit l)
  | some (.slice _), .c (.k .nils) => some (.lit 0)
  | some (.slice _), .c (.k (.asl _ e)) => if 0 ≤ (e.rng s).1 then some e else none
  | some (.array l _), _ => some (.lit l)
  | _, _ => none
theorem lenS_run {P : Program} {tb : Tb} [TbOk P tb] {w : World} {n : Env} {s : Bnd} (h : BndOk n.r s) {t ty : TypeId} {x : PV} {e : E} (hv : lenS tb s t x = some e) :
    (Builtin.len_ #[t] ty #[x.den n]).run P w = .ok (.int .i64 (e.den n.r)) w := by
  unfold lenS at hv
  split at hv
  · rename_i hu; cases hv; simp [Builtin.len_, run_slice hu, PV.den, CV.den, K.den, E.den, goInt]
  · rename_i hu; cases hv; simp [Builtin.len_, run_slice hu, PV.den, CV.den, K.den, E.den, goInt]
  · rename_i e' hu
    split at hv
    · rename_i hc
      cases hv
      have := E.rng_ok h e
      have h2 : ((e.den n.r).toNat : Int) = e.den n.r := Int.toNat_of_nonneg (by omega)
      simp [Builtin.len_, run_slice hu, PV.den, CV.den, K.den, goInt, h2]
    · cases hv
  · rename_i l e' hu; cases hv
    simp [Builtin.len_, run_array hu, E.den, goInt]
  · cases hv
def mmS (s : Bnd) (b : Builtin) : List K → Option K
  | [.int k x, .int k' y] => if Nat.beq (kq k) (kq k') then (match b with
    | .min => some (.int k (mkMin s x y))
    | .max => some (.int k (mkMax s x y))
    | _ => none) else none
  | _ => none
theorem mmS_max {P : Program} {w : World} {n : Env} {s : Bnd} (h : BndOk n.r s) {ts : Array TypeId} {ty : TypeId} {l : List K} {v : K} (hv : mmS s .max l = some v) :
    (Builtin.max_ ts ty (l.map (K.den n)).toArray).run P w = .ok (v.den n) w := by
  unfold mmS at hv
  split at hv
  · rename_i k x k' y
    split at hv
    · rename_i hk; obtain rfl := kq_ok hk; cases hv
      simp [Builtin.max_, K.den, Builtin.max2, mkMax_den h]
      omega
    · cases hv
  · cases hv
theorem mmS_min {P : Program} {w : World} {n : Env} {s : Bnd} (h : BndOk n.r s) {ts : Array TypeId} {ty : TypeId} {l : List K} {v : K} (hv : mmS s .min l = some v) :
    (Builtin.min_ ts ty (l.map (K.den n)).toArray).run P w = .ok (v.den n) w := by
  unfold mmS at hv
  split at hv
  · rename_i k x k' y
    split at hv
    · rename_i hk; obtain rfl := kq_ok hk; cases hv
      simp [Builtin.min_, K.den, Builtin.min2, mkMin_den h]
      omega
    · cases hv
  · cases hv
end Go.Sx

/- A symbolic executor: operations that compute or read, in one function. -/
namespace Go.Sx
open Go.RowKit
set_option linter.unusedVariables false
set_option linter.unusedSimpArgs false
def convS (tb : Tb) (s : Bnd) (src dst : TypeId) (x : K) : Option K :=
  match x, tb.und src, tb.und dst with
  | .int _ e, some _, some (.int k) => some (.int k (mkWrap s k e))
  | _, _, _ => none
theorem convS_run {P : Program} {tb : Tb} [TbOk P tb] {w : World} {n : Env} {s : Bnd} (h : BndOk n.r s) {src dst : TypeId} {x v : K} (hv : convS tb s src dst x = some v) : (convert src dst (x.den n)).run P w = .ok (v.den n) w := by
  unfold convS at hv
  split at hv
  · rename_i k' e d k hs hd
    cases hv
    obtain ⟨u, hu, _⟩ := run_und (P := P) (w := w) hs
    simp [convert, Sem.run_bind, hu, run_int hd, K.den, Conv.intToInt, mkWrap_den h]
  · cases hv
def nilS (x : PV) : Option PV :=
  match x with
  | .c (.k (.addr b o)) => some x
  | .c (.clo (.func f) a b) => some x
  | _ => none
/-- What an operation leaves in its slot, if it only computes or reads. -/
def valOp (tb : Tb) (mem : List (Option Blk)) (s : Bnd) (tmps : List SV) (asm : List B) (o : Oper) : Option SV :=
  match o.op with
  | .move x => opd tmps asm x
  | .assign x => opd tmps asm x
  | .pick c a b => match opB tmps asm c with
    | some (.lit true) => opd tmps asm a
    | some (.lit false) => opd tmps asm b
    | some c => match opB tmps (c :: asm) a, opB tmps (mkNot c :: asm) b with
      | some p, some q => some (bool (mkSel c p q))
      | _, _ => none
    | none => none
  | .load t a => match opK tmps asm a with
    | some (.addr b o) => (loadS tb mem t b o).map .p
    | _ => none
  | .binOp op t x y _ => match opP tmps asm x, opP tmps asm y with
    | some u, some v => (binS tb s op t u v).map .p
    | _, _ => none
  | .unOp op _ x => match opK tmps asm x with
    | some u => (unS s op u).map fun v => .p (.c (.k v))
    | none => none
  | .convert src dst x => match opK tmps asm x with
    | some u => (convS tb s src dst u).map fun v => .p (.c (.k v))
    | none => none
  | .fieldAddr t x f => match opK tmps asm x with
    | some u => (fieldPtr tb t u f).map fun v => .p (.c (.k v))
    | none => none
  | .field t x f => match opP tmps asm x with
    | some u => (fieldV tb t u f).map .p
    | none => none
  | .index t x i => match opP tmps asm x, opK tmps asm i with
    | some u, some v => (indexV tb t u v).map .p
    | _, _ => none
  | .indexAddr t x i => match opK tmps asm x, opK tmps asm i with
    | some u, some v => (indexPtr tb t u v).map fun v => .p (.c (.k v))
    | _, _ => none
  | .extract x i => match opd tmps asm x with
    | some (.tup l) => (l[i]?).map .p
    | _ => none
  | .nilCheck x => match opP tmps asm x with
    | some u => (nilS u).map .p
    | none => none
  | .makeFunc f first cap => match opKs tmps asm first.toList, opKs tmps asm cap.toList with
    | some a, some b => some (.p (.c (.clo f a b)))
    | _, _ => none
  | .build t parts => match partsS tmps asm parts.toList with
    | some l => (buildS tb t l).map .p
    | none => none
  | .call c => match c.callee with
    | .builtin .len => match c.args.toList, c.argTypes.toList with
      | [x], [t] => match opP tmps asm x with
        | some u => (lenS tb s t u).map (int .i64)
        | none => none
      | _, _ => none
    | .builtin .max => match opKs tmps asm c.args.toList with
      | some l => (mmS s .max l).map fun v => .p (.c (.k v))
      | none => none
    | .builtin .min => match opKs tmps asm c.args.toList with
      | some l => (mmS s .min l).map fun v => .p (.c (.k v))
      | none => none
    | _ => none
  | _ => none
theorem valOp_run {P : Program} {tb : Tb} [TbOk P tb] {w : World} {n : Env} {mem : List (Option Blk)} {s : Bnd} {tmps : List SV} {asm : List B} {a : Act} {o : Oper} {v : SV}
    (hm : Reads n mem w) (hs : BndOk n.r s) (ht : a.tmps = (tmps.map (SV.den n)).toArray) (ha : Asm n.r asm) (h : valOp tb mem s tmps asm o = some v) :
    (execOp a.eval o).run P w = .ok (.value (v.den n)) w := by
  unfold valOp at h
  unfold execOp
  split at h <;> rename_i hop <;> simp only [hop]
  · rw [opd_den ht ha h]; rfl
  · rw [opd_den ht ha h]; rfl
  · rename_i c x y
    split at h
    · rename_i hc
      simp only [opB_den ht ha hc, asBool, B.den, Sem.run_bind, Sem.run_pure, Result.andThen_ok, if_true, opd_den ht ha h]
    · rename_i hc
      simp only [opB_den ht ha hc, asBool, B.den, Sem.run_bind, Sem.run_pure, Result.andThen_ok, Bool.false_eq_true, if_false, opd_den ht ha h]
    · rename_i c' _ _ hc
      split at h
      · rename_i p q hp hq
        cases h
        simp only [opB_den ht ha hc, asBool, Sem.run_bind, Sem.run_pure, Result.andThen_ok]
        cases hd : c'.den n.r with
        | true =>
          rw [opB_den ht (fun g hg => by rcases List.mem_cons.1 hg with e | e; (exact e ▸ hd); exact ha g e) hp]
          simp [SV.den, PV.den, CV.den, K.den, mkSel_den, hd]
        | false =>
          have hk : (mkNot c').den n.r = true := by rw [mkNot_den, hd]; rfl
          rw [opB_den ht (fun g hg => by rcases List.mem_cons.1 hg with e | e; (exact e ▸ hk); exact ha g e) hq]
          simp [SV.den, PV.den, CV.den, K.den, mkSel_den, hd]
      · cases h
    · cases h
  · split at h
    · rename_i b o hx
      cases hl : loadS tb mem _ b o with
      | none => rw [hl] at h; cases h
      | some u =>
        rw [hl] at h; cases h
        simp only [opK_den ht ha hx, Sem.run_bind, loadS_run hm hl, Result.andThen_ok, Sem.run_pure, SV.den]
    · cases h
  · split at h
    · rename_i u x hu hx
      cases hl : binS tb s _ _ u x with
      | none => rw [hl] at h; cases h
      | some z =>
        rw [hl] at h; cases h
        rw [opP_den ht ha hu, opP_den ht ha hx, Sem.run_bind, binS_run hs hl]
        rfl
    · cases h
  · split at h
    · rename_i u hu
      cases hl : unS s _ u with
      | none => rw [hl] at h; cases h
      | some z =>
        rw [hl] at h; cases h
        rw [opK_den ht ha hu, Sem.run_bind, unS_run hs hl]
        rfl
    · cases h
  · split at h
    · rename_i u hu
      cases hl : convS tb s _ _ u with
      | none => rw [hl] at h; cases h
      | some z =>
        rw [hl] at h; cases h
        rw [opK_den ht ha hu, Sem.run_bind, convS_run hs hl]
        rfl
    · cases h
  · split at h
    · rename_i u hu
      cases hl : fieldPtr tb _ u _ with
      | none => rw [hl] at h; cases h
      | some z =>
        rw [hl] at h; cases h
        rw [opK_den ht ha hu, Sem.run_bind, fieldPtr_run hl]
        rfl
    · cases h
  · split at h
    · rename_i u hu
      cases hl : fieldV tb _ u _ with
      | none => rw [hl] at h; cases h
      | some z =>
        rw [hl] at h; cases h
        rw [opP_den ht ha hu, Sem.run_bind, fieldV_run hl]
        rfl
    · cases h
  · split at h
    · rename_i u x hu hx
      cases hl : indexV tb _ u x with
      | none => rw [hl] at h; cases h
      | some z =>
        rw [hl] at h; cases h
        rw [opP_den ht ha hu, opK_den ht ha hx, Sem.run_bind, indexV_run hl]
        rfl
    · cases h
  · split at h
    · rename_i u x hu hx
      cases hl : indexPtr tb _ u x with
      | none => rw [hl] at h; cases h
      | some z =>
        rw [hl] at h; cases h
        rw [opK_den ht ha hu, opK_den ht ha hx, Sem.run_bind, indexPtr_run hl]
        rfl
    · cases h
  · rename_i x i
    split at h
    · rename_i l hl
      cases hi : l[i]? with
      | none => rw [hi] at h; cases h
      | some z =>
        rw [hi] at h; cases h
        rw [opd_den ht ha hl]
        simp [Instr.extract, SV.den, hi]
    · cases h
  · split at h
    · rename_i u hu
      cases hl : nilS u with
      | none => rw [hl] at h; cases h
      | some z =>
        rw [hl] at h; cases h
        rw [opP_den ht ha hu]
        unfold nilS at hl
        split at hl
        · cases hl; rfl
        · cases hl; rfl
        · cases hl
    · cases h
  · rename_i f first cap
    split at h
    · rename_i u x hu hx
      cases h
      have e1 := opKs_den ht ha _ _ hu
      have e2 := opKs_den ht ha _ _ hx
      have e3 : first.map a.eval = (u.map (K.den n)).toArray := by rw [← e1]; apply Array.toList_inj.1; simp
      have e4 : cap.map a.eval = (x.map (K.den n)).toArray := by rw [← e2]; apply Array.toList_inj.1; simp
      rw [e3, e4]; rfl
    · cases h
  · rename_i t parts
    split at h
    · rename_i l hl
      cases hb : buildS tb t l with
      | none => rw [hb] at h; cases h
      | some z =>
        rw [hb] at h; cases h
        have e := partsS_den ht ha _ _ hl
        rw [Sem.run_bind, buildS_run (n := n) hb _ (by rw [Array.toList_map, e])]
        rfl
    · cases h
  · rename_i c
    split at h
    · rename_i hcal
      simp only [resolve, hcal, Sem.run_bind, Sem.run_pure, Result.andThen_ok, invoke, builtin]
      split at h
      · rename_i x t hx ht'
        split at h
        · rename_i u hu
          cases hl : lenS tb s t u with
          | none => rw [hl] at h; cases h
          | some z =>
            rw [hl] at h; cases h
            have e1 : c.args.map a.eval = #[u.den n] := by apply Array.toList_inj.1; rw [Array.toList_map, hx]; simp [opP_den ht ha hu]
            have e2 : c.argTypes = #[t] := by apply Array.toList_inj.1; rw [ht']
            rw [e1, e2, lenS_run hs hl]; rfl
        · cases h
      · cases h
    · rename_i hcal
      simp only [resolve, hcal, Sem.run_bind, Sem.run_pure, Result.andThen_ok, invoke, builtin]
      split at h
      · rename_i l hl
        cases hm' : mmS s .max l with
        | none => rw [hm'] at h; cases h
        | some z =>
          rw [hm'] at h; cases h
          have e1 : c.args.map a.eval = (l.map (K.den n)).toArray := by apply Array.toList_inj.1; rw [Array.toList_map, opKs_den ht ha _ _ hl]
          rw [e1, mmS_max hs hm']; rfl
      · cases h
    · rename_i hcal
      simp only [resolve, hcal, Sem.run_bind, Sem.run_pure, Result.andThen_ok, invoke, builtin]
      split at h
      · rename_i l hl
        cases hm' : mmS s .min l with
        | none => rw [hm'] at h; cases h
        | some z =>
          rw [hm'] at h; cases h
          have e1 : c.args.map a.eval = (l.map (K.den n)).toArray := by apply Array.toList_inj.1; rw [Array.toList_map, opKs_den ht ha _ _ hl]
          rw [e1, mmS_min hs hm']; rfl
      · cases h
    · cases h
  · cases h
/-- Is an operation wanted? none: it cannot be told. -/
def gdS (ops : Array Oper) (tmps : List SV) (o : Oper) : Option B :=
  match o.guard with
  | none => some (.lit true)
  | some (j, want) => match (ops[j]?).bind (·.dst) with
    | none => none
    | some d => match tmps[d]? with
      | some (.p (.c (.k (.bool b)))) => some (if want then b else mkNot b)
      | some (.g g (.c (.k (.bool b)))) => some (mkAnd g (if want then b else mkNot b))
      | some (.tup []) => some (.lit false)
      | _ => none
theorem gdS_ok {n : Env} {ops : Array Oper} {tmps : List SV} {a : Act} {o : Oper} {g : B} (ht : a.tmps = (tmps.map (SV.den n)).toArray) (h : gdS ops tmps o = some g) :
    Region.wanted o (yielded ops a.tmps) = g.den n.r := by
  unfold gdS at h
  unfold Region.wanted
  split at h
  · rename_i hg; cases h; rw [hg]; rfl
  · rename_i j want hg
    rw [hg]
    simp only
    split at h
    · cases h
    · rename_i d hd
      have e : ∀ v, tmps[d]? = some v → yielded ops a.tmps j = (match v.den n with | .bool b => some b | _ => none) := fun v hv => by
        unfold yielded
        rw [hd, ht]
        simp only [Option.bind_some, List.getElem?_toArray, List.getElem?_map, hv, Option.map_some]
        cases v.den n <;> rfl
      split at h
      · rename_i b hb
        cases h
        rw [e _ hb]
        simp only [SV.den, PV.den, CV.den, K.den]
        cases want <;> simp [mkNot_den]
      · rename_i q b hb
        cases h
        rw [e _ hb]
        simp only [SV.den, PV.den, CV.den, K.den]
        rw [mkAnd_den]
        cases q.den n.r <;> cases want <;> simp [mkNot_den, undef]
      · rename_i hb
        cases h
        rw [e _ hb]
        simp [SV.den, B.den]
      · cases h
/-- What an operation of a region leaves in its slot, its guard looked at. -/
def yieldOp (tb : Tb) (ops : Array Oper) (mem : List (Option Blk)) (s : Bnd) (tmps : List SV) (o : Oper) : Option SV :=
  match gdS ops tmps o with
  | none => none
  | some (.lit true) => valOp tb mem s tmps [] o
  | some (.lit false) => some undefS
  | some g => match refineK g s true fun s => valOp tb mem s tmps [g] o with
    | some (.p x) => some (.g g x)
    | _ => none
theorem yieldOp_ok {P : Program} {tb : Tb} [TbOk P tb] {n : Env} {ops : Array Oper} {mem : List (Option Blk)} {s : Bnd} {tmps : List SV} {a : Act} {o : Oper} {v : SV}
    (hs : BndOk n.r s) (ht : a.tmps = (tmps.map (SV.den n)).toArray) (h : yieldOp tb ops mem s tmps o = some v) : YieldsIf P ops (Reads n mem) o (v.den n) a := by
  unfold yieldOp at h
  split at h
  · cases h
  · rename_i hg
    exact .inl ⟨by rw [gdS_ok ht hg]; rfl, fun w hw => valOp_run hw hs ht (fun g hg => by cases hg) h⟩
  · rename_i hg
    cases h
    exact .inr ⟨by rw [gdS_ok ht hg]; rfl, rfl⟩
  · rename_i g _ _ hg
    rw [refineK_eq] at h
    split at h
    · rename_i x hx
      cases h
      cases hd : g.den n.r with
      | true =>
        refine .inl ⟨by rw [gdS_ok ht hg, hd], fun w hw => ?_⟩
        have := valOp_run (P := P) (w := w) hw (refine_ok g hs true hd) ht (asm := [g]) (fun q hq => by rw [List.mem_singleton.1 hq]; exact hd) hx
        rw [this]; simp [SV.den, hd]
      | false => exact .inr ⟨by rw [gdS_ok ht hg, hd], by simp [SV.den, hd]⟩
    · cases h
end Go.Sx

/- A symbolic executor: what stays as it is when more is known; new blocks; stores. -/
namespace Go.Sx
open Go.RowKit
set_option linter.unusedVariables false
set_option linter.unusedSimpArgs false
def wfE (r : Nat) : E → Bool
  | .lit _ => true
  | .var i => Nat.blt i r
  | .add a b => wfE r a && wfE r b
  | .sub a b => wfE r a && wfE r b
  | .mul a b => wfE r a && wfE r b
  | .quo a b => wfE r a && wfE r b
  | .rem a b => wfE r a && wfE r b
  | .wrap _ a => wfE r a
  | .min a b => wfE r a && wfE r b
  | .max a b => wfE r a && wfE r b
def wfB (r : Nat) : B → Bool
  | .lit _ => true
  | .lt a b => wfE r a && wfE r b
  | .le a b => wfE r a && wfE r b
  | .eq a b => wfE r a && wfE r b
  | .not b => wfB r b
  | .and a b => wfB r a && wfB r b
  | .or a b => wfB r a && wfB r b
def wfK (r b : Nat) : K → Bool
  | .int _ e => wfE r e
  | .bool x => wfB r x
  | .addr i _ => Nat.blt i b
  | .sl i _ _ _ => Nat.blt i b
  | .asl _ e => wfE r e
  | .yld i => Nat.blt i b
  | _ => true
def wfC (r b : Nat) : CV → Bool
  | .k x => wfK r b x
  | .clo _ x y => x.all (wfK r b) && y.all (wfK r b)
  | .con _ => true
def wfP (r b : Nat) : PV → Bool
  | .c x => wfC r b x
  | .agg l => l.all (wfC r b)
def wfS (r b : Nat) : SV → Bool
  | .p x => wfP r b x
  | .g g x => wfB r g && wfP r b x
  | .tup l => l.all (wfP r b)
  | .u i => Nat.blt i r
def wfLq (r b : Nat) : Lq → Bool
  | .loop _ _ t _ _ _ d => t.all (wfS r b) && Nat.blt d b
  | .dfr _ => true
def wfBlk (r b : Nat) (k : Blk) : Bool := k.cells.all (wfC r b) && match k.kd with
  | none => true
  | some q => wfLq r b q
def wfSt (s : St) : Bool := s.tmps.all (wfS s.bnd.v.length s.bs.length) && s.bs.all (wfBlk s.bnd.v.length s.bs.length) && s.df.all fun d => Nat.blt d s.bs.length
theorem blt_mono {a b c : Nat} (h : b ≤ c) (x : Nat.blt a b = true) : Nat.blt a c = true := by
  have : a < b := Nat.le_of_ble_eq_true x
  exact Nat.ble_eq_true_of_le (show a + 1 ≤ c by omega)
section
variable {r b c : Nat} (h : b ≤ c)
include h
theorem wfK_mono (x : K) (hx : wfK r b x = true) : wfK r c x = true := by
  cases x <;> first | exact hx | exact blt_mono h hx
theorem wfC_mono (x : CV) (hx : wfC r b x = true) : wfC r c x = true := by
  cases x with
  | k x => exact wfK_mono h x hx
  | clo f p q =>
    simp only [wfC, Bool.and_eq_true] at *
    exact ⟨List.all_eq_true.2 fun y hy => wfK_mono h y (List.all_eq_true.1 hx.1 y hy), List.all_eq_true.2 fun y hy => wfK_mono h y (List.all_eq_true.1 hx.2 y hy)⟩
  | con v => rfl
theorem wfP_mono (x : PV) (hx : wfP r b x = true) : wfP r c x = true := by
  cases x with
  | c x => exact wfC_mono h x hx
  | agg l => exact List.all_eq_true.2 fun y hy => wfC_mono h y (List.all_eq_true.1 hx y hy)
theorem wfS_mono (x : SV) (hx : wfS r b x = true) : wfS r c x = true := by
  cases x with
  | p x => exact wfP_mono h x hx
  | g g x => simp only [wfS, Bool.and_eq_true] at *; exact ⟨hx.1, wfP_mono h x hx.2⟩
  | tup l => exact List.all_eq_true.2 fun y hy => wfP_mono h y (List.all_eq_true.1 hx y hy)
  | u i => exact hx
theorem wfBlk_mono (x : Blk) (hx : wfBlk r b x = true) : wfBlk r c x = true := by
  obtain ⟨cells, ty, kd⟩ := x
  simp only [wfBlk, Bool.and_eq_true] at *
  refine ⟨List.all_eq_true.2 fun y hy => wfC_mono h y (List.all_eq_true.1 hx.1 y hy), ?_⟩
  cases kd with
  | none => rfl
  | some q =>
    cases q with
    | dfr o => rfl
    | loop st p t a e f d =>
      simp only [wfLq, Bool.and_eq_true] at *
      exact ⟨List.all_eq_true.2 fun y hy => wfS_mono h y (List.all_eq_true.1 hx.2.1 y hy), blt_mono h hx.2.2⟩
end
structure Ext (n m : Env) : Prop where
  s : m.s = n.s
  t : m.t = n.t
  r : n.r <+: m.r
  b : n.b <+: m.b
  u : n.u <+: m.u
theorem Ext.refl (n : Env) : Ext n n := ⟨rfl, rfl, List.prefix_refl _, List.prefix_refl _, List.prefix_refl _⟩
theorem Ext.trans {a b c : Env} (h : Ext a b) (k : Ext b c) : Ext a c := ⟨k.s.trans h.s, k.t.trans h.t, h.r.trans k.r, h.b.trans k.b, h.u.trans k.u⟩
theorem Ext.more (n : Env) (ys : List Int) (us : List Value) (h : us.length = ys.length) : Ext n (n.more ys us h) := ⟨rfl, rfl, List.prefix_append _ _, List.prefix_refl _, List.prefix_append _ _⟩
theorem getD_prefix {α : Type} {l m : List α} (h : l <+: m) {i : Nat} (hi : i < l.length) (d : α) : m.getD i d = l.getD i d := by
  obtain ⟨t, rfl⟩ := h
  simp [List.getD_eq_getElem?_getD, List.getElem?_append_left hi]
theorem blt_lt {a b : Nat} (h : Nat.blt a b = true) : a < b := Nat.le_of_ble_eq_true h
theorem wfE_den {r m : List Int} (h : r <+: m) : ∀ e : E, wfE r.length e = true → e.den m = e.den r := by
  intro e he
  induction e with
  | lit n => rfl
  | var i => exact getD_prefix h (blt_lt he) 0
  | wrap k a ih => simp only [E.den, ih he]
  | _ a b ha hb => simp only [wfE, Bool.and_eq_true] at he; simp only [E.den, ha he.1, hb he.2]
theorem wfB_den {r m : List Int} (h : r <+: m) : ∀ e : B, wfB r.length e = true → e.den m = e.den r := by
  intro e he
  induction e with
  | lit b => rfl
  | lt a b => simp only [wfB, Bool.and_eq_true] at he; simp only [B.den, wfE_den h _ he.1, wfE_den h _ he.2]
  | le a b => simp only [wfB, Bool.and_eq_true] at he; simp only [B.den, wfE_den h _ he.1, wfE_den h _ he.2]
  | eq a b => simp only [wfB, Bool.and_eq_true] at he; simp only [B.den, wfE_den h _ he.1, wfE_den h _ he.2]
  | not b ih => simp only [B.den, ih he]
  | and a b ha hb => simp only [wfB, Bool.and_eq_true] at he; simp only [B.den, ha he.1, hb he.2]
  | or a b ha hb => simp only [wfB, Bool.and_eq_true] at he; simp only [B.den, ha he.1, hb he.2]
section
variable {n m : Env} (h : Ext n m)
include h
theorem wfK_den (x : K) (hx : wfK n.r.length n.b.length x = true) : x.den m = x.den n := by
  cases x with
  | int k e => simp only [K.den, wfE_den h.r e hx]
  | bool b => simp only [K.den, wfB_den h.r b hx]
  | addr i o => simp only [K.den, getD_prefix h.b (blt_lt hx)]
  | sl i o l c => simp only [K.den, getD_prefix h.b (blt_lt hx)]
  | asl i e => simp only [K.den, wfE_den h.r e hx, h.s]
  | atom i => simp only [K.den, h.t]
  | yld l => simp only [K.den, getD_prefix h.b (blt_lt hx)]
  | _ => rfl
theorem wfKs_den (l : List K) (hl : l.all (wfK n.r.length n.b.length) = true) : l.map (K.den m) = l.map (K.den n) :=
  List.map_congr_left fun x hx => wfK_den h x (List.all_eq_true.1 hl x hx)
theorem wfC_den (x : CV) (hx : wfC n.r.length n.b.length x = true) : x.den m = x.den n := by
  cases x with
  | k x => exact wfK_den h x hx
  | clo f a b => simp only [wfC, Bool.and_eq_true] at hx; simp only [CV.den, wfKs_den h a hx.1, wfKs_den h b hx.2]
  | con v => rfl
theorem wfCs_den (l : List CV) (hl : l.all (wfC n.r.length n.b.length) = true) : l.map (CV.den m) = l.map (CV.den n) :=
  List.map_congr_left fun x hx => wfC_den h x (List.all_eq_true.1 hl x hx)
theorem wfP_den (x : PV) (hx : wfP n.r.length n.b.length x = true) : x.den m = x.den n := by
  cases x with
  | c x => exact wfC_den h x hx
  | agg l => simp only [PV.den, wfCs_den h l hx]
theorem wfPs_den (l : List PV) (hl : l.all (wfP n.r.length n.b.length) = true) : l.map (PV.den m) = l.map (PV.den n) :=
  List.map_congr_left fun x hx => wfP_den h x (List.all_eq_true.1 hl x hx)
theorem wfS_den (x : SV) (hx : wfS n.r.length n.b.length x = true) : x.den m = x.den n := by
  cases x with
  | p x => exact wfP_den h x hx
  | g b x => simp only [wfS, Bool.and_eq_true] at hx; simp only [SV.den, wfB_den h.r b hx.1, wfP_den h x hx.2]
  | tup l => simp only [SV.den, wfPs_den h l hx]
  | u i => exact getD_prefix h.u (by rw [n.hu]; exact blt_lt hx) _
theorem wfSs_den (l : List SV) (hl : l.all (wfS n.r.length n.b.length) = true) : l.map (SV.den m) = l.map (SV.den n) :=
  List.map_congr_left fun x hx => wfS_den h x (List.all_eq_true.1 hl x hx)
theorem wfLq_obj (q : Lq) (fn : FuncId) (hq : wfLq n.r.length n.b.length q = true) : q.obj m fn = q.obj n fn := by
  cases q with
  | loop st p t a b c d =>
    simp only [wfLq, Bool.and_eq_true] at hq
    simp only [Lq.obj, wfSs_den h t hq.1, getD_prefix h.b (blt_lt hq.2)]
  | dfr o => cases o <;> rfl
theorem wfBlk_at (k : Blk) (o : Option Obj) (hk : wfBlk n.r.length n.b.length k = true) : k.at m o ↔ k.at n o := by
  obtain ⟨cells, ty, kd⟩ := k
  simp only [wfBlk, Bool.and_eq_true] at hk
  unfold Blk.at
  cases kd with
  | none => simp only [Blk.obj, wfCs_den h cells hk.1]
  | some q => simp only [wfLq_obj h q _ hk.2]
theorem wfDf (l : List Nat) (hl : (l.all fun d => Nat.blt d n.b.length) = true) : (l.map fun b => ({ target := .collected (m.b.getD b 0), args := #[] } : Deferred)) = l.map fun b => { target := .collected (n.b.getD b 0), args := #[] } :=
  List.map_congr_left fun x hx => by rw [getD_prefix h.b (blt_lt (List.all_eq_true.1 hl x hx))]
end
theorem Rep.lens {N : Nat} {w0 : World} {n : Env} {s : St} {a : Act} {w : World} (h : Rep N w0 n s a w) : n.r.length = s.bnd.v.length ∧ n.b.length = s.bs.length := ⟨h.bnd.len, h.mem.1⟩
theorem Rep.tmps {N : Nat} {w0 : World} {n : Env} {s : St} {a : Act} {w : World} (h : Rep N w0 n s a w) : a.tmps = (s.tmps.map (SV.den n)).toArray := by rw [h.act]
/-- The blocks at a larger memory. -/
theorem Mem.ext {N : Nat} {n m : Env} {bs : List Blk} {w : World} (h : Mem N n bs w) (hw : bs.all (wfBlk n.r.length n.b.length) = true) (he : Ext n m) (hb : m.b = n.b) : Mem N m bs w := by
  refine ⟨by rw [hb]; exact h.1, by rw [hb]; exact h.2.1, fun i b hi => ?_⟩
  rw [hb, wfBlk_at he b _ (List.all_eq_true.1 hw b (List.mem_of_getElem? hi))]
  exact h.2.2 i b hi
theorem Mem.lt {N : Nat} {n : Env} {bs : List Blk} {w : World} (h : Mem N n bs w) {i x : Nat} (hx : n.b[i]? = some x) : x < w.heap.size := by
  have hi : i < n.b.length := (List.getElem?_eq_some_iff.1 hx).1
  have hb : i < bs.length := by rw [← h.1]; exact hi
  have := (h.2.2 i bs[i] (List.getElem?_eq_getElem hb)).2
  rw [List.getD_eq_getElem?_getD, hx] at this
  have h2 := Blk.at_some this
  cases hc : w.heap[x]? with
  | none => simp only [Option.getD_some] at h2; rw [hc] at h2; cases h2
  | some o => exact (Array.getElem?_eq_some_iff.1 hc).1
/-- Memory that was there stays: another world. -/
theorem Mem.below {N : Nat} {n : Env} {bs : List Blk} {w w' : World} (h : Mem N n bs w) (hB : Below w.heap.size w w') : Mem N n bs w' := by
  refine ⟨h.1, h.2.1, fun i b hi => ⟨(h.2.2 i b hi).1, ?_⟩⟩
  have h1 := (h.2.2 i b hi).2
  have h2 := Blk.at_some h1
  have hlt : n.b.getD i 0 < w.heap.size := by
    cases hc : w.heap[n.b.getD i 0]? with
    | none => rw [hc] at h2; cases h2
    | some o => exact (Array.getElem?_eq_some_iff.1 hc).1
  rw [hB.block _ hlt]
  exact h1
def newEnv (n : Env) (x : Nat) : Env := { n with b := n.b ++ [x] }
theorem newEnv_ext (n : Env) (x : Nat) : Ext n (newEnv n x) := ⟨rfl, rfl, List.prefix_refl _, List.prefix_append _ _, List.prefix_refl _⟩
def put (s : St) (o : Oper) (v : SV) : St := { s with tmps := match o.dst with | some d => s.tmps.set d v | none => s.tmps }
/-- The same, strict. -/
def putK (s : St) (o : Oper) (v : SV) : T St :=
  fS v fun v => match s with
    | ⟨t, b, n, f⟩ => match o.dst with
      | some d => setF t d v fun t => .ret ⟨t, b, n, f⟩
      | none => .ret ⟨t, b, n, f⟩
theorem putK_eq (s : St) (o : Oper) (v : SV) : putK s o v = .ret (put s o v) := by
  unfold putK put
  rw [fS_eq]
  cases o.dst <;> simp only [setF_eq]
theorem Rep.put {N : Nat} {w0 : World} {n : Env} {s : St} {a : Act} {w : World} (h : Rep N w0 n s a w) (o : Oper) (v : SV) : Rep N w0 n (Sx.put s o v) (a.put o.dst (v.den n)) w := by
  refine ⟨h.bnd, h.mem, h.below, ?_⟩
  rw [h.act]
  unfold Act.put Sx.put
  cases o.dst with
  | none => rfl
  | some d => simp [List.map_set]
/-- A new block. -/
def newS (s : St) (cells : List CV) (ty : TypeId) (v : Nat → SV) : T (SV × St) :=
  if wfSt s && cells.all (wfC s.bnd.v.length s.bs.length) then .ret (v s.bs.length, { s with bs := s.bs ++ [⟨cells, ty, none⟩] }) else .fail
theorem Mem.newB {N : Nat} {n : Env} {bs : List Blk} {w : World} (h : Mem N n bs w) (hN : N ≤ w.heap.size) (hw : bs.all (wfBlk n.r.length n.b.length) = true) {k : Blk} {o : Obj} (ho : k.at (newEnv n w.heap.size) (some o)) :
    Mem N (newEnv n w.heap.size) (bs ++ [k]) (w.alloc o) := by
  have he := newEnv_ext n w.heap.size
  refine ⟨by simp [newEnv, h.1], fun i j x hi hj => ?_, fun i b hi => ?_⟩
  · simp only [newEnv] at hi hj
    rw [List.getElem?_append] at hi hj
    split at hi <;> split at hj
    · exact h.2.1 i j x hi hj
    · have h1 := h.lt hi
      have : x = w.heap.size := by
        cases hk : j - n.b.length with
        | zero => rw [hk] at hj; simpa using hj.symm
        | succ k => rw [hk] at hj; simp at hj
      omega
    · have h1 := h.lt hj
      have : x = w.heap.size := by
        cases hk : i - n.b.length with
        | zero => rw [hk] at hi; simpa using hi.symm
        | succ k => rw [hk] at hi; simp at hi
      omega
    · have a1 : i - n.b.length = 0 := by
        cases hk : i - n.b.length with
        | zero => rfl
        | succ k => rw [hk] at hi; simp at hi
      have a2 : j - n.b.length = 0 := by
        cases hk : j - n.b.length with
        | zero => rfl
        | succ k => rw [hk] at hj; simp at hj
      omega
  · rw [List.getElem?_append] at hi
    split at hi
    · rename_i hlt
      have hlt' : i < n.b.length := by rw [h.1]; exact hlt
      have h1 := h.2.2 i b hi
      rw [show (newEnv n w.heap.size).b.getD i 0 = n.b.getD i 0 from getD_prefix he.b hlt' 0]
      refine ⟨h1.1, ?_⟩
      rw [wfBlk_at he b _ (List.all_eq_true.1 hw b (List.mem_of_getElem? hi))]
      have hx : n.b.getD i 0 < w.heap.size := by
        refine h.lt (i := i) ?_
        simp [List.getD_eq_getElem?_getD, List.getElem?_eq_getElem hlt']
      rw [Below.heap_alloc _ _ _ hx]
      exact h1.2
    · rename_i hlt
      have hi0 : i = bs.length := by
        cases hk : i - bs.length with
        | zero => omega
        | succ k => rw [hk] at hi; simp at hi
      subst hi0
      have hb : b = k := by simpa using hi.symm
      subst hb
      have e1 : (newEnv n w.heap.size).b.getD bs.length 0 = w.heap.size := by
        simp [newEnv, List.getD_eq_getElem?_getD, ← h.1]
      rw [e1]
      refine ⟨hN, ?_⟩
      have e2 : (w.alloc o).heap[w.heap.size]? = some o := by
        show (w.heap.push _)[w.heap.size]? = _
        simp [Array.getElem?_push]
      rw [e2]; exact ho
theorem Mem.new {N : Nat} {n : Env} {s : St} {w : World} (h : Mem N n s.bs w) (hl : n.r.length = s.bnd.v.length) (hN : N ≤ w.heap.size) (hw : s.bs.all (wfBlk s.bnd.v.length s.bs.length) = true) {cells : List CV} (hc : cells.all (wfC s.bnd.v.length s.bs.length) = true) (ty : TypeId) :
    Mem N (newEnv n w.heap.size) (s.bs ++ [⟨cells, ty, none⟩]) (w.alloc (Blk.obj n ⟨cells, ty, none⟩)) := by
  rw [← hl, ← h.1] at hw hc
  exact h.newB hN hw ((wfBlk_at (newEnv_ext n w.heap.size) ⟨cells, ty, none⟩ _ (by simp only [wfBlk, hc, Bool.and_self])).2 rfl)
theorem Rep.new {N : Nat} {w0 : World} {n : Env} {s : St} {a : Act} {w : World} (h : Rep N w0 n s a w) (hN : N ≤ w0.heap.size) (hw : wfSt s = true) {cells : List CV} (hc : cells.all (wfC s.bnd.v.length s.bs.length) = true) (ty : TypeId) :
    Rep N w0 (newEnv n w.heap.size) { s with bs := s.bs ++ [⟨cells, ty, none⟩] } a (w.alloc (Blk.obj n ⟨cells, ty, none⟩)) := by
  simp only [wfSt, Bool.and_eq_true] at hw
  have hN' : N ≤ w.heap.size := Nat.le_trans hN h.below.size
  refine ⟨h.bnd, h.mem.new h.lens.1 hN' hw.1.2 hc ty, h.below.alloc hN' _, ?_⟩
  rw [h.act]
  have := wfSs_den (newEnv_ext n w.heap.size) s.tmps (by rw [h.lens.1, h.lens.2]; exact hw.1.1)
  have h2 := wfDf (newEnv_ext n w.heap.size) s.df (by rw [h.lens.2]; exact hw.2)
  simp only [this, h2]
theorem newEnv_last {n : Env} {s : St} (h : n.b.length = s.bs.length) (x : Nat) : (newEnv n x).b.getD s.bs.length 0 = x := by
  simp [newEnv, List.getD_eq_getElem?_getD, ← h]
end Go.Sx

/- A symbolic executor: stores, and blocks that are made. -/
namespace Go.Sx
open Go.RowKit
set_option linter.unusedVariables false
set_option linter.unusedSimpArgs false
/-- w' is w with other content in block B. -/
structure At (B : Nat) (w w' : World) : Prop where
  os : w'.os = w.os
  tape : w'.tape = w.tape
  output : w'.output = w.output
  size : w'.heap.size = w.heap.size
  block : ∀ k, k ≠ B → w'.heap[k]? = w.heap[k]?
theorem At.refl (B : Nat) (w : World) : At B w w := ⟨rfl, rfl, rfl, rfl, fun _ _ => rfl⟩
theorem At.trans {B : Nat} {a b c : World} (h : At B a b) (k : At B b c) : At B a c := ⟨k.os.trans h.os, k.tape.trans h.tape, k.output.trans h.output, k.size.trans h.size, fun i hi => (k.block i hi).trans (h.block i hi)⟩
theorem At.below {B N : Nat} {a b : World} (h : At B a b) (hB : N ≤ B) : Below N a b := ⟨h.os, h.tape, h.output, by rw [h.size]; exact Nat.le_refl _, fun k hk => h.block k (by omega)⟩
theorem one_flat {v : Value} (h : isFlat v) : v.oneCell' = true := by cases v <;> first | rfl | exact absurd rfl (h _).1 | exact absurd rfl (h _).2
theorem set_heap {W : World} {B i : Nat} {cs : Array Value} {ty : TypeId} (x : Value) (h : W.heap[B]? = some (.cells cs ty (0, 0))) : (W.setCell ⟨B, i, none⟩ x).heap[B]? = some (.cells (cs.setIfInBounds i x) ty (0, 0)) := by
  obtain ⟨hlt, hk⟩ := Array.getElem?_eq_some_iff.1 h
  show (W.heap.modify B _)[B]? = _
  rw [Array.getElem?_eq_getElem (by rw [Array.size_modify]; exact hlt), Array.getElem_modify_self, hk]; rfl
theorem set_at (W : World) (B i : Nat) (x : Value) : At B W (W.setCell ⟨B, i, none⟩ x) :=
  ⟨rfl, rfl, rfl, by simp [World.setCell], fun k hk => Below.heap_setCell _ _ _ _ hk⟩
theorem run_storeS {P : Program} {n : Env} {B : Nat} {ty : TypeId} : ∀ (l : List CV) (cs : List CV) (o i : Nat) (w : World), w.heap[B]? = some (Blk.obj n ⟨cs, ty, none⟩) → o + i + l.length ≤ cs.length →
    ∃ w', (storeCells ⟨B, o, none⟩ (l.map (CV.den n)) i).run P w = .ok () w' ∧ At B w w' ∧ w'.heap[B]? = some (Blk.obj n ⟨lay cs (o + i) l, ty, none⟩)
  | [], cs, o, i, w, h, hl => ⟨w, rfl, At.refl B w, h⟩
  | v :: l, cs, o, i, w, h, hl => by
    simp only [List.length_cons] at hl
    have h1 : (w.setCell ⟨B, o + i, none⟩ (v.den n)).heap[B]? = some (Blk.obj n ⟨cs.set (o + i) v, ty, none⟩) := by
      rw [set_heap (v.den n) h]
      simp [Blk.obj, List.map_set]
    obtain ⟨w', hr, hA, hB⟩ := run_storeS l (cs.set (o + i) v) o (i + 1) _ h1 (by simp; omega)
    refine ⟨w', ?_, (set_at w B (o + i) (v.den n)).trans hA, hB⟩
    have hcell : w.cell? ⟨B, o + i, none⟩ = some ((cs[o + i]'(by omega)).den n) := by
      rw [cell_at h]; simp [List.getElem?_eq_getElem (show o + i < cs.length from by omega)]
    simp only [List.map_cons, storeCells, Sem.run_bind, addr_plus]
    rw [run_store P w _ _ _ (one_flat (v.flat n)), hcell]
    simp only [frozen_at h, Bool.false_eq_true, if_false, Result.andThen_ok]
    exact hr
def storeS (tb : Tb) (s : St) (t : TypeId) (a : K) (v : PV) : T (SV × St) :=
  match a with
  | .addr b off => match tb.size t, s.bs[b]? with
    | some i, some ⟨cells, ty, none⟩ =>
      if v.cells.length = i ∧ off + v.cells.length ≤ cells.length then .ret (undefS, { s with bs := s.bs.set b ⟨lay cells off v.cells, ty, none⟩ }) else .fail
    | _, _ => .fail
  | _ => .fail
theorem Mem.set {N : Nat} {n : Env} {bs : List Blk} {w w' : World} (h : Mem N n bs w) {b : Nat} {k k' : Blk} (hk : bs[b]? = some k) (hA : At (n.b.getD b 0) w w') (hB : k'.at n (w'.heap[n.b.getD b 0]?)) : Mem N n (bs.set b k') w' := by
  have hlt : b < bs.length := (List.getElem?_eq_some_iff.1 hk).1
  refine ⟨by simp [h.1], h.2.1, fun i c hi => ?_⟩
  rw [List.getElem?_set] at hi
  split at hi
  · rename_i e; subst e
    obtain rfl : k' = c := by simpa using hi
    exact ⟨(h.2.2 _ k hk).1, hB⟩
  · rename_i e
    have h1 := h.2.2 i c hi
    refine ⟨h1.1, ?_⟩
    have hsame : w'.heap[n.b.getD i 0]? = w.heap[n.b.getD i 0]? := by
     refine hA.block _ fun he => e ?_
     have hi' : i < n.b.length := by rw [h.1]; exact (List.getElem?_eq_some_iff.1 hi).1
     have hb' : b < n.b.length := by rw [h.1]; exact hlt
     refine h.2.1 b i (n.b.getD b 0) ?_ ?_
     · simp [List.getD_eq_getElem?_getD, List.getElem?_eq_getElem hb']
     · rw [← he]; simp [List.getD_eq_getElem?_getD, List.getElem?_eq_getElem hi']
    rw [hsame]; exact h1.2
theorem storeS_ok {P : Program} {tb : Tb} [TbOk P tb] {N : Nat} {w0 : World} {C : List Con} {Φ : List Int → SV × St → Prop} {n : Env} {s : St} {a : Act} {w : World} {t : TypeId} {x : K} {v : PV}
    (h : Rep N w0 n s a w) (hd : (storeS tb s t x v).den C Φ n.r) :
    ∃ w' s', (Instr.storeAt t (x.den n) (v.den n)).run P w = .ok () w' ∧ Rep N w0 n s' a w' ∧ Φ n.r (undefS, s') := by
  unfold storeS at hd
  split at hd
  · rename_i b off
    split at hd
    · rename_i i cells ty hi hk
      split at hd
      · rename_i hc
        have hm := (h.mem.2.2 b ⟨cells, ty, none⟩ hk)
        obtain ⟨w', hr, hA, hB⟩ := run_storeS (P := P) (n := n) (ty := ty) v.cells cells off 0 w hm.2 (by omega)
        refine ⟨w', _, ?_, ?_, hd⟩
        · simp only [Instr.storeAt, K.den, Instr.sureAddr, Sem.run_bind, Sem.run_pure, Result.andThen_ok, storeVar, run_size hi, PV.cells_den]
          rw [if_neg (by simp; exact hc.1)]
          simpa using hr
        · exact ⟨h.bnd, h.mem.set hk hA (by simpa [Blk.at] using hB), h.below.trans (hA.below hm.1), h.act⟩
      · exact hd.elim
    · exact hd.elim
  · exact hd.elim
def bslS (tb : Tb) (s : St) (t : TypeId) (len : Nat) (l : List (Nat × PV)) : T (SV × St) :=
  match tb.und t with
  | some (.slice e) => match tb.size e, zeroS tb e with
    | some i, some z =>
      if len * i > 2 ^ 24 || z.cells.length = 0 then .fail
      else match fillS (fun j => some (j * i, i)) ((List.range (len * i)).map fun j => z.cells.getD (j % z.cells.length) (.k .nilp)) l with
        | some cs => newS s cs e fun b => .p (.c (.k (.sl b 0 len len)))
        | none => .fail
    | _, _ => .fail
  | _ => .fail
theorem bslS_run {P : Program} {tb : Tb} [TbOk P tb] {w : World} {n : Env} {e : TypeId} {i : Nat} {z : PV} {t : TypeId} {len : Nat} {l : List (Nat × PV)} {cs : List CV} (hu : tb.und t = some (.slice e)) (hi : tb.size e = some i) (hz : zeroS tb e = some z)
    (hc : ¬ (len * i > 2 ^ 24 || decide (z.cells.length = 0)) = true)
    (hf : fillS (fun j => some (j * i, i)) ((List.range (len * i)).map fun j => z.cells.getD (j % z.cells.length) (.k .nilp)) l = some cs)
    (ps : Array (Nat × Value)) (hp : ps.toList = l.map fun (i, x) => (i, x.den n)) :
    (Instr.buildSlice t len ps).run P w = .ok (.slice (some ⟨w.heap.size, 0, none⟩) len len) (w.alloc (Blk.obj n ⟨cs, e, none⟩)) := by
  simp only [Bool.or_eq_true, decide_eq_true_eq, not_or] at hc
  have h1 := fillS_run (n := n) _ l _ cs hf
  have hz' : ∀ j, ((z.cells.map (CV.den n)).toArray)[j % z.cells.length]! = (z.cells.getD (j % z.cells.length) (.k .nilp)).den n := fun j => by
    have : j % z.cells.length < z.cells.length := Nat.mod_lt _ (by omega)
    rw [getElem!_pos _ _ (by simpa using this)]
    simp [List.getD_eq_getElem?_getD, List.getElem?_eq_getElem this]
  have h2 : ((List.range (len * i)).map fun j => z.cells.getD (j % z.cells.length) (.k .nilp)).map (CV.den n) = (List.range (len * i)).map fun j => ((z.cells.map (CV.den n)).toArray)[j % z.cells.length]! := by
    rw [List.map_map]; apply List.map_congr_left; intro j _; rw [hz']; rfl
  rw [h2] at h1
  simp only [Instr.buildSlice, Sem.run_bind, run_slice hu, run_size hi, Result.andThen_ok]
  rw [if_neg hc.1]
  by_cases h0 : len * i = 0
  · have hr0 : Array.range 0 = #[] := rfl
    simp only [h0, if_true, Sem.run_pure, Result.andThen_ok, hr0, List.map_toArray, Array.map_empty] at h1 ⊢
    simp only [List.range_zero, List.map_nil] at h1
    simp only [List.map_nil, hp, h1, newRow, Sem.run_bind, run_newObj, Result.andThen_ok, Sem.run_pure]
    rfl
  · simp only [h0, if_false, Sem.run_bind, zeroS_run (n := n) hz, Result.andThen_ok, Sem.run_pure, PV.cells_den]
    have h3 : (Array.range (len * i)).map (fun j => ((z.cells.map (CV.den n)).toArray)[j % ((z.cells.map (CV.den n)).toArray).size]!) = ((List.range (len * i)).map fun j => ((z.cells.map (CV.den n)).toArray)[j % z.cells.length]!).toArray := by
      apply Array.toList_inj.1; simp
    rw [h3, hp, h1]
    simp only [newRow, Sem.run_bind, run_newObj, Result.andThen_ok, Sem.run_pure]
    rfl
end Go.Sx
