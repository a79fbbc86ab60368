/- DERIVED. A symbolic executor over data, proved sound; part 2. -/
import Derived.Test.YtcjdheaaddaagaaDx1
import Derived.Laws.StructEq
import Derived.Laws.Strings
/- A symbolic executor: operands, and operations that only compute or read. -/
namespace Go.Dx
open Go.RowKit
set_option linter.unusedVariables false
set_option linter.unusedSimpArgs false
/-- What the walk looks up of types and functions. -/
structure FD where
  blank : Bool
  type : Nat
  offset : Nat
inductive TD where
  | bool
  | int (k : IntKind)
  | slice (e : Nat)
  | array (n e : Nat)
  | ptr (e : Nat)
  | str (l : List FD)
  | string
  | other
def red : TypeDesc → TD
  | .bool => .bool
  | .int k => .int k
  | .slice e => .slice e
  | .array n e => .array n e
  | .pointer e => .ptr e
  | .struct fs => .str (fs.toList.map fun f => ⟨f.name == "_", f.type, f.offset⟩)
  | .string => .string
  | _ => .other
structure TE where
  t : Nat
  d : TD
  size : Nat
  bytes : Nat
  zero : Option PV
  eq : Bool
structure Tb where
  ty : List TE
  fn : List (Nat × Func)
  gl : List (Nat × List Value)
def findT : List TE → Nat → Option TE
  | [], _ => none
  | e :: l, t => if Nat.beq e.t t then some e else findT l t
def findF : List (Nat × Func) → Nat → Option Func
  | [], _ => none
  | e :: l, t => if Nat.beq e.1 t then some e.2 else findF l t
def Tb.und (tb : Tb) (t : Nat) : Option TD := match findT tb.ty t with
  | some e => some e.d
  | none => none
def Tb.size (tb : Tb) (t : Nat) : Option Nat := match findT tb.ty t with
  | some e => some e.size
  | none => none
def Tb.bytes (tb : Tb) (t : Nat) : Option Nat := match findT tb.ty t with
  | some e => some e.bytes
  | none => none
def Tb.zero (tb : Tb) (t : Nat) : Option PV := match findT tb.ty t with
  | some e => e.zero
  | none => none
def Tb.eq (tb : Tb) (t : Nat) : Bool := match findT tb.ty t with
  | some e => e.eq
  | none => false
def findG : List (Nat × List Value) → Nat → Option (List Value)
  | [], _ => none
  | e :: l, t => if Nat.beq e.1 t then some e.2 else findG l t
def Tb.glob (tb : Tb) (g : Nat) : Option (List Value) := findG tb.gl g
/-- The package-level variables hold what the tables say. -/
def Glb (tb : Tb) (w : World) : Prop := ∀ g l, tb.glob g = some l → ∀ o x, l[o]? = some x → w.cell? ⟨g, o, none⟩ = some x
class GlbOk (tb : Tb) (N : Nat) (w0 : World) : Prop where
  ok : ∀ g l, tb.glob g = some l → ∀ o x, l[o]? = some x → g < N ∧ w0.cell? ⟨g, o, none⟩ = some x
theorem cell_some_lt {w : World} {g o : Nat} {x : Value} (h : w.cell? ⟨g, o, none⟩ = some x) : g < w.heap.size := by
  unfold World.cell? at h
  cases hc : w.heap[g]? with
  | none => simp [hc] at h
  | some q => exact (Array.getElem?_eq_some_iff.1 hc).1
theorem Glb.ok {tb : Tb} {w : World} (h : Glb tb w) : GlbOk tb w.heap.size w := ⟨fun g l hg o x hx => ⟨cell_some_lt (h g l hg o x hx), h g l hg o x hx⟩⟩
theorem Glb.below {tb : Tb} {N : Nat} {w0 w : World} [hG : GlbOk tb N w0] (hB : Below N w0 w) : Glb tb w := fun g l hg o x hx => by
  obtain ⟨h1, h2⟩ := hG.ok g l hg o x hx
  have hb := hB.block g h1
  unfold World.cell? at h2 ⊢
  simp only [hb]
  exact h2
/-- No package-level variables. -/
theorem Glb.none {tb : Tb} (h : tb.gl = []) (w : World) : Glb tb w := fun g l hg => by
  unfold Tb.glob at hg
  rw [h] at hg
  cases hg
def Tb.func (tb : Tb) (g : Nat) : Option Func := findF tb.fn g
structure TEOk (P : Program) (e : TE) : Prop where
  und : ∃ d, P.underlying e.t = some d ∧ red d = e.d
  size : ∃ i, P.info? e.t = some i ∧ i.size = e.size
  bytes : ∃ i, P.info? e.t = some i ∧ i.bytes = e.bytes
  zero : ∀ z, e.zero = some z → ∃ i v, P.info? e.t = some i ∧ i.zero = some v ∧ ofPV v = some z
  eq : e.eq = true → P.stoodInHeld e.t = false ∧ P.eqGuardType P.depth e.t = false
class TbOk (P : Program) (tb : Tb) : Prop where
  ty : ∀ e ∈ tb.ty, TEOk P e
  fn : ∀ e ∈ tb.fn, P.funcs[e.1]? = some e.2
theorem findT_ok : ∀ {l : List TE} {t : Nat} {e : TE}, findT l t = some e → e ∈ l ∧ e.t = t
  | [], _, _, h => by cases h
  | x :: l, t, e, h => by
    simp only [findT] at h
    split at h
    · rename_i hb; cases h; exact ⟨List.mem_cons_self .., Nat.eq_of_beq_eq_true hb⟩
    · have := findT_ok h; exact ⟨List.mem_cons_of_mem _ this.1, this.2⟩
theorem findF_ok : ∀ {l : List (Nat × Func)} {t : Nat} {e : Func}, findF l t = some e → (t, e) ∈ l
  | [], _, _, h => by cases h
  | x :: l, t, e, h => by
    simp only [findF] at h
    split at h
    · rename_i hb; cases h; rw [← Nat.eq_of_beq_eq_true hb]; exact List.mem_cons_self ..
    · exact List.mem_cons_of_mem _ (findF_ok h)
section
variable {P : Program} {tb : Tb} [hT : TbOk P tb] {w : World}
include hT
theorem und_ok {t : Nat} {d : TD} (h : tb.und t = some d) : ∃ u, P.underlying t = some u ∧ red u = d := by
  unfold Tb.und at h
  split at h
  · rename_i e he; cases h
    have := findT_ok he
    rw [← this.2]; exact (hT.ty e this.1).und
  · cases h
theorem und_slice {t e : Nat} (h : tb.und t = some (.slice e)) : P.underlying t = some (.slice e) := by
  obtain ⟨u, hu, hr⟩ := und_ok (P := P) h
  cases u <;> first | (cases hr; exact hu) | cases hr
theorem und_array {t n e : Nat} (h : tb.und t = some (.array n e)) : P.underlying t = some (.array n e) := by
  obtain ⟨u, hu, hr⟩ := und_ok (P := P) h
  cases u <;> first | (cases hr; exact hu) | cases hr
theorem und_ptr {t e : Nat} (h : tb.und t = some (.ptr e)) : P.underlying t = some (.pointer e) := by
  obtain ⟨u, hu, hr⟩ := und_ok (P := P) h
  cases u <;> first | (cases hr; exact hu) | cases hr
theorem und_int {t : Nat} {k : IntKind} (h : tb.und t = some (.int k)) : P.underlying t = some (.int k) := by
  obtain ⟨u, hu, hr⟩ := und_ok (P := P) h
  cases u <;> first | (cases hr; exact hu) | cases hr
theorem und_string {t : Nat} (h : tb.und t = some .string) : P.underlying t = some .string := by
  obtain ⟨u, hu, hr⟩ := und_ok (P := P) h
  cases u <;> first | exact hu | cases hr
theorem und_bool {t : Nat} (h : tb.und t = some .bool) : P.underlying t = some .bool := by
  obtain ⟨u, hu, hr⟩ := und_ok (P := P) h
  cases u <;> first | exact hu | cases hr
theorem und_str {t : Nat} {l : List FD} (h : tb.und t = some (.str l)) : ∃ fs, P.underlying t = some (.struct fs) ∧ fs.toList.map (fun f => (⟨f.name == "_", f.type, f.offset⟩ : FD)) = l := by
  obtain ⟨u, hu, hr⟩ := und_ok (P := P) h
  cases u <;> first | (cases hr; exact ⟨_, hu, rfl⟩) | cases hr
theorem size_ok {t : Nat} {d : Nat} (h : tb.size t = some d) : ∃ i, P.info? t = some i ∧ i.size = d := by
  unfold Tb.size at h
  split at h
  · rename_i e he; cases h
    have := findT_ok he
    rw [← this.2]; exact (hT.ty e this.1).size
  · cases h
theorem bytes_ok {t : Nat} {d : Nat} (h : tb.bytes t = some d) : ∃ i, P.info? t = some i ∧ i.bytes = d := by
  unfold Tb.bytes at h
  split at h
  · rename_i e he; cases h
    have := findT_ok he
    rw [← this.2]; exact (hT.ty e this.1).bytes
  · cases h
theorem zero_ok {t : Nat} {z : PV} (h : tb.zero t = some z) : ∃ i v, P.info? t = some i ∧ i.zero = some v ∧ ofPV v = some z := by
  unfold Tb.zero at h
  split at h
  · rename_i e he
    have := findT_ok he
    rw [← this.2]; exact (hT.ty e this.1).zero z h
  · cases h
theorem eq_ok {t : Nat} (h : tb.eq t = true) : P.stoodInHeld t = false ∧ P.eqGuardType P.depth t = false := by
  unfold Tb.eq at h
  split at h
  · rename_i e he
    have := findT_ok he
    rw [← this.2]; exact (hT.ty e this.1).eq h
  · cases h
theorem func_ok {g : Nat} {fn : Func} (h : tb.func g = some fn) : P.funcs[g]? = some fn := hT.fn (g, fn) (findF_ok h)
theorem run_slice {t e : Nat} (h : tb.und t = some (.slice e)) : (underlying t).run P w = .ok (.slice e) w := by simp [underlying, und_slice (P := P) h]
theorem run_array {t n e : Nat} (h : tb.und t = some (.array n e)) : (underlying t).run P w = .ok (.array n e) w := by simp [underlying, und_array (P := P) h]
theorem run_ptr {t e : Nat} (h : tb.und t = some (.ptr e)) : (underlying t).run P w = .ok (.pointer e) w := by simp [underlying, und_ptr (P := P) h]
theorem run_int {t : Nat} {k : IntKind} (h : tb.und t = some (.int k)) : (underlying t).run P w = .ok (.int k) w := by simp [underlying, und_int (P := P) h]
theorem run_string {t : Nat} (h : tb.und t = some .string) : (underlying t).run P w = .ok .string w := by simp [underlying, und_string (P := P) h]
theorem run_bool {t : Nat} (h : tb.und t = some .bool) : (underlying t).run P w = .ok .bool w := by simp [underlying, und_bool (P := P) h]
theorem run_str {t : Nat} {l : List FD} (h : tb.und t = some (.str l)) : ∃ fs, (underlying t).run P w = .ok (.struct fs) w ∧ fs.toList.map (fun f => (⟨f.name == "_", f.type, f.offset⟩ : FD)) = l := by
  obtain ⟨fs, hu, hr⟩ := und_str (P := P) h
  exact ⟨fs, by simp [underlying, hu], hr⟩
theorem run_und {t : Nat} {d : TD} (h : tb.und t = some d) : ∃ u, (underlying t).run P w = .ok u w ∧ red u = d := by
  obtain ⟨u, hu, hr⟩ := und_ok (P := P) h
  exact ⟨u, by simp [underlying, hu], hr⟩
theorem run_size {t : TypeId} {i : Nat} (h : tb.size t = some i) : (sizeOf t).run P w = .ok i w := by
  obtain ⟨j, hj, rfl⟩ := size_ok (P := P) h
  simp [sizeOf, typeInfo, hj]
end
def isAggD : TD → Bool
  | .str _ | .array _ _ => true
  | _ => false
theorem run_isAgg {P : Program} {tb : Tb} [TbOk P tb] {w : World} {t : TypeId} {d : TD} (h : tb.und t = some d) : (isAgg t).run P w = .ok (isAggD d) w := by
  obtain ⟨u, hu, hr⟩ := run_und (P := P) (w := w) h
  simp only [isAgg, Sem.run_bind, hu, Result.andThen_ok]
  subst hr
  cases u <;> rfl
/-- Is a bool known? -/
def impl (g x : B) : Bool := g.eqb x || match g with
  | .and a b => impl a x || impl b x
  | _ => false
def known (asm : List B) : B → Bool
  | .lit true => true
  | .and p q => asm.any (fun g => impl g (.and p q)) || (known asm p && known asm q)
  | x => asm.any fun g => impl g x
def Asm (r : List DV) (asm : List B) : Prop := ∀ g ∈ asm, g.den r = true
theorem impl_ok {r : List DV} : ∀ (g x : B), impl g x = true → g.den r = true → x.den r = true
  | g, x, h, hg => by
    unfold impl at h
    simp only [Bool.or_eq_true] at h
    rcases h with h | h
    · exact B.eqb_ok h ▸ hg
    · split at h
      · rename_i a b
        simp only [B.den, Bool.and_eq_true, Bool.or_eq_true] at hg h
        rcases h with h | h
        · exact impl_ok a x h hg.1
        · exact impl_ok b x h hg.2
      · cases h
theorem any_ok {r : List DV} {asm : List B} {x : B} (h : (asm.any fun g => impl g x) = true) (ha : Asm r asm) : x.den r = true := by
  obtain ⟨g, hg, h⟩ := List.any_eq_true.1 h
  exact impl_ok g x h (ha g hg)
theorem known_ok {r : List DV} {asm : List B} : ∀ {x : B}, known asm x = true → Asm r asm → x.den r = true
  | .lit true, _, _ => rfl
  | .lit false, h, ha => any_ok (x := .lit false) h ha
  | .and p q, h, ha => by
    simp only [known, Bool.or_eq_true, Bool.and_eq_true] at h
    rcases h with h | h
    · exact any_ok h ha
    · simp only [B.den, known_ok h.1 ha, known_ok h.2 ha, Bool.and_self]
  | .lt a b, h, ha => any_ok (x := .lt a b) h ha
  | .le a b, h, ha => any_ok (x := .le a b) h ha
  | .eq a b, h, ha => any_ok (x := .eq a b) h ha
  | .seq a b, h, ha => any_ok (x := .seq a b) h ha
  | .slt a b, h, ha => any_ok (x := .slt a b) h ha
  | .not b, h, ha => any_ok (x := .not b) h ha
  | .or a b, h, ha => any_ok (x := .or a b) h ha
/-- An operand. -/
def opd (tmps : List SV) (asm : List B) : Operand → Option SV
  | .tmp t => match tmps[t]? with
    | some (.g b x) => if known asm b then some (.p x) else none
    | some v => some v
    | none => none
  | .const v => ofValue v
  | .global g => some (.p (.c (.k (.glo g 0))))
  | .func f => some (.p (.c (.clo (.func f) [] [])))
theorem opd_den {n : Env} {tmps : List SV} {asm : List B} {a : Act} (ht : a.tmps = (tmps.map (SV.den n)).toArray) (ha : Asm n.r asm) {x : Operand} {v : SV}
    (h : opd tmps asm x = some v) : a.eval x = v.den n := by
  cases x with
  | tmp t =>
    simp only [opd] at h
    have e : a.eval (.tmp t) = ((tmps[t]?).map (SV.den n)).getD undef := by
      simp [Act.eval, ht]
    rw [e]
    cases hc : tmps[t]? with
    | none => rw [hc] at h; cases h
    | some y =>
      rw [hc] at h
      cases y with
      | p x => cases h; rfl
      | tup l => cases h; rfl
      | u i => cases h; rfl
      | g b x =>
        simp only at h
        split at h
        · rename_i hk
          cases h
          simp [SV.den, known_ok hk ha]
        · cases h
  | const c => exact (ofValue_den n h).symm
  | global g => cases h; rfl
  | func f => cases h; rfl
def opP (tmps : List SV) (asm : List B) (x : Operand) : Option PV := match opd tmps asm x with | some (.p v) => some v | _ => none
theorem opP_den {n : Env} {tmps : List SV} {asm : List B} {a : Act} (ht : a.tmps = (tmps.map (SV.den n)).toArray) (ha : Asm n.r asm) {x : Operand} {v : PV}
    (h : opP tmps asm x = some v) : a.eval x = v.den n := by
  unfold opP at h
  split at h
  · rename_i y hy; cases h; exact opd_den ht ha hy
  · cases h
def opK (tmps : List SV) (asm : List B) (x : Operand) : Option K := match opP tmps asm x with | some (.c (.k v)) => some v | _ => none
theorem opK_den {n : Env} {tmps : List SV} {asm : List B} {a : Act} (ht : a.tmps = (tmps.map (SV.den n)).toArray) (ha : Asm n.r asm) {x : Operand} {v : K}
    (h : opK tmps asm x = some v) : a.eval x = v.den n := by
  unfold opK at h
  split at h
  · rename_i y hy; cases h; exact opP_den ht ha hy
  · cases h
def opB (tmps : List SV) (asm : List B) (x : Operand) : Option B := match opK tmps asm x with | some (.bool v) => some v | _ => none
theorem opB_den {n : Env} {tmps : List SV} {asm : List B} {a : Act} (ht : a.tmps = (tmps.map (SV.den n)).toArray) (ha : Asm n.r asm) {x : Operand} {v : B}
    (h : opB tmps asm x = some v) : a.eval x = .bool (v.den n.r) := by
  unfold opB at h
  split at h
  · rename_i y hy; cases h; exact opK_den ht ha hy
  · cases h
/-! Binary operations. -/
def xnor (a b : B) : B := mkOr (mkAnd a b) (mkAnd (mkNot a) (mkNot b))
theorem xnor_den (r : List DV) (a b : B) : (xnor a b).den r = (a.den r == b.den r) := by
  simp only [xnor, mkOr_den, mkAnd_den, mkNot_den]; cases a.den r <;> cases b.den r <;> rfl
/-- x & y, x | y .. -/
def bitO (op : BinOp) : Option Nat := match op with
  | .and => some 0
  | .or => some 1
  | .xor => some 2
  | .andNot => some 3
  | _ => none
theorem bitO_run {P : Program} {w : World} {op : BinOp} {o : Nat} (h : bitO op = some o) (k : IntKind) (x y : Int) : (Op.intBits op k x y).run P w = .ok (.int k (bitD o k x y)) w := by
  cases op <;> simp only [bitO, Option.some.injEq] at h <;> first | (subst h; rfl) | cases h
/-- The number j with n + 1 = 2^j, of a mask n. -/
def maskOf (n : Int) : Option Nat :=
  if n < 0 then none else
  let j := Nat.log2 (n.toNat + 1)
  if Nat.beq (2 ^ j) (n.toNat + 1) then some j else none
theorem maskOf_ok {n : Int} {j : Nat} (h : maskOf n = some j) : n = 2 ^ j - 1 ∧ 0 ≤ n := by
  unfold maskOf at h
  split at h
  · cases h
  · simp only at h
    split at h
    · rename_i h1 h2
      cases h
      have := Nat.eq_of_beq_eq_true h2
      have e : ((2 : Int) ^ (n.toNat + 1).log2) = ((2 ^ (n.toNat + 1).log2 : Nat) : Int) := by simp
      rw [e, this]; omega
    · cases h
theorem kmax_lt (k : IntKind) : kmax k < 2 ^ k.bits := by cases k <;> simp [kmax, IntKind.signed, IntKind.bits]
theorem ofInt_nat (b : Nat) {x : Int} (h : 0 ≤ x) (h2 : x < 2 ^ b) : (BitVec.ofInt b x).toNat = x.toNat := by
  rw [BitVec.toNat_ofInt]
  rw [Int.emod_eq_of_lt h (by simpa using h2)]
theorem and_mask {k : IntKind} {x n : Int} {j : Nat} (hx : 0 ≤ x) (hx2 : x ≤ kmax k) (hn : maskOf n = some j) (hn2 : n ≤ kmax k) : bitD 0 k x n = x.tmod (2 ^ j) := by
  obtain ⟨e, h0⟩ := maskOf_ok hn
  have hk := kmax_lt k
  have p : ((2 : Int) ^ j) = ((2 ^ j : Nat) : Int) := by simp
  have hp : 0 < 2 ^ j := Nat.pow_pos (by omega)
  unfold bitD
  simp only [BitVec.toNat_and]
  rw [ofInt_nat _ hx (by omega), ofInt_nat _ h0 (by omega)]
  have en : n.toNat = 2 ^ j - 1 := by omega
  rw [en, Nat.and_two_pow_sub_one_eq_mod, Int.tmod_eq_emod_of_nonneg hx, p]
  have hm : ((x.toNat % 2 ^ j : Nat) : Int) = x % ((2 ^ j : Nat) : Int) := by
    rw [Int.natCast_emod, Int.toNat_of_nonneg hx]
  rw [hm]
  have h1 := Int.emod_nonneg x (b := ((2 ^ j : Nat) : Int)) (by omega)
  have h2 : x % ((2 ^ j : Nat) : Int) ≤ x := by
    have h3 := Int.ediv_nonneg (a := x) (b := ((2 ^ j : Nat) : Int)) hx (by omega)
    have h5 := Int.mul_nonneg (a := ((2 ^ j : Nat) : Int)) (by omega) h3
    have h4 := Int.emod_add_mul_ediv x ((2 ^ j : Nat) : Int)
    omega
  refine wrap_in k _ ?_ (by omega)
  have : kmin k ≤ 0 := by cases k <;> simp [kmin, IntKind.signed, IntKind.bits]
  omega
def bitsS (s : Bnd) (op : BinOp) (k : IntKind) (a b : E) : Option K :=
  match bitO op with
  | none => none
  | some o =>
    match a, b with
    | .lit x, .lit y => some (.int k (.lit (bitD o k x y)))
    | a, .lit y =>
      if Nat.beq o 0 && (decide (0 ≤ (a.rng s).1) && (decide ((a.rng s).2 ≤ kmax k) && decide (y ≤ kmax k))) then
        match maskOf y with
        | some j => some (.int k (mkRem a (.lit (2 ^ j))))
        | none => some (.int k (.bit o k a (.lit y)))
      else some (.int k (.bit o k a (.lit y)))
    | a, b => some (.int k (.bit o k a b))
theorem bitsS_run {P : Program} {w : World} {n : Env} {s : Bnd} (hs : BndOk n.r s) {op : BinOp} {k : IntKind} {a b : E} {v : K} (h : bitsS s op k a b = some v) : (Op.intBits op k (a.den n.r) (b.den n.r)).run P w = .ok (v.den n) w := by
  unfold bitsS at h
  split at h
  · cases h
  · rename_i o ho
    rw [bitO_run ho]
    split at h
    · cases h; rfl
    · rename_i y hl
      split at h
      · rename_i hc
        simp only [Bool.and_eq_true, decide_eq_true_eq] at hc
        obtain ⟨c1, c2, c3, c4⟩ := hc
        have ha := E.rng_ok hs a
        split at h
        · rename_i j hj
          cases h
          have e0 : o = 0 := Nat.eq_of_beq_eq_true c1
          subst e0
          have := and_mask (k := k) (x := a.den n.r) (by omega) (by omega) hj c4
          simp only [K.den, mkRem_den, E.den, this]
        · cases h; rfl
      · cases h; rfl
    · cases h; rfl
def intBin (s : Bnd) (op : BinOp) (k : IntKind) (a b : E) : Option K :=
  match op with
  | .add => some (.int k (mkWrap s k (mkAdd a b)))
  | .sub => some (.int k (mkWrap s k (mkSub a b)))
  | .mul => some (.int k (mkWrap s k (mkMul a b)))
  | .quo => if 1 ≤ (b.rng s).1 || (b.rng s).2 ≤ -1 then some (.int k (mkWrap s k (mkQuo a b))) else none
  | .rem => if 1 ≤ (b.rng s).1 || (b.rng s).2 ≤ -1 then some (.int k (mkRem a b)) else none
  | .eql => some (.bool (mkEq s a b))
  | .neq => some (.bool (mkNot (mkEq s a b)))
  | .lss => some (.bool (mkLt s a b))
  | .leq => some (.bool (mkLe s a b))
  | .gtr => some (.bool (mkLt s b a))
  | .geq => some (.bool (mkLe s b a))
  | .shl => none
  | .shr => none
  | op => bitsS s op k a b
theorem intBin_run {P : Program} {w : World} {n : Env} {s : Bnd} (h : BndOk n.r s) {op : BinOp} {k : IntKind} {a b : E} {v : K} (hv : intBin s op k a b = some v) (t : TypeId) (x y : Operand) :
    (do eqGuard op t x y (.int k (a.den n.r)) (.int k (b.den n.r)); binOp op t (.int k (a.den n.r)) (.int k (b.den n.r))).run P w = .ok (v.den n) w := by
  have hb := E.rng_ok h b
  have he : (eqGuard op t x y (.int k (a.den n.r)) (.int k (b.den n.r))).run P w = .ok () w := by
    unfold eqGuard; cases op <;> rfl
  rw [Sem.run_bind, he, Result.andThen_ok]
  by_cases hbit : op = .and ∨ op = .or ∨ op = .xor ∨ op = .andNot
  · have hv' : bitsS s op k a b = some v := by rcases hbit with e | e | e | e <;> subst e <;> exact hv
    have := bitsS_run (P := P) (w := w) (n := n) h hv'
    rcases hbit with e | e | e | e <;> subst e <;> simpa [binOp] using this
  cases op <;> simp only [intBin] at hv <;> (try cases hv) <;> (first | exact absurd (Or.inl rfl) hbit | exact absurd (Or.inr (Or.inl rfl)) hbit | exact absurd (Or.inr (Or.inr (Or.inl rfl))) hbit | exact absurd (Or.inr (Or.inr (Or.inr rfl))) hbit | skip) <;> try (simp only [binOp, Op.intArith, Op.intDiv, Op.intCmp, K.den, ne_eq, not_true_eq_false, if_false, mkWrap_den h, mkAdd_den, mkSub_den, mkMul_den, mkQuo_den, mkRem_den, mkEq_den h, mkNot_den, mkLt_den h, mkLe_den h]; first | rfl | (simp; done) | skip)
  · split at hv
    · rename_i hc
      cases hv
      simp only [Bool.or_eq_true, decide_eq_true_eq] at hc
      have : b.den n.r ≠ 0 := by omega
      simp only [binOp, Op.intDiv, K.den, ne_eq, not_true_eq_false, if_false, mkWrap_den h, mkQuo_den, this, Sem.run_pure]
    · cases hv
  · split at hv
    · rename_i hc
      cases hv
      simp only [Bool.or_eq_true, decide_eq_true_eq] at hc
      have : b.den n.r ≠ 0 := by omega
      simp only [binOp, Op.intDiv, K.den, ne_eq, not_true_eq_false, if_false, mkRem_den, this, Sem.run_pure]
    · cases hv
/-- Shifts. -/
def shiftS (s : Bnd) (op : BinOp) (k : IntKind) (a b : E) : Option K :=
  match b with
  | .lit y => if y < 0 then none else
    let m : Int := 2 ^ (min y.toNat k.bits)
    match op with
    | .shl => some (.int k (mkWrap s k (mkMul a (.lit m))))
    | .shr => if 0 ≤ (a.rng s).1 then some (.int k (mkQuo a (.lit m))) else match a with
      | .lit x => some (.int k (.lit (x.fdiv m)))
      | a => some (.int k (.quo (.sub a (.rem (.add (.rem a (.lit m)) (.lit m)) (.lit m))) (.lit m)))
    | _ => none
  | b => if (b.rng s).1 < 0 then none else
    match op with
    | .shl => some (.int k (mkWrap s k (mkMul a (.p2 k b))))
    | .shr => if 0 ≤ (a.rng s).1 then some (.int k (mkQuo a (.p2 k b))) else none
    | _ => none
theorem fdiv_terms (x : Int) {m : Int} (h : 0 < m) : x.fdiv m = (x - (x.tmod m + m).tmod m).tdiv m := by
  have h1 := Int.lt_tmod_of_pos x h
  have h2 := Int.tmod_add_mul_tdiv x m
  have h3 : (x.tmod m + m).tmod m = x % m := by
    rw [Int.tmod_eq_emod_of_nonneg (by omega), Int.add_emod_right]
    conv => rhs; rw [← h2]
    rw [Int.add_mul_emod_self_left]
  have h4 := Int.emod_add_mul_ediv x m
  rw [h3, show x - x % m = m * (x / m) by omega, Int.mul_tdiv_cancel_left _ (by omega), Int.fdiv_eq_ediv_of_nonneg _ (by omega)]
theorem shiftS_run {P : Program} {w : World} {n : Env} {s : Bnd} (h : BndOk n.r s) {op : BinOp} {k yk : IntKind} {a b : E} {v : K} (hv : shiftS s op k a b = some v) (t : TypeId) (x y : Operand) :
    (do eqGuard op t x y (.int k (a.den n.r)) (.int yk (b.den n.r)); binOp op t (.int k (a.den n.r)) (.int yk (b.den n.r))).run P w = .ok (v.den n) w := by
  have he : (eqGuard op t x y (.int k (a.den n.r)) (.int yk (b.den n.r))).run P w = .ok () w := by
    unfold eqGuard; cases op <;> rfl
  rw [Sem.run_bind, he, Result.andThen_ok]
  unfold shiftS at hv
  split at hv
  · rename_i z
    split at hv
    · cases hv
    · rename_i hz
      simp only at hv
      split at hv
      · cases hv
        simp only [binOp, Op.shift, E.den, hz, if_false, Sem.run_pure, K.den, mkWrap_den h, mkMul_den]
      · split at hv
        · rename_i hr
          cases hv
          have := E.rng_ok h a
          have h2 : (0 : Int) ≤ a.den n.r := by omega
          simp only [binOp, Op.shift, E.den, hz, if_false, Sem.run_pure, K.den, mkQuo_den]
          rw [Int.fdiv_eq_tdiv_of_nonneg h2 (Int.le_of_lt (Int.pow_pos (by decide)))]
        · split at hv
          · cases hv
            simp only [binOp, Op.shift, E.den, hz, if_false, Sem.run_pure, K.den]
          · cases hv
            simp only [binOp, Op.shift, E.den, hz, if_false, Sem.run_pure, K.den]
            rw [fdiv_terms _ (Int.pow_pos (by decide))]
      · cases hv
  · split at hv
    · cases hv
    · rename_i hz
      have hb := E.rng_ok h b
      have hz : ¬ b.den n.r < 0 := by omega
      split at hv
      · cases hv
        simp only [binOp, Op.shift, E.den, hz, if_false, Sem.run_pure, K.den, mkWrap_den h, mkMul_den]
      · split at hv
        · rename_i hr
          cases hv
          have := E.rng_ok h a
          have h2 : (0 : Int) ≤ a.den n.r := by omega
          simp only [binOp, Op.shift, E.den, hz, if_false, Sem.run_pure, K.den, mkQuo_den]
          rw [Int.fdiv_eq_tdiv_of_nonneg h2 (Int.le_of_lt (Int.pow_pos (by decide)))]
        · cases hv
      · cases hv
end Go.Dx

/- A symbolic executor: parts, equality, aggregates. -/
namespace Go.Dx
open Go.RowKit
set_option linter.unusedVariables false
set_option linter.unusedSimpArgs false
def partS (tb : Tb) (t : TypeId) (cs : List CV) (off : Nat) : Option PV :=
  match tb.und t, tb.size t with
  | some d, some i => if isAggD d then some (.agg ((cs.drop off).take i)) else (cs[off]?).map .c
  | _, _ => none
theorem partS_run {P : Program} {tb : Tb} [TbOk P tb] {w : World} {n : Env} {t : TypeId} {cs : List CV} {off : Nat} {v : PV} (h : partS tb t cs off = some v) :
    (part t (cs.map (CV.den n)).toArray off).run P w = .ok (v.den n) w := by
  unfold partS at h
  split at h
  · rename_i d i hd hi
    simp only [part, Sem.run_bind, run_isAgg hd, Result.andThen_ok]
    split at h
    · rename_i ha
      cases h
      simp only [ha, if_true, Sem.run_bind, run_size hi, Result.andThen_ok, Sem.run_pure, PV.den]
      congr 2
      rw [List.extract_toArray, List.extract_eq_take_drop, List.map_take, List.map_drop]
      simp
    · rename_i ha
      simp only [ha, Bool.false_eq_true, if_false]
      cases hc : cs[off]? with
      | none => rw [hc] at h; cases h
      | some x =>
        rw [hc] at h; cases h
        simp [hc, PV.den]
  · cases h
theorem byq_beq (a b : ByteArray) : (a == b) = byq a b := by
  rw [Bool.eq_iff_iff, byq_iff]
  cases a with
  | mk a =>
    cases b with
    | mk b =>
      rw [ByteArray.mk.injEq, ← beq_iff_eq (a := a) (b := b)]
      exact Iff.rfl
theorem byq_toList (a b : ByteArray) : (a.toList == b.toList) = byq a b := by
  rw [Bool.eq_iff_iff, byq_iff, beq_iff_eq, ByteArray.toList_eq, ByteArray.toList_eq]
  constructor
  · intro h; cases a; cases b; simp only [ByteArray.mk.injEq]; exact Array.toList_inj.1 h
  · intro h; rw [h]
def strBin (s : Bnd) (op : BinOp) (a b : E) : Option B := match op with
  | .eql => some (mkSeq s a b)
  | .neq => some (mkNot (mkSeq s a b))
  | .lss => some (mkSlt s a b)
  | .gtr => some (mkNot (mkOr (mkSlt s a b) (mkSeq s a b)))
  | .leq => some (mkOr (mkSlt s a b) (mkSeq s a b))
  | .geq => some (mkNot (mkSlt s a b))
  | _ => none
theorem strBin_run {P : Program} {w : World} {n : Env} {s : Bnd} (h : BndOk n.r s) {op : BinOp} {a b : E} {v : B} (hv : strBin s op a b = some v) (t : TypeId) :
    (binOp op t (.string (a.dat n.r).str) (.string (b.dat n.r).str)).run P w = .ok (.bool (v.den n.r)) w := by
  cases op <;> first | (unfold strBin at hv; cases hv; done) | (unfold strBin at hv; simp only [Option.some.injEq] at hv)
  all_goals
    subst hv
    simp only [binOp, Op.stringOp, byq_toList, mkNot_den, mkOr_den, mkSeq_den h, mkSlt_den h]
    rfl
def eqFS (tb : Tb) (eq : TypeId → PV → PV → Option B) : List CV → List CV → List FD → Option B
  | _, _, [] => some (.lit true)
  | xs, ys, f :: fs =>
    if f.blank then eqFS tb eq xs ys fs
    else
      match partS tb f.type xs f.offset, partS tb f.type ys f.offset with
      | some a, some b =>
        match eq f.type a b, eqFS tb eq xs ys fs with
        | some p, some q => some (mkAnd p q)
        | _, _ => none
      | _, _ => none
/-- Elements of arrays, one after the other. -/
def eqAS (tb : Tb) (eq : PV → PV → Option B) (e z : Nat) (xs ys : List CV) : Nat → Nat → Option B
  | _, 0 => some (.lit true)
  | i, k + 1 =>
    match partS tb e xs (i * z), partS tb e ys (i * z) with
    | some a, some b =>
      match eq a b, eqAS tb eq e z xs ys (i + 1) k with
      | some p, some q => some (mkAnd p q)
      | _, _ => none
    | _, _ => none
def eqS (tb : Tb) (s : Bnd) : Nat → TypeId → PV → PV → Option B
  | 0, _, _, _ => none
  | d + 1, t, x, y =>
    match tb.und t, x, y with
    | some (.int _), .c (.k (.int k a)), .c (.k (.int k' b)) => if Nat.beq (kq k) (kq k') then some (mkEq s a b) else none
    | some .bool, .c (.k (.bool a)), .c (.k (.bool b)) => some (xnor a b)
    | some .string, .c (.k (.str a)), .c (.k (.str b)) => some (mkSeq s a b)
    | some (.ptr _), .c (.k .nilp), .c (.k .nilp) => some (.lit true)
    | some (.ptr _), .c (.k (.addr _ _)), .c (.k .nilp) => some (.lit false)
    | some (.ptr _), .c (.k .nilp), .c (.k (.addr _ _)) => some (.lit false)
    | some (.slice _), .c (.k .nils), .c (.k .nils) => some (.lit true)
    | some (.slice _), .c (.k (.sl _ _ _ _)), .c (.k .nils) => some (.lit false)
    | some (.str fs), .agg xs, .agg ys => if tb.eq t then eqFS tb (eqS tb s d) xs ys fs else none
    | some (.array l e), .agg xs, .agg ys => match tb.size e with
      | some z => eqAS tb (eqS tb s d e) e z xs ys 0 l
      | none => none
    | _, _, _ => none
theorem eqFS_run {P : Program} {tb : Tb} [TbOk P tb] {n : Env} {s : Bnd} (d m : Nat)
    (ih : ∀ (w : World) (t : TypeId) (x y : PV) (b : B), eqS tb s d t x y = some b → (Op.equalIn (d + m) t (x.den n) (y.den n)).run P w = .ok (b.den n.r) w) (xs ys : List CV) :
    ∀ (fs : List Field) (w : World) (b : B), eqFS tb (eqS tb s d) xs ys (fs.map fun f => (⟨f.name == "_", f.type, f.offset⟩ : FD)) = some b → (Op.eqFields (d + m) (xs.map (CV.den n)).toArray (ys.map (CV.den n)).toArray fs).run P w = .ok (b.den n.r) w
  | [], w, b, h => by
    simp only [List.map_nil, eqFS] at h; cases h; rfl
  | f :: fs, w, b, h => by
    simp only [List.map_cons, eqFS, beq_iff_eq] at h
    simp only [Op.eqFields]
    split at h
    · rename_i hn
      rw [if_neg (by simpa using hn)]
      exact eqFS_run d m ih xs ys fs w b h
    · rename_i hn
      split at h
      · rename_i a c ha hc
        split at h
        · rename_i p q hp hq
          cases h
          have h1 := partS_run (P := P) (w := w) (n := n) ha
          have h2 := partS_run (P := P) (w := w) (n := n) hc
          have h3 := ih w f.type a c p hp
          have h4 := eqFS_run d m ih xs ys fs w q hq
          rw [if_pos (by simpa using hn)]
          simp only [Sem.run_bind, h1, h2, h3, Result.andThen_ok, mkAnd_den]
          cases hd : p.den n.r <;> simp [h4]
        · cases h
      · cases h
theorem eqAS_run {P : Program} {tb : Tb} [TbOk P tb] {n : Env} {s : Bnd} (d m e z : Nat)
    (ih : ∀ (w : World) (x y : PV) (b : B), eqS tb s d e x y = some b → (Op.equalIn (d + m) e (x.den n) (y.den n)).run P w = .ok (b.den n.r) w) (xs ys : List CV) (w : World) :
    ∀ (k i : Nat) (b : B), eqAS tb (eqS tb s d e) e z xs ys i k = some b →
      (do
        for j in List.range' i k do
          if !(← Op.equalIn (d + m) e (← part e (xs.map (CV.den n)).toArray (j * z)) (← part e (ys.map (CV.den n)).toArray (j * z))) then return false
        pure true : Sem Bool).run P w = .ok (b.den n.r) w
  | 0, i, b, h => by
    simp only [eqAS] at h; cases h
    rfl
  | k + 1, i, b, h => by
    simp only [eqAS] at h
    split at h
    · rename_i a c ha hc
      split at h
      · rename_i p q hp hq
        cases h
        have h1 := partS_run (P := P) (w := w) (n := n) ha
        have h2 := partS_run (P := P) (w := w) (n := n) hc
        have h3 := ih w a c p hp
        have h4 := eqAS_run d m e z ih xs ys w k (i + 1) q hq
        rw [List.range'_succ]
        simp only [List.forIn_cons, Sem.run_bind, h1, h2, h3, Result.andThen_ok, mkAnd_den]
        cases hd : p.den n.r
        · simp
        · simp only [Bool.not_true, Bool.false_eq_true, if_false, Sem.run_pure, Result.andThen_ok, Bool.true_and]
          simp only [Sem.run_bind] at h4
          exact h4
      · cases h
    · cases h
theorem eqS_run {P : Program} {tb : Tb} [TbOk P tb] {n : Env} {s : Bnd} (hs : BndOk n.r s) (m : Nat) : ∀ (d : Nat) (w : World) (t : TypeId) (x y : PV) (b : B), eqS tb s d t x y = some b →
    (Op.equalIn (d + m) t (x.den n) (y.den n)).run P w = .ok (b.den n.r) w
  | 0, w, t, x, y, b, h => by simp only [eqS] at h; cases h
  | d + 1, w, t, x, y, b, h => by
    have hd : d + 1 + m = (d + m) + 1 := by omega
    rw [hd]
    simp only [eqS] at h
    split at h
    · rename_i k' k a k2 b' hu
      split at h
      · rename_i hk; cases h
        obtain rfl := kq_ok hk
        simp [PV.den, CV.den, K.den, Op.equalIn, run_int hu, mkEq_den hs]
        rfl
      · cases h
    · rename_i hu; cases h; simp [PV.den, CV.den, K.den, Op.equalIn, run_bool hu, xnor_den]
    · rename_i a b hu; cases h
      simp [PV.den, CV.den, K.den, Op.equalIn, run_string hu, mkSeq_den hs, byq_beq]
    · rename_i hu; cases h; simp [PV.den, CV.den, K.den, Op.equalIn, run_ptr hu, B.den]
    · rename_i hu; cases h; simp [PV.den, CV.den, K.den, Op.equalIn, run_ptr hu, B.den]
    · rename_i hu; cases h; simp [PV.den, CV.den, K.den, Op.equalIn, run_ptr hu, B.den]
    · rename_i hu; cases h; simp [PV.den, CV.den, K.den, Op.equalIn, run_slice hu, B.den]
    · rename_i hu; cases h; simp [PV.den, CV.den, K.den, Op.equalIn, run_slice hu, B.den]
    · rename_i fs xs ys hu
      split at h
      case isFalse => cases h
      · rename_i hp
        obtain ⟨fs', hu', hl⟩ := und_str (P := P) hu
        subst hl
        have hf : P.fieldsOf t = fs' := by simp [Program.fieldsOf, hu']
        show (Op.equalIn (d + m + 1) t (.agg _) (.agg _)).run P w = _
        rw [run_equalIn_struct w (d + m) t _ _ (by rw [hf]; exact hu') (eq_ok (P := P) hp).1, hf]
        exact eqFS_run d m (fun w t x y b h => eqS_run hs m d w t x y b h) xs ys fs'.toList w b h
    · rename_i l e xs ys hu
      split at h
      case h_2 => cases h
      rename_i z hz
      have h1 := eqAS_run (P := P) d m e z (fun w x y b h => eqS_run hs m d w e x y b h) xs ys w l 0 b h
      simp only [PV.den, Op.equalIn, Sem.run_bind, run_array hu, run_size hz, Result.andThen_ok]
      rw [Std.Legacy.Range.forIn_eq_forIn_range']
      simp only [Std.Legacy.Range.size, Nat.sub_zero, Nat.add_sub_cancel, Nat.div_one]
      simp only [Sem.run_bind] at h1
      exact h1
    · cases h
def binS (tb : Tb) (s : Bnd) (op : BinOp) (t : TypeId) (x y : PV) : Option PV :=
  match x, y with
  | .c (.k (.int k a)), .c (.k (.int k' b)) => (match op with
    | .shl => shiftS s op k a b
    | .shr => shiftS s op k a b
    | op => if Nat.beq (kq k) (kq k') then intBin s op k a b else none).map (fun v => .c (.k v))
  | .agg xs, .agg ys =>
    if tb.eq t then
      match op with
      | .eql => (eqS tb s 30 t (.agg xs) (.agg ys)).map fun b => .c (.k (.bool b))
      | .neq => (eqS tb s 30 t (.agg xs) (.agg ys)).map fun b => .c (.k (.bool (mkNot b)))
      | _ => none
    else none
  | .c (.k (.str a)), .c (.k (.str b)) => (strBin s op a b).map fun v => .c (.k (.bool v))
  | .c (.k (.bool a)), .c (.k (.bool b)) =>
    match op with
    | .eql => (eqS tb s 30 t x y).map fun b => .c (.k (.bool b))
    | .neq => (eqS tb s 30 t x y).map fun b => .c (.k (.bool (mkNot b)))
    | _ => none
  | _, _ => none
theorem binS_run {P : Program} {tb : Tb} [TbOk P tb] {w : World} {n : Env} {s : Bnd} (h : BndOk n.r s) {op : BinOp} {t : TypeId} {x y v : PV} (hv : binS tb s op t x y = some v) (ox oy : Operand) :
    (do eqGuard op t ox oy (x.den n) (y.den n); binOp op t (x.den n) (y.den n)).run P w = .ok (v.den n) w := by
  unfold binS at hv
  split at hv
  · rename_i k a k' b
    split at hv
    · cases hi : shiftS s .shl k a b with
      | none => rw [hi] at hv; cases hv
      | some u => rw [hi] at hv; cases hv; exact shiftS_run h hi t ox oy
    · cases hi : shiftS s .shr k a b with
      | none => rw [hi] at hv; cases hv
      | some u => rw [hi] at hv; cases hv; exact shiftS_run h hi t ox oy
    · split at hv
      · rename_i hk
        obtain rfl := kq_ok hk
        cases hi : intBin s op k a b with
        | none => rw [hi] at hv; cases hv
        | some u => rw [hi] at hv; cases hv; exact intBin_run h hi t ox oy
      · cases hv
  · rename_i xs ys
    split at hv
    case isFalse => cases hv
    · rename_i hg
      have hg' : P.eqGuardType P.depth t = false := (eq_ok (P := P) hg).2
      have e1 := run_eqGuard_agg (P := P) w op t ox oy (xs.map (CV.den n)).toArray (ys.map (CV.den n)).toArray hg'
      simp only [PV.den] at *
      rw [Sem.run_bind, e1, Result.andThen_ok]
      split at hv
      · cases hi : eqS tb s 30 t (.agg xs) (.agg ys) with
        | none => rw [hi] at hv; cases hv
        | some u =>
          rw [hi] at hv; cases hv
          have := eqS_run (P := P) h 9970 30 w t _ _ u hi
          simp only [PV.den] at this
          rw [run_eql_struct, this]; rfl
      · cases hi : eqS tb s 30 t (.agg xs) (.agg ys) with
        | none => rw [hi] at hv; cases hv
        | some u =>
          rw [hi] at hv; cases hv
          have := eqS_run (P := P) h 9970 30 w t _ _ u hi
          simp only [PV.den] at this
          rw [run_neq_struct, this]; simp [PV.den, CV.den, K.den, mkNot_den]
      · cases hv
  · rename_i a b
    have e1 : (eqGuard op t ox oy (PV.den n (.c (.k (.str a)))) (PV.den n (.c (.k (.str b))))).run P w = .ok () w := by
      unfold eqGuard; cases op <;> rfl
    rw [Sem.run_bind, e1, Result.andThen_ok]
    cases hi : strBin s op a b with
    | none => rw [hi] at hv; cases hv
    | some u => rw [hi] at hv; cases hv; exact strBin_run h hi t
  · rename_i a b
    have e1 : (eqGuard op t ox oy (PV.den n (.c (.k (.bool a)))) (PV.den n (.c (.k (.bool b))))).run P w = .ok () w := by
      unfold eqGuard; cases op <;> rfl
    rw [Sem.run_bind, e1, Result.andThen_ok]
    split at hv
    · cases hi : eqS tb s 30 t (.c (.k (.bool a))) (.c (.k (.bool b))) with
      | none => rw [hi] at hv; cases hv
      | some u =>
        rw [hi] at hv; cases hv
        have := eqS_run (P := P) h 9970 30 w t _ _ u hi
        simp only [PV.den, CV.den, K.den] at this
        simp only [PV.den, CV.den, K.den, binOp, Op.equal, Op.maxDepth, Sem.run_bind, this]; rfl
    · cases hi : eqS tb s 30 t (.c (.k (.bool a))) (.c (.k (.bool b))) with
      | none => rw [hi] at hv; cases hv
      | some u =>
        rw [hi] at hv; cases hv
        have := eqS_run (P := P) h 9970 30 w t _ _ u hi
        simp only [PV.den, CV.den, K.den] at this
        simp only [PV.den, CV.den, K.den, binOp, Op.equal, Op.maxDepth, Sem.run_bind, this, mkNot_den]; rfl
    · cases hv
  · cases hv
end Go.Dx

/- A symbolic executor: aggregates that are built, and what an operation yields. -/
namespace Go.Dx
open Go.RowKit
set_option linter.unusedVariables false
set_option linter.unusedSimpArgs false
/-- Cells laid over others. -/
def lay : List CV → Nat → List CV → List CV
  | cs, _, [] => cs
  | cs, off, v :: l => lay (cs.set off v) (off + 1) l
def fillS (place : Nat → Option (Nat × Nat)) (cells : List CV) : List (Nat × PV) → Option (List CV)
  | [] => some cells
  | (i, v) :: rest =>
    match place i with
    | none => none
    | some (off, size) =>
      if v.cells.length ≠ size || off + v.cells.length > cells.length then none
      else fillS place (lay cells off v.cells) rest
theorem lay_length : ∀ (l : List CV) (cs : List CV) (off : Nat), (lay cs off l).length = cs.length
  | [], cs, off => rfl
  | v :: l, cs, off => by simp [lay, lay_length l]
theorem lay_den (n : Env) : ∀ (l : List CV) (cs : List CV) (off i : Nat),
    (((l.map (CV.den n)).zipIdx i).foldl (fun (a : Array Value) (x : Value × Nat) => a.setIfInBounds (off + x.2) x.1) (cs.map (CV.den n)).toArray) = ((lay cs (off + i) l).map (CV.den n)).toArray
  | [], cs, off, i => rfl
  | v :: l, cs, off, i => by
    simp only [List.map_cons, List.zipIdx_cons, List.foldl_cons, lay]
    rw [List.setIfInBounds_toArray, ← List.map_set, lay_den n l _ off (i + 1)]
    rfl
theorem fillS_run {n : Env} (place : Nat → Option (Nat × Nat)) : ∀ (l : List (Nat × PV)) (cells : List CV) (v : List CV), fillS place cells l = some v →
    Instr.fill place (cells.map (CV.den n)).toArray (l.map fun (i, x) => (i, x.den n)) = some (v.map (CV.den n)).toArray
  | [], cells, v, h => by simp only [fillS] at h; cases h; rfl
  | (i, x) :: rest, cells, v, h => by
    simp only [fillS] at h
    simp only [List.map_cons, Instr.fill]
    cases hp : place i with
    | none => rw [hp] at h; cases h
    | some q =>
      obtain ⟨off, size⟩ := q
      rw [hp] at h
      simp only at h ⊢
      split at h
      · cases h
      · rename_i hc
        simp only [Bool.or_eq_true, decide_eq_true_eq, not_or, ne_eq, Decidable.not_not] at hc
        rw [PV.cells_den]
        rw [if_neg (by simp; omega)]
        have := fillS_run (n := n) place rest _ v h
        rw [← this]
        congr 1
        have := lay_den n x.cells cells off 0
        rw [Nat.add_zero] at this
        rw [← this]
        rw [← Array.foldl_toList]
        simp
def placesS (tb : Tb) : List FD → Option (List (Nat × Nat))
  | [] => some []
  | f :: fs => match tb.size f.type, placesS tb fs with
    | some i, some l => some ((f.offset, i) :: l)
    | _, _ => none
theorem placesS_run {P : Program} {tb : Tb} [TbOk P tb] {w : World} : ∀ (fs : List Field) (l : List (Nat × Nat)), placesS tb (fs.map fun f => (⟨f.name == "_", f.type, f.offset⟩ : FD)) = some l →
    (fs.mapM fun f => (do pure (f.offset, ← sizeOf f.type) : Sem (Nat × Nat))).run P w = .ok l w
  | [], l, h => by cases h; rfl
  | f :: fs, l, h => by
    simp only [List.map_cons, placesS] at h
    split at h
    · rename_i i r hi hr
      cases h
      simp only [List.mapM_cons, Sem.run_bind, run_size hi, Result.andThen_ok, Sem.run_pure, placesS_run fs r hr]
    · cases h
/-- Operands of parts. -/
def partsS (tmps : List SV) (asm : List B) : List (Nat × Operand) → Option (List (Nat × PV))
  | [] => some []
  | (i, x) :: l => match opP tmps asm x, partsS tmps asm l with
    | some v, some r => some ((i, v) :: r)
    | _, _ => none
theorem partsS_den {n : Env} {tmps : List SV} {asm : List B} {a : Act} (ht : a.tmps = (tmps.map (SV.den n)).toArray) (ha : Asm n.r asm) : ∀ (l : List (Nat × Operand)) (v : List (Nat × PV)),
    partsS tmps asm l = some v → (l.map fun (i, x) => (i, a.eval x)) = v.map fun (i, x) => (i, x.den n)
  | [], v, h => by cases h; rfl
  | (i, x) :: l, v, h => by
    simp only [partsS] at h
    split at h
    · rename_i u r hu hr
      cases h
      simp [opP_den ht ha hu, partsS_den ht ha l r hr]
    · cases h
def zeroS (tb : Tb) (t : TypeId) : Option PV := tb.zero t
theorem zeroS_run {P : Program} {tb : Tb} [TbOk P tb] {w : World} {n : Env} {t : TypeId} {v : PV} (h : zeroS tb t = some v) : (zeroValue t).run P w = .ok (v.den n) w := by
  obtain ⟨i, u, hi, hu, hv⟩ := zero_ok (P := P) h
  simp [zeroValue, typeInfo, hi, hu, ofPV_den n hv]
def buildS (tb : Tb) (t : TypeId) (l : List (Nat × PV)) : Option PV :=
  match zeroS tb t, tb.und t with
  | some z, some (.str fs) => match placesS tb fs with
    | some ps => (fillS (fun i => ps[i]?) z.cells l).map .agg
    | none => none
  | some z, some (.array _ e) => match tb.size e with
    | some i => (fillS (fun j => some (j * i, i)) z.cells l).map .agg
    | none => none
  | _, _ => none
theorem buildS_run {P : Program} {tb : Tb} [TbOk P tb] {w : World} {n : Env} {t : TypeId} {l : List (Nat × PV)} {v : PV} (h : buildS tb t l = some v) (ps : Array (Nat × Value)) (hp : ps.toList = l.map fun (i, x) => (i, x.den n)) :
    (Instr.build t ps).run P w = .ok (v.den n) w := by
  unfold buildS at h
  split at h
  · rename_i z fs hz hu
    split at h
    · rename_i pl hpl
      cases hf : fillS (fun i => pl[i]?) z.cells l with
      | none => rw [hf] at h; cases h
      | some cs =>
        rw [hf] at h; cases h
        have h1 := fillS_run (n := n) (fun i => pl[i]?) l z.cells cs hf
        obtain ⟨fs, hu', hl'⟩ := run_str (P := P) (w := w) hu
        subst hl'
        have h2 := placesS_run (P := P) (w := w) fs.toList pl hpl
        have h3 : (fs.mapM fun f => (do pure (f.offset, ← sizeOf f.type) : Sem (Nat × Nat))).run P w = .ok pl.toArray w := by
          rw [← Array.toArray_toList (xs := fs), List.mapM_toArray]
          simp only [Sem.run_map, h2, Result.andThen_ok]
        simp only [Instr.build, Sem.run_bind, zeroS_run (n := n) hz, hu', Result.andThen_ok, h3, hp, PV.cells_den]
        simp only [List.getElem?_toArray, h1, Sem.run_pure]
        rfl
    · cases h
  · rename_i z k e hz hu
    split at h
    · rename_i i hi
      cases hf : fillS (fun j => some (j * i, i)) z.cells l with
      | none => rw [hf] at h; cases h
      | some cs =>
        rw [hf] at h; cases h
        have h1 := fillS_run (n := n) (fun j => some (j * i, i)) l z.cells cs hf
        simp only [Instr.build, Sem.run_bind, zeroS_run (n := n) hz, run_array hu, run_size hi, Result.andThen_ok, hp, PV.cells_den, h1, Sem.run_pure]
        rfl
    · cases h
  · cases h
end Go.Dx

/- A symbolic executor: how data lies in memory. -/
namespace Go.Dx
open Go.RowKit
set_option linter.unusedVariables false
set_option linter.unusedSimpArgs false
theorem addr_plus (b o i : Nat) : Addr.add ⟨b, o, none⟩ i = ⟨b, o + i, none⟩ := by unfold Addr.add; split <;> simp_all
theorem rowV_len : ∀ {row : List Sh} {e : List DV}, HasShs row e → (rowV row e).length = row.length
  | [], [], _ => rfl
  | s :: l, x :: r, h => by simp only [HasShs] at h; simp [rowV, rowV_len h.2]
  | [], _ :: _, h => by simp [HasShs] at h
  | _ :: _, [], h => by simp [HasShs] at h
theorem rowV_get : ∀ {row : List Sh} {e : List DV} {j : Nat} {s : Sh} {x : DV}, row[j]? = some s → e[j]? = some x → (rowV row e)[j]? = some (cellV s x)
  | [], _, j, s, x, h, _ => by simp at h
  | _ :: _, [], j, s, x, _, h => by simp at h
  | t :: l, y :: r, j, s, x, h, k => by
    cases j with
    | zero => simp only [List.getElem?_cons_zero, Option.some.injEq] at h k; subst h k; rfl
    | succ j => simp only [List.getElem?_cons_succ] at h k; simp only [rowV, List.getElem?_cons_succ]; exact rowV_get h k
theorem flat_get {α β : Type} {f : α → List β} {z : Nat} : ∀ {l : List α}, (∀ e ∈ l, (f e).length = z) → ∀ {i j : Nat} {e : α}, l[i]? = some e → j < z → (l.flatMap f)[i * z + j]? = (f e)[j]?
  | [], _, i, j, e, h, _ => by simp at h
  | x :: l, hl, i, j, e, h, hj => by
    have hx := hl x (List.mem_cons_self ..)
    rw [List.flatMap_cons]
    cases i with
    | zero =>
      simp only [List.getElem?_cons_zero, Option.some.injEq] at h
      subst h
      rw [Nat.zero_mul, Nat.zero_add, List.getElem?_append_left (by omega)]
    | succ i =>
      simp only [List.getElem?_cons_succ] at h
      rw [Nat.succ_mul, List.getElem?_append_right (by omega), hx]
      rw [show i * z + z + j - z = i * z + j by omega]
      exact flat_get (fun e he => hl e (List.mem_cons_of_mem _ he)) h hj
theorem flatV_len {row : List Sh} : ∀ {els : List (List DV)}, (∀ e ∈ els, HasShs row e) → (flatV row els).length = els.length * row.length
  | [], _ => by simp [flatV]
  | e :: l, h => by
    have ih := flatV_len (els := l) fun e he => h e (List.mem_cons_of_mem _ he)
    unfold flatV at *
    rw [List.flatMap_cons, List.length_append, ih, rowV_len (h e (List.mem_cons_self ..)), List.length_cons, Nat.succ_mul]
    omega
theorem flatV_get {row : List Sh} {els : List (List DV)} (h : ∀ e ∈ els, HasShs row e) {i j : Nat} {s : Sh} (hi : i < els.length) (hj : row[j]? = some s) :
    ∃ x, (els.getD i [])[j]? = some x ∧ HasSh s x ∧ (flatV row els)[i * row.length + j]? = some (cellV s x) := by
  have he : els[i]? = some els[i] := List.getElem?_eq_getElem hi
  have hs := h _ (List.getElem_mem hi)
  obtain ⟨x, hx, hxs⟩ := hs.get hj
  have hlt : j < row.length := (List.getElem?_eq_some_iff.1 hj).1
  refine ⟨x, ?_, hxs, ?_⟩
  · rw [List.getD_eq_getElem?_getD, he]; exact hx
  · unfold flatV
    rw [flat_get (fun e he => rowV_len (h e he)) he hlt]
    exact rowV_get hj hx
theorem flatV_app (row : List Sh) (a b : List (List DV)) : flatV row (a ++ b) = flatV row a ++ flatV row b := by simp [flatV]
/-- One cell of a slice. -/
theorem LaidAt.get {w : World} {S : Nat → Prop} {v : Value} {row : List Sh} {els : List (List DV)} (h : LaidAt w S v row els) (hs : Shaped row els) {i j : Nat} {s : Sh} (hi : i < els.length) (hj : row[j]? = some s) :
    ∃ b o x, baseOf v = some (b, o) ∧ S b ∧ (els.getD i [])[j]? = some x ∧ HasSh s x ∧ w.cell? ⟨b, o + (i * row.length + j), none⟩ = some (cellV s x) := by
  obtain ⟨a, cap, rfl, hcap, hc⟩ := h
  have hne : els ≠ [] := by intro e; subst e; simp at hi
  obtain ⟨b, o, rfl, hS, hcell⟩ := hc hne
  obtain ⟨x, h1, h2, h3⟩ := flatV_get hs.2 hi hj
  exact ⟨b, o, x, rfl, hS, h1, h2, hcell _ _ h3⟩
theorem LaidAt.keep {w w' : World} {S S' : Nat → Prop} {v : Value} {row : List Sh} {els : List (List DV)} (h : LaidAt w S v row els) (hs : Shaped row els) (hk : ∀ b, S b → b < w.heap.size → w'.heap[b]? = w.heap[b]? ∧ S' b) : LaidAt w' S' v row els := by
  have h0 := h
  obtain ⟨a, cap, rfl, hcap, hc⟩ := h
  refine ⟨a, cap, rfl, hcap, fun hne => ?_⟩
  obtain ⟨b, o, rfl, hS, hcell⟩ := hc hne
  have hpos : 0 < els.length := List.length_pos_iff.2 hne
  have hz : 0 < row.length := List.length_pos_iff.2 hs.1
  obtain ⟨b', o', x, e1, _, _, _, e2⟩ := h0.get hs hpos (j := 0) (List.getElem?_eq_getElem hz)
  simp only [baseOf, Option.some.injEq, Prod.mk.injEq] at e1
  obtain ⟨rfl, rfl⟩ := e1
  have hlt := World.block_lt_of_cell? w _ e2
  obtain ⟨k1, k2⟩ := hk b hS hlt
  refine ⟨b, o, rfl, k2, fun j y hj => ?_⟩
  rw [← hcell j y hj]
  exact World.cell?_of_block (w := w) (w' := w') k1
theorem DV.els_shape {mx : Nat} {row : List Sh} {d : DV} (h : HasSh (.sl mx row) d) (hr : row ≠ []) : Shaped row d.els := by
  simp only [HasSh] at h
  exact ⟨hr, h.2⟩
mutual
theorem Laid.keep {w w' : World} {S S' : Nat → Prop} (hk : ∀ b, S b → b < w.heap.size → w'.heap[b]? = w.heap[b]? ∧ S' b) : ∀ (s : Sh) (d : DV), s.fine = true → HasSh s d → Laid w S s d → Laid w' S' s d
  | .int _ _ _, d, _, _, _ => by simp only [Laid]
  | .bool, d, _, _, _ => by simp only [Laid]
  | .str _, d, _, _, _ => by simp only [Laid]
  | .sl mx row, d, hf, hs, h => by
    simp only [Laid] at h ⊢
    simp only [Sh.fine, Bool.and_eq_true, Bool.not_eq_true', List.isEmpty_eq_false_iff] at hf
    have hsh := DV.els_shape hs hf.1.1
    exact ⟨h.1.keep hsh hk, fun e he => LaidL.keep hk row e hf.1.2 (hsh.2 e he) (h.2 e he)⟩
theorem LaidL.keep {w w' : World} {S S' : Nat → Prop} (hk : ∀ b, S b → b < w.heap.size → w'.heap[b]? = w.heap[b]? ∧ S' b) : ∀ (l : List Sh) (r : List DV), Sh.fines l = true → HasShs l r → LaidL w S l r → LaidL w' S' l r
  | [], r, _, _, _ => by simp only [LaidL]
  | s :: l, [], _, h, _ => by simp [HasShs] at h
  | s :: l, x :: r, hf, hs, h => by
    simp only [LaidL] at h ⊢
    simp only [HasShs] at hs
    simp only [Sh.fines, Bool.and_eq_true] at hf
    exact ⟨Laid.keep hk s x hf.1 hs.1 h.1, LaidL.keep hk l r hf.2 hs.2 h.2⟩
end
theorem Nest.keep {w w' : World} {S S' : Nat → Prop} {row : List Sh} {els : List (List DV)} (h : Nest w S row els) (hf : Sh.fines row = true) (hs : ∀ e ∈ els, HasShs row e) (hk : ∀ b, S b → b < w.heap.size → w'.heap[b]? = w.heap[b]? ∧ S' b) : Nest w' S' row els :=
  fun e he => LaidL.keep hk row e hf (hs e he) (h e he)
theorem LaidL.get {w : World} {S : Nat → Prop} : ∀ {l : List Sh} {r : List DV}, LaidL w S l r → ∀ {j : Nat} {s : Sh} {x : DV}, l[j]? = some s → r[j]? = some x → Laid w S s x
  | [], r, _, j, s, x, h, _ => by simp at h
  | _ :: _, [], _, j, s, x, _, h => by simp at h
  | t :: l, y :: r, hl, j, s, x, h, k => by
    simp only [LaidL] at hl
    cases j with
    | zero => simp only [List.getElem?_cons_zero, Option.some.injEq] at h k; subst h k; exact hl.1
    | succ j => simp only [List.getElem?_cons_succ] at h k; exact LaidL.get hl.2 h k
theorem own_laid {w : World} {N : Nat} {ety : TypeId} {v : Value} {row : List Sh} {els : List (List DV)} (h : w.ownsRow N ety row.length v els.length (flatV row els)) : LaidAt w (fun g => v.ownBlock = some g) v row els := by
  rcases h.2 with ⟨rfl, h2⟩ | ⟨g, cap, cur, rfl, _, _, hnc, _⟩
  · refine ⟨none, 0, by rw [h2], by omega, fun hne => absurd (List.eq_nil_of_length_eq_zero h2) hne⟩
  · refine ⟨some ⟨g, 0, none⟩, cap, rfl, hnc, fun _ => ⟨g, 0, rfl, rfl, fun j x hj => ?_⟩⟩
    have := h.cells (g := g) rfl j x hj
    rwa [addr_plus] at this
/-- What the parts of a row mean. -/
def unnum : E → E
  | .num a => a
  | e => e
theorem unnum_den (r : List DV) (e : E) : (unnum e).den r = e.den r := by cases e <;> rfl
def cvOf (s : Bnd) : Sh → E → CV
  | .int k _ _, c => .k (.int k (unnum c))
  | .bool, c => .k (.bool (mkNot (mkEq s (unnum c) (.lit 0))))
  | .str _, c => .k (.str c)
  | .sl _ _, c => .k (.nest c)
theorem int_of {k : IntKind} {a b : Int} {d : DV} (h : HasSh (.int k a b) d) : d.cint = d.int := by
  simp only [HasSh] at h
  obtain ⟨x, rfl, _, h1, h2⟩ := h
  have := kin h1 h2
  exact clampB_eq this.1 this.2
theorem bool_of {d : DV} (h : HasSh .bool d) : d.cint = d.int := by
  simp only [HasSh] at h
  obtain ⟨x, rfl, h1, h2⟩ := h
  exact clampB_eq (x := x) (by omega) (by omega)
/-- An expression whose value as data has a shape. -/
theorem cvOf_den {n : Env} {s : Bnd} (hs : BndOk n.r s) {sh : Sh} {c : E} (h : HasSh sh (c.val n.r)) (hd : (∃ m r, sh = .sl m r) ∨ (∃ m, sh = .str m) → c.isD = true) : (cvOf s sh c).den n = cellV sh (c.val n.r) := by
  have num : (∃ k a b, sh = .int k a b) ∨ sh = .bool → (c.val n.r).int = c.den n.r := fun hk => by
    have hno : ∀ d : DV, HasSh sh d → ∃ x, d = .n x := fun d hd => by
      rcases hk with ⟨k, a, b, rfl⟩ | rfl
      · simp only [HasSh] at hd; obtain ⟨x, hx, _⟩ := hd; exact ⟨x, hx⟩
      · simp only [HasSh] at hd; obtain ⟨x, hx, _⟩ := hd; exact ⟨x, hx⟩
    cases c with
    | var i => simp only [E.val, E.isD, E.dat, E.den]
    | el a i j =>
      have e : (E.val n.r (.el a i j)).cint = (E.val n.r (.el a i j)).int := by
        rcases hk with ⟨k, a, b, rfl⟩ | rfl
        · exact int_of h
        · exact bool_of h
      rw [← e]
      simp only [E.val, E.isD, E.dat, E.den, DV.at]
    | str b => obtain ⟨x, hx⟩ := hno _ h; simp [E.val, E.isD, E.dat] at hx
    | emp => obtain ⟨x, hx⟩ := hno _ h; simp [E.val, E.isD, E.dat] at hx
    | _ => rfl
  cases sh with
  | int k a b => simp only [cvOf, CV.den, K.den, cellV, unnum_den, num (.inl ⟨_, _, _, rfl⟩)]
  | bool =>
    have e := num (.inr rfl)
    simp only [cvOf, CV.den, K.den, cellV, mkNot_den, mkEq_den hs, unnum_den, e]
    simp only [E.den]
    congr
  | str m =>
    have := hd (.inr ⟨m, rfl⟩)
    simp only [cvOf, CV.den, K.den, cellV, E.val, this]
  | sl m r =>
    have := hd (.inl ⟨m, r, rfl⟩)
    simp only [cvOf, CV.den, K.den, cellV, E.val, this, Src.val]
end Go.Dx
