/- DERIVED. What functions of gate programs keep. -/
import Derived.Test.YtkophklnleodcaaDtb
namespace Go.Proofs.Ytkophklnleodcaa
open Go.Dx
set_option linter.unusedVariables false
abbrev i64s : Sh := .int .i64 (-9223372036854775808) 9223372036854775807
abbrev conds : Sh := .sl 9223372036854775807 [i64s, i64s, i64s]
abbrev lines : Sh := .sl 9223372036854775807 [conds, i64s]
abbrev iR : RC := ⟨i64s, none⟩
abbrev bR : RC := ⟨.bool, none⟩
abbrev big : VD := .i 0 9223372036854775807
abbrev five : List Sh := [i64s, i64s, i64s, i64s, i64s]
abbrev plantS : List Sh := [i64s, i64s, i64s, i64s, i64s, i64s, i64s, i64s, i64s, i64s, i64s, i64s]
abbrev stateS : List Sh := [i64s, i64s, i64s, i64s, i64s, i64s]
abbrev shockS : List Sh := [i64s, i64s]
/-- Right programs. -/
def okN (x : Int) : Prop := 0 ≤ x ∧ x ≤ 1099511627776
def condOk (c : DV) (k : Int) : Prop := ((0 ≤ c.at k 0 ∧ c.at k 0 ≤ 4) ∧ 1 ≤ c.at k 1 ∧ c.at k 1 ≤ 5) ∧ okN (c.at k 2)
def condsOk (c : DV) (n : Nat) : Prop := ∀ k : Nat, k < n → condOk c k
def lineOk (d : DV) (k : Int) : Prop := ((d.cell k 0).len ≤ 4 ∧ okN (d.at k 1)) ∧ condsOk (d.cell k 0) (d.cell k 0).len.toNat
def linesOk (d : DV) (n : Nat) : Prop := ∀ k : Nat, k < n → lineOk d k
def codeOk (d : DV) : Prop := d.len ≤ 64 ∧ linesOk d d.len.toNat
instance decN (x : Int) : Decidable (okN x) := by unfold okN; infer_instance
instance decC (c : DV) (k : Int) : Decidable (condOk c k) := by unfold condOk; infer_instance
instance decCs (c : DV) (n : Nat) : Decidable (condsOk c n) := by unfold condsOk; infer_instance
instance decL (d : DV) (k : Int) : Decidable (lineOk d k) := by unfold lineOk; infer_instance
instance decLs (d : DV) (n : Nat) : Decidable (linesOk d n) := by unfold linesOk; infer_instance
instance decCo (d : DV) : Decidable (codeOk d) := by unfold codeOk; infer_instance
def ChkF (d : DV) : List DV := if codeOk d then [.n 0] else [.n 310]
/-- What a program answers. -/
def holds (o x n : Int) : Prop := (o = 1 ∧ x < n) ∨ (o = 2 ∧ x ≤ n) ∨ (o = 3 ∧ x = n) ∨ (o = 4 ∧ n ≤ x) ∨ (¬ (1 ≤ o ∧ o ≤ 4) ∧ n < x)
def vr (v : List Int) (k : Int) : Int := v.getD k.toNat 0
def condHolds (c : DV) (v : List Int) (k : Int) : Prop := holds (c.at k 1) (vr v (c.at k 0)) (c.at k 2)
def condsHold (c : DV) (v : List Int) (n : Nat) : Prop := ∀ k : Nat, k < n → condHolds c v k
def lineHolds (d : DV) (v : List Int) (k : Int) : Prop := condsHold (d.cell k 0) v (d.cell k 0).len.toNat
instance decH (o x n : Int) : Decidable (holds o x n) := by unfold holds; infer_instance
instance decCH (c : DV) (v : List Int) (k : Int) : Decidable (condHolds c v k) := by unfold condHolds; infer_instance
instance decCsH (c : DV) (v : List Int) (n : Nat) : Decidable (condsHold c v n) := by unfold condsHold; infer_instance
instance decLH (d : DV) (v : List Int) (k : Int) : Decidable (lineHolds d v k) := by unfold lineHolds; infer_instance
/-- The first line from the k-th on that holds. -/
def firstL (d : DV) (v : List Int) : Nat → Nat → Option Nat
  | 0, _ => none
  | n + 1, k => if lineHolds d v k then some k else firstL d v n (k + 1)
def runF (d : DV) (v : List Int) : List DV := match firstL d v d.len.toNat 0 with
  | some k => [.n (d.at k 1), .n 1, .n 0]
  | none => [.n 0, .n 0, .n 0]
def RunF (d : DV) (v : List Int) : List DV := if codeOk d then runF d v else [.n 0, .n 0, .n 310]
abbrev runRes : List RSh := [.one ⟨.int .i64 0 1099511627776, none⟩, .one bR, .one iR]
def ints : List DV → List Int := List.map DV.int
def cChk : Con := { f := 33, args := [.agg [lines]], res := [.one iR], pre := fun _ => True, post := fun | [d], y => y = ChkF d | _, _ => False }
def cChkR : Con := { f := 24, args := [.agg [lines]], res := [.one iR], pre := fun _ => True, post := fun | [d], y => y = ChkF d | _, _ => False }
def cRun : Con := { f := 42, args := [.agg [lines], .agg five], res := runRes, pre := fun _ => True, post := fun | d :: v, y => y = RunF d (ints v) | _, _ => False }
def cRunR : Con := { f := 43, args := [.agg [lines], .agg five], res := runRes, pre := fun _ => True, post := fun | d :: v, y => y = RunF d (ints v) | _, _ => False }
def cFew : Con := { f := 19, args := [.agg [lines]], res := [.one bR], pre := fun _ => True }
def lFew : Con :=
  { lp := some ⟨4, 23, [(.tmp 3, .int)]⟩, mea := fun | [d, i] => (d.len - i.int).toNat | _ => 0
    bnd := [big]
    pre := fun | [d, i] => i.int ≤ d.len | _ => False }
def lC0 : Con :=
  { lp := some ⟨4, 61, [(.tmp 14, .int)]⟩, mea := fun | [d, i] => (d.len - i.int).toNat | _ => 0
    bnd := [big]
    pre := fun | [d, i] => i.int ≤ d.len ∧ linesOk d i.int.toNat | _ => False }
def lC1 : Con :=
  { lp := some ⟨9, 61, [(.tmp 31, .int)]⟩, mea := fun | d :: i :: t => (match t.drop 61 with | [j] => ((d.cell i.int 0).len - j.int).toNat | _ => 0) | _ => 0
    bnd := [big]
    pre := fun | d :: i :: t => (match t.drop 61 with | [j] => j.int ≤ (d.cell i.int 0).len ∧ condsOk (d.cell i.int 0) j.int.toNat | _ => False) | _ => False }
def lD0 : Con :=
  { lp := some ⟨4, 69, [(.tmp 3, .int)]⟩, mea := fun | [d, i] => (d.len - i.int).toNat | _ => 0
    bnd := [big]
    pre := fun | [d, i] => i.int ≤ d.len ∧ linesOk d i.int.toNat | _ => False }
def lD1 : Con :=
  { lp := some ⟨10, 69, [(.tmp 5, .int)]⟩, mea := fun | d :: i :: t => (match t.drop 69 with | [j] => ((d.cell i.int 0).len - j.int).toNat | _ => 0) | _ => 0
    bnd := [big]
    pre := fun | d :: i :: t => (match t.drop 69 with | [j] => j.int ≤ (d.cell i.int 0).len ∧ condsOk (d.cell i.int 0) j.int.toNat | _ => False) | _ => False }
def cHolds : Con := { f := 45, args := [.agg [i64s, i64s, i64s], .c i64s], res := [.one bR], pre := fun _ => True, post := fun | [_, o, n, x], y => y = [.n (if holds o.int x.int n.int then 1 else 0)] | _, _ => False }
/-- No line so far. -/
def noneL (d : DV) (v : List Int) (n : Nat) : Prop := ∀ k : Nat, k < n → ¬ lineHolds d v k
def lR0 : Con :=
  { lp := some ⟨2, 42, [(.tmp 13, .int)]⟩, mea := fun | [d, _, _, _, _, _, _, i] => (d.len - i.int).toNat | _ => 0
    bnd := [big]
    pre := fun | [d, a, b, c, e, f, _, i] => i.int ≤ d.len ∧ noneL d (ints [a, b, c, e, f]) i.int.toNat | _ => False }
def lR1 : Con :=
  { lp := some ⟨5, 42, [(.tmp 20, .int)]⟩, mea := fun | d :: _ :: _ :: _ :: _ :: _ :: _ :: i :: t => (match t.drop 42 with | [j] => ((d.cell i.int 0).len - j.int).toNat | _ => 0) | _ => 0
    bnd := [big]
    pre := fun | d :: a :: b :: c :: e :: f :: _ :: i :: t => (match t.drop 42 with | [j] => j.int ≤ (d.cell i.int 0).len ∧ condsHold (d.cell i.int 0) (ints [a, b, c, e, f]) j.int.toNat | _ => False) | _ => False }
def lQ0 : Con :=
  { lp := some ⟨5, 60, [(.tmp 8, .int)]⟩, mea := fun | [d, _, _, _, _, _, _, i] => (d.len - i.int).toNat | _ => 0
    bnd := [big]
    pre := fun | [d, a, b, c, e, f, _, i] => i.int ≤ d.len ∧ noneL d (ints [a, b, c, e, f]) i.int.toNat | _ => False }
def lQ1 : Con :=
  { lp := some ⟨9, 60, [(.tmp 9, .int), (.tmp 10, .int)]⟩, mea := fun | d :: _ :: _ :: _ :: _ :: _ :: _ :: i :: t => (match t.drop 60 with | [_, j] => ((d.cell i.int 0).len - j.int).toNat | _ => 0) | _ => 0
    bnd := [.i 0 1, big]
    pre := fun | d :: a :: b :: c :: e :: f :: _ :: i :: t => (match t.drop 60 with | [l, j] => j.int ≤ (d.cell i.int 0).len ∧ (l.int = 1 ↔ condsHold (d.cell i.int 0) (ints [a, b, c, e, f]) j.int.toNat) | _ => False) | _ => False }
end Go.Proofs.Ytkophklnleodcaa
