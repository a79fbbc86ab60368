/- DERIVED. What functions of salt keep. -/
import Derived.Test.YtalkhponnfggoaaDtb
namespace Go.Proofs.Ytalkhponnfggoaa
open Go.Dx
set_option linter.unusedVariables false
abbrev i64s : Sh := .int .i64 (-9223372036854775808) 9223372036854775807
abbrev wat : List Sh := [i64s, i64s]
abbrev wats : Sh := .sl 9223372036854775807 wat
abbrev ints : Sh := .sl 9223372036854775807 [i64s]
abbrev iR : RC := ⟨i64s, none⟩
abbrev big : VD := .i 0 9223372036854775807
/-- Right water. -/
def okW (l s : Int) : Prop := ((0 ≤ l ∧ l ≤ 1073741824) ∧ (0 ≤ s ∧ s ≤ 1073741824)) ∧ (0 < l ∨ s = 0)
def okR (d : DV) (k : Int) : Prop := okW (d.at k 0) (d.at k 1)
/-- The sum of the first cells. -/
def sm (d : DV) (j : Nat) : Nat → Int
  | 0 => 0
  | k + 1 => sm d j k + d.at k j
def AllR (d : DV) (n : Nat) : Prop := ∀ k : Nat, k < n → okR d k
/-- What Mix returns. -/
def MixP (a : DV) (y : List DV) : Prop := (64 < a.els.length → y = [.n 0, .n 0, .n 2]) ∧ (a.els.length ≤ 64 → ¬ AllR a a.els.length → y = [.n 0, .n 0, .n 430]) ∧
  (a.els.length ≤ 64 → AllR a a.els.length → ¬ (sm a 0 a.els.length ≤ 1073741824 ∧ sm a 1 a.els.length ≤ 1073741824) → y = [.n 0, .n 0, .n 430]) ∧
  (a.els.length ≤ 64 → AllR a a.els.length → sm a 0 a.els.length ≤ 1073741824 → sm a 1 a.els.length ≤ 1073741824 → y = [.n (sm a 0 a.els.length), .n (sm a 1 a.els.length), .n 0])
abbrev mixRes : List RSh := [.agg [iR, iR], .one iR]
def cMixR : Con := { f := 13, args := [.c wats], res := mixRes, pre := fun _ => True, post := fun | [a], y => MixP a y | _, _ => False }
def cMix : Con := { f := 12, args := [.c wats], res := mixRes, pre := fun _ => True, post := fun | [a], y => MixP a y | _, _ => False }
abbrev sumB : VD := .i 0 68719476736
def lMR : Con :=
  { lp := some ⟨5, 51, [(.tmp 5, .int), (.cell 1 0, .int), (.cell 1 1, .int)]⟩, mea := fun | [a, i, _, _] => (a.len - i.int).toNat | _ => 0
    bnd := [big, sumB, sumB]
    pre := fun | [a, i, l, s] => i.int ≤ a.els.length ∧ AllR a i.int.toNat ∧ l.int = sm a 0 i.int.toNat ∧ s.int = sm a 1 i.int.toNat | _ => False }
def lIx : Con :=
  { lp := some ⟨2, 19, [(.tmp 8, .int)]⟩, mea := fun | [a, i] => (a.len - i.int).toNat | _ => 0
    bnd := [big]
    pre := fun | [a, i] => i.int ≤ a.els.length ∧ AllR a i.int.toNat | _ => False }
def lSum : Con :=
  { lp := some ⟨2, 25, [(.tmp 7, .int), (.cell 1 0, .int), (.cell 1 1, .int)]⟩, mea := fun | a :: i :: t => (match t.drop 19 with | [k, _, _] => (a.len - k.int).toNat | _ => 0) | _ => 0
    bnd := [big, sumB, sumB]
    pre := fun | a :: i :: t => (match t.drop 19 with | [k, l, s] => k.int ≤ a.els.length ∧ l.int = sm a 0 k.int.toNat ∧ s.int = sm a 1 k.int.toNat | _ => False) | _ => False }
def b1 (f : FuncId) (a : List ASh) (r : List RSh) : Con := { f := f, args := a, res := r, pre := fun _ => True, post := fun _ _ => True }
def tt (id nt : Nat) (l : List (Dx.Loc × Tn)) (b : List VD) : Con := { lp := some ⟨id, nt, l⟩, bnd := b, pre := fun _ => True }
/-- What Lose returns. -/
def LoseP (l s e p : Int) (y : List DV) : Prop := (¬ okW l s → y = [.n 0, .n 0, .n 0, .n 0, .n 430]) ∧ (okW l s → ¬ ((0 ≤ e ∧ e ≤ l) ∧ 0 ≤ p ∧ p ≤ l - e) → y = [.n 0, .n 0, .n 0, .n 0, .n 1]) ∧
  (okW l s → ((0 ≤ e ∧ e ≤ l) ∧ 0 ≤ p ∧ p ≤ l - e) → (e = l ∧ 0 < s) → y = [.n 0, .n 0, .n 0, .n 0, .n 430]) ∧
  (okW l s → ((0 ≤ e ∧ e ≤ l) ∧ 0 ≤ p ∧ p ≤ l - e) → ¬ (e = l ∧ 0 < s) → y = [.n (l - e - p), .n (s - (s * p).tdiv (l - e)), .n p, .n ((s * p).tdiv (l - e)), .n 0])
abbrev loseRes : List RSh := [.agg [iR, iR], .agg [iR, iR], .one iR]
def cLose : Con := { f := 14, args := [.agg wat, .c i64s, .c i64s], res := loseRes, pre := fun _ => True, post := fun | [l, s, e, p], y => LoseP l.int s.int e.int p.int y | _, _ => False }
def cLoseR : Con := { f := 15, args := [.agg wat, .c i64s, .c i64s], res := loseRes, pre := fun _ => True, post := fun | [l, s, e, p], y => LoseP l.int s.int e.int p.int y | _, _ => False }
/-- What Leach returns, of a field and of water. -/
def okL (h f l s : Int) : Prop := ((1 ≤ h ∧ h ≤ 1073741824) ∧ 0 ≤ f ∧ f ≤ 1073741824) ∧ okW l s ∧ l + h ≤ 1073741824 ∧ s + f ≤ 1073741824
def LeachP (h f l s : Int) (y : List DV) : Prop := (¬ okL h f l s → y = [.n 0, .n 0, .n 0, .n 0, .n 430]) ∧
  (okL h f l s → y = [.n h, .n (s + f - ((s + f) * l).tdiv (l + h)), .n l, .n (((s + f) * l).tdiv (l + h)), .n 0])
def cLeach : Con := { f := 19, args := [.agg wat, .agg wat], res := loseRes, pre := fun _ => True, post := fun | [h, f, l, s], y => LeachP h.int f.int l.int s.int y | _, _ => False }
def cLeachR : Con := { f := 20, args := [.agg wat, .agg wat], res := loseRes, pre := fun _ => True, post := fun | [h, f, l, s], y => LeachP h.int f.int l.int s.int y | _, _ => False }
def cSane : Con := lawCon 11 []
def lSame : Con :=
  { lp := some ⟨4, 26, [(.tmp 5, .int)]⟩, mea := fun | [a, b, i] => (a.len - i.int).toNat | _ => 0
    bnd := [big]
    pre := fun | [a, b, i] => a.els.length = b.els.length ∧ i.int ≤ a.els.length ∧ a.els.take i.int.toNat = b.els.take i.int.toNat | _ => False }
def cSame : Con :=
  { f := 18, args := [.c wats, .c wats], res := [.one ⟨.bool, none⟩], pre := fun _ => True
    post := fun | [a, b], [r] => (a.els = b.els → r = .n 1) ∧ (a.els ≠ b.els → r = .n 0) | _, _ => False }
end Go.Proofs.Ytalkhponnfggoaa
