/- DERIVED. What splitting keeps. -/
import Derived.Test.YtalkhponnfggoaaDlaw
namespace Go.Proofs.Ytalkhponnfggoaa
open Go.Dx
set_option linter.unusedVariables false
/-- Parts that are numbers of litres. -/
def AllI (d : DV) (n : Nat) : Prop := ∀ k : Nat, k < n → 0 ≤ d.at k 0 ∧ d.at k 0 ≤ 1073741824
/-- What the first litres hold. -/
def held (w0 w1 x : Int) : Int := (w1 * x).tdiv w0
def rows (w0 w1 : Int) (d : DV) (n : Nat) : List (List DV) := (List.range n).map fun (i : Nat) => [.n (d.at i 0), .n (held w0 w1 (sm d 0 (i + 1)) - held w0 w1 (sm d 0 i))]
/-- What Split returns. -/
def SplitP (w0 w1 : Int) (d : DV) (y : List DV) : Prop := (64 < d.els.length → y = [.sl none 0 [], .n 2]) ∧ (d.els.length ≤ 64 → ¬ okW w0 w1 → y = [.sl none 0 [], .n 430]) ∧
  (d.els.length ≤ 64 → okW w0 w1 → ¬ (AllI d d.els.length ∧ sm d 0 d.els.length = w0) → y = [.sl none 0 [], .n 1]) ∧
  (d.els.length ≤ 64 → okW w0 w1 → AllI d d.els.length → sm d 0 d.els.length = w0 → y = [.sl none 0 (rows w0 w1 d d.els.length), .n 0])
abbrev splitRes : List RSh := [.one ⟨wats, some 24⟩, .one iR]
abbrev oneB : VD := .i 0 1073741824
def cSplit : Con := { f := 16, args := [.agg wat, .c ints], res := splitRes, pre := fun _ => True, post := fun | [a, b, d], y => SplitP a.int b.int d y | _, _ => False }
def cSplitR : Con := { f := 17, args := [.agg wat, .c ints], res := splitRes, pre := fun _ => True, post := fun | [a, b, d], y => SplitP a.int b.int d y | _, _ => False }
def lS1 : Con :=
  { lp := some ⟨7, 42, [(.tmp 18, .int), (.tmp 6, .int)]⟩, mea := fun | [_, _, d, i, _] => (d.len - i.int).toNat | _ => 0
    bnd := [big, sumB]
    pre := fun | [_, _, d, i, l] => i.int ≤ d.els.length ∧ AllI d i.int.toNat ∧ l.int = sm d 0 i.int.toNat | _ => False }
def lS2 : Con :=
  { lp := some ⟨2, 24, [(.tmp 13, .int), (.cell 6 2, .int), (.cell 6 3, .int), (.cell 1 0, .sl true 24)]⟩
    mea := fun | _ :: _ :: d :: _ :: _ :: t => (match t.drop 43 with | [k, _, _, _] => (d.len - k.int).toNat | _ => 0) | _ => 0
    bnd := [big, oneB, oneB, .d wats]
    pre := fun | a :: b :: d :: _ :: _ :: t => (match t.drop 43 with | [k, l, s, o] => k.int ≤ d.els.length ∧ l.int = sm d 0 k.int.toNat ∧ s.int = held a.int b.int (sm d 0 k.int.toNat) ∧ o.els = rows a.int b.int d k.int.toNat | _ => False) | _ => False }
def lR1 : Con :=
  { lp := some ⟨7, 83, [(.tmp 7, .int), (.tmp 6, .int)]⟩, mea := fun | [_, _, d, i, _] => (d.len - i.int).toNat | _ => 0
    bnd := [big, sumB]
    pre := fun | [_, _, d, i, l] => i.int ≤ d.els.length ∧ AllI d i.int.toNat ∧ l.int = sm d 0 i.int.toNat | _ => False }
def lR2 : Con :=
  { lp := some ⟨17, 83, [(.tmp 9, .int), (.tmp 6, .int), (.tmp 8, .sl true 24)]⟩
    mea := fun | _ :: _ :: d :: _ :: _ :: t => (match t.drop 84 with | [k, _, _] => (d.len - k.int).toNat | _ => 0) | _ => 0
    bnd := [big, oneB, .d wats]
    pre := fun | a :: b :: d :: _ :: _ :: t => (match t.drop 84 with | [k, l, o] => k.int ≤ d.els.length ∧ l.int = sm d 0 k.int.toNat ∧ o.els = rows a.int b.int d k.int.toNat | _ => False) | _ => False }
/-- The salt of a field after so many turns. -/
def stp (h l s : Int) (f : Int) : Int := s + f - ((s + f) * l).tdiv (l + h)
def st (h f l s : Int) : Nat → Int
  | 0 => f
  | k + 1 => stp h l s (st h f l s k)
/-- It goes on for so many turns. -/
def On (h f l s lim : Int) (k : Nat) : Prop := ∀ j : Nat, j < k → lim < st h f l s j ∧ okL h (st h f l s j) l s
def Hit (h f l s lim : Int) (k : Nat) : Prop := st h f l s k ≤ lim ∧ On h f l s lim k
/-- What Turns returns. -/
def TurnsP (h f l s m lim : Int) (y : List DV) : Prop := (¬ okL h f l s → y = [.n 0, .n 0, .n 430]) ∧ (okL h f l s → ¬ ((0 ≤ m ∧ m ≤ 400) ∧ 0 ≤ lim ∧ lim ≤ 1073741824) → y = [.n 0, .n 0, .n 1]) ∧
  (okL h f l s → ((0 ≤ m ∧ m ≤ 400) ∧ 0 ≤ lim ∧ lim ≤ 1073741824) → (∀ k : Nat, (k : Int) ≤ m → Hit h f l s lim k → y = [.n k, .n 1, .n 0]) ∧ ((∀ k : Nat, (k : Int) ≤ m → ¬ Hit h f l s lim k) → y = [.n 0, .n 0, .n 0]))
abbrev turnsRes : List RSh := [.one iR, .one ⟨.bool, none⟩, .one iR]
def cTurns : Con := { f := 21, args := [.agg wat, .agg wat, .c i64s, .c i64s], res := turnsRes, pre := fun _ => True, post := fun | [h, f, l, s, m, lim], y => TurnsP h.int f.int l.int s.int m.int lim.int y | _, _ => False }
def cTurnsR : Con := { f := 22, args := [.agg wat, .agg wat, .c i64s, .c i64s], res := turnsRes, pre := fun _ => True, post := fun | [h, f, l, s, m, lim], y => TurnsP h.int f.int l.int s.int m.int lim.int y | _, _ => False }
def turnsI (h f l s m lim n a b : Int) : Prop := n ≤ m + 1 ∧ a = h ∧ b = st h f l s n.toNat ∧ On h f l s lim n.toNat
def lTR : Con :=
  { lp := some ⟨7, 56, [(.tmp 14, .int), (.cell 0 0, .int), (.cell 0 1, .int)]⟩, mea := fun | [_, _, _, _, m, _, _, _, _, _, _, n, _, _] => (m.int + 1 - n.int).toNat | _ => 0
    bnd := [big, oneB, oneB]
    pre := fun | [h, f, l, s, m, lim, _, _, _, _, _, n, a, b] => turnsI h.int f.int l.int s.int m.int lim.int n.int a.int b.int | _ => False }
def lT : Con :=
  { lp := some ⟨8, 45, [(.tmp 33, .int), (.cell 0 0, .int), (.cell 0 1, .int)]⟩, mea := fun | [_, _, _, _, m, _, _, _, _, _, _, n, _, _] => (m.int + 1 - n.int).toNat | _ => 0
    bnd := [big, oneB, oneB]
    pre := fun | [h, f, l, s, m, lim, _, _, _, _, _, n, a, b] => turnsI h.int f.int l.int s.int m.int lim.int n.int a.int b.int | _ => False }
end Go.Proofs.Ytalkhponnfggoaa
