/-
  NARROWER THAN 'FOR EVERY INPUT', by the rows' own cells (each row's printed sentence says how): DaysSpec: laid · DaysListSpec: laid · DaysSetsSpec: laid · DaysDates: laid · DaysMembers: laid · DaysCounted: laid.
  DERIVED. THE GIVEN ROWS OF THIS SEAT. 6 by the template 'for every input the law returns true; each argument reads behind the call as it read before'; 0 by the template 'total and deterministic' (their statements: YtdffnmhpkapbkaaDoorTotals.lean).
  GIVEN WITH THE SEED: the statements are not yours to turn. If you find one false, say at which input.
  Laid BY PROGRAM, IN A SANDBOX (cutbox-rows.mjs): the forced cells as the released guide's own fill.sh prints them over the translation 31af2512d3f61029… (all of the seat's roots in one cut). By AI agents, Wed Nov 11 2026. No macro, syntax, notation, axiom, sorry.
-/
import Derived.Test.YtdffnmhpkapbkaaDoorChecked
import GoSem.Claim
import GoSem.ClaimJoined
import GoSem.ClaimMapViews
import Derived.JoinedTies
import Derived.KernelRfl
namespace Go.Proofs.YtdffnmhpkapbkaaDoor
/- THE CELL 'sum', in the pinned program and in every row, IS THE sha256 OF THE DUMP (.gsa) THAT YtdffnmhpkapbkaaDoorProg.lean LOADS. Nothing in Lean hashes anything: it is a label: what it is worth is what the hold of that sum in a sandbox is worth. -/
noncomputable def Tryd.pinned : Pinned := { name := "ytdffnmhpkapbkaadoor", sum := "31af2512d3f61029b4fe59c1db86057dcc8d7f8fab8b8a70d54c9378ac8b8b70", checked := Tryd.checked }
namespace Rows
def none {H : Type} : Left H := { results := [], args := [] }

/- WHAT THE LISTED PACKAGE-LEVEL VARIABLES READ AS WHEN THE CALL BEGINS. Each datum BY PROGRAM (the guide's laid-datum.mjs) off the statement by which the dump's own 'gosem.cut.vars' lays the variable. In a bare row this is a premise. The card (YtdffnmhpkapbkaaDoorCards.lean) ties it to the program's text. -/
def laid_acequia_days_lengths {H : Type} : DataW H := .agg [.lit (.int .i64 31), .lit (.int .i64 28), .lit (.int .i64 31), .lit (.int .i64 30), .lit (.int .i64 31), .lit (.int .i64 30), .lit (.int .i64 31), .lit (.int .i64 31), .lit (.int .i64 30), .lit (.int .i64 31), .lit (.int .i64 30), .lit (.int .i64 31)]

/-- 'acequialaw14.DaysSpec': WHATEVER THE INPUT: true; the input reads as it did. -/
def daysSpecSpec : ChangeSpec := { name := "daysSpec", fn := fun _ => fun
  | [d1, d2] => { results := [.lit (.bool true)], args := [d1, d2] }
  | _ => none }
def daysSpecRow : OpenClaim := { program := "ytdffnmhpkapbkaadoor", sum := "31af2512d3f61029b4fe59c1db86057dcc8d7f8fab8b8a70d54c9378ac8b8b70", func := "acequia/acequialaw14.DaysSpec", spec := "daysSpec", unfollowed := true, recurses := true, named := ["acequia/days.lengths"], apart := false, laid := [("acequia/days.lengths", laid_acequia_days_lengths)] }
def DaysSpecSaid : Prop := daysSpecRow.holds Tryd.pinned (OpenSpec.ofChange daysSpecSpec)

/-- ITS FALSE NEIGHBOUR: 'it returns false'. Refute it at one input. -/
def daysSpecWrong : ChangeSpec := { name := "daysSpec", fn := fun _ => fun
  | [d1, d2] => { results := [.lit (.bool false)], args := [d1, d2] }
  | _ => none }
def DaysSpecWrongFalsely : Prop := daysSpecRow.holds Tryd.pinned (OpenSpec.ofChange daysSpecWrong)

/-- 'acequialaw14.DaysListSpec': WHATEVER THE INPUT: true; the input reads as it did. -/
def daysListSpecSpec : ChangeSpec := { name := "daysListSpec", fn := fun _ => fun
  | [d1, d2] => { results := [.lit (.bool true)], args := [d1, d2] }
  | _ => none }
def daysListSpecRow : OpenClaim := { program := "ytdffnmhpkapbkaadoor", sum := "31af2512d3f61029b4fe59c1db86057dcc8d7f8fab8b8a70d54c9378ac8b8b70", func := "acequia/acequialaw14.DaysListSpec", spec := "daysListSpec", unfollowed := true, recurses := true, named := ["acequia/days.lengths"], apart := false, laid := [("acequia/days.lengths", laid_acequia_days_lengths)] }
def DaysListSpecSaid : Prop := daysListSpecRow.holds Tryd.pinned (OpenSpec.ofChange daysListSpecSpec)

/-- ITS FALSE NEIGHBOUR: 'it returns false'. Refute it at one input. -/
def daysListSpecWrong : ChangeSpec := { name := "daysListSpec", fn := fun _ => fun
  | [d1, d2] => { results := [.lit (.bool false)], args := [d1, d2] }
  | _ => none }
def DaysListSpecWrongFalsely : Prop := daysListSpecRow.holds Tryd.pinned (OpenSpec.ofChange daysListSpecWrong)

/-- 'acequialaw14.DaysSetsSpec': WHATEVER THE INPUT: true; the input reads as it did. -/
def daysSetsSpecSpec : ChangeSpec := { name := "daysSetsSpec", fn := fun _ => fun
  | [d1, d2] => { results := [.lit (.bool true)], args := [d1, d2] }
  | _ => none }
def daysSetsSpecRow : OpenClaim := { program := "ytdffnmhpkapbkaadoor", sum := "31af2512d3f61029b4fe59c1db86057dcc8d7f8fab8b8a70d54c9378ac8b8b70", func := "acequia/acequialaw14.DaysSetsSpec", spec := "daysSetsSpec", unfollowed := true, recurses := true, named := ["acequia/days.lengths"], apart := false, laid := [("acequia/days.lengths", laid_acequia_days_lengths)] }
def DaysSetsSpecSaid : Prop := daysSetsSpecRow.holds Tryd.pinned (OpenSpec.ofChange daysSetsSpecSpec)

/-- ITS FALSE NEIGHBOUR: 'it returns false'. Refute it at one input. -/
def daysSetsSpecWrong : ChangeSpec := { name := "daysSetsSpec", fn := fun _ => fun
  | [d1, d2] => { results := [.lit (.bool false)], args := [d1, d2] }
  | _ => none }
def DaysSetsSpecWrongFalsely : Prop := daysSetsSpecRow.holds Tryd.pinned (OpenSpec.ofChange daysSetsSpecWrong)

/-- 'acequialaw14.DaysDates': WHATEVER THE INPUT: true; the input reads as it did. -/
def daysDatesSpec : ChangeSpec := { name := "daysDates", fn := fun _ => fun
  | [d1, d2, d3] => { results := [.lit (.bool true)], args := [d1, d2, d3] }
  | _ => none }
def daysDatesRow : OpenClaim := { program := "ytdffnmhpkapbkaadoor", sum := "31af2512d3f61029b4fe59c1db86057dcc8d7f8fab8b8a70d54c9378ac8b8b70", func := "acequia/acequialaw14.DaysDates", spec := "daysDates", unfollowed := true, recurses := true, named := ["acequia/days.lengths"], apart := false, laid := [("acequia/days.lengths", laid_acequia_days_lengths)] }
def DaysDatesSaid : Prop := daysDatesRow.holds Tryd.pinned (OpenSpec.ofChange daysDatesSpec)

/-- ITS FALSE NEIGHBOUR: 'it returns false'. Refute it at one input. -/
def daysDatesWrong : ChangeSpec := { name := "daysDates", fn := fun _ => fun
  | [d1, d2, d3] => { results := [.lit (.bool false)], args := [d1, d2, d3] }
  | _ => none }
def DaysDatesWrongFalsely : Prop := daysDatesRow.holds Tryd.pinned (OpenSpec.ofChange daysDatesWrong)

/-- 'acequialaw14.DaysMembers': WHATEVER THE INPUT: true; the input reads as it did. -/
def daysMembersSpec : ChangeSpec := { name := "daysMembers", fn := fun _ => fun
  | [d1, d2, d3] => { results := [.lit (.bool true)], args := [d1, d2, d3] }
  | _ => none }
def daysMembersRow : OpenClaim := { program := "ytdffnmhpkapbkaadoor", sum := "31af2512d3f61029b4fe59c1db86057dcc8d7f8fab8b8a70d54c9378ac8b8b70", func := "acequia/acequialaw14.DaysMembers", spec := "daysMembers", unfollowed := true, recurses := true, named := ["acequia/days.lengths"], apart := false, laid := [("acequia/days.lengths", laid_acequia_days_lengths)] }
def DaysMembersSaid : Prop := daysMembersRow.holds Tryd.pinned (OpenSpec.ofChange daysMembersSpec)

/-- ITS FALSE NEIGHBOUR: 'it returns false'. Refute it at one input. -/
def daysMembersWrong : ChangeSpec := { name := "daysMembers", fn := fun _ => fun
  | [d1, d2, d3] => { results := [.lit (.bool false)], args := [d1, d2, d3] }
  | _ => none }
def DaysMembersWrongFalsely : Prop := daysMembersRow.holds Tryd.pinned (OpenSpec.ofChange daysMembersWrong)

/-- 'acequialaw14.DaysCounted': WHATEVER THE INPUT: true; the input reads as it did. -/
def daysCountedSpec : ChangeSpec := { name := "daysCounted", fn := fun _ => fun
  | [d1, d2, d3] => { results := [.lit (.bool true)], args := [d1, d2, d3] }
  | _ => none }
def daysCountedRow : OpenClaim := { program := "ytdffnmhpkapbkaadoor", sum := "31af2512d3f61029b4fe59c1db86057dcc8d7f8fab8b8a70d54c9378ac8b8b70", func := "acequia/acequialaw14.DaysCounted", spec := "daysCounted", unfollowed := true, recurses := true, named := ["acequia/days.lengths"], apart := false, laid := [("acequia/days.lengths", laid_acequia_days_lengths)] }
def DaysCountedSaid : Prop := daysCountedRow.holds Tryd.pinned (OpenSpec.ofChange daysCountedSpec)

/-- ITS FALSE NEIGHBOUR: 'it returns false'. Refute it at one input. -/
def daysCountedWrong : ChangeSpec := { name := "daysCounted", fn := fun _ => fun
  | [d1, d2, d3] => { results := [.lit (.bool false)], args := [d1, d2, d3] }
  | _ => none }
def DaysCountedWrongFalsely : Prop := daysCountedRow.holds Tryd.pinned (OpenSpec.ofChange daysCountedWrong)

/- THE SECOND FORM. 'bulk': how many values and letters a reading holds, each counted each time it is reached (what is shared counts as often as it is met; a slice's spare places count too). A statement '..UptoSaid' is the law's where the arguments, and the package variables that the reading takes, are together of bulk at most 1048576: NARROWER than '..Said'. Prove '..Said' where nothing that the law and all that it calls make is longer than what came in: it says more and counts as full. Else prove '..UptoSaid'. A law counts once. -/
mutual
def uptoBulk {H : Type} : DataW H → Nat
  | .lit (.string bytes) => bytes.length + 1
  | .lit _ => 1
  | .nil => 1
  | .ptr d => uptoBulk d + 1
  | .slice elems spare => uptoBulkAll elems + uptoBulkAll spare + 1
  | .agg parts => uptoBulkAll parts + 1
  | .iface _ d => uptoBulk d + 1
  | .map entries => uptoBulkEntries entries + 1
  | .held _ => 1
def uptoBulkAll {H : Type} : List (DataW H) → Nat
  | [] => 0
  | d :: r => uptoBulk d + uptoBulkAll r
def uptoBulkEntries {H : Type} : List (Lit × DataW H) → Nat
  | [] => 0
  | x :: r => uptoBulkEntry x + uptoBulkEntries r
def uptoBulkEntry {H : Type} : Lit × DataW H → Nat
  | (.string bytes, d) => bytes.length + uptoBulk d + 1
  | (_, d) => uptoBulk d + 1
 end
def uptoSmall : (H : Type) → List (DataW H) → Bool := fun _ ds => decide (uptoBulkAll ds ≤ 1048576)
def OpenSpec.upto (s : _root_.Go.ChangeSpec) : _root_.Go.OpenSpec := { _root_.Go.OpenSpec.ofChange s with cond := some uptoSmall }

/-- 'acequialaw14.DaysSpec', WHERE WHAT IT READS IS OF BULK AT MOST 1048576: true; the input reads as it did. -/
def daysSpecUptoRow : OpenClaim := { program := "ytdffnmhpkapbkaadoor", sum := "31af2512d3f61029b4fe59c1db86057dcc8d7f8fab8b8a70d54c9378ac8b8b70", func := "acequia/acequialaw14.DaysSpec", spec := "daysSpec", unfollowed := true, recurses := true, named := ["acequia/days.lengths"], apart := false, laid := [("acequia/days.lengths", laid_acequia_days_lengths)], narrowed := true }
def DaysSpecUptoSaid : Prop := daysSpecUptoRow.holds Tryd.pinned (OpenSpec.upto daysSpecSpec)

/-- 'acequialaw14.DaysListSpec', WHERE WHAT IT READS IS OF BULK AT MOST 1048576: true; the input reads as it did. -/
def daysListSpecUptoRow : OpenClaim := { program := "ytdffnmhpkapbkaadoor", sum := "31af2512d3f61029b4fe59c1db86057dcc8d7f8fab8b8a70d54c9378ac8b8b70", func := "acequia/acequialaw14.DaysListSpec", spec := "daysListSpec", unfollowed := true, recurses := true, named := ["acequia/days.lengths"], apart := false, laid := [("acequia/days.lengths", laid_acequia_days_lengths)], narrowed := true }
def DaysListSpecUptoSaid : Prop := daysListSpecUptoRow.holds Tryd.pinned (OpenSpec.upto daysListSpecSpec)

/-- 'acequialaw14.DaysSetsSpec', WHERE WHAT IT READS IS OF BULK AT MOST 1048576: true; the input reads as it did. -/
def daysSetsSpecUptoRow : OpenClaim := { program := "ytdffnmhpkapbkaadoor", sum := "31af2512d3f61029b4fe59c1db86057dcc8d7f8fab8b8a70d54c9378ac8b8b70", func := "acequia/acequialaw14.DaysSetsSpec", spec := "daysSetsSpec", unfollowed := true, recurses := true, named := ["acequia/days.lengths"], apart := false, laid := [("acequia/days.lengths", laid_acequia_days_lengths)], narrowed := true }
def DaysSetsSpecUptoSaid : Prop := daysSetsSpecUptoRow.holds Tryd.pinned (OpenSpec.upto daysSetsSpecSpec)

/-- 'acequialaw14.DaysDates', WHERE WHAT IT READS IS OF BULK AT MOST 1048576: true; the input reads as it did. -/
def daysDatesUptoRow : OpenClaim := { program := "ytdffnmhpkapbkaadoor", sum := "31af2512d3f61029b4fe59c1db86057dcc8d7f8fab8b8a70d54c9378ac8b8b70", func := "acequia/acequialaw14.DaysDates", spec := "daysDates", unfollowed := true, recurses := true, named := ["acequia/days.lengths"], apart := false, laid := [("acequia/days.lengths", laid_acequia_days_lengths)], narrowed := true }
def DaysDatesUptoSaid : Prop := daysDatesUptoRow.holds Tryd.pinned (OpenSpec.upto daysDatesSpec)

/-- 'acequialaw14.DaysMembers', WHERE WHAT IT READS IS OF BULK AT MOST 1048576: true; the input reads as it did. -/
def daysMembersUptoRow : OpenClaim := { program := "ytdffnmhpkapbkaadoor", sum := "31af2512d3f61029b4fe59c1db86057dcc8d7f8fab8b8a70d54c9378ac8b8b70", func := "acequia/acequialaw14.DaysMembers", spec := "daysMembers", unfollowed := true, recurses := true, named := ["acequia/days.lengths"], apart := false, laid := [("acequia/days.lengths", laid_acequia_days_lengths)], narrowed := true }
def DaysMembersUptoSaid : Prop := daysMembersUptoRow.holds Tryd.pinned (OpenSpec.upto daysMembersSpec)

/-- 'acequialaw14.DaysCounted', WHERE WHAT IT READS IS OF BULK AT MOST 1048576: true; the input reads as it did. -/
def daysCountedUptoRow : OpenClaim := { program := "ytdffnmhpkapbkaadoor", sum := "31af2512d3f61029b4fe59c1db86057dcc8d7f8fab8b8a70d54c9378ac8b8b70", func := "acequia/acequialaw14.DaysCounted", spec := "daysCounted", unfollowed := true, recurses := true, named := ["acequia/days.lengths"], apart := false, laid := [("acequia/days.lengths", laid_acequia_days_lengths)], narrowed := true }
def DaysCountedUptoSaid : Prop := daysCountedUptoRow.holds Tryd.pinned (OpenSpec.upto daysCountedSpec)

end Rows
end Go.Proofs.YtdffnmhpkapbkaaDoor
