/-
  DERIVED. GIVEN WITH THE SEED: THE CARDS: each row of YtdffnmhpkapbkaaDoorRows.lean that lists a variable, with what it lists TIED to the program's text (the seventh form; the later family's looks); each row that meets fmt, with fmt's text TOLD by the authors' own Lean function (tested against real Go, not proved from fmt's source: count such statements apart). THE CARD IS WHAT COUNTS. Prove the row's statement (the work); the ties are given (YtdffnmhpkapbkaaDoorTie.lean); close each card by the builder's one call (the guide's Derived/Test/ToyasCard.lean, 'card_holds'). Laid BY PROGRAM, IN A SANDBOX (cutbox-door.mjs). By AI agents, Wed Nov 11 2026. No macro, syntax, notation, axiom, sorry.
-/
import Derived.Test.YtdffnmhpkapbkaaDoorRows
import GoSem.ClaimSeven
namespace Go.Proofs.YtdffnmhpkapbkaaDoor
namespace Rows

/-- THE TIED CARD OF 'acequialaw14.DaysSpec'. -/
def daysSpecCard : Claim7 := { stood := { row := daysSpecRow, standIns := [], harness := (true, "bb40202078d74eacbee9148e36d4b7fcb598466d0ed10145c32257aeef5ce287"), looks := false }, kinds := [], alts := [], laidByText := true, laidKinds := [.data], laidTests := true, laidLooks := .later }
def DaysSpecCardSaid : Prop := Claim7.holds Tryd.pinned (.plain (OpenSpec.ofChange daysSpecSpec)) daysSpecCard

/-- THE TIED CARD OF 'acequialaw14.DaysListSpec'. -/
def daysListSpecCard : Claim7 := { stood := { row := daysListSpecRow, standIns := [], harness := (true, "bb40202078d74eacbee9148e36d4b7fcb598466d0ed10145c32257aeef5ce287"), looks := false }, kinds := [], alts := [], laidByText := true, laidKinds := [.data], laidTests := true, laidLooks := .later }
def DaysListSpecCardSaid : Prop := Claim7.holds Tryd.pinned (.plain (OpenSpec.ofChange daysListSpecSpec)) daysListSpecCard

/-- THE TIED CARD OF 'acequialaw14.DaysSetsSpec'. -/
def daysSetsSpecCard : Claim7 := { stood := { row := daysSetsSpecRow, standIns := [], harness := (true, "bb40202078d74eacbee9148e36d4b7fcb598466d0ed10145c32257aeef5ce287"), looks := false }, kinds := [], alts := [], laidByText := true, laidKinds := [.data], laidTests := true, laidLooks := .later }
def DaysSetsSpecCardSaid : Prop := Claim7.holds Tryd.pinned (.plain (OpenSpec.ofChange daysSetsSpecSpec)) daysSetsSpecCard

/-- THE TIED CARD OF 'acequialaw14.DaysDates'. -/
def daysDatesCard : Claim7 := { stood := { row := daysDatesRow, standIns := [], harness := (true, "bb40202078d74eacbee9148e36d4b7fcb598466d0ed10145c32257aeef5ce287"), looks := false }, kinds := [], alts := [], laidByText := true, laidKinds := [.data], laidTests := true, laidLooks := .later }
def DaysDatesCardSaid : Prop := Claim7.holds Tryd.pinned (.plain (OpenSpec.ofChange daysDatesSpec)) daysDatesCard

/-- THE TIED CARD OF 'acequialaw14.DaysMembers'. -/
def daysMembersCard : Claim7 := { stood := { row := daysMembersRow, standIns := [], harness := (true, "bb40202078d74eacbee9148e36d4b7fcb598466d0ed10145c32257aeef5ce287"), looks := false }, kinds := [], alts := [], laidByText := true, laidKinds := [.data], laidTests := true, laidLooks := .later }
def DaysMembersCardSaid : Prop := Claim7.holds Tryd.pinned (.plain (OpenSpec.ofChange daysMembersSpec)) daysMembersCard

/-- THE TIED CARD OF 'acequialaw14.DaysCounted'. -/
def daysCountedCard : Claim7 := { stood := { row := daysCountedRow, standIns := [], harness := (true, "bb40202078d74eacbee9148e36d4b7fcb598466d0ed10145c32257aeef5ce287"), looks := false }, kinds := [], alts := [], laidByText := true, laidKinds := [.data], laidTests := true, laidLooks := .later }
def DaysCountedCardSaid : Prop := Claim7.holds Tryd.pinned (.plain (OpenSpec.ofChange daysCountedSpec)) daysCountedCard

/-- THE SECOND FORM's CARD OF 'acequialaw14.DaysSpec'. -/
def daysSpecUptoCard : Claim7 := { stood := { row := daysSpecUptoRow, standIns := [], harness := (true, "bb40202078d74eacbee9148e36d4b7fcb598466d0ed10145c32257aeef5ce287"), looks := false }, kinds := [], alts := [], laidByText := true, laidKinds := [.data], laidTests := true, laidLooks := .later }
def DaysSpecUptoCardSaid : Prop := Claim7.holds Tryd.pinned (.plain (OpenSpec.upto daysSpecSpec)) daysSpecUptoCard

/-- THE SECOND FORM's CARD OF 'acequialaw14.DaysListSpec'. -/
def daysListSpecUptoCard : Claim7 := { stood := { row := daysListSpecUptoRow, standIns := [], harness := (true, "bb40202078d74eacbee9148e36d4b7fcb598466d0ed10145c32257aeef5ce287"), looks := false }, kinds := [], alts := [], laidByText := true, laidKinds := [.data], laidTests := true, laidLooks := .later }
def DaysListSpecUptoCardSaid : Prop := Claim7.holds Tryd.pinned (.plain (OpenSpec.upto daysListSpecSpec)) daysListSpecUptoCard

/-- THE SECOND FORM's CARD OF 'acequialaw14.DaysSetsSpec'. -/
def daysSetsSpecUptoCard : Claim7 := { stood := { row := daysSetsSpecUptoRow, standIns := [], harness := (true, "bb40202078d74eacbee9148e36d4b7fcb598466d0ed10145c32257aeef5ce287"), looks := false }, kinds := [], alts := [], laidByText := true, laidKinds := [.data], laidTests := true, laidLooks := .later }
def DaysSetsSpecUptoCardSaid : Prop := Claim7.holds Tryd.pinned (.plain (OpenSpec.upto daysSetsSpecSpec)) daysSetsSpecUptoCard

/-- THE SECOND FORM's CARD OF 'acequialaw14.DaysDates'. -/
def daysDatesUptoCard : Claim7 := { stood := { row := daysDatesUptoRow, standIns := [], harness := (true, "bb40202078d74eacbee9148e36d4b7fcb598466d0ed10145c32257aeef5ce287"), looks := false }, kinds := [], alts := [], laidByText := true, laidKinds := [.data], laidTests := true, laidLooks := .later }
def DaysDatesUptoCardSaid : Prop := Claim7.holds Tryd.pinned (.plain (OpenSpec.upto daysDatesSpec)) daysDatesUptoCard

/-- THE SECOND FORM's CARD OF 'acequialaw14.DaysMembers'. -/
def daysMembersUptoCard : Claim7 := { stood := { row := daysMembersUptoRow, standIns := [], harness := (true, "bb40202078d74eacbee9148e36d4b7fcb598466d0ed10145c32257aeef5ce287"), looks := false }, kinds := [], alts := [], laidByText := true, laidKinds := [.data], laidTests := true, laidLooks := .later }
def DaysMembersUptoCardSaid : Prop := Claim7.holds Tryd.pinned (.plain (OpenSpec.upto daysMembersSpec)) daysMembersUptoCard

/-- THE SECOND FORM's CARD OF 'acequialaw14.DaysCounted'. -/
def daysCountedUptoCard : Claim7 := { stood := { row := daysCountedUptoRow, standIns := [], harness := (true, "bb40202078d74eacbee9148e36d4b7fcb598466d0ed10145c32257aeef5ce287"), looks := false }, kinds := [], alts := [], laidByText := true, laidKinds := [.data], laidTests := true, laidLooks := .later }
def DaysCountedUptoCardSaid : Prop := Claim7.holds Tryd.pinned (.plain (OpenSpec.upto daysCountedSpec)) daysCountedUptoCard
end Rows
end Go.Proofs.YtdffnmhpkapbkaaDoor
