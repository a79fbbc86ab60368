/-
  DERIVED. GIVEN WITH THE SEED: THE CARDS: each row of YtbkjjehfidnagaaDoorRows.lean that lists a variable, with what it lists TIED to the program's text (the seventh form; the later family's looks); each row that meets fmt, with fmt's text TOLD by the authors' own Lean function (tested against real Go, not proved from fmt's source: count such statements apart). THE CARD IS WHAT COUNTS. Prove the row's statement (the work); the ties are given (YtbkjjehfidnagaaDoorTie.lean); close each card by the builder's one call (the guide's Derived/Test/ToyasCard.lean, 'card_holds'). Laid BY PROGRAM, IN A SANDBOX (cutbox-door.mjs). By AI agents, Wed Nov 11 2026. No macro, syntax, notation, axiom, sorry.
-/
import Derived.Test.YtbkjjehfidnagaaDoorRows
import GoSem.ClaimSeven
namespace Go.Proofs.YtbkjjehfidnagaaDoor
namespace Rows

/-- THE TIED CARD OF 'acequialaw10.GroupSpec'. -/
def groupSpecCard : Claim7 := { stood := { row := groupSpecRow, standIns := [], harness := (true, "f05e2087a27c0e189a7b4d19cc326184e53b204831fdb64da88a6274a13d3847"), looks := false }, kinds := [], alts := [], laidByText := true, laidKinds := [.data, .data], laidTests := true, laidLooks := .later }
def GroupSpecCardSaid : Prop := Claim7.holds Tryd.pinned (.plain (OpenSpec.ofChange groupSpecSpec)) groupSpecCard

/-- THE TIED CARD OF 'acequialaw10.GroupNumbersSpec'. -/
def groupNumbersSpecCard : Claim7 := { stood := { row := groupNumbersSpecRow, standIns := [], harness := (true, "f05e2087a27c0e189a7b4d19cc326184e53b204831fdb64da88a6274a13d3847"), looks := false }, kinds := [], alts := [], laidByText := true, laidKinds := [.data, .data, .data], laidTests := true, laidLooks := .later }
def GroupNumbersSpecCardSaid : Prop := Claim7.holds Tryd.pinned (.plain (OpenSpec.ofChange groupNumbersSpecSpec)) groupNumbersSpecCard

/-- THE TIED CARD OF 'acequialaw10.GroupLaws'. -/
def groupLawsCard : Claim7 := { stood := { row := groupLawsRow, standIns := [], harness := (true, "f05e2087a27c0e189a7b4d19cc326184e53b204831fdb64da88a6274a13d3847"), looks := false }, kinds := [], alts := [], laidByText := true, laidKinds := [.data, .data], laidTests := true, laidLooks := .later }
def GroupLawsCardSaid : Prop := Claim7.holds Tryd.pinned (.plain (OpenSpec.ofChange groupLawsSpec)) groupLawsCard

/-- THE TIED CARD OF 'acequialaw10.GroupPowers'. -/
def groupPowersCard : Claim7 := { stood := { row := groupPowersRow, standIns := [], harness := (true, "f05e2087a27c0e189a7b4d19cc326184e53b204831fdb64da88a6274a13d3847"), looks := false }, kinds := [], alts := [], laidByText := true, laidKinds := [.data, .data], laidTests := true, laidLooks := .later }
def GroupPowersCardSaid : Prop := Claim7.holds Tryd.pinned (.plain (OpenSpec.ofChange groupPowersSpec)) groupPowersCard

/-- THE TIED CARD OF 'acequialaw10.GroupSquares'. -/
def groupSquaresCard : Claim7 := { stood := { row := groupSquaresRow, standIns := [], harness := (true, "f05e2087a27c0e189a7b4d19cc326184e53b204831fdb64da88a6274a13d3847"), looks := false }, kinds := [], alts := [], laidByText := true, laidKinds := [.data, .data], laidTests := true, laidLooks := .later }
def GroupSquaresCardSaid : Prop := Claim7.holds Tryd.pinned (.plain (OpenSpec.ofChange groupSquaresSpec)) groupSquaresCard

/-- THE TIED CARD OF 'acequialaw10.GroupInverse'. -/
def groupInverseCard : Claim7 := { stood := { row := groupInverseRow, standIns := [], harness := (true, "f05e2087a27c0e189a7b4d19cc326184e53b204831fdb64da88a6274a13d3847"), looks := false }, kinds := [], alts := [], laidByText := true, laidKinds := [.data, .data], laidTests := true, laidLooks := .later }
def GroupInverseCardSaid : Prop := Claim7.holds Tryd.pinned (.plain (OpenSpec.ofChange groupInverseSpec)) groupInverseCard

/-- THE TIED CARD OF 'acequialaw10.GroupHash'. -/
def groupHashCard : Claim7 := { stood := { row := groupHashRow, standIns := [], harness := (true, "f05e2087a27c0e189a7b4d19cc326184e53b204831fdb64da88a6274a13d3847"), looks := false }, kinds := [], alts := [], laidByText := true, laidKinds := [.data, .data, .data], laidTests := true, laidLooks := .later }
def GroupHashCardSaid : Prop := Claim7.holds Tryd.pinned (.plain (OpenSpec.ofChange groupHashSpec)) groupHashCard

/-- THE SECOND FORM's CARD OF 'acequialaw10.GroupSpec'. -/
def groupSpecUptoCard : Claim7 := { stood := { row := groupSpecUptoRow, standIns := [], harness := (true, "f05e2087a27c0e189a7b4d19cc326184e53b204831fdb64da88a6274a13d3847"), looks := false }, kinds := [], alts := [], laidByText := true, laidKinds := [.data, .data], laidTests := true, laidLooks := .later }
def GroupSpecUptoCardSaid : Prop := Claim7.holds Tryd.pinned (.plain (OpenSpec.upto groupSpecSpec)) groupSpecUptoCard

/-- THE SECOND FORM's CARD OF 'acequialaw10.GroupNumbersSpec'. -/
def groupNumbersSpecUptoCard : Claim7 := { stood := { row := groupNumbersSpecUptoRow, standIns := [], harness := (true, "f05e2087a27c0e189a7b4d19cc326184e53b204831fdb64da88a6274a13d3847"), looks := false }, kinds := [], alts := [], laidByText := true, laidKinds := [.data, .data, .data], laidTests := true, laidLooks := .later }
def GroupNumbersSpecUptoCardSaid : Prop := Claim7.holds Tryd.pinned (.plain (OpenSpec.upto groupNumbersSpecSpec)) groupNumbersSpecUptoCard

/-- THE SECOND FORM's CARD OF 'acequialaw10.GroupLaws'. -/
def groupLawsUptoCard : Claim7 := { stood := { row := groupLawsUptoRow, standIns := [], harness := (true, "f05e2087a27c0e189a7b4d19cc326184e53b204831fdb64da88a6274a13d3847"), looks := false }, kinds := [], alts := [], laidByText := true, laidKinds := [.data, .data], laidTests := true, laidLooks := .later }
def GroupLawsUptoCardSaid : Prop := Claim7.holds Tryd.pinned (.plain (OpenSpec.upto groupLawsSpec)) groupLawsUptoCard

/-- THE SECOND FORM's CARD OF 'acequialaw10.GroupPowers'. -/
def groupPowersUptoCard : Claim7 := { stood := { row := groupPowersUptoRow, standIns := [], harness := (true, "f05e2087a27c0e189a7b4d19cc326184e53b204831fdb64da88a6274a13d3847"), looks := false }, kinds := [], alts := [], laidByText := true, laidKinds := [.data, .data], laidTests := true, laidLooks := .later }
def GroupPowersUptoCardSaid : Prop := Claim7.holds Tryd.pinned (.plain (OpenSpec.upto groupPowersSpec)) groupPowersUptoCard

/-- THE SECOND FORM's CARD OF 'acequialaw10.GroupSquares'. -/
def groupSquaresUptoCard : Claim7 := { stood := { row := groupSquaresUptoRow, standIns := [], harness := (true, "f05e2087a27c0e189a7b4d19cc326184e53b204831fdb64da88a6274a13d3847"), looks := false }, kinds := [], alts := [], laidByText := true, laidKinds := [.data, .data], laidTests := true, laidLooks := .later }
def GroupSquaresUptoCardSaid : Prop := Claim7.holds Tryd.pinned (.plain (OpenSpec.upto groupSquaresSpec)) groupSquaresUptoCard

/-- THE SECOND FORM's CARD OF 'acequialaw10.GroupInverse'. -/
def groupInverseUptoCard : Claim7 := { stood := { row := groupInverseUptoRow, standIns := [], harness := (true, "f05e2087a27c0e189a7b4d19cc326184e53b204831fdb64da88a6274a13d3847"), looks := false }, kinds := [], alts := [], laidByText := true, laidKinds := [.data, .data], laidTests := true, laidLooks := .later }
def GroupInverseUptoCardSaid : Prop := Claim7.holds Tryd.pinned (.plain (OpenSpec.upto groupInverseSpec)) groupInverseUptoCard

/-- THE SECOND FORM's CARD OF 'acequialaw10.GroupHash'. -/
def groupHashUptoCard : Claim7 := { stood := { row := groupHashUptoRow, standIns := [], harness := (true, "f05e2087a27c0e189a7b4d19cc326184e53b204831fdb64da88a6274a13d3847"), looks := false }, kinds := [], alts := [], laidByText := true, laidKinds := [.data, .data, .data], laidTests := true, laidLooks := .later }
def GroupHashUptoCardSaid : Prop := Claim7.holds Tryd.pinned (.plain (OpenSpec.upto groupHashSpec)) groupHashUptoCard
end Rows
end Go.Proofs.YtbkjjehfidnagaaDoor
