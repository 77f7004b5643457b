/-
  DERIVED. GIVEN WITH THE SEED: THE CARDS: each row of YtghnmfkgpkikfaaGreatDoorRows.lean that lists a variable, with what it lists TIED to the program's text (the seventh form; the later family's looks); each row that meets fmt, with fmt's text TOLD by the authors' own Lean function (tested against real Go, not proved from fmt's source: count such statements apart). THE CARD IS WHAT COUNTS. Prove the row's statement (the work); the ties are given (YtghnmfkgpkikfaaGreatDoorTie.lean); close each card by the builder's one call (the guide's Derived/Test/ToyasCard.lean, 'card_holds'). Laid BY PROGRAM, IN A SANDBOX (cutbox-door.mjs). By AI agents, Wed Nov 11 2026. No macro, syntax, notation, axiom, sorry.
-/
import Derived.Test.YtghnmfkgpkikfaaGreatDoorRows
import GoSem.ClaimSeven
namespace Go.Proofs.YtghnmfkgpkikfaaGreatDoor
namespace Rows

/-- THE TIED CARD OF 'syzygylaw04.DigitTells'. -/
def digitTellsCard : Claim7 := { stood := { row := digitTellsRow, standIns := [], harness := (true, "d54ec26e70dca278c472b212e26825abcfcaaa9714452218d76aae3be4c190d7"), looks := false }, kinds := [], alts := [], laidByText := true, laidKinds := [.data, .data, .data, .data, .pinned], laidTests := true, laidLooks := .later }
def DigitTellsCardSaid : Prop := Claim7.holds Tryz.pinned (.plain (OpenSpec.ofChange digitTellsSpec)) digitTellsCard

/-- THE TIED CARD OF 'syzygylaw04.DigitParses'. -/
def digitParsesCard : Claim7 := { stood := { row := digitParsesRow, standIns := [], harness := (true, "d54ec26e70dca278c472b212e26825abcfcaaa9714452218d76aae3be4c190d7"), looks := false }, kinds := [], alts := [], laidByText := true, laidKinds := [.data, .data, .data, .data, .pinned], laidTests := true, laidLooks := .later }
def DigitParsesCardSaid : Prop := Claim7.holds Tryz.pinned (.plain (OpenSpec.ofChange digitParsesSpec)) digitParsesCard

/-- THE TIED CARD OF 'syzygylaw04.DigitBack'. -/
def digitBackCard : Claim7 := { stood := { row := digitBackRow, standIns := [], harness := (true, "d54ec26e70dca278c472b212e26825abcfcaaa9714452218d76aae3be4c190d7"), looks := false }, kinds := [], alts := [], laidByText := true, laidKinds := [.data, .data, .data, .data, .pinned], laidTests := true, laidLooks := .later }
def DigitBackCardSaid : Prop := Claim7.holds Tryz.pinned (.plain (OpenSpec.ofChange digitBackSpec)) digitBackCard

/-- THE TIED CARD OF 'syzygylaw04.DigitMore'. -/
def digitMoreCard : Claim7 := { stood := { row := digitMoreRow, standIns := [], harness := (true, "d54ec26e70dca278c472b212e26825abcfcaaa9714452218d76aae3be4c190d7"), looks := false }, kinds := [], alts := [], laidByText := true, laidKinds := [.data, .data, .data, .data, .pinned], laidTests := true, laidLooks := .later }
def DigitMoreCardSaid : Prop := Claim7.holds Tryz.pinned (.plain (OpenSpec.ofChange digitMoreSpec)) digitMoreCard

/-- THE SECOND FORM's CARD OF 'syzygylaw04.DigitTells'. -/
def digitTellsUptoCard : Claim7 := { stood := { row := digitTellsUptoRow, standIns := [], harness := (true, "d54ec26e70dca278c472b212e26825abcfcaaa9714452218d76aae3be4c190d7"), looks := false }, kinds := [], alts := [], laidByText := true, laidKinds := [.data, .data, .data, .data, .pinned], laidTests := true, laidLooks := .later }
def DigitTellsUptoCardSaid : Prop := Claim7.holds Tryz.pinned (.plain (OpenSpec.upto digitTellsSpec)) digitTellsUptoCard

/-- THE SECOND FORM's CARD OF 'syzygylaw04.DigitParses'. -/
def digitParsesUptoCard : Claim7 := { stood := { row := digitParsesUptoRow, standIns := [], harness := (true, "d54ec26e70dca278c472b212e26825abcfcaaa9714452218d76aae3be4c190d7"), looks := false }, kinds := [], alts := [], laidByText := true, laidKinds := [.data, .data, .data, .data, .pinned], laidTests := true, laidLooks := .later }
def DigitParsesUptoCardSaid : Prop := Claim7.holds Tryz.pinned (.plain (OpenSpec.upto digitParsesSpec)) digitParsesUptoCard

/-- THE SECOND FORM's CARD OF 'syzygylaw04.DigitBack'. -/
def digitBackUptoCard : Claim7 := { stood := { row := digitBackUptoRow, standIns := [], harness := (true, "d54ec26e70dca278c472b212e26825abcfcaaa9714452218d76aae3be4c190d7"), looks := false }, kinds := [], alts := [], laidByText := true, laidKinds := [.data, .data, .data, .data, .pinned], laidTests := true, laidLooks := .later }
def DigitBackUptoCardSaid : Prop := Claim7.holds Tryz.pinned (.plain (OpenSpec.upto digitBackSpec)) digitBackUptoCard

/-- THE SECOND FORM's CARD OF 'syzygylaw04.DigitMore'. -/
def digitMoreUptoCard : Claim7 := { stood := { row := digitMoreUptoRow, standIns := [], harness := (true, "d54ec26e70dca278c472b212e26825abcfcaaa9714452218d76aae3be4c190d7"), looks := false }, kinds := [], alts := [], laidByText := true, laidKinds := [.data, .data, .data, .data, .pinned], laidTests := true, laidLooks := .later }
def DigitMoreUptoCardSaid : Prop := Claim7.holds Tryz.pinned (.plain (OpenSpec.upto digitMoreSpec)) digitMoreUptoCard
end Rows
end Go.Proofs.YtghnmfkgpkikfaaGreatDoor
