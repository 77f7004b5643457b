/-
  DERIVED. GIVEN WITH THE SEED: THE CARDS: each row of YtghnmfkgpkikfaaDoorRows.lean that lists a variable, with what it lists TIED to the program's text (the seventh form; the later family's looks); each row that meets fmt, with fmt's text TOLD by the authors' own Lean function (tested against real Go, not proved from fmt's source: count such statements apart). THE CARD IS WHAT COUNTS. Prove the row's statement (the work); the ties are given (YtghnmfkgpkikfaaDoorTie.lean); close each card by the builder's one call (the guide's Derived/Test/ToyasCard.lean, 'card_holds'). Laid BY PROGRAM, IN A SANDBOX (cutbox-door.mjs). By AI agents, Wed Nov 11 2026. No macro, syntax, notation, axiom, sorry.
-/
import Derived.Test.YtghnmfkgpkikfaaDoorRows
import GoSem.ClaimSeven
namespace Go.Proofs.YtghnmfkgpkikfaaDoor
namespace Rows

/-- THE TIED CARD OF 'syzygylaw04.DigitCounts'. -/
def digitCountsCard : Claim7 := { stood := { row := digitCountsRow, standIns := [], harness := (true, "a41532d1ee9d1d2714b6ea86556d82ea805e5afbd7d1308c804a53d5cf1e4775"), looks := false }, kinds := [], alts := [], laidByText := true, laidKinds := [.data, .data, .data, .data, .pinned], laidTests := true, laidLooks := .later }
def DigitCountsCardSaid : Prop := Claim7.holds Tryd.pinned (.plain (OpenSpec.ofChange digitCountsSpec)) digitCountsCard

/-- THE TIED CARD OF 'syzygylaw04.DigitZeros'. -/
def digitZerosCard : Claim7 := { stood := { row := digitZerosRow, standIns := [], harness := (true, "a41532d1ee9d1d2714b6ea86556d82ea805e5afbd7d1308c804a53d5cf1e4775"), looks := false }, kinds := [], alts := [], laidByText := true, laidKinds := [.data, .data, .data, .data, .pinned], laidTests := true, laidLooks := .later }
def DigitZerosCardSaid : Prop := Claim7.holds Tryd.pinned (.plain (OpenSpec.ofChange digitZerosSpec)) digitZerosCard

/-- THE TIED CARD OF 'syzygylaw04.DigitOrder'. -/
def digitOrderCard : Claim7 := { stood := { row := digitOrderRow, standIns := [], harness := (true, "a41532d1ee9d1d2714b6ea86556d82ea805e5afbd7d1308c804a53d5cf1e4775"), looks := false }, kinds := [], alts := [], laidByText := true, laidKinds := [.data, .data, .data, .data, .pinned], laidTests := true, laidLooks := .later }
def DigitOrderCardSaid : Prop := Claim7.holds Tryd.pinned (.plain (OpenSpec.ofChange digitOrderSpec)) digitOrderCard

/-- THE SECOND FORM's CARD OF 'syzygylaw04.DigitCounts'. -/
def digitCountsUptoCard : Claim7 := { stood := { row := digitCountsUptoRow, standIns := [], harness := (true, "a41532d1ee9d1d2714b6ea86556d82ea805e5afbd7d1308c804a53d5cf1e4775"), looks := false }, kinds := [], alts := [], laidByText := true, laidKinds := [.data, .data, .data, .data, .pinned], laidTests := true, laidLooks := .later }
def DigitCountsUptoCardSaid : Prop := Claim7.holds Tryd.pinned (.plain (OpenSpec.upto digitCountsSpec)) digitCountsUptoCard

/-- THE SECOND FORM's CARD OF 'syzygylaw04.DigitZeros'. -/
def digitZerosUptoCard : Claim7 := { stood := { row := digitZerosUptoRow, standIns := [], harness := (true, "a41532d1ee9d1d2714b6ea86556d82ea805e5afbd7d1308c804a53d5cf1e4775"), looks := false }, kinds := [], alts := [], laidByText := true, laidKinds := [.data, .data, .data, .data, .pinned], laidTests := true, laidLooks := .later }
def DigitZerosUptoCardSaid : Prop := Claim7.holds Tryd.pinned (.plain (OpenSpec.upto digitZerosSpec)) digitZerosUptoCard

/-- THE SECOND FORM's CARD OF 'syzygylaw04.DigitOrder'. -/
def digitOrderUptoCard : Claim7 := { stood := { row := digitOrderUptoRow, standIns := [], harness := (true, "a41532d1ee9d1d2714b6ea86556d82ea805e5afbd7d1308c804a53d5cf1e4775"), looks := false }, kinds := [], alts := [], laidByText := true, laidKinds := [.data, .data, .data, .data, .pinned], laidTests := true, laidLooks := .later }
def DigitOrderUptoCardSaid : Prop := Claim7.holds Tryd.pinned (.plain (OpenSpec.upto digitOrderSpec)) digitOrderUptoCard
end Rows
end Go.Proofs.YtghnmfkgpkikfaaDoor
