/-
  DERIVED. GIVEN WITH THE SEED: THE CARDS: each row of YtfpiepephljmgaaDoorRows.lean that lists a variable, with what it lists TIED to the program's text (the seventh form; the later family's looks); each row that meets fmt, with fmt's text TOLD by the authors' own Lean function (tested against real Go, not proved from fmt's source: count such statements apart). THE CARD IS WHAT COUNTS. Prove the row's statement (the work); the ties are given (YtfpiepephljmgaaDoorTie.lean); close each card by the builder's one call (the guide's Derived/Test/ToyasCard.lean, 'card_holds'). Laid BY PROGRAM, IN A SANDBOX (cutbox-door.mjs). By AI agents, Wed Nov 11 2026. No macro, syntax, notation, axiom, sorry.
-/
import Derived.Test.YtfpiepephljmgaaDoorRows
import GoSem.ClaimSeven
namespace Go.Proofs.YtfpiepephljmgaaDoor
namespace Rows

/-- THE TIED CARD OF 'syzygylaw07.GuardTells'. -/
def guardTellsCard : Claim7 := { stood := { row := guardTellsRow, standIns := [], harness := (true, "522f4904b36bbf86a7cf564c9c9ef32f2db745b88f624b1e8f526301788dead3"), looks := false }, kinds := [], alts := [], laidByText := true, laidKinds := [.data], laidTests := true, laidLooks := .later }
def GuardTellsCardSaid : Prop := Claim7.holds Tryd.pinned (.plain (OpenSpec.ofChange guardTellsSpec)) guardTellsCard

/-- THE TIED CARD OF 'syzygylaw07.GuardBack'. -/
def guardBackCard : Claim7 := { stood := { row := guardBackRow, standIns := [], harness := (true, "522f4904b36bbf86a7cf564c9c9ef32f2db745b88f624b1e8f526301788dead3"), looks := false }, kinds := [], alts := [], laidByText := true, laidKinds := [.data], laidTests := true, laidLooks := .later }
def GuardBackCardSaid : Prop := Claim7.holds Tryd.pinned (.plain (OpenSpec.ofChange guardBackSpec)) guardBackCard

/-- THE TIED CARD OF 'syzygylaw07.GuardTurned'. -/
def guardTurnedCard : Claim7 := { stood := { row := guardTurnedRow, standIns := [], harness := (true, "522f4904b36bbf86a7cf564c9c9ef32f2db745b88f624b1e8f526301788dead3"), looks := false }, kinds := [], alts := [], laidByText := true, laidKinds := [.data], laidTests := true, laidLooks := .later }
def GuardTurnedCardSaid : Prop := Claim7.holds Tryd.pinned (.plain (OpenSpec.ofChange guardTurnedSpec)) guardTurnedCard

/-- THE TIED CARD OF 'syzygylaw07.GuardOrder'. -/
def guardOrderCard : Claim7 := { stood := { row := guardOrderRow, standIns := [], harness := (true, "522f4904b36bbf86a7cf564c9c9ef32f2db745b88f624b1e8f526301788dead3"), looks := false }, kinds := [], alts := [], laidByText := true, laidKinds := [.data], laidTests := true, laidLooks := .later }
def GuardOrderCardSaid : Prop := Claim7.holds Tryd.pinned (.plain (OpenSpec.ofChange guardOrderSpec)) guardOrderCard

/-- THE TIED CARD OF 'syzygylaw07.GuardLinear'. -/
def guardLinearCard : Claim7 := { stood := { row := guardLinearRow, standIns := [], harness := (true, "522f4904b36bbf86a7cf564c9c9ef32f2db745b88f624b1e8f526301788dead3"), looks := false }, kinds := [], alts := [], laidByText := true, laidKinds := [.data], laidTests := true, laidLooks := .later }
def GuardLinearCardSaid : Prop := Claim7.holds Tryd.pinned (.plain (OpenSpec.ofChange guardLinearSpec)) guardLinearCard

/-- THE TIED CARD OF 'syzygylaw07.GuardCut'. -/
def guardCutCard : Claim7 := { stood := { row := guardCutRow, standIns := [], harness := (true, "522f4904b36bbf86a7cf564c9c9ef32f2db745b88f624b1e8f526301788dead3"), looks := false }, kinds := [], alts := [], laidByText := true, laidKinds := [.data], laidTests := true, laidLooks := .later }
def GuardCutCardSaid : Prop := Claim7.holds Tryd.pinned (.plain (OpenSpec.ofChange guardCutSpec)) guardCutCard

/-- THE TIED CARD OF 'syzygylaw07.GuardNone'. -/
def guardNoneCard : Claim7 := { stood := { row := guardNoneRow, standIns := [], harness := (true, "522f4904b36bbf86a7cf564c9c9ef32f2db745b88f624b1e8f526301788dead3"), looks := false }, kinds := [], alts := [], laidByText := true, laidKinds := [.data], laidTests := true, laidLooks := .later }
def GuardNoneCardSaid : Prop := Claim7.holds Tryd.pinned (.plain (OpenSpec.ofChange guardNoneSpec)) guardNoneCard

/-- THE SECOND FORM's CARD OF 'syzygylaw07.GuardTells'. -/
def guardTellsUptoCard : Claim7 := { stood := { row := guardTellsUptoRow, standIns := [], harness := (true, "522f4904b36bbf86a7cf564c9c9ef32f2db745b88f624b1e8f526301788dead3"), looks := false }, kinds := [], alts := [], laidByText := true, laidKinds := [.data], laidTests := true, laidLooks := .later }
def GuardTellsUptoCardSaid : Prop := Claim7.holds Tryd.pinned (.plain (OpenSpec.upto guardTellsSpec)) guardTellsUptoCard

/-- THE SECOND FORM's CARD OF 'syzygylaw07.GuardBack'. -/
def guardBackUptoCard : Claim7 := { stood := { row := guardBackUptoRow, standIns := [], harness := (true, "522f4904b36bbf86a7cf564c9c9ef32f2db745b88f624b1e8f526301788dead3"), looks := false }, kinds := [], alts := [], laidByText := true, laidKinds := [.data], laidTests := true, laidLooks := .later }
def GuardBackUptoCardSaid : Prop := Claim7.holds Tryd.pinned (.plain (OpenSpec.upto guardBackSpec)) guardBackUptoCard

/-- THE SECOND FORM's CARD OF 'syzygylaw07.GuardTurned'. -/
def guardTurnedUptoCard : Claim7 := { stood := { row := guardTurnedUptoRow, standIns := [], harness := (true, "522f4904b36bbf86a7cf564c9c9ef32f2db745b88f624b1e8f526301788dead3"), looks := false }, kinds := [], alts := [], laidByText := true, laidKinds := [.data], laidTests := true, laidLooks := .later }
def GuardTurnedUptoCardSaid : Prop := Claim7.holds Tryd.pinned (.plain (OpenSpec.upto guardTurnedSpec)) guardTurnedUptoCard

/-- THE SECOND FORM's CARD OF 'syzygylaw07.GuardOrder'. -/
def guardOrderUptoCard : Claim7 := { stood := { row := guardOrderUptoRow, standIns := [], harness := (true, "522f4904b36bbf86a7cf564c9c9ef32f2db745b88f624b1e8f526301788dead3"), looks := false }, kinds := [], alts := [], laidByText := true, laidKinds := [.data], laidTests := true, laidLooks := .later }
def GuardOrderUptoCardSaid : Prop := Claim7.holds Tryd.pinned (.plain (OpenSpec.upto guardOrderSpec)) guardOrderUptoCard

/-- THE SECOND FORM's CARD OF 'syzygylaw07.GuardLinear'. -/
def guardLinearUptoCard : Claim7 := { stood := { row := guardLinearUptoRow, standIns := [], harness := (true, "522f4904b36bbf86a7cf564c9c9ef32f2db745b88f624b1e8f526301788dead3"), looks := false }, kinds := [], alts := [], laidByText := true, laidKinds := [.data], laidTests := true, laidLooks := .later }
def GuardLinearUptoCardSaid : Prop := Claim7.holds Tryd.pinned (.plain (OpenSpec.upto guardLinearSpec)) guardLinearUptoCard

/-- THE SECOND FORM's CARD OF 'syzygylaw07.GuardCut'. -/
def guardCutUptoCard : Claim7 := { stood := { row := guardCutUptoRow, standIns := [], harness := (true, "522f4904b36bbf86a7cf564c9c9ef32f2db745b88f624b1e8f526301788dead3"), looks := false }, kinds := [], alts := [], laidByText := true, laidKinds := [.data], laidTests := true, laidLooks := .later }
def GuardCutUptoCardSaid : Prop := Claim7.holds Tryd.pinned (.plain (OpenSpec.upto guardCutSpec)) guardCutUptoCard

/-- THE SECOND FORM's CARD OF 'syzygylaw07.GuardNone'. -/
def guardNoneUptoCard : Claim7 := { stood := { row := guardNoneUptoRow, standIns := [], harness := (true, "522f4904b36bbf86a7cf564c9c9ef32f2db745b88f624b1e8f526301788dead3"), looks := false }, kinds := [], alts := [], laidByText := true, laidKinds := [.data], laidTests := true, laidLooks := .later }
def GuardNoneUptoCardSaid : Prop := Claim7.holds Tryd.pinned (.plain (OpenSpec.upto guardNoneSpec)) guardNoneUptoCard
end Rows
end Go.Proofs.YtfpiepephljmgaaDoor
