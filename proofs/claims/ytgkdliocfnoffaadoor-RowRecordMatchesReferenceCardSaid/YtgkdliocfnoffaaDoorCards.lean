/-
  DERIVED. GIVEN WITH THE SEED: THE CARDS: each row of YtgkdliocfnoffaaDoorRows.lean that lists a variable, with what it lists TIED to the program's text (the seventh form; the later family's looks); each row that meets fmt, with fmt's text TOLD by the authors' own Lean function (tested against real Go, not proved from fmt's source: count such statements apart). THE CARD IS WHAT COUNTS. Prove the row's statement (the work); the ties are given (YtgkdliocfnoffaaDoorTie.lean); close each card by the builder's one call (the guide's Derived/Test/ToyasCard.lean, 'card_holds'). Laid BY PROGRAM, IN A SANDBOX (cutbox-door.mjs). By AI agents, Wed Nov 11 2026. No macro, syntax, notation, axiom, sorry.
-/
import Derived.Test.YtgkdliocfnoffaaDoorRows
import GoSem.ClaimSeven
namespace Go.Proofs.YtgkdliocfnoffaaDoor
namespace Rows

/-- THE TIED CARD OF 'cachetierlaw03.RowMatchesReference'. -/
def rowMatchesReferenceCard : Claim7 := { stood := { row := rowMatchesReferenceRow, standIns := [], harness := (true, "c041401e00657304649228966b9e0074c639946f514e792ed6a7c1ad9fb6b405"), looks := true }, kinds := [], alts := [], laidByText := true, laidKinds := [.sentinel, .sentinel], laidTests := true, laidLooks := .later }
def RowMatchesReferenceCardSaid : Prop := Claim7.holds Tryd.pinned (.plain (OpenSpec.ofChange rowMatchesReferenceSpec)) rowMatchesReferenceCard

/-- THE TIED CARD OF 'cachetierlaw03.RowRecordMatchesReference'. -/
def rowRecordMatchesReferenceCard : Claim7 := { stood := { row := rowRecordMatchesReferenceRow, standIns := [], harness := (true, "c041401e00657304649228966b9e0074c639946f514e792ed6a7c1ad9fb6b405"), looks := true }, kinds := [], alts := [], laidByText := true, laidKinds := [.sentinel, .sentinel], laidTests := true, laidLooks := .later }
def RowRecordMatchesReferenceCardSaid : Prop := Claim7.holds Tryd.pinned (.plain (OpenSpec.ofChange rowRecordMatchesReferenceSpec)) rowRecordMatchesReferenceCard

/-- THE TIED CARD OF 'cachetierlaw03.RowRoundTrip'. -/
def rowRoundTripCard : Claim7 := { stood := { row := rowRoundTripRow, standIns := [], harness := (true, "c041401e00657304649228966b9e0074c639946f514e792ed6a7c1ad9fb6b405"), looks := true }, kinds := [], alts := [], laidByText := true, laidKinds := [.sentinel, .sentinel], laidTests := true, laidLooks := .later }
def RowRoundTripCardSaid : Prop := Claim7.holds Tryd.pinned (.plain (OpenSpec.ofChange rowRoundTripSpec)) rowRoundTripCard

/-- THE TIED CARD OF 'cachetierlaw03.RowRecordRoundTrip'. -/
def rowRecordRoundTripCard : Claim7 := { stood := { row := rowRecordRoundTripRow, standIns := [], harness := (true, "c041401e00657304649228966b9e0074c639946f514e792ed6a7c1ad9fb6b405"), looks := true }, kinds := [], alts := [], laidByText := true, laidKinds := [.sentinel, .sentinel], laidTests := true, laidLooks := .later }
def RowRecordRoundTripCardSaid : Prop := Claim7.holds Tryd.pinned (.plain (OpenSpec.ofChange rowRecordRoundTripSpec)) rowRecordRoundTripCard

/-- THE TIED CARD OF 'cachetierlaw03.RowDecodedAgain'. -/
def rowDecodedAgainCard : Claim7 := { stood := { row := rowDecodedAgainRow, standIns := [], harness := (true, "c041401e00657304649228966b9e0074c639946f514e792ed6a7c1ad9fb6b405"), looks := true }, kinds := [], alts := [], laidByText := true, laidKinds := [.sentinel, .sentinel], laidTests := true, laidLooks := .later }
def RowDecodedAgainCardSaid : Prop := Claim7.holds Tryd.pinned (.plain (OpenSpec.ofChange rowDecodedAgainSpec)) rowDecodedAgainCard

/-- THE TIED CARD OF 'cachetierlaw03.RowPrefixes'. -/
def rowPrefixesCard : Claim7 := { stood := { row := rowPrefixesRow, standIns := [], harness := (true, "c041401e00657304649228966b9e0074c639946f514e792ed6a7c1ad9fb6b405"), looks := true }, kinds := [], alts := [], laidByText := true, laidKinds := [.sentinel, .sentinel], laidTests := true, laidLooks := .later }
def RowPrefixesCardSaid : Prop := Claim7.holds Tryd.pinned (.plain (OpenSpec.ofChange rowPrefixesSpec)) rowPrefixesCard

/-- THE TIED CARD OF 'cachetierlaw03.RowChanges'. -/
def rowChangesCard : Claim7 := { stood := { row := rowChangesRow, standIns := [], harness := (true, "c041401e00657304649228966b9e0074c639946f514e792ed6a7c1ad9fb6b405"), looks := true }, kinds := [], alts := [], laidByText := true, laidKinds := [.sentinel, .sentinel], laidTests := true, laidLooks := .later }
def RowChangesCardSaid : Prop := Claim7.holds Tryd.pinned (.plain (OpenSpec.ofChange rowChangesSpec)) rowChangesCard

/-- THE TIED CARD OF 'cachetierlaw03.RowOrder'. -/
def rowOrderCard : Claim7 := { stood := { row := rowOrderRow, standIns := [], harness := (true, "c041401e00657304649228966b9e0074c639946f514e792ed6a7c1ad9fb6b405"), looks := true }, kinds := [], alts := [], laidByText := true, laidKinds := [.sentinel, .sentinel], laidTests := true, laidLooks := .later }
def RowOrderCardSaid : Prop := Claim7.holds Tryd.pinned (.plain (OpenSpec.ofChange rowOrderSpec)) rowOrderCard

/-- THE TIED CARD OF 'cachetierlaw03.RowInverse'. -/
def rowInverseCard : Claim7 := { stood := { row := rowInverseRow, standIns := [], harness := (true, "c041401e00657304649228966b9e0074c639946f514e792ed6a7c1ad9fb6b405"), looks := true }, kinds := [], alts := [], laidByText := true, laidKinds := [.sentinel, .sentinel], laidTests := true, laidLooks := .later }
def RowInverseCardSaid : Prop := Claim7.holds Tryd.pinned (.plain (OpenSpec.ofChange rowInverseSpec)) rowInverseCard

/-- THE SECOND FORM's CARD OF 'cachetierlaw03.RowMatchesReference'. -/
def rowMatchesReferenceUptoCard : Claim7 := { stood := { row := rowMatchesReferenceUptoRow, standIns := [], harness := (true, "c041401e00657304649228966b9e0074c639946f514e792ed6a7c1ad9fb6b405"), looks := true }, kinds := [], alts := [], laidByText := true, laidKinds := [.sentinel, .sentinel], laidTests := true, laidLooks := .later }
def RowMatchesReferenceUptoCardSaid : Prop := Claim7.holds Tryd.pinned (.plain (OpenSpec.upto rowMatchesReferenceSpec)) rowMatchesReferenceUptoCard

/-- THE SECOND FORM's CARD OF 'cachetierlaw03.RowRecordMatchesReference'. -/
def rowRecordMatchesReferenceUptoCard : Claim7 := { stood := { row := rowRecordMatchesReferenceUptoRow, standIns := [], harness := (true, "c041401e00657304649228966b9e0074c639946f514e792ed6a7c1ad9fb6b405"), looks := true }, kinds := [], alts := [], laidByText := true, laidKinds := [.sentinel, .sentinel], laidTests := true, laidLooks := .later }
def RowRecordMatchesReferenceUptoCardSaid : Prop := Claim7.holds Tryd.pinned (.plain (OpenSpec.upto rowRecordMatchesReferenceSpec)) rowRecordMatchesReferenceUptoCard

/-- THE SECOND FORM's CARD OF 'cachetierlaw03.RowRoundTrip'. -/
def rowRoundTripUptoCard : Claim7 := { stood := { row := rowRoundTripUptoRow, standIns := [], harness := (true, "c041401e00657304649228966b9e0074c639946f514e792ed6a7c1ad9fb6b405"), looks := true }, kinds := [], alts := [], laidByText := true, laidKinds := [.sentinel, .sentinel], laidTests := true, laidLooks := .later }
def RowRoundTripUptoCardSaid : Prop := Claim7.holds Tryd.pinned (.plain (OpenSpec.upto rowRoundTripSpec)) rowRoundTripUptoCard

/-- THE SECOND FORM's CARD OF 'cachetierlaw03.RowRecordRoundTrip'. -/
def rowRecordRoundTripUptoCard : Claim7 := { stood := { row := rowRecordRoundTripUptoRow, standIns := [], harness := (true, "c041401e00657304649228966b9e0074c639946f514e792ed6a7c1ad9fb6b405"), looks := true }, kinds := [], alts := [], laidByText := true, laidKinds := [.sentinel, .sentinel], laidTests := true, laidLooks := .later }
def RowRecordRoundTripUptoCardSaid : Prop := Claim7.holds Tryd.pinned (.plain (OpenSpec.upto rowRecordRoundTripSpec)) rowRecordRoundTripUptoCard

/-- THE SECOND FORM's CARD OF 'cachetierlaw03.RowDecodedAgain'. -/
def rowDecodedAgainUptoCard : Claim7 := { stood := { row := rowDecodedAgainUptoRow, standIns := [], harness := (true, "c041401e00657304649228966b9e0074c639946f514e792ed6a7c1ad9fb6b405"), looks := true }, kinds := [], alts := [], laidByText := true, laidKinds := [.sentinel, .sentinel], laidTests := true, laidLooks := .later }
def RowDecodedAgainUptoCardSaid : Prop := Claim7.holds Tryd.pinned (.plain (OpenSpec.upto rowDecodedAgainSpec)) rowDecodedAgainUptoCard

/-- THE SECOND FORM's CARD OF 'cachetierlaw03.RowPrefixes'. -/
def rowPrefixesUptoCard : Claim7 := { stood := { row := rowPrefixesUptoRow, standIns := [], harness := (true, "c041401e00657304649228966b9e0074c639946f514e792ed6a7c1ad9fb6b405"), looks := true }, kinds := [], alts := [], laidByText := true, laidKinds := [.sentinel, .sentinel], laidTests := true, laidLooks := .later }
def RowPrefixesUptoCardSaid : Prop := Claim7.holds Tryd.pinned (.plain (OpenSpec.upto rowPrefixesSpec)) rowPrefixesUptoCard

/-- THE SECOND FORM's CARD OF 'cachetierlaw03.RowChanges'. -/
def rowChangesUptoCard : Claim7 := { stood := { row := rowChangesUptoRow, standIns := [], harness := (true, "c041401e00657304649228966b9e0074c639946f514e792ed6a7c1ad9fb6b405"), looks := true }, kinds := [], alts := [], laidByText := true, laidKinds := [.sentinel, .sentinel], laidTests := true, laidLooks := .later }
def RowChangesUptoCardSaid : Prop := Claim7.holds Tryd.pinned (.plain (OpenSpec.upto rowChangesSpec)) rowChangesUptoCard

/-- THE SECOND FORM's CARD OF 'cachetierlaw03.RowOrder'. -/
def rowOrderUptoCard : Claim7 := { stood := { row := rowOrderUptoRow, standIns := [], harness := (true, "c041401e00657304649228966b9e0074c639946f514e792ed6a7c1ad9fb6b405"), looks := true }, kinds := [], alts := [], laidByText := true, laidKinds := [.sentinel, .sentinel], laidTests := true, laidLooks := .later }
def RowOrderUptoCardSaid : Prop := Claim7.holds Tryd.pinned (.plain (OpenSpec.upto rowOrderSpec)) rowOrderUptoCard

/-- THE SECOND FORM's CARD OF 'cachetierlaw03.RowInverse'. -/
def rowInverseUptoCard : Claim7 := { stood := { row := rowInverseUptoRow, standIns := [], harness := (true, "c041401e00657304649228966b9e0074c639946f514e792ed6a7c1ad9fb6b405"), looks := true }, kinds := [], alts := [], laidByText := true, laidKinds := [.sentinel, .sentinel], laidTests := true, laidLooks := .later }
def RowInverseUptoCardSaid : Prop := Claim7.holds Tryd.pinned (.plain (OpenSpec.upto rowInverseSpec)) rowInverseUptoCard
end Rows
end Go.Proofs.YtgkdliocfnoffaaDoor
