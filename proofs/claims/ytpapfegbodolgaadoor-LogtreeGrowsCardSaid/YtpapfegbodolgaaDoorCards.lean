/-
  DERIVED. GIVEN WITH THE SEED: THE CARDS: each row of YtpapfegbodolgaaDoorRows.lean that lists a variable, with what it lists TIED to the program's text (the seventh form; the later family's looks); each row that meets fmt, with fmt's text TOLD by the authors' own Lean function (tested against real Go, not proved from fmt's source: count such statements apart). THE CARD IS WHAT COUNTS. Prove the row's statement (the work); the ties are given (YtpapfegbodolgaaDoorTie.lean); close each card by the builder's one call (the guide's Derived/Test/ToyasCard.lean, 'card_holds'). Laid BY PROGRAM, IN A SANDBOX (cutbox-door.mjs). By AI agents, Wed Nov 11 2026. No macro, syntax, notation, axiom, sorry.
-/
import Derived.Test.YtpapfegbodolgaaDoorRows
import GoSem.ClaimSeven
namespace Go.Proofs.YtpapfegbodolgaaDoor
namespace Rows

/-- THE TIED CARD OF 'cachetierlaw09.LogtreeRoundTrip'. -/
def logtreeRoundTripCard : Claim7 := { stood := { row := logtreeRoundTripRow, standIns := [], harness := (true, "fa1b7981d0091488b48cbfc5584c39c1862b4e97b8170e64fe97c4ff40d74132"), looks := false }, kinds := [], alts := [], laidByText := true, laidKinds := [.data, .data], laidTests := true, laidLooks := .later }
def LogtreeRoundTripCardSaid : Prop := Claim7.holds Tryd.pinned (.plain (OpenSpec.ofChange logtreeRoundTripSpec)) logtreeRoundTripCard

/-- THE TIED CARD OF 'cachetierlaw09.LogtreeBinding'. -/
def logtreeBindingCard : Claim7 := { stood := { row := logtreeBindingRow, standIns := [], harness := (true, "fa1b7981d0091488b48cbfc5584c39c1862b4e97b8170e64fe97c4ff40d74132"), looks := false }, kinds := [], alts := [], laidByText := true, laidKinds := [.data, .data], laidTests := true, laidLooks := .later }
def LogtreeBindingCardSaid : Prop := Claim7.holds Tryd.pinned (.plain (OpenSpec.ofChange logtreeBindingSpec)) logtreeBindingCard

/-- THE TIED CARD OF 'cachetierlaw09.LogtreeGrows'. -/
def logtreeGrowsCard : Claim7 := { stood := { row := logtreeGrowsRow, standIns := [], harness := (true, "fa1b7981d0091488b48cbfc5584c39c1862b4e97b8170e64fe97c4ff40d74132"), looks := false }, kinds := [], alts := [], laidByText := true, laidKinds := [.data, .data], laidTests := true, laidLooks := .later }
def LogtreeGrowsCardSaid : Prop := Claim7.holds Tryd.pinned (.plain (OpenSpec.ofChange logtreeGrowsSpec)) logtreeGrowsCard

/-- THE TIED CARD OF 'cachetierlaw09.LogtreeOwns'. -/
def logtreeOwnsCard : Claim7 := { stood := { row := logtreeOwnsRow, standIns := [], harness := (true, "fa1b7981d0091488b48cbfc5584c39c1862b4e97b8170e64fe97c4ff40d74132"), looks := false }, kinds := [], alts := [], laidByText := true, laidKinds := [.data, .data], laidTests := true, laidLooks := .later }
def LogtreeOwnsCardSaid : Prop := Claim7.holds Tryd.pinned (.plain (OpenSpec.ofChange logtreeOwnsSpec)) logtreeOwnsCard

/-- THE SECOND FORM's CARD OF 'cachetierlaw09.LogtreeRoundTrip'. -/
def logtreeRoundTripUptoCard : Claim7 := { stood := { row := logtreeRoundTripUptoRow, standIns := [], harness := (true, "fa1b7981d0091488b48cbfc5584c39c1862b4e97b8170e64fe97c4ff40d74132"), looks := false }, kinds := [], alts := [], laidByText := true, laidKinds := [.data, .data], laidTests := true, laidLooks := .later }
def LogtreeRoundTripUptoCardSaid : Prop := Claim7.holds Tryd.pinned (.plain (OpenSpec.upto logtreeRoundTripSpec)) logtreeRoundTripUptoCard

/-- THE SECOND FORM's CARD OF 'cachetierlaw09.LogtreeBinding'. -/
def logtreeBindingUptoCard : Claim7 := { stood := { row := logtreeBindingUptoRow, standIns := [], harness := (true, "fa1b7981d0091488b48cbfc5584c39c1862b4e97b8170e64fe97c4ff40d74132"), looks := false }, kinds := [], alts := [], laidByText := true, laidKinds := [.data, .data], laidTests := true, laidLooks := .later }
def LogtreeBindingUptoCardSaid : Prop := Claim7.holds Tryd.pinned (.plain (OpenSpec.upto logtreeBindingSpec)) logtreeBindingUptoCard

/-- THE SECOND FORM's CARD OF 'cachetierlaw09.LogtreeGrows'. -/
def logtreeGrowsUptoCard : Claim7 := { stood := { row := logtreeGrowsUptoRow, standIns := [], harness := (true, "fa1b7981d0091488b48cbfc5584c39c1862b4e97b8170e64fe97c4ff40d74132"), looks := false }, kinds := [], alts := [], laidByText := true, laidKinds := [.data, .data], laidTests := true, laidLooks := .later }
def LogtreeGrowsUptoCardSaid : Prop := Claim7.holds Tryd.pinned (.plain (OpenSpec.upto logtreeGrowsSpec)) logtreeGrowsUptoCard

/-- THE SECOND FORM's CARD OF 'cachetierlaw09.LogtreeOwns'. -/
def logtreeOwnsUptoCard : Claim7 := { stood := { row := logtreeOwnsUptoRow, standIns := [], harness := (true, "fa1b7981d0091488b48cbfc5584c39c1862b4e97b8170e64fe97c4ff40d74132"), looks := false }, kinds := [], alts := [], laidByText := true, laidKinds := [.data, .data], laidTests := true, laidLooks := .later }
def LogtreeOwnsUptoCardSaid : Prop := Claim7.holds Tryd.pinned (.plain (OpenSpec.upto logtreeOwnsSpec)) logtreeOwnsUptoCard
end Rows
end Go.Proofs.YtpapfegbodolgaaDoor
