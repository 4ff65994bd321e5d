/-
  NARROWER THAN 'FOR EVERY INPUT', by the rows' own cells (each row's printed sentence says how): RowMatchesReference: laid · RowRecordMatchesReference: laid · RowRoundTrip: laid · RowRecordRoundTrip: laid · RowDecodedAgain: laid · RowPrefixes: laid · RowChanges: laid · RowOrder: laid · RowInverse: laid.
  DERIVED. THE GIVEN ROWS OF THIS SEAT. 9 by the template 'for every input the law returns true; each argument reads behind the call as it read before'; 0 by the template 'total and deterministic' (their statements: YtgkdliocfnoffaaDoorTotals.lean).
  GIVEN WITH THE SEED: the statements are not yours to turn. If you find one false, say at which input.
  Laid BY PROGRAM, IN A SANDBOX (cutbox-rows.mjs): the forced cells as the released guide's own fill.sh prints them over the translation ba6532e974cc3b46… (all of the seat's roots in one cut). By AI agents, Wed Nov 11 2026. No macro, syntax, notation, axiom, sorry.
-/
import Derived.Test.YtgkdliocfnoffaaDoorChecked
import GoSem.Claim
import GoSem.ClaimJoined
import GoSem.ClaimMapViews
import Derived.JoinedTies
import Derived.KernelRfl
namespace Go.Proofs.YtgkdliocfnoffaaDoor
/- THE CELL 'sum', in the pinned program and in every row, IS THE sha256 OF THE DUMP (.gsa) THAT YtgkdliocfnoffaaDoorProg.lean LOADS. Nothing in Lean hashes anything: it is a label: what it is worth is what the hold of that sum in a sandbox is worth. -/
noncomputable def Tryd.pinned : Pinned := { name := "ytgkdliocfnoffaadoor", sum := "ba6532e974cc3b46d044fc8e94f03af9bf7d07b50ccb3e9ea5b22ae32165895f", checked := Tryd.checked }
namespace Rows
def none {H : Type} : Left H := { results := [], args := [] }

/- WHAT THE LISTED PACKAGE-LEVEL VARIABLES READ AS WHEN THE CALL BEGINS. Each datum BY PROGRAM (the guide's laid-datum.mjs) off the statement by which the dump's own 'gosem.cut.vars' lays the variable. In a bare row this is a premise. The card (YtgkdliocfnoffaaDoorCards.lean) ties it to the program's text. -/
def laid_cachetier_row_errWire {H : Type} : DataW H := .iface "*errors.errorString" (.ptr (.agg [.lit (.string [114, 111, 119, 58, 32, 97, 32, 110, 117, 109, 98, 101, 114, 32, 105, 115, 32, 101, 120, 112, 101, 99, 116, 101, 100, 32, 97, 110, 100, 32, 110, 111, 110, 101, 32, 98, 101, 103, 105, 110, 115, 32, 116, 104, 101, 114, 101, 44, 32, 111, 114, 32, 98, 121, 116, 101, 115, 32, 97, 114, 101, 32, 108, 101, 102, 116, 32, 111, 118, 101, 114])]))
def laid_cachetier_row_errRange {H : Type} : DataW H := .iface "*errors.errorString" (.ptr (.agg [.lit (.string [114, 111, 119, 58, 32, 97, 32, 110, 117, 109, 98, 101, 114, 32, 116, 104, 97, 116, 32, 115, 97, 121, 115, 32, 119, 104, 97, 116, 32, 102, 111, 108, 108, 111, 119, 115, 32, 105, 115, 32, 111, 117, 116, 32, 111, 102, 32, 105, 116, 115, 32, 114, 97, 110, 103, 101])]))

/-- 'cachetierlaw03.RowMatchesReference': WHATEVER THE INPUT: true; the input reads as it did. -/
def rowMatchesReferenceSpec : ChangeSpec := { name := "rowMatchesReference", fn := fun _ => fun
  | [d1, d2, d3] => { results := [.lit (.bool true)], args := [d1, d2, d3] }
  | _ => none }
def rowMatchesReferenceRow : OpenClaim := { program := "ytgkdliocfnoffaadoor", sum := "ba6532e974cc3b46d044fc8e94f03af9bf7d07b50ccb3e9ea5b22ae32165895f", func := "cachetier/cachetierlaw03.RowMatchesReference", spec := "rowMatchesReference", inPlace := ["internal/abi.NoEscape", "internal/reflectlite.TypeOf"], unfollowed := true, recurses := true, named := ["cachetier/row.errWire", "cachetier/row.errRange"], apart := false, laid := [("cachetier/row.errWire", laid_cachetier_row_errWire), ("cachetier/row.errRange", laid_cachetier_row_errRange)] }
def RowMatchesReferenceSaid : Prop := rowMatchesReferenceRow.holds Tryd.pinned (OpenSpec.ofChange rowMatchesReferenceSpec)

/-- ITS FALSE NEIGHBOUR: 'it returns false'. Refute it at one input. -/
def rowMatchesReferenceWrong : ChangeSpec := { name := "rowMatchesReference", fn := fun _ => fun
  | [d1, d2, d3] => { results := [.lit (.bool false)], args := [d1, d2, d3] }
  | _ => none }
def RowMatchesReferenceWrongFalsely : Prop := rowMatchesReferenceRow.holds Tryd.pinned (OpenSpec.ofChange rowMatchesReferenceWrong)

/-- 'cachetierlaw03.RowRecordMatchesReference': WHATEVER THE INPUT: true; the input reads as it did. -/
def rowRecordMatchesReferenceSpec : ChangeSpec := { name := "rowRecordMatchesReference", fn := fun _ => fun
  | [d1, d2, d3] => { results := [.lit (.bool true)], args := [d1, d2, d3] }
  | _ => none }
def rowRecordMatchesReferenceRow : OpenClaim := { program := "ytgkdliocfnoffaadoor", sum := "ba6532e974cc3b46d044fc8e94f03af9bf7d07b50ccb3e9ea5b22ae32165895f", func := "cachetier/cachetierlaw03.RowRecordMatchesReference", spec := "rowRecordMatchesReference", inPlace := ["internal/abi.NoEscape", "internal/reflectlite.TypeOf"], unfollowed := true, recurses := true, named := ["cachetier/row.errWire", "cachetier/row.errRange"], apart := false, laid := [("cachetier/row.errWire", laid_cachetier_row_errWire), ("cachetier/row.errRange", laid_cachetier_row_errRange)] }
def RowRecordMatchesReferenceSaid : Prop := rowRecordMatchesReferenceRow.holds Tryd.pinned (OpenSpec.ofChange rowRecordMatchesReferenceSpec)

/-- ITS FALSE NEIGHBOUR: 'it returns false'. Refute it at one input. -/
def rowRecordMatchesReferenceWrong : ChangeSpec := { name := "rowRecordMatchesReference", fn := fun _ => fun
  | [d1, d2, d3] => { results := [.lit (.bool false)], args := [d1, d2, d3] }
  | _ => none }
def RowRecordMatchesReferenceWrongFalsely : Prop := rowRecordMatchesReferenceRow.holds Tryd.pinned (OpenSpec.ofChange rowRecordMatchesReferenceWrong)

/-- 'cachetierlaw03.RowRoundTrip': WHATEVER THE INPUT: true; the input reads as it did. -/
def rowRoundTripSpec : ChangeSpec := { name := "rowRoundTrip", fn := fun _ => fun
  | [d1, d2] => { results := [.lit (.bool true)], args := [d1, d2] }
  | _ => none }
def rowRoundTripRow : OpenClaim := { program := "ytgkdliocfnoffaadoor", sum := "ba6532e974cc3b46d044fc8e94f03af9bf7d07b50ccb3e9ea5b22ae32165895f", func := "cachetier/cachetierlaw03.RowRoundTrip", spec := "rowRoundTrip", inPlace := ["internal/abi.NoEscape", "internal/reflectlite.TypeOf"], unfollowed := true, recurses := true, named := ["cachetier/row.errWire", "cachetier/row.errRange"], apart := false, laid := [("cachetier/row.errWire", laid_cachetier_row_errWire), ("cachetier/row.errRange", laid_cachetier_row_errRange)] }
def RowRoundTripSaid : Prop := rowRoundTripRow.holds Tryd.pinned (OpenSpec.ofChange rowRoundTripSpec)

/-- ITS FALSE NEIGHBOUR: 'it returns false'. Refute it at one input. -/
def rowRoundTripWrong : ChangeSpec := { name := "rowRoundTrip", fn := fun _ => fun
  | [d1, d2] => { results := [.lit (.bool false)], args := [d1, d2] }
  | _ => none }
def RowRoundTripWrongFalsely : Prop := rowRoundTripRow.holds Tryd.pinned (OpenSpec.ofChange rowRoundTripWrong)

/-- 'cachetierlaw03.RowRecordRoundTrip': WHATEVER THE INPUT: true; the input reads as it did. -/
def rowRecordRoundTripSpec : ChangeSpec := { name := "rowRecordRoundTrip", fn := fun _ => fun
  | [d1, d2] => { results := [.lit (.bool true)], args := [d1, d2] }
  | _ => none }
def rowRecordRoundTripRow : OpenClaim := { program := "ytgkdliocfnoffaadoor", sum := "ba6532e974cc3b46d044fc8e94f03af9bf7d07b50ccb3e9ea5b22ae32165895f", func := "cachetier/cachetierlaw03.RowRecordRoundTrip", spec := "rowRecordRoundTrip", inPlace := ["internal/abi.NoEscape", "internal/reflectlite.TypeOf"], unfollowed := true, recurses := true, named := ["cachetier/row.errWire", "cachetier/row.errRange"], apart := false, laid := [("cachetier/row.errWire", laid_cachetier_row_errWire), ("cachetier/row.errRange", laid_cachetier_row_errRange)] }
def RowRecordRoundTripSaid : Prop := rowRecordRoundTripRow.holds Tryd.pinned (OpenSpec.ofChange rowRecordRoundTripSpec)

/-- ITS FALSE NEIGHBOUR: 'it returns false'. Refute it at one input. -/
def rowRecordRoundTripWrong : ChangeSpec := { name := "rowRecordRoundTrip", fn := fun _ => fun
  | [d1, d2] => { results := [.lit (.bool false)], args := [d1, d2] }
  | _ => none }
def RowRecordRoundTripWrongFalsely : Prop := rowRecordRoundTripRow.holds Tryd.pinned (OpenSpec.ofChange rowRecordRoundTripWrong)

/-- 'cachetierlaw03.RowDecodedAgain': WHATEVER THE INPUT: true; the input reads as it did. -/
def rowDecodedAgainSpec : ChangeSpec := { name := "rowDecodedAgain", fn := fun _ => fun
  | [d] => { results := [.lit (.bool true)], args := [d] }
  | _ => none }
def rowDecodedAgainRow : OpenClaim := { program := "ytgkdliocfnoffaadoor", sum := "ba6532e974cc3b46d044fc8e94f03af9bf7d07b50ccb3e9ea5b22ae32165895f", func := "cachetier/cachetierlaw03.RowDecodedAgain", spec := "rowDecodedAgain", inPlace := ["internal/abi.NoEscape", "internal/reflectlite.TypeOf"], unfollowed := true, recurses := true, named := ["cachetier/row.errWire", "cachetier/row.errRange"], apart := false, laid := [("cachetier/row.errWire", laid_cachetier_row_errWire), ("cachetier/row.errRange", laid_cachetier_row_errRange)] }
def RowDecodedAgainSaid : Prop := rowDecodedAgainRow.holds Tryd.pinned (OpenSpec.ofChange rowDecodedAgainSpec)

/-- ITS FALSE NEIGHBOUR: 'it returns false'. Refute it at one input. -/
def rowDecodedAgainWrong : ChangeSpec := { name := "rowDecodedAgain", fn := fun _ => fun
  | [d] => { results := [.lit (.bool false)], args := [d] }
  | _ => none }
def RowDecodedAgainWrongFalsely : Prop := rowDecodedAgainRow.holds Tryd.pinned (OpenSpec.ofChange rowDecodedAgainWrong)

/-- 'cachetierlaw03.RowPrefixes': WHATEVER THE INPUT: true; the input reads as it did. -/
def rowPrefixesSpec : ChangeSpec := { name := "rowPrefixes", fn := fun _ => fun
  | [d1, d2, d3, d4] => { results := [.lit (.bool true)], args := [d1, d2, d3, d4] }
  | _ => none }
def rowPrefixesRow : OpenClaim := { program := "ytgkdliocfnoffaadoor", sum := "ba6532e974cc3b46d044fc8e94f03af9bf7d07b50ccb3e9ea5b22ae32165895f", func := "cachetier/cachetierlaw03.RowPrefixes", spec := "rowPrefixes", inPlace := ["internal/abi.NoEscape", "internal/reflectlite.TypeOf"], unfollowed := true, recurses := true, named := ["cachetier/row.errWire", "cachetier/row.errRange"], apart := false, laid := [("cachetier/row.errWire", laid_cachetier_row_errWire), ("cachetier/row.errRange", laid_cachetier_row_errRange)] }
def RowPrefixesSaid : Prop := rowPrefixesRow.holds Tryd.pinned (OpenSpec.ofChange rowPrefixesSpec)

/-- ITS FALSE NEIGHBOUR: 'it returns false'. Refute it at one input. -/
def rowPrefixesWrong : ChangeSpec := { name := "rowPrefixes", fn := fun _ => fun
  | [d1, d2, d3, d4] => { results := [.lit (.bool false)], args := [d1, d2, d3, d4] }
  | _ => none }
def RowPrefixesWrongFalsely : Prop := rowPrefixesRow.holds Tryd.pinned (OpenSpec.ofChange rowPrefixesWrong)

/-- 'cachetierlaw03.RowChanges': WHATEVER THE INPUT: true; the input reads as it did. -/
def rowChangesSpec : ChangeSpec := { name := "rowChanges", fn := fun _ => fun
  | [d] => { results := [.lit (.bool true)], args := [d] }
  | _ => none }
def rowChangesRow : OpenClaim := { program := "ytgkdliocfnoffaadoor", sum := "ba6532e974cc3b46d044fc8e94f03af9bf7d07b50ccb3e9ea5b22ae32165895f", func := "cachetier/cachetierlaw03.RowChanges", spec := "rowChanges", inPlace := ["internal/abi.NoEscape", "internal/reflectlite.TypeOf"], unfollowed := true, recurses := true, named := ["cachetier/row.errWire", "cachetier/row.errRange"], apart := false, laid := [("cachetier/row.errWire", laid_cachetier_row_errWire), ("cachetier/row.errRange", laid_cachetier_row_errRange)] }
def RowChangesSaid : Prop := rowChangesRow.holds Tryd.pinned (OpenSpec.ofChange rowChangesSpec)

/-- ITS FALSE NEIGHBOUR: 'it returns false'. Refute it at one input. -/
def rowChangesWrong : ChangeSpec := { name := "rowChanges", fn := fun _ => fun
  | [d] => { results := [.lit (.bool false)], args := [d] }
  | _ => none }
def RowChangesWrongFalsely : Prop := rowChangesRow.holds Tryd.pinned (OpenSpec.ofChange rowChangesWrong)

/-- 'cachetierlaw03.RowOrder': WHATEVER THE INPUT: true; the input reads as it did. -/
def rowOrderSpec : ChangeSpec := { name := "rowOrder", fn := fun _ => fun
  | [d1, d2, d3] => { results := [.lit (.bool true)], args := [d1, d2, d3] }
  | _ => none }
def rowOrderRow : OpenClaim := { program := "ytgkdliocfnoffaadoor", sum := "ba6532e974cc3b46d044fc8e94f03af9bf7d07b50ccb3e9ea5b22ae32165895f", func := "cachetier/cachetierlaw03.RowOrder", spec := "rowOrder", inPlace := ["internal/abi.NoEscape", "internal/reflectlite.TypeOf"], unfollowed := true, recurses := true, named := ["cachetier/row.errWire", "cachetier/row.errRange"], apart := false, laid := [("cachetier/row.errWire", laid_cachetier_row_errWire), ("cachetier/row.errRange", laid_cachetier_row_errRange)] }
def RowOrderSaid : Prop := rowOrderRow.holds Tryd.pinned (OpenSpec.ofChange rowOrderSpec)

/-- ITS FALSE NEIGHBOUR: 'it returns false'. Refute it at one input. -/
def rowOrderWrong : ChangeSpec := { name := "rowOrder", fn := fun _ => fun
  | [d1, d2, d3] => { results := [.lit (.bool false)], args := [d1, d2, d3] }
  | _ => none }
def RowOrderWrongFalsely : Prop := rowOrderRow.holds Tryd.pinned (OpenSpec.ofChange rowOrderWrong)

/-- 'cachetierlaw03.RowInverse': WHATEVER THE INPUT: true; the input reads as it did. -/
def rowInverseSpec : ChangeSpec := { name := "rowInverse", fn := fun _ => fun
  | [d] => { results := [.lit (.bool true)], args := [d] }
  | _ => none }
def rowInverseRow : OpenClaim := { program := "ytgkdliocfnoffaadoor", sum := "ba6532e974cc3b46d044fc8e94f03af9bf7d07b50ccb3e9ea5b22ae32165895f", func := "cachetier/cachetierlaw03.RowInverse", spec := "rowInverse", inPlace := ["internal/abi.NoEscape", "internal/reflectlite.TypeOf"], unfollowed := true, recurses := true, named := ["cachetier/row.errWire", "cachetier/row.errRange"], apart := false, laid := [("cachetier/row.errWire", laid_cachetier_row_errWire), ("cachetier/row.errRange", laid_cachetier_row_errRange)] }
def RowInverseSaid : Prop := rowInverseRow.holds Tryd.pinned (OpenSpec.ofChange rowInverseSpec)

/-- ITS FALSE NEIGHBOUR: 'it returns false'. Refute it at one input. -/
def rowInverseWrong : ChangeSpec := { name := "rowInverse", fn := fun _ => fun
  | [d] => { results := [.lit (.bool false)], args := [d] }
  | _ => none }
def RowInverseWrongFalsely : Prop := rowInverseRow.holds Tryd.pinned (OpenSpec.ofChange rowInverseWrong)

/- THE SECOND FORM. 'bulk': how many values and letters a reading holds, each counted each time it is reached (what is shared counts as often as it is met; a slice's spare places count too). A statement '..UptoSaid' is the law's where the arguments, and the package variables that the reading takes, are together of bulk at most 1048576: NARROWER than '..Said'. Prove '..Said' where nothing that the law and all that it calls make is longer than what came in: it says more and counts as full. Else prove '..UptoSaid'. A law counts once. -/
mutual
def uptoBulk {H : Type} : DataW H → Nat
  | .lit (.string bytes) => bytes.length + 1
  | .lit _ => 1
  | .nil => 1
  | .ptr d => uptoBulk d + 1
  | .slice elems spare => uptoBulkAll elems + uptoBulkAll spare + 1
  | .agg parts => uptoBulkAll parts + 1
  | .iface _ d => uptoBulk d + 1
  | .map entries => uptoBulkEntries entries + 1
  | .held _ => 1
def uptoBulkAll {H : Type} : List (DataW H) → Nat
  | [] => 0
  | d :: r => uptoBulk d + uptoBulkAll r
def uptoBulkEntries {H : Type} : List (Lit × DataW H) → Nat
  | [] => 0
  | x :: r => uptoBulkEntry x + uptoBulkEntries r
def uptoBulkEntry {H : Type} : Lit × DataW H → Nat
  | (.string bytes, d) => bytes.length + uptoBulk d + 1
  | (_, d) => uptoBulk d + 1
 end
def uptoSmall : (H : Type) → List (DataW H) → Bool := fun _ ds => decide (uptoBulkAll ds ≤ 1048576)
def OpenSpec.upto (s : _root_.Go.ChangeSpec) : _root_.Go.OpenSpec := { _root_.Go.OpenSpec.ofChange s with cond := some uptoSmall }

/-- 'cachetierlaw03.RowMatchesReference', WHERE WHAT IT READS IS OF BULK AT MOST 1048576: true; the input reads as it did. -/
def rowMatchesReferenceUptoRow : OpenClaim := { program := "ytgkdliocfnoffaadoor", sum := "ba6532e974cc3b46d044fc8e94f03af9bf7d07b50ccb3e9ea5b22ae32165895f", func := "cachetier/cachetierlaw03.RowMatchesReference", spec := "rowMatchesReference", inPlace := ["internal/abi.NoEscape", "internal/reflectlite.TypeOf"], unfollowed := true, recurses := true, named := ["cachetier/row.errWire", "cachetier/row.errRange"], apart := false, laid := [("cachetier/row.errWire", laid_cachetier_row_errWire), ("cachetier/row.errRange", laid_cachetier_row_errRange)], narrowed := true }
def RowMatchesReferenceUptoSaid : Prop := rowMatchesReferenceUptoRow.holds Tryd.pinned (OpenSpec.upto rowMatchesReferenceSpec)

/-- 'cachetierlaw03.RowRecordMatchesReference', WHERE WHAT IT READS IS OF BULK AT MOST 1048576: true; the input reads as it did. -/
def rowRecordMatchesReferenceUptoRow : OpenClaim := { program := "ytgkdliocfnoffaadoor", sum := "ba6532e974cc3b46d044fc8e94f03af9bf7d07b50ccb3e9ea5b22ae32165895f", func := "cachetier/cachetierlaw03.RowRecordMatchesReference", spec := "rowRecordMatchesReference", inPlace := ["internal/abi.NoEscape", "internal/reflectlite.TypeOf"], unfollowed := true, recurses := true, named := ["cachetier/row.errWire", "cachetier/row.errRange"], apart := false, laid := [("cachetier/row.errWire", laid_cachetier_row_errWire), ("cachetier/row.errRange", laid_cachetier_row_errRange)], narrowed := true }
def RowRecordMatchesReferenceUptoSaid : Prop := rowRecordMatchesReferenceUptoRow.holds Tryd.pinned (OpenSpec.upto rowRecordMatchesReferenceSpec)

/-- 'cachetierlaw03.RowRoundTrip', WHERE WHAT IT READS IS OF BULK AT MOST 1048576: true; the input reads as it did. -/
def rowRoundTripUptoRow : OpenClaim := { program := "ytgkdliocfnoffaadoor", sum := "ba6532e974cc3b46d044fc8e94f03af9bf7d07b50ccb3e9ea5b22ae32165895f", func := "cachetier/cachetierlaw03.RowRoundTrip", spec := "rowRoundTrip", inPlace := ["internal/abi.NoEscape", "internal/reflectlite.TypeOf"], unfollowed := true, recurses := true, named := ["cachetier/row.errWire", "cachetier/row.errRange"], apart := false, laid := [("cachetier/row.errWire", laid_cachetier_row_errWire), ("cachetier/row.errRange", laid_cachetier_row_errRange)], narrowed := true }
def RowRoundTripUptoSaid : Prop := rowRoundTripUptoRow.holds Tryd.pinned (OpenSpec.upto rowRoundTripSpec)

/-- 'cachetierlaw03.RowRecordRoundTrip', WHERE WHAT IT READS IS OF BULK AT MOST 1048576: true; the input reads as it did. -/
def rowRecordRoundTripUptoRow : OpenClaim := { program := "ytgkdliocfnoffaadoor", sum := "ba6532e974cc3b46d044fc8e94f03af9bf7d07b50ccb3e9ea5b22ae32165895f", func := "cachetier/cachetierlaw03.RowRecordRoundTrip", spec := "rowRecordRoundTrip", inPlace := ["internal/abi.NoEscape", "internal/reflectlite.TypeOf"], unfollowed := true, recurses := true, named := ["cachetier/row.errWire", "cachetier/row.errRange"], apart := false, laid := [("cachetier/row.errWire", laid_cachetier_row_errWire), ("cachetier/row.errRange", laid_cachetier_row_errRange)], narrowed := true }
def RowRecordRoundTripUptoSaid : Prop := rowRecordRoundTripUptoRow.holds Tryd.pinned (OpenSpec.upto rowRecordRoundTripSpec)

/-- 'cachetierlaw03.RowDecodedAgain', WHERE WHAT IT READS IS OF BULK AT MOST 1048576: true; the input reads as it did. -/
def rowDecodedAgainUptoRow : OpenClaim := { program := "ytgkdliocfnoffaadoor", sum := "ba6532e974cc3b46d044fc8e94f03af9bf7d07b50ccb3e9ea5b22ae32165895f", func := "cachetier/cachetierlaw03.RowDecodedAgain", spec := "rowDecodedAgain", inPlace := ["internal/abi.NoEscape", "internal/reflectlite.TypeOf"], unfollowed := true, recurses := true, named := ["cachetier/row.errWire", "cachetier/row.errRange"], apart := false, laid := [("cachetier/row.errWire", laid_cachetier_row_errWire), ("cachetier/row.errRange", laid_cachetier_row_errRange)], narrowed := true }
def RowDecodedAgainUptoSaid : Prop := rowDecodedAgainUptoRow.holds Tryd.pinned (OpenSpec.upto rowDecodedAgainSpec)

/-- 'cachetierlaw03.RowPrefixes', WHERE WHAT IT READS IS OF BULK AT MOST 1048576: true; the input reads as it did. -/
def rowPrefixesUptoRow : OpenClaim := { program := "ytgkdliocfnoffaadoor", sum := "ba6532e974cc3b46d044fc8e94f03af9bf7d07b50ccb3e9ea5b22ae32165895f", func := "cachetier/cachetierlaw03.RowPrefixes", spec := "rowPrefixes", inPlace := ["internal/abi.NoEscape", "internal/reflectlite.TypeOf"], unfollowed := true, recurses := true, named := ["cachetier/row.errWire", "cachetier/row.errRange"], apart := false, laid := [("cachetier/row.errWire", laid_cachetier_row_errWire), ("cachetier/row.errRange", laid_cachetier_row_errRange)], narrowed := true }
def RowPrefixesUptoSaid : Prop := rowPrefixesUptoRow.holds Tryd.pinned (OpenSpec.upto rowPrefixesSpec)

/-- 'cachetierlaw03.RowChanges', WHERE WHAT IT READS IS OF BULK AT MOST 1048576: true; the input reads as it did. -/
def rowChangesUptoRow : OpenClaim := { program := "ytgkdliocfnoffaadoor", sum := "ba6532e974cc3b46d044fc8e94f03af9bf7d07b50ccb3e9ea5b22ae32165895f", func := "cachetier/cachetierlaw03.RowChanges", spec := "rowChanges", inPlace := ["internal/abi.NoEscape", "internal/reflectlite.TypeOf"], unfollowed := true, recurses := true, named := ["cachetier/row.errWire", "cachetier/row.errRange"], apart := false, laid := [("cachetier/row.errWire", laid_cachetier_row_errWire), ("cachetier/row.errRange", laid_cachetier_row_errRange)], narrowed := true }
def RowChangesUptoSaid : Prop := rowChangesUptoRow.holds Tryd.pinned (OpenSpec.upto rowChangesSpec)

/-- 'cachetierlaw03.RowOrder', WHERE WHAT IT READS IS OF BULK AT MOST 1048576: true; the input reads as it did. -/
def rowOrderUptoRow : OpenClaim := { program := "ytgkdliocfnoffaadoor", sum := "ba6532e974cc3b46d044fc8e94f03af9bf7d07b50ccb3e9ea5b22ae32165895f", func := "cachetier/cachetierlaw03.RowOrder", spec := "rowOrder", inPlace := ["internal/abi.NoEscape", "internal/reflectlite.TypeOf"], unfollowed := true, recurses := true, named := ["cachetier/row.errWire", "cachetier/row.errRange"], apart := false, laid := [("cachetier/row.errWire", laid_cachetier_row_errWire), ("cachetier/row.errRange", laid_cachetier_row_errRange)], narrowed := true }
def RowOrderUptoSaid : Prop := rowOrderUptoRow.holds Tryd.pinned (OpenSpec.upto rowOrderSpec)

/-- 'cachetierlaw03.RowInverse', WHERE WHAT IT READS IS OF BULK AT MOST 1048576: true; the input reads as it did. -/
def rowInverseUptoRow : OpenClaim := { program := "ytgkdliocfnoffaadoor", sum := "ba6532e974cc3b46d044fc8e94f03af9bf7d07b50ccb3e9ea5b22ae32165895f", func := "cachetier/cachetierlaw03.RowInverse", spec := "rowInverse", inPlace := ["internal/abi.NoEscape", "internal/reflectlite.TypeOf"], unfollowed := true, recurses := true, named := ["cachetier/row.errWire", "cachetier/row.errRange"], apart := false, laid := [("cachetier/row.errWire", laid_cachetier_row_errWire), ("cachetier/row.errRange", laid_cachetier_row_errRange)], narrowed := true }
def RowInverseUptoSaid : Prop := rowInverseUptoRow.holds Tryd.pinned (OpenSpec.upto rowInverseSpec)

end Rows
end Go.Proofs.YtgkdliocfnoffaaDoor
