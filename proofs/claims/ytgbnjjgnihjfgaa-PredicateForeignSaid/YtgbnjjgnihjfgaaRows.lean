/-
  No cell of these rows narrows 'for every input' (looked for: loops, veiled, ifaces, maps, wideKeys, modest, calm, conditions, laid).
  DERIVED. THE GIVEN ROWS OF THIS SEAT. 10 by the template 'for every input the law returns true; each argument reads behind the call as it read before'; 0 by the template 'total and deterministic' (their statements: YtgbnjjgnihjfgaaTotals.lean).
  GIVEN WITH THE SEED: the statements are not yours to turn. If you find one false, say at which input.
  Laid BY PROGRAM, IN A SANDBOX (cutbox-rows.mjs): the forced cells as the released guide's own fill.sh prints them over the translation 9e38bc9be4a23a5f… (all of the seat's roots in one cut). By AI agents, Wed Nov 11 2026. No macro, syntax, notation, axiom, sorry.
-/
import Derived.Test.YtgbnjjgnihjfgaaChecked
import GoSem.Claim
import GoSem.ClaimJoined
import GoSem.ClaimMapViews
import Derived.JoinedTies
import Derived.KernelRfl
namespace Go.Proofs.Ytgbnjjgnihjfgaa
/- THE CELL 'sum', in the pinned program and in every row, IS THE sha256 OF THE DUMP (.gsa) THAT YtgbnjjgnihjfgaaProg.lean LOADS. Nothing in Lean hashes anything: it is a label: what it is worth is what the hold of that sum in a sandbox is worth. -/
noncomputable def Try.pinned : Pinned := { name := "ytgbnjjgnihjfgaa", sum := "9e38bc9be4a23a5f6fa421f59d75d3930b62d62887d6c8c88a31b29962f64987", checked := Try.checked }
namespace Rows
def none {H : Type} : Left H := { results := [], args := [] }

/-- 'cachetierlaw06.EvalRow': WHATEVER THE INPUT: true; the input reads as it did. -/
def evalRowSpec : ChangeSpec := { name := "evalRow", fn := fun _ => fun
  | [d1, d2, d3] => { results := [.lit (.bool true)], args := [d1, d2, d3] }
  | _ => none }
def evalRowRow : OpenClaim := { program := "ytgbnjjgnihjfgaa", sum := "9e38bc9be4a23a5f6fa421f59d75d3930b62d62887d6c8c88a31b29962f64987", func := "cachetier/cachetierlaw06.EvalRow", spec := "evalRow", unfollowed := true, recurses := true, plainKeys := false, apart := false }
def EvalRowSaid : Prop := evalRowRow.holds Try.pinned (OpenSpec.ofChange evalRowSpec)

/-- ITS FALSE NEIGHBOUR: 'it returns false'. Refute it at one input. -/
def evalRowWrong : ChangeSpec := { name := "evalRow", fn := fun _ => fun
  | [d1, d2, d3] => { results := [.lit (.bool false)], args := [d1, d2, d3] }
  | _ => none }
def EvalRowWrongFalsely : Prop := evalRowRow.holds Try.pinned (OpenSpec.ofChange evalRowWrong)

/-- 'cachetierlaw07.PredicateMatchesReference': WHATEVER THE INPUT: true; the input reads as it did. -/
def predicateMatchesReferenceSpec : ChangeSpec := { name := "predicateMatchesReference", fn := fun _ => fun
  | [d1, d2, d3, d4, d5] => { results := [.lit (.bool true)], args := [d1, d2, d3, d4, d5] }
  | _ => none }
def predicateMatchesReferenceRow : OpenClaim := { program := "ytgbnjjgnihjfgaa", sum := "9e38bc9be4a23a5f6fa421f59d75d3930b62d62887d6c8c88a31b29962f64987", func := "cachetier/cachetierlaw07.PredicateMatchesReference", spec := "predicateMatchesReference", inPlace := ["slices.overlaps[cachetier/api.Row]", "slices.overlaps[cachetier/predicate.pair]"], unfollowed := true, recurses := true, plainKeys := false, apart := false }
def PredicateMatchesReferenceSaid : Prop := predicateMatchesReferenceRow.holds Try.pinned (OpenSpec.ofChange predicateMatchesReferenceSpec)

/-- ITS FALSE NEIGHBOUR: 'it returns false'. Refute it at one input. -/
def predicateMatchesReferenceWrong : ChangeSpec := { name := "predicateMatchesReference", fn := fun _ => fun
  | [d1, d2, d3, d4, d5] => { results := [.lit (.bool false)], args := [d1, d2, d3, d4, d5] }
  | _ => none }
def PredicateMatchesReferenceWrongFalsely : Prop := predicateMatchesReferenceRow.holds Try.pinned (OpenSpec.ofChange predicateMatchesReferenceWrong)

/-- 'cachetierlaw07.PredicateApplyMatchesReference': WHATEVER THE INPUT: true; the input reads as it did. -/
def predicateApplyMatchesReferenceSpec : ChangeSpec := { name := "predicateApplyMatchesReference", fn := fun _ => fun
  | [d1, d2, d3] => { results := [.lit (.bool true)], args := [d1, d2, d3] }
  | _ => none }
def predicateApplyMatchesReferenceRow : OpenClaim := { program := "ytgbnjjgnihjfgaa", sum := "9e38bc9be4a23a5f6fa421f59d75d3930b62d62887d6c8c88a31b29962f64987", func := "cachetier/cachetierlaw07.PredicateApplyMatchesReference", spec := "predicateApplyMatchesReference", inPlace := ["slices.overlaps[cachetier/api.Row]", "slices.overlaps[cachetier/predicate.pair]"], unfollowed := true, recurses := true, plainKeys := false, apart := false }
def PredicateApplyMatchesReferenceSaid : Prop := predicateApplyMatchesReferenceRow.holds Try.pinned (OpenSpec.ofChange predicateApplyMatchesReferenceSpec)

/-- ITS FALSE NEIGHBOUR: 'it returns false'. Refute it at one input. -/
def predicateApplyMatchesReferenceWrong : ChangeSpec := { name := "predicateApplyMatchesReference", fn := fun _ => fun
  | [d1, d2, d3] => { results := [.lit (.bool false)], args := [d1, d2, d3] }
  | _ => none }
def PredicateApplyMatchesReferenceWrongFalsely : Prop := predicateApplyMatchesReferenceRow.holds Try.pinned (OpenSpec.ofChange predicateApplyMatchesReferenceWrong)

/-- 'cachetierlaw07.PredicateOrder': WHATEVER THE INPUT: true; the input reads as it did. -/
def predicateOrderSpec : ChangeSpec := { name := "predicateOrder", fn := fun _ => fun
  | [d1, d2, d3] => { results := [.lit (.bool true)], args := [d1, d2, d3] }
  | _ => none }
def predicateOrderRow : OpenClaim := { program := "ytgbnjjgnihjfgaa", sum := "9e38bc9be4a23a5f6fa421f59d75d3930b62d62887d6c8c88a31b29962f64987", func := "cachetier/cachetierlaw07.PredicateOrder", spec := "predicateOrder", inPlace := ["slices.overlaps[cachetier/api.Row]", "slices.overlaps[cachetier/predicate.pair]"], unfollowed := true, recurses := true, plainKeys := false, apart := false }
def PredicateOrderSaid : Prop := predicateOrderRow.holds Try.pinned (OpenSpec.ofChange predicateOrderSpec)

/-- ITS FALSE NEIGHBOUR: 'it returns false'. Refute it at one input. -/
def predicateOrderWrong : ChangeSpec := { name := "predicateOrder", fn := fun _ => fun
  | [d1, d2, d3] => { results := [.lit (.bool false)], args := [d1, d2, d3] }
  | _ => none }
def PredicateOrderWrongFalsely : Prop := predicateOrderRow.holds Try.pinned (OpenSpec.ofChange predicateOrderWrong)

/-- 'cachetierlaw07.PredicateForeign': WHATEVER THE INPUT: true; the input reads as it did. -/
def predicateForeignSpec : ChangeSpec := { name := "predicateForeign", fn := fun _ => fun
  | [d1, d2, d3] => { results := [.lit (.bool true)], args := [d1, d2, d3] }
  | _ => none }
def predicateForeignRow : OpenClaim := { program := "ytgbnjjgnihjfgaa", sum := "9e38bc9be4a23a5f6fa421f59d75d3930b62d62887d6c8c88a31b29962f64987", func := "cachetier/cachetierlaw07.PredicateForeign", spec := "predicateForeign", inPlace := ["slices.overlaps[cachetier/api.Row]", "slices.overlaps[cachetier/predicate.pair]"], unfollowed := true, recurses := true, plainKeys := false, apart := false }
def PredicateForeignSaid : Prop := predicateForeignRow.holds Try.pinned (OpenSpec.ofChange predicateForeignSpec)

/-- ITS FALSE NEIGHBOUR: 'it returns false'. Refute it at one input. -/
def predicateForeignWrong : ChangeSpec := { name := "predicateForeign", fn := fun _ => fun
  | [d1, d2, d3] => { results := [.lit (.bool false)], args := [d1, d2, d3] }
  | _ => none }
def PredicateForeignWrongFalsely : Prop := predicateForeignRow.holds Try.pinned (OpenSpec.ofChange predicateForeignWrong)

/-- 'cachetierlaw08.MatchMatchesReference': WHATEVER THE INPUT: true; the input reads as it did. -/
def matchMatchesReferenceSpec : ChangeSpec := { name := "matchMatchesReference", fn := fun _ => fun
  | [d1, d2, d3] => { results := [.lit (.bool true)], args := [d1, d2, d3] }
  | _ => none }
def matchMatchesReferenceRow : OpenClaim := { program := "ytgbnjjgnihjfgaa", sum := "9e38bc9be4a23a5f6fa421f59d75d3930b62d62887d6c8c88a31b29962f64987", func := "cachetier/cachetierlaw08.MatchMatchesReference", spec := "matchMatchesReference", unfollowed := true, recurses := true, plainKeys := false, apart := false }
def MatchMatchesReferenceSaid : Prop := matchMatchesReferenceRow.holds Try.pinned (OpenSpec.ofChange matchMatchesReferenceSpec)

/-- ITS FALSE NEIGHBOUR: 'it returns false'. Refute it at one input. -/
def matchMatchesReferenceWrong : ChangeSpec := { name := "matchMatchesReference", fn := fun _ => fun
  | [d1, d2, d3] => { results := [.lit (.bool false)], args := [d1, d2, d3] }
  | _ => none }
def MatchMatchesReferenceWrongFalsely : Prop := matchMatchesReferenceRow.holds Try.pinned (OpenSpec.ofChange matchMatchesReferenceWrong)

/-- 'cachetierlaw08.MatchScans': WHATEVER THE INPUT: true; the input reads as it did. -/
def matchScansSpec : ChangeSpec := { name := "matchScans", fn := fun _ => fun
  | [d1, d2] => { results := [.lit (.bool true)], args := [d1, d2] }
  | _ => none }
def matchScansRow : OpenClaim := { program := "ytgbnjjgnihjfgaa", sum := "9e38bc9be4a23a5f6fa421f59d75d3930b62d62887d6c8c88a31b29962f64987", func := "cachetier/cachetierlaw08.MatchScans", spec := "matchScans", unfollowed := true, recurses := true, plainKeys := false, apart := false }
def MatchScansSaid : Prop := matchScansRow.holds Try.pinned (OpenSpec.ofChange matchScansSpec)

/-- ITS FALSE NEIGHBOUR: 'it returns false'. Refute it at one input. -/
def matchScansWrong : ChangeSpec := { name := "matchScans", fn := fun _ => fun
  | [d1, d2] => { results := [.lit (.bool false)], args := [d1, d2] }
  | _ => none }
def MatchScansWrongFalsely : Prop := matchScansRow.holds Try.pinned (OpenSpec.ofChange matchScansWrong)

/-- 'cachetierlaw08.MatchChanges': WHATEVER THE INPUT: true; the input reads as it did. -/
def matchChangesSpec : ChangeSpec := { name := "matchChanges", fn := fun _ => fun
  | [d1, d2] => { results := [.lit (.bool true)], args := [d1, d2] }
  | _ => none }
def matchChangesRow : OpenClaim := { program := "ytgbnjjgnihjfgaa", sum := "9e38bc9be4a23a5f6fa421f59d75d3930b62d62887d6c8c88a31b29962f64987", func := "cachetier/cachetierlaw08.MatchChanges", spec := "matchChanges", unfollowed := true, recurses := true, plainKeys := false, apart := false }
def MatchChangesSaid : Prop := matchChangesRow.holds Try.pinned (OpenSpec.ofChange matchChangesSpec)

/-- ITS FALSE NEIGHBOUR: 'it returns false'. Refute it at one input. -/
def matchChangesWrong : ChangeSpec := { name := "matchChanges", fn := fun _ => fun
  | [d1, d2] => { results := [.lit (.bool false)], args := [d1, d2] }
  | _ => none }
def MatchChangesWrongFalsely : Prop := matchChangesRow.holds Try.pinned (OpenSpec.ofChange matchChangesWrong)

/-- 'cachetierlaw08.MatchRows': WHATEVER THE INPUT: true; the input reads as it did. -/
def matchRowsSpec : ChangeSpec := { name := "matchRows", fn := fun _ => fun
  | [d1, d2, d3] => { results := [.lit (.bool true)], args := [d1, d2, d3] }
  | _ => none }
def matchRowsRow : OpenClaim := { program := "ytgbnjjgnihjfgaa", sum := "9e38bc9be4a23a5f6fa421f59d75d3930b62d62887d6c8c88a31b29962f64987", func := "cachetier/cachetierlaw08.MatchRows", spec := "matchRows", unfollowed := true, recurses := true, plainKeys := false, apart := false }
def MatchRowsSaid : Prop := matchRowsRow.holds Try.pinned (OpenSpec.ofChange matchRowsSpec)

/-- ITS FALSE NEIGHBOUR: 'it returns false'. Refute it at one input. -/
def matchRowsWrong : ChangeSpec := { name := "matchRows", fn := fun _ => fun
  | [d1, d2, d3] => { results := [.lit (.bool false)], args := [d1, d2, d3] }
  | _ => none }
def MatchRowsWrongFalsely : Prop := matchRowsRow.holds Try.pinned (OpenSpec.ofChange matchRowsWrong)

/-- 'cachetierlaw08.MatchFull': WHATEVER THE INPUT: true; the input reads as it did. -/
def matchFullSpec : ChangeSpec := { name := "matchFull", fn := fun _ => fun
  | [d1, d2] => { results := [.lit (.bool true)], args := [d1, d2] }
  | _ => none }
def matchFullRow : OpenClaim := { program := "ytgbnjjgnihjfgaa", sum := "9e38bc9be4a23a5f6fa421f59d75d3930b62d62887d6c8c88a31b29962f64987", func := "cachetier/cachetierlaw08.MatchFull", spec := "matchFull", unfollowed := true, recurses := true, plainKeys := false, apart := false }
def MatchFullSaid : Prop := matchFullRow.holds Try.pinned (OpenSpec.ofChange matchFullSpec)

/-- ITS FALSE NEIGHBOUR: 'it returns false'. Refute it at one input. -/
def matchFullWrong : ChangeSpec := { name := "matchFull", fn := fun _ => fun
  | [d1, d2] => { results := [.lit (.bool false)], args := [d1, d2] }
  | _ => none }
def MatchFullWrongFalsely : Prop := matchFullRow.holds Try.pinned (OpenSpec.ofChange matchFullWrong)

/- THE SECOND FORM. 'bulk': how many values and letters a reading holds, each counted each time it is reached (what is shared counts as often as it is met; a slice's spare places count too). A statement '..UptoSaid' is the law's where the arguments, and the package variables that the reading takes, are together of bulk at most 1048576: NARROWER than '..Said'. Prove '..Said' where nothing that the law and all that it calls make is longer than what came in: it says more and counts as full. Else prove '..UptoSaid'. A law counts once. -/
mutual
def uptoBulk {H : Type} : DataW H → Nat
  | .lit (.string bytes) => bytes.length + 1
  | .lit _ => 1
  | .nil => 1
  | .ptr d => uptoBulk d + 1
  | .slice elems spare => uptoBulkAll elems + uptoBulkAll spare + 1
  | .agg parts => uptoBulkAll parts + 1
  | .iface _ d => uptoBulk d + 1
  | .map entries => uptoBulkEntries entries + 1
  | .held _ => 1
def uptoBulkAll {H : Type} : List (DataW H) → Nat
  | [] => 0
  | d :: r => uptoBulk d + uptoBulkAll r
def uptoBulkEntries {H : Type} : List (Lit × DataW H) → Nat
  | [] => 0
  | x :: r => uptoBulkEntry x + uptoBulkEntries r
def uptoBulkEntry {H : Type} : Lit × DataW H → Nat
  | (.string bytes, d) => bytes.length + uptoBulk d + 1
  | (_, d) => uptoBulk d + 1
 end
def uptoSmall : (H : Type) → List (DataW H) → Bool := fun _ ds => decide (uptoBulkAll ds ≤ 1048576)
def OpenSpec.upto (s : _root_.Go.ChangeSpec) : _root_.Go.OpenSpec := { _root_.Go.OpenSpec.ofChange s with cond := some uptoSmall }

/-- 'cachetierlaw06.EvalRow', WHERE WHAT IT READS IS OF BULK AT MOST 1048576: true; the input reads as it did. -/
def evalRowUptoRow : OpenClaim := { program := "ytgbnjjgnihjfgaa", sum := "9e38bc9be4a23a5f6fa421f59d75d3930b62d62887d6c8c88a31b29962f64987", func := "cachetier/cachetierlaw06.EvalRow", spec := "evalRow", unfollowed := true, recurses := true, plainKeys := false, apart := false, narrowed := true }
def EvalRowUptoSaid : Prop := evalRowUptoRow.holds Try.pinned (OpenSpec.upto evalRowSpec)

/-- 'cachetierlaw07.PredicateMatchesReference', WHERE WHAT IT READS IS OF BULK AT MOST 1048576: true; the input reads as it did. -/
def predicateMatchesReferenceUptoRow : OpenClaim := { program := "ytgbnjjgnihjfgaa", sum := "9e38bc9be4a23a5f6fa421f59d75d3930b62d62887d6c8c88a31b29962f64987", func := "cachetier/cachetierlaw07.PredicateMatchesReference", spec := "predicateMatchesReference", inPlace := ["slices.overlaps[cachetier/api.Row]", "slices.overlaps[cachetier/predicate.pair]"], unfollowed := true, recurses := true, plainKeys := false, apart := false, narrowed := true }
def PredicateMatchesReferenceUptoSaid : Prop := predicateMatchesReferenceUptoRow.holds Try.pinned (OpenSpec.upto predicateMatchesReferenceSpec)

/-- 'cachetierlaw07.PredicateApplyMatchesReference', WHERE WHAT IT READS IS OF BULK AT MOST 1048576: true; the input reads as it did. -/
def predicateApplyMatchesReferenceUptoRow : OpenClaim := { program := "ytgbnjjgnihjfgaa", sum := "9e38bc9be4a23a5f6fa421f59d75d3930b62d62887d6c8c88a31b29962f64987", func := "cachetier/cachetierlaw07.PredicateApplyMatchesReference", spec := "predicateApplyMatchesReference", inPlace := ["slices.overlaps[cachetier/api.Row]", "slices.overlaps[cachetier/predicate.pair]"], unfollowed := true, recurses := true, plainKeys := false, apart := false, narrowed := true }
def PredicateApplyMatchesReferenceUptoSaid : Prop := predicateApplyMatchesReferenceUptoRow.holds Try.pinned (OpenSpec.upto predicateApplyMatchesReferenceSpec)

/-- 'cachetierlaw07.PredicateOrder', WHERE WHAT IT READS IS OF BULK AT MOST 1048576: true; the input reads as it did. -/
def predicateOrderUptoRow : OpenClaim := { program := "ytgbnjjgnihjfgaa", sum := "9e38bc9be4a23a5f6fa421f59d75d3930b62d62887d6c8c88a31b29962f64987", func := "cachetier/cachetierlaw07.PredicateOrder", spec := "predicateOrder", inPlace := ["slices.overlaps[cachetier/api.Row]", "slices.overlaps[cachetier/predicate.pair]"], unfollowed := true, recurses := true, plainKeys := false, apart := false, narrowed := true }
def PredicateOrderUptoSaid : Prop := predicateOrderUptoRow.holds Try.pinned (OpenSpec.upto predicateOrderSpec)

/-- 'cachetierlaw07.PredicateForeign', WHERE WHAT IT READS IS OF BULK AT MOST 1048576: true; the input reads as it did. -/
def predicateForeignUptoRow : OpenClaim := { program := "ytgbnjjgnihjfgaa", sum := "9e38bc9be4a23a5f6fa421f59d75d3930b62d62887d6c8c88a31b29962f64987", func := "cachetier/cachetierlaw07.PredicateForeign", spec := "predicateForeign", inPlace := ["slices.overlaps[cachetier/api.Row]", "slices.overlaps[cachetier/predicate.pair]"], unfollowed := true, recurses := true, plainKeys := false, apart := false, narrowed := true }
def PredicateForeignUptoSaid : Prop := predicateForeignUptoRow.holds Try.pinned (OpenSpec.upto predicateForeignSpec)

/-- 'cachetierlaw08.MatchMatchesReference', WHERE WHAT IT READS IS OF BULK AT MOST 1048576: true; the input reads as it did. -/
def matchMatchesReferenceUptoRow : OpenClaim := { program := "ytgbnjjgnihjfgaa", sum := "9e38bc9be4a23a5f6fa421f59d75d3930b62d62887d6c8c88a31b29962f64987", func := "cachetier/cachetierlaw08.MatchMatchesReference", spec := "matchMatchesReference", unfollowed := true, recurses := true, plainKeys := false, apart := false, narrowed := true }
def MatchMatchesReferenceUptoSaid : Prop := matchMatchesReferenceUptoRow.holds Try.pinned (OpenSpec.upto matchMatchesReferenceSpec)

/-- 'cachetierlaw08.MatchScans', WHERE WHAT IT READS IS OF BULK AT MOST 1048576: true; the input reads as it did. -/
def matchScansUptoRow : OpenClaim := { program := "ytgbnjjgnihjfgaa", sum := "9e38bc9be4a23a5f6fa421f59d75d3930b62d62887d6c8c88a31b29962f64987", func := "cachetier/cachetierlaw08.MatchScans", spec := "matchScans", unfollowed := true, recurses := true, plainKeys := false, apart := false, narrowed := true }
def MatchScansUptoSaid : Prop := matchScansUptoRow.holds Try.pinned (OpenSpec.upto matchScansSpec)

/-- 'cachetierlaw08.MatchChanges', WHERE WHAT IT READS IS OF BULK AT MOST 1048576: true; the input reads as it did. -/
def matchChangesUptoRow : OpenClaim := { program := "ytgbnjjgnihjfgaa", sum := "9e38bc9be4a23a5f6fa421f59d75d3930b62d62887d6c8c88a31b29962f64987", func := "cachetier/cachetierlaw08.MatchChanges", spec := "matchChanges", unfollowed := true, recurses := true, plainKeys := false, apart := false, narrowed := true }
def MatchChangesUptoSaid : Prop := matchChangesUptoRow.holds Try.pinned (OpenSpec.upto matchChangesSpec)

/-- 'cachetierlaw08.MatchRows', WHERE WHAT IT READS IS OF BULK AT MOST 1048576: true; the input reads as it did. -/
def matchRowsUptoRow : OpenClaim := { program := "ytgbnjjgnihjfgaa", sum := "9e38bc9be4a23a5f6fa421f59d75d3930b62d62887d6c8c88a31b29962f64987", func := "cachetier/cachetierlaw08.MatchRows", spec := "matchRows", unfollowed := true, recurses := true, plainKeys := false, apart := false, narrowed := true }
def MatchRowsUptoSaid : Prop := matchRowsUptoRow.holds Try.pinned (OpenSpec.upto matchRowsSpec)

/-- 'cachetierlaw08.MatchFull', WHERE WHAT IT READS IS OF BULK AT MOST 1048576: true; the input reads as it did. -/
def matchFullUptoRow : OpenClaim := { program := "ytgbnjjgnihjfgaa", sum := "9e38bc9be4a23a5f6fa421f59d75d3930b62d62887d6c8c88a31b29962f64987", func := "cachetier/cachetierlaw08.MatchFull", spec := "matchFull", unfollowed := true, recurses := true, plainKeys := false, apart := false, narrowed := true }
def MatchFullUptoSaid : Prop := matchFullUptoRow.holds Try.pinned (OpenSpec.upto matchFullSpec)

end Rows
end Go.Proofs.Ytgbnjjgnihjfgaa
