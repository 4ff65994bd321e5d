/-
  No cell of these rows narrows 'for every input' (looked for: loops, veiled, ifaces, maps, wideKeys, modest, calm, conditions, laid).
  DERIVED. THE GIVEN ROWS OF THIS SEAT. 12 by the template 'for every input the law returns true; each argument reads behind the call as it read before'; 0 by the template 'total and deterministic' (their statements: YtcffofjialihaaaTotals.lean).
  GIVEN WITH THE SEED: the statements are not yours to turn. If you find one false, say at which input.
  Laid BY PROGRAM, IN A SANDBOX (cutbox-rows.mjs): the forced cells as the released guide's own fill.sh prints them over the translation 209ceab55299c6b6… (all of the seat's roots in one cut). By AI agents, Wed Nov 11 2026. No macro, syntax, notation, axiom, sorry.
-/
import Derived.Test.YtcffofjialihaaaChecked
import GoSem.Claim
import GoSem.ClaimJoined
import GoSem.ClaimMapViews
import Derived.JoinedTies
import Derived.KernelRfl
namespace Go.Proofs.Ytcffofjialihaaa
/- THE CELL 'sum', in the pinned program and in every row, IS THE sha256 OF THE DUMP (.gsa) THAT YtcffofjialihaaaProg.lean LOADS. Nothing in Lean hashes anything: it is a label: what it is worth is what the hold of that sum in a sandbox is worth. -/
noncomputable def Try.pinned : Pinned := { name := "ytcffofjialihaaa", sum := "209ceab55299c6b697b2ef223192d76e68a6807c7456dfe7d2c1356a4af0eee6", checked := Try.checked }
namespace Rows
def none {H : Type} : Left H := { results := [], args := [] }

/-- 'cachetierlaw06.EvalFromMatchesReference': WHATEVER THE INPUT: true; the input reads as it did. -/
def evalFromMatchesReferenceSpec : ChangeSpec := { name := "evalFromMatchesReference", fn := fun _ => fun
  | [d1, d2, d3, d4, d5] => { results := [.lit (.bool true)], args := [d1, d2, d3, d4, d5] }
  | _ => none }
def evalFromMatchesReferenceRow : OpenClaim := { program := "ytcffofjialihaaa", sum := "209ceab55299c6b697b2ef223192d76e68a6807c7456dfe7d2c1356a4af0eee6", func := "cachetier/cachetierlaw06.EvalFromMatchesReference", spec := "evalFromMatchesReference", unfollowed := true, recurses := true, plainKeys := false, apart := false }
def EvalFromMatchesReferenceSaid : Prop := evalFromMatchesReferenceRow.holds Try.pinned (OpenSpec.ofChange evalFromMatchesReferenceSpec)

/-- ITS FALSE NEIGHBOUR: 'it returns false'. Refute it at one input. -/
def evalFromMatchesReferenceWrong : ChangeSpec := { name := "evalFromMatchesReference", fn := fun _ => fun
  | [d1, d2, d3, d4, d5] => { results := [.lit (.bool false)], args := [d1, d2, d3, d4, d5] }
  | _ => none }
def EvalFromMatchesReferenceWrongFalsely : Prop := evalFromMatchesReferenceRow.holds Try.pinned (OpenSpec.ofChange evalFromMatchesReferenceWrong)

/-- 'cachetierlaw06.EvalMatchesReference': WHATEVER THE INPUT: true; the input reads as it did. -/
def evalMatchesReferenceSpec : ChangeSpec := { name := "evalMatchesReference", fn := fun _ => fun
  | [d1, d2, d3] => { results := [.lit (.bool true)], args := [d1, d2, d3] }
  | _ => none }
def evalMatchesReferenceRow : OpenClaim := { program := "ytcffofjialihaaa", sum := "209ceab55299c6b697b2ef223192d76e68a6807c7456dfe7d2c1356a4af0eee6", func := "cachetier/cachetierlaw06.EvalMatchesReference", spec := "evalMatchesReference", unfollowed := true, recurses := true, plainKeys := false, apart := false }
def EvalMatchesReferenceSaid : Prop := evalMatchesReferenceRow.holds Try.pinned (OpenSpec.ofChange evalMatchesReferenceSpec)

/-- ITS FALSE NEIGHBOUR: 'it returns false'. Refute it at one input. -/
def evalMatchesReferenceWrong : ChangeSpec := { name := "evalMatchesReference", fn := fun _ => fun
  | [d1, d2, d3] => { results := [.lit (.bool false)], args := [d1, d2, d3] }
  | _ => none }
def EvalMatchesReferenceWrongFalsely : Prop := evalMatchesReferenceRow.holds Try.pinned (OpenSpec.ofChange evalMatchesReferenceWrong)

/-- 'cachetierlaw06.EvalKinds': WHATEVER THE INPUT: true; the input reads as it did. -/
def evalKindsSpec : ChangeSpec := { name := "evalKinds", fn := fun _ => fun
  | [d1, d2, d3] => { results := [.lit (.bool true)], args := [d1, d2, d3] }
  | _ => none }
def evalKindsRow : OpenClaim := { program := "ytcffofjialihaaa", sum := "209ceab55299c6b697b2ef223192d76e68a6807c7456dfe7d2c1356a4af0eee6", func := "cachetier/cachetierlaw06.EvalKinds", spec := "evalKinds", unfollowed := true, recurses := true, plainKeys := false, apart := false }
def EvalKindsSaid : Prop := evalKindsRow.holds Try.pinned (OpenSpec.ofChange evalKindsSpec)

/-- ITS FALSE NEIGHBOUR: 'it returns false'. Refute it at one input. -/
def evalKindsWrong : ChangeSpec := { name := "evalKinds", fn := fun _ => fun
  | [d1, d2, d3] => { results := [.lit (.bool false)], args := [d1, d2, d3] }
  | _ => none }
def EvalKindsWrongFalsely : Prop := evalKindsRow.holds Try.pinned (OpenSpec.ofChange evalKindsWrong)

/-- 'cachetierlaw06.EvalDivided': WHATEVER THE INPUT: true; the input reads as it did. -/
def evalDividedSpec : ChangeSpec := { name := "evalDivided", fn := fun _ => fun
  | [d1, d2, d3] => { results := [.lit (.bool true)], args := [d1, d2, d3] }
  | _ => none }
def evalDividedRow : OpenClaim := { program := "ytcffofjialihaaa", sum := "209ceab55299c6b697b2ef223192d76e68a6807c7456dfe7d2c1356a4af0eee6", func := "cachetier/cachetierlaw06.EvalDivided", spec := "evalDivided", unfollowed := true, recurses := true, plainKeys := false, apart := false }
def EvalDividedSaid : Prop := evalDividedRow.holds Try.pinned (OpenSpec.ofChange evalDividedSpec)

/-- ITS FALSE NEIGHBOUR: 'it returns false'. Refute it at one input. -/
def evalDividedWrong : ChangeSpec := { name := "evalDivided", fn := fun _ => fun
  | [d1, d2, d3] => { results := [.lit (.bool false)], args := [d1, d2, d3] }
  | _ => none }
def EvalDividedWrongFalsely : Prop := evalDividedRow.holds Try.pinned (OpenSpec.ofChange evalDividedWrong)

/-- 'cachetierlaw06.EvalLocal': WHATEVER THE INPUT: true; the input reads as it did. -/
def evalLocalSpec : ChangeSpec := { name := "evalLocal", fn := fun _ => fun
  | [d1, d2] => { results := [.lit (.bool true)], args := [d1, d2] }
  | _ => none }
def evalLocalRow : OpenClaim := { program := "ytcffofjialihaaa", sum := "209ceab55299c6b697b2ef223192d76e68a6807c7456dfe7d2c1356a4af0eee6", func := "cachetier/cachetierlaw06.EvalLocal", spec := "evalLocal", unfollowed := true, recurses := true, plainKeys := false, apart := false }
def EvalLocalSaid : Prop := evalLocalRow.holds Try.pinned (OpenSpec.ofChange evalLocalSpec)

/-- ITS FALSE NEIGHBOUR: 'it returns false'. Refute it at one input. -/
def evalLocalWrong : ChangeSpec := { name := "evalLocal", fn := fun _ => fun
  | [d1, d2] => { results := [.lit (.bool false)], args := [d1, d2] }
  | _ => none }
def EvalLocalWrongFalsely : Prop := evalLocalRow.holds Try.pinned (OpenSpec.ofChange evalLocalWrong)

/-- 'cachetierlaw06.EvalPairs': WHATEVER THE INPUT: true; the input reads as it did. -/
def evalPairsSpec : ChangeSpec := { name := "evalPairs", fn := fun _ => fun
  | [d1, d2, d3, d4] => { results := [.lit (.bool true)], args := [d1, d2, d3, d4] }
  | _ => none }
def evalPairsRow : OpenClaim := { program := "ytcffofjialihaaa", sum := "209ceab55299c6b697b2ef223192d76e68a6807c7456dfe7d2c1356a4af0eee6", func := "cachetier/cachetierlaw06.EvalPairs", spec := "evalPairs", unfollowed := true, recurses := true, plainKeys := false, apart := false }
def EvalPairsSaid : Prop := evalPairsRow.holds Try.pinned (OpenSpec.ofChange evalPairsSpec)

/-- ITS FALSE NEIGHBOUR: 'it returns false'. Refute it at one input. -/
def evalPairsWrong : ChangeSpec := { name := "evalPairs", fn := fun _ => fun
  | [d1, d2, d3, d4] => { results := [.lit (.bool false)], args := [d1, d2, d3, d4] }
  | _ => none }
def EvalPairsWrongFalsely : Prop := evalPairsRow.holds Try.pinned (OpenSpec.ofChange evalPairsWrong)

/-- 'cachetierlaw06.EvalOwns': WHATEVER THE INPUT: true; the input reads as it did. -/
def evalOwnsSpec : ChangeSpec := { name := "evalOwns", fn := fun _ => fun
  | [d1, d2, d3] => { results := [.lit (.bool true)], args := [d1, d2, d3] }
  | _ => none }
def evalOwnsRow : OpenClaim := { program := "ytcffofjialihaaa", sum := "209ceab55299c6b697b2ef223192d76e68a6807c7456dfe7d2c1356a4af0eee6", func := "cachetier/cachetierlaw06.EvalOwns", spec := "evalOwns", unfollowed := true, recurses := true, plainKeys := false, apart := false }
def EvalOwnsSaid : Prop := evalOwnsRow.holds Try.pinned (OpenSpec.ofChange evalOwnsSpec)

/-- ITS FALSE NEIGHBOUR: 'it returns false'. Refute it at one input. -/
def evalOwnsWrong : ChangeSpec := { name := "evalOwns", fn := fun _ => fun
  | [d1, d2, d3] => { results := [.lit (.bool false)], args := [d1, d2, d3] }
  | _ => none }
def EvalOwnsWrongFalsely : Prop := evalOwnsRow.holds Try.pinned (OpenSpec.ofChange evalOwnsWrong)

/-- 'cachetierlaw06.EvalRow': WHATEVER THE INPUT: true; the input reads as it did. -/
def evalRowSpec : ChangeSpec := { name := "evalRow", fn := fun _ => fun
  | [d1, d2, d3] => { results := [.lit (.bool true)], args := [d1, d2, d3] }
  | _ => none }
def evalRowRow : OpenClaim := { program := "ytcffofjialihaaa", sum := "209ceab55299c6b697b2ef223192d76e68a6807c7456dfe7d2c1356a4af0eee6", func := "cachetier/cachetierlaw06.EvalRow", spec := "evalRow", unfollowed := true, recurses := true, plainKeys := false, apart := false }
def EvalRowSaid : Prop := evalRowRow.holds Try.pinned (OpenSpec.ofChange evalRowSpec)

/-- ITS FALSE NEIGHBOUR: 'it returns false'. Refute it at one input. -/
def evalRowWrong : ChangeSpec := { name := "evalRow", fn := fun _ => fun
  | [d1, d2, d3] => { results := [.lit (.bool false)], args := [d1, d2, d3] }
  | _ => none }
def EvalRowWrongFalsely : Prop := evalRowRow.holds Try.pinned (OpenSpec.ofChange evalRowWrong)

/-- 'cachetierlaw07.PredicateMatchesReference': WHATEVER THE INPUT: true; the input reads as it did. -/
def predicateMatchesReferenceSpec : ChangeSpec := { name := "predicateMatchesReference", fn := fun _ => fun
  | [d1, d2, d3, d4, d5] => { results := [.lit (.bool true)], args := [d1, d2, d3, d4, d5] }
  | _ => none }
def predicateMatchesReferenceRow : OpenClaim := { program := "ytcffofjialihaaa", sum := "209ceab55299c6b697b2ef223192d76e68a6807c7456dfe7d2c1356a4af0eee6", func := "cachetier/cachetierlaw07.PredicateMatchesReference", spec := "predicateMatchesReference", inPlace := ["slices.overlaps[cachetier/api.Row]", "slices.overlaps[cachetier/predicate.pair]"], unfollowed := true, recurses := true, plainKeys := false, apart := false }
def PredicateMatchesReferenceSaid : Prop := predicateMatchesReferenceRow.holds Try.pinned (OpenSpec.ofChange predicateMatchesReferenceSpec)

/-- ITS FALSE NEIGHBOUR: 'it returns false'. Refute it at one input. -/
def predicateMatchesReferenceWrong : ChangeSpec := { name := "predicateMatchesReference", fn := fun _ => fun
  | [d1, d2, d3, d4, d5] => { results := [.lit (.bool false)], args := [d1, d2, d3, d4, d5] }
  | _ => none }
def PredicateMatchesReferenceWrongFalsely : Prop := predicateMatchesReferenceRow.holds Try.pinned (OpenSpec.ofChange predicateMatchesReferenceWrong)

/-- 'cachetierlaw07.PredicateApplyMatchesReference': WHATEVER THE INPUT: true; the input reads as it did. -/
def predicateApplyMatchesReferenceSpec : ChangeSpec := { name := "predicateApplyMatchesReference", fn := fun _ => fun
  | [d1, d2, d3] => { results := [.lit (.bool true)], args := [d1, d2, d3] }
  | _ => none }
def predicateApplyMatchesReferenceRow : OpenClaim := { program := "ytcffofjialihaaa", sum := "209ceab55299c6b697b2ef223192d76e68a6807c7456dfe7d2c1356a4af0eee6", func := "cachetier/cachetierlaw07.PredicateApplyMatchesReference", spec := "predicateApplyMatchesReference", inPlace := ["slices.overlaps[cachetier/api.Row]", "slices.overlaps[cachetier/predicate.pair]"], unfollowed := true, recurses := true, plainKeys := false, apart := false }
def PredicateApplyMatchesReferenceSaid : Prop := predicateApplyMatchesReferenceRow.holds Try.pinned (OpenSpec.ofChange predicateApplyMatchesReferenceSpec)

/-- ITS FALSE NEIGHBOUR: 'it returns false'. Refute it at one input. -/
def predicateApplyMatchesReferenceWrong : ChangeSpec := { name := "predicateApplyMatchesReference", fn := fun _ => fun
  | [d1, d2, d3] => { results := [.lit (.bool false)], args := [d1, d2, d3] }
  | _ => none }
def PredicateApplyMatchesReferenceWrongFalsely : Prop := predicateApplyMatchesReferenceRow.holds Try.pinned (OpenSpec.ofChange predicateApplyMatchesReferenceWrong)

/-- 'cachetierlaw07.PredicateOrder': WHATEVER THE INPUT: true; the input reads as it did. -/
def predicateOrderSpec : ChangeSpec := { name := "predicateOrder", fn := fun _ => fun
  | [d1, d2, d3] => { results := [.lit (.bool true)], args := [d1, d2, d3] }
  | _ => none }
def predicateOrderRow : OpenClaim := { program := "ytcffofjialihaaa", sum := "209ceab55299c6b697b2ef223192d76e68a6807c7456dfe7d2c1356a4af0eee6", func := "cachetier/cachetierlaw07.PredicateOrder", spec := "predicateOrder", inPlace := ["slices.overlaps[cachetier/api.Row]", "slices.overlaps[cachetier/predicate.pair]"], unfollowed := true, recurses := true, plainKeys := false, apart := false }
def PredicateOrderSaid : Prop := predicateOrderRow.holds Try.pinned (OpenSpec.ofChange predicateOrderSpec)

/-- ITS FALSE NEIGHBOUR: 'it returns false'. Refute it at one input. -/
def predicateOrderWrong : ChangeSpec := { name := "predicateOrder", fn := fun _ => fun
  | [d1, d2, d3] => { results := [.lit (.bool false)], args := [d1, d2, d3] }
  | _ => none }
def PredicateOrderWrongFalsely : Prop := predicateOrderRow.holds Try.pinned (OpenSpec.ofChange predicateOrderWrong)

/-- 'cachetierlaw07.PredicateForeign': WHATEVER THE INPUT: true; the input reads as it did. -/
def predicateForeignSpec : ChangeSpec := { name := "predicateForeign", fn := fun _ => fun
  | [d1, d2, d3] => { results := [.lit (.bool true)], args := [d1, d2, d3] }
  | _ => none }
def predicateForeignRow : OpenClaim := { program := "ytcffofjialihaaa", sum := "209ceab55299c6b697b2ef223192d76e68a6807c7456dfe7d2c1356a4af0eee6", func := "cachetier/cachetierlaw07.PredicateForeign", spec := "predicateForeign", inPlace := ["slices.overlaps[cachetier/api.Row]", "slices.overlaps[cachetier/predicate.pair]"], unfollowed := true, recurses := true, plainKeys := false, apart := false }
def PredicateForeignSaid : Prop := predicateForeignRow.holds Try.pinned (OpenSpec.ofChange predicateForeignSpec)

/-- ITS FALSE NEIGHBOUR: 'it returns false'. Refute it at one input. -/
def predicateForeignWrong : ChangeSpec := { name := "predicateForeign", fn := fun _ => fun
  | [d1, d2, d3] => { results := [.lit (.bool false)], args := [d1, d2, d3] }
  | _ => none }
def PredicateForeignWrongFalsely : Prop := predicateForeignRow.holds Try.pinned (OpenSpec.ofChange predicateForeignWrong)

/- THE SECOND FORM. 'bulk': how many values and letters a reading holds, each counted each time it is reached (what is shared counts as often as it is met; a slice's spare places count too). A statement '..UptoSaid' is the law's where the arguments, and the package variables that the reading takes, are together of bulk at most 1048576: NARROWER than '..Said'. Prove '..Said' where nothing that the law and all that it calls make is longer than what came in: it says more and counts as full. Else prove '..UptoSaid'. A law counts once. -/
mutual
def uptoBulk {H : Type} : DataW H → Nat
  | .lit (.string bytes) => bytes.length + 1
  | .lit _ => 1
  | .nil => 1
  | .ptr d => uptoBulk d + 1
  | .slice elems spare => uptoBulkAll elems + uptoBulkAll spare + 1
  | .agg parts => uptoBulkAll parts + 1
  | .iface _ d => uptoBulk d + 1
  | .map entries => uptoBulkEntries entries + 1
  | .held _ => 1
def uptoBulkAll {H : Type} : List (DataW H) → Nat
  | [] => 0
  | d :: r => uptoBulk d + uptoBulkAll r
def uptoBulkEntries {H : Type} : List (Lit × DataW H) → Nat
  | [] => 0
  | x :: r => uptoBulkEntry x + uptoBulkEntries r
def uptoBulkEntry {H : Type} : Lit × DataW H → Nat
  | (.string bytes, d) => bytes.length + uptoBulk d + 1
  | (_, d) => uptoBulk d + 1
 end
def uptoSmall : (H : Type) → List (DataW H) → Bool := fun _ ds => decide (uptoBulkAll ds ≤ 1048576)
def OpenSpec.upto (s : _root_.Go.ChangeSpec) : _root_.Go.OpenSpec := { _root_.Go.OpenSpec.ofChange s with cond := some uptoSmall }

/-- 'cachetierlaw06.EvalFromMatchesReference', WHERE WHAT IT READS IS OF BULK AT MOST 1048576: true; the input reads as it did. -/
def evalFromMatchesReferenceUptoRow : OpenClaim := { program := "ytcffofjialihaaa", sum := "209ceab55299c6b697b2ef223192d76e68a6807c7456dfe7d2c1356a4af0eee6", func := "cachetier/cachetierlaw06.EvalFromMatchesReference", spec := "evalFromMatchesReference", unfollowed := true, recurses := true, plainKeys := false, apart := false, narrowed := true }
def EvalFromMatchesReferenceUptoSaid : Prop := evalFromMatchesReferenceUptoRow.holds Try.pinned (OpenSpec.upto evalFromMatchesReferenceSpec)

/-- 'cachetierlaw06.EvalMatchesReference', WHERE WHAT IT READS IS OF BULK AT MOST 1048576: true; the input reads as it did. -/
def evalMatchesReferenceUptoRow : OpenClaim := { program := "ytcffofjialihaaa", sum := "209ceab55299c6b697b2ef223192d76e68a6807c7456dfe7d2c1356a4af0eee6", func := "cachetier/cachetierlaw06.EvalMatchesReference", spec := "evalMatchesReference", unfollowed := true, recurses := true, plainKeys := false, apart := false, narrowed := true }
def EvalMatchesReferenceUptoSaid : Prop := evalMatchesReferenceUptoRow.holds Try.pinned (OpenSpec.upto evalMatchesReferenceSpec)

/-- 'cachetierlaw06.EvalKinds', WHERE WHAT IT READS IS OF BULK AT MOST 1048576: true; the input reads as it did. -/
def evalKindsUptoRow : OpenClaim := { program := "ytcffofjialihaaa", sum := "209ceab55299c6b697b2ef223192d76e68a6807c7456dfe7d2c1356a4af0eee6", func := "cachetier/cachetierlaw06.EvalKinds", spec := "evalKinds", unfollowed := true, recurses := true, plainKeys := false, apart := false, narrowed := true }
def EvalKindsUptoSaid : Prop := evalKindsUptoRow.holds Try.pinned (OpenSpec.upto evalKindsSpec)

/-- 'cachetierlaw06.EvalDivided', WHERE WHAT IT READS IS OF BULK AT MOST 1048576: true; the input reads as it did. -/
def evalDividedUptoRow : OpenClaim := { program := "ytcffofjialihaaa", sum := "209ceab55299c6b697b2ef223192d76e68a6807c7456dfe7d2c1356a4af0eee6", func := "cachetier/cachetierlaw06.EvalDivided", spec := "evalDivided", unfollowed := true, recurses := true, plainKeys := false, apart := false, narrowed := true }
def EvalDividedUptoSaid : Prop := evalDividedUptoRow.holds Try.pinned (OpenSpec.upto evalDividedSpec)

/-- 'cachetierlaw06.EvalLocal', WHERE WHAT IT READS IS OF BULK AT MOST 1048576: true; the input reads as it did. -/
def evalLocalUptoRow : OpenClaim := { program := "ytcffofjialihaaa", sum := "209ceab55299c6b697b2ef223192d76e68a6807c7456dfe7d2c1356a4af0eee6", func := "cachetier/cachetierlaw06.EvalLocal", spec := "evalLocal", unfollowed := true, recurses := true, plainKeys := false, apart := false, narrowed := true }
def EvalLocalUptoSaid : Prop := evalLocalUptoRow.holds Try.pinned (OpenSpec.upto evalLocalSpec)

/-- 'cachetierlaw06.EvalPairs', WHERE WHAT IT READS IS OF BULK AT MOST 1048576: true; the input reads as it did. -/
def evalPairsUptoRow : OpenClaim := { program := "ytcffofjialihaaa", sum := "209ceab55299c6b697b2ef223192d76e68a6807c7456dfe7d2c1356a4af0eee6", func := "cachetier/cachetierlaw06.EvalPairs", spec := "evalPairs", unfollowed := true, recurses := true, plainKeys := false, apart := false, narrowed := true }
def EvalPairsUptoSaid : Prop := evalPairsUptoRow.holds Try.pinned (OpenSpec.upto evalPairsSpec)

/-- 'cachetierlaw06.EvalOwns', WHERE WHAT IT READS IS OF BULK AT MOST 1048576: true; the input reads as it did. -/
def evalOwnsUptoRow : OpenClaim := { program := "ytcffofjialihaaa", sum := "209ceab55299c6b697b2ef223192d76e68a6807c7456dfe7d2c1356a4af0eee6", func := "cachetier/cachetierlaw06.EvalOwns", spec := "evalOwns", unfollowed := true, recurses := true, plainKeys := false, apart := false, narrowed := true }
def EvalOwnsUptoSaid : Prop := evalOwnsUptoRow.holds Try.pinned (OpenSpec.upto evalOwnsSpec)

/-- 'cachetierlaw06.EvalRow', WHERE WHAT IT READS IS OF BULK AT MOST 1048576: true; the input reads as it did. -/
def evalRowUptoRow : OpenClaim := { program := "ytcffofjialihaaa", sum := "209ceab55299c6b697b2ef223192d76e68a6807c7456dfe7d2c1356a4af0eee6", func := "cachetier/cachetierlaw06.EvalRow", spec := "evalRow", unfollowed := true, recurses := true, plainKeys := false, apart := false, narrowed := true }
def EvalRowUptoSaid : Prop := evalRowUptoRow.holds Try.pinned (OpenSpec.upto evalRowSpec)

/-- 'cachetierlaw07.PredicateMatchesReference', WHERE WHAT IT READS IS OF BULK AT MOST 1048576: true; the input reads as it did. -/
def predicateMatchesReferenceUptoRow : OpenClaim := { program := "ytcffofjialihaaa", sum := "209ceab55299c6b697b2ef223192d76e68a6807c7456dfe7d2c1356a4af0eee6", func := "cachetier/cachetierlaw07.PredicateMatchesReference", spec := "predicateMatchesReference", inPlace := ["slices.overlaps[cachetier/api.Row]", "slices.overlaps[cachetier/predicate.pair]"], unfollowed := true, recurses := true, plainKeys := false, apart := false, narrowed := true }
def PredicateMatchesReferenceUptoSaid : Prop := predicateMatchesReferenceUptoRow.holds Try.pinned (OpenSpec.upto predicateMatchesReferenceSpec)

/-- 'cachetierlaw07.PredicateApplyMatchesReference', WHERE WHAT IT READS IS OF BULK AT MOST 1048576: true; the input reads as it did. -/
def predicateApplyMatchesReferenceUptoRow : OpenClaim := { program := "ytcffofjialihaaa", sum := "209ceab55299c6b697b2ef223192d76e68a6807c7456dfe7d2c1356a4af0eee6", func := "cachetier/cachetierlaw07.PredicateApplyMatchesReference", spec := "predicateApplyMatchesReference", inPlace := ["slices.overlaps[cachetier/api.Row]", "slices.overlaps[cachetier/predicate.pair]"], unfollowed := true, recurses := true, plainKeys := false, apart := false, narrowed := true }
def PredicateApplyMatchesReferenceUptoSaid : Prop := predicateApplyMatchesReferenceUptoRow.holds Try.pinned (OpenSpec.upto predicateApplyMatchesReferenceSpec)

/-- 'cachetierlaw07.PredicateOrder', WHERE WHAT IT READS IS OF BULK AT MOST 1048576: true; the input reads as it did. -/
def predicateOrderUptoRow : OpenClaim := { program := "ytcffofjialihaaa", sum := "209ceab55299c6b697b2ef223192d76e68a6807c7456dfe7d2c1356a4af0eee6", func := "cachetier/cachetierlaw07.PredicateOrder", spec := "predicateOrder", inPlace := ["slices.overlaps[cachetier/api.Row]", "slices.overlaps[cachetier/predicate.pair]"], unfollowed := true, recurses := true, plainKeys := false, apart := false, narrowed := true }
def PredicateOrderUptoSaid : Prop := predicateOrderUptoRow.holds Try.pinned (OpenSpec.upto predicateOrderSpec)

/-- 'cachetierlaw07.PredicateForeign', WHERE WHAT IT READS IS OF BULK AT MOST 1048576: true; the input reads as it did. -/
def predicateForeignUptoRow : OpenClaim := { program := "ytcffofjialihaaa", sum := "209ceab55299c6b697b2ef223192d76e68a6807c7456dfe7d2c1356a4af0eee6", func := "cachetier/cachetierlaw07.PredicateForeign", spec := "predicateForeign", inPlace := ["slices.overlaps[cachetier/api.Row]", "slices.overlaps[cachetier/predicate.pair]"], unfollowed := true, recurses := true, plainKeys := false, apart := false, narrowed := true }
def PredicateForeignUptoSaid : Prop := predicateForeignUptoRow.holds Try.pinned (OpenSpec.upto predicateForeignSpec)

end Rows
end Go.Proofs.Ytcffofjialihaaa
