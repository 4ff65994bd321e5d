/- WALKS: read's deferred closure; errors.Is. -/
import Derived.Test.YtmjcjgmmolmibaaDoorW9
import Derived.Test.YtmjcjgmmolmibaaDoorChecked
import Derived.Defers
import Derived.Recover
import Derived.LaidEql
import Derived.Stop.Asserts
import Derived.RowKitTokens
set_option linter.unusedVariables false
set_option linter.unusedSimpArgs false
namespace Go.Proofs.YtmjcjgmmolmibaaDoor
open Go.RowKit Go.Extern.Stop Go.Stop Go.Extern

theorem assertErr (v : Value) (w : World) : (Instr.typeAssert (.iface 122 v) 20 48 true).run Tryd.prog w = .ok (.tuple #[.iface 122 v, .bool true]) w := run_typeAssert_hasB Tryd.underlying48 (by kernel_rfl) v 20 w
theorem assertNil (w : World) : (Instr.typeAssert .nilIface 20 48 true).run Tryd.prog w = .ok (.tuple #[.nilIface, .bool false]) w := by kernel_rfl

set_option maxRecDepth 100000 in
set_option maxHeartbeats 1000000 in
theorem rescue_idle (F : Nat) (w : World) :
    CallsD Tryd.prog 39 #[.pointer (some ⟨F, 0, none⟩)] .returning w fun e u' w' => e = .returned (.tuple #[]) ∧ u' = .returning ∧ w' = w := by
  have hA := assertNil
  refine callsD_of_wpS Tryd.func39 rfl fun c₀ cs hu => ?_
  apply wpS_seq
  apply wpS_region
  simp [wpOpsS, go_sem, recoverD, hu, Tryd.ntmps39, Exit.thenS, hA]
  refine wpS_of_wp ?_
  simp only [Array.replicate_succ, Array.replicate_zero, List.push_toArray, List.append_toArray, List.nil_append, List.cons_append, List.setIfInBounds_toArray, List.set_cons_zero, List.set_cons_succ]
  go_wp2
  refine ⟨rfl, .returning, ?_, .tuple #[], by simp [results, Tryd.results39], rfl, rfl, rfl⟩
  rw [← hu]

set_option maxRecDepth 100000 in
set_option maxHeartbeats 1000000 in
theorem rescue_pan (F : Nat) (a : Addr) (cE : Value) (older : List PanicEntry) (w : World) (hE : w.cell? ⟨F, 0, none⟩ = some cE) (hfE : w.frozen? ⟨F, 0, none⟩ = false) :
    CallsD Tryd.prog 39 #[.pointer (some ⟨F, 0, none⟩)] (.panicking ({ v := errV a, recovered := false } :: older)) w fun e u' w' =>
      e = .returned (.tuple #[]) ∧ u' = .panicking ({ v := errV a, recovered := true } :: older) ∧ w' = w.setCell ⟨F, 0, none⟩ (errV a) := by
  have hA := assertErr
  refine callsD_of_wpS Tryd.func39 rfl fun c₀ cs hu => ?_
  apply wpS_seq
  apply wpS_region
  simp [wpOpsS, go_sem, recoverD, hu, Tryd.ntmps39, Exit.thenS, hA]
  refine wpS_of_wp ?_
  simp only [Array.replicate_succ, Array.replicate_zero, List.push_toArray, List.append_toArray, List.nil_append, List.cons_append, List.setIfInBounds_toArray, List.set_cons_zero, List.set_cons_succ]
  go_wp2
  exact ⟨rfl, _, rfl, .tuple #[], by simp [results, Tryd.results39], rfl, rfl, rfl⟩
end Go.Proofs.YtmjcjgmmolmibaaDoor
