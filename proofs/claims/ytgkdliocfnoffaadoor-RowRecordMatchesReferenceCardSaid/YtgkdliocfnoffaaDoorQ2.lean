/- WALKS: the deferred closures of Decode and DecodeRecord. -/
import Derived.Test.YtgkdliocfnoffaaDoorQ1
import Derived.Defers
import Derived.Recover
set_option linter.unusedVariables false
namespace Go.Proofs.YtgkdliocfnoffaaDoor
open Go.RowKit

theorem assertErr (v : Value) (w : World) : (Instr.typeAssert (.iface 116 v) 20 58 true).run Tryd.prog w = .ok (.tuple #[.iface 116 v, .bool true]) w := run_typeAssert_hasB Tryd.underlying58 (by kernel_rfl) v 20 w
theorem assertNil (w : World) : (Instr.typeAssert .nilIface 20 58 true).run Tryd.prog w = .ok (.tuple #[.nilIface, .bool false]) w := by kernel_rfl

set_option maxRecDepth 100000 in
set_option maxHeartbeats 1000000 in
theorem rescue_idle (R E : Nat) (w : World) :
    CallsD Tryd.prog 39 #[.pointer (some ⟨R, 0, none⟩), .pointer (some ⟨E, 0, none⟩)] .returning w fun e u' w' => e = .returned (.tuple #[]) ∧ u' = .returning ∧ w' = w := by
  have hA := assertNil
  refine callsD_of_wpS Tryd.func39 rfl fun c₀ cs hu => ?_
  apply wpS_seq
  apply wpS_region
  simp [wpOpsS, go_sem, recoverD, hu, Tryd.ntmps39, Exit.thenS, hA]
  refine wpS_of_wp ?_
  simp only [Array.replicate_succ, Array.replicate_zero, List.push_toArray, List.append_toArray, List.nil_append, List.cons_append, List.setIfInBounds_toArray, List.set_cons_zero, List.set_cons_succ]
  go_wp2
  refine ⟨rfl, .returning, ?_, .tuple #[], by simp [results, Tryd.results39], rfl, rfl, rfl⟩
  rw [← hu]

set_option maxRecDepth 100000 in
set_option maxHeartbeats 1000000 in
theorem rescue_wire (R E : Nat) (a0 : Addr) (cR : Array Value) (cE : Value) (older : List PanicEntry) (w : World) (hR : w.heap[R]? = some (.cells cR 24 (0, 0))) (hRs : cR.size = 5) (hE : w.cell? ⟨E, 0, none⟩ = some cE) (hfE : w.frozen? ⟨E, 0, none⟩ = false) (hne : ¬ E = R) (hg : w.cell? ⟨0, 0, none⟩ = some (errV a0)) :
    CallsD Tryd.prog 39 #[.pointer (some ⟨R, 0, none⟩), .pointer (some ⟨E, 0, none⟩)] (.panicking ({ v := errV a0, recovered := false } :: older)) w fun e u' w' =>
      e = .returned (.tuple #[]) ∧ u' = .panicking ({ v := errV a0, recovered := true } :: older) ∧ w' = (w.setRow R #[.int .i64 0, .int .i64 0, .int .i64 0, .int .i64 0, .int .i64 0]).setCell ⟨E, 0, none⟩ (.int .i64 10) := by
  have hA := assertErr
  have hE2 : (w.setRow R #[.int .i64 0, .int .i64 0, .int .i64 0, .int .i64 0, .int .i64 0]).cell? ⟨E, 0, none⟩ = some cE := (cell_setRow_other w R _ _ hne).trans hE
  have hfE2 : (w.setRow R #[.int .i64 0, .int .i64 0, .int .i64 0, .int .i64 0, .int .i64 0]).frozen? ⟨E, 0, none⟩ = false := by
    simp only [World.frozen?, setRow_other w R E _ hne] at hfE ⊢; exact hfE
  refine callsD_of_wpS Tryd.func39 rfl fun c₀ cs hu => ?_
  apply wpS_seq
  apply wpS_region
  simp [wpOpsS, go_sem, recoverD, hu, Tryd.ntmps39, Exit.thenS, hA]
  refine wpS_of_wp ?_
  simp only [Array.replicate_succ, Array.replicate_zero, List.push_toArray, List.append_toArray, List.nil_append, List.cons_append, List.setIfInBounds_toArray, List.set_cons_zero, List.set_cons_succ]
  go_wp2_with fail
  (with_reducible refine (codeOf_wire a0 _ hg).mono ?_)
  rintro e w1 ⟨rfl, rfl⟩
  go_wp2_with (first | (refine wpList_store_row rfl 24 _ _ rfl R _ rfl rfl 24 _ hR (by kernel_rfl) hRs (by simp [Value.oneCell']) ?_))
  exact ⟨rfl, _, rfl, .tuple #[], by simp [results, Tryd.results39], rfl, rfl, rfl⟩

set_option maxRecDepth 100000 in
set_option maxHeartbeats 1000000 in
theorem rescue_range (R E : Nat) (a0 a1 : Addr) (cR : Array Value) (cE : Value) (older : List PanicEntry) (w : World) (hR : w.heap[R]? = some (.cells cR 24 (0, 0))) (hRs : cR.size = 5) (hE : w.cell? ⟨E, 0, none⟩ = some cE) (hfE : w.frozen? ⟨E, 0, none⟩ = false) (hne : ¬ E = R) (hg : ErrW w a0 a1) :
    CallsD Tryd.prog 39 #[.pointer (some ⟨R, 0, none⟩), .pointer (some ⟨E, 0, none⟩)] (.panicking ({ v := errV a1, recovered := false } :: older)) w fun e u' w' =>
      e = .returned (.tuple #[]) ∧ u' = .panicking ({ v := errV a1, recovered := true } :: older) ∧ w' = (w.setRow R #[.int .i64 0, .int .i64 0, .int .i64 0, .int .i64 0, .int .i64 0]).setCell ⟨E, 0, none⟩ (.int .i64 30) := by
  have hA := assertErr
  have hE2 : (w.setRow R #[.int .i64 0, .int .i64 0, .int .i64 0, .int .i64 0, .int .i64 0]).cell? ⟨E, 0, none⟩ = some cE := (cell_setRow_other w R _ _ hne).trans hE
  have hfE2 : (w.setRow R #[.int .i64 0, .int .i64 0, .int .i64 0, .int .i64 0, .int .i64 0]).frozen? ⟨E, 0, none⟩ = false := by
    simp only [World.frozen?, setRow_other w R E _ hne] at hfE ⊢; exact hfE
  refine callsD_of_wpS Tryd.func39 rfl fun c₀ cs hu => ?_
  apply wpS_seq
  apply wpS_region
  simp [wpOpsS, go_sem, recoverD, hu, Tryd.ntmps39, Exit.thenS, hA]
  refine wpS_of_wp ?_
  simp only [Array.replicate_succ, Array.replicate_zero, List.push_toArray, List.append_toArray, List.nil_append, List.cons_append, List.setIfInBounds_toArray, List.set_cons_zero, List.set_cons_succ]
  go_wp2_with fail
  (with_reducible refine (codeOf_range a0 a1 _ hg).mono ?_)
  rintro e w1 ⟨rfl, rfl⟩
  go_wp2_with (first | (refine wpList_store_row rfl 24 _ _ rfl R _ rfl rfl 24 _ hR (by kernel_rfl) hRs (by simp [Value.oneCell']) ?_))
  exact ⟨rfl, _, rfl, .tuple #[], by simp [results, Tryd.results39], rfl, rfl, rfl⟩

set_option maxRecDepth 100000 in
set_option maxHeartbeats 1000000 in
theorem rescueR_idle (R E : Nat) (w : World) :
    CallsD Tryd.prog 51 #[.pointer (some ⟨R, 0, none⟩), .pointer (some ⟨E, 0, none⟩)] .returning w fun e u' w' => e = .returned (.tuple #[]) ∧ u' = .returning ∧ w' = w := by
  have hA := assertNil
  refine callsD_of_wpS Tryd.func51 rfl fun c₀ cs hu => ?_
  apply wpS_seq
  apply wpS_region
  simp [wpOpsS, go_sem, recoverD, hu, Tryd.ntmps51, Exit.thenS, hA]
  refine wpS_of_wp ?_
  simp only [Array.replicate_succ, Array.replicate_zero, List.push_toArray, List.append_toArray, List.nil_append, List.cons_append, List.setIfInBounds_toArray, List.set_cons_zero, List.set_cons_succ]
  go_wp2
  refine ⟨rfl, .returning, ?_, .tuple #[], by simp [results, Tryd.results51], rfl, rfl, rfl⟩
  rw [← hu]

set_option maxRecDepth 100000 in
set_option maxHeartbeats 1000000 in
theorem rescueR_wire (R E : Nat) (a0 : Addr) (cR : Array Value) (cE : Value) (older : List PanicEntry) (w : World) (hR : w.heap[R]? = some (.cells cR 37 (0, 0))) (hRs : cR.size = 2) (hE : w.cell? ⟨E, 0, none⟩ = some cE) (hfE : w.frozen? ⟨E, 0, none⟩ = false) (hne : ¬ E = R) (hg : w.cell? ⟨0, 0, none⟩ = some (errV a0)) :
    CallsD Tryd.prog 51 #[.pointer (some ⟨R, 0, none⟩), .pointer (some ⟨E, 0, none⟩)] (.panicking ({ v := errV a0, recovered := false } :: older)) w fun e u' w' =>
      e = .returned (.tuple #[]) ∧ u' = .panicking ({ v := errV a0, recovered := true } :: older) ∧ w' = (w.setRow R #[.int .i64 0, .slice none 0 0]).setCell ⟨E, 0, none⟩ (.int .i64 10) := by
  have hA := assertErr
  have hE2 : (w.setRow R #[.int .i64 0, .slice none 0 0]).cell? ⟨E, 0, none⟩ = some cE := (cell_setRow_other w R _ _ hne).trans hE
  have hfE2 : (w.setRow R #[.int .i64 0, .slice none 0 0]).frozen? ⟨E, 0, none⟩ = false := by
    simp only [World.frozen?, setRow_other w R E _ hne] at hfE ⊢; exact hfE
  refine callsD_of_wpS Tryd.func51 rfl fun c₀ cs hu => ?_
  apply wpS_seq
  apply wpS_region
  simp [wpOpsS, go_sem, recoverD, hu, Tryd.ntmps51, Exit.thenS, hA]
  refine wpS_of_wp ?_
  simp only [Array.replicate_succ, Array.replicate_zero, List.push_toArray, List.append_toArray, List.nil_append, List.cons_append, List.setIfInBounds_toArray, List.set_cons_zero, List.set_cons_succ]
  go_wp2_with fail
  (with_reducible refine (codeOf_wire a0 _ hg).mono ?_)
  rintro e w1 ⟨rfl, rfl⟩
  go_wp2_with (first | (refine wpList_store_row rfl 37 _ _ rfl R _ rfl rfl 37 _ hR (by kernel_rfl) hRs (by simp [Value.oneCell']) ?_))
  exact ⟨rfl, _, rfl, .tuple #[], by simp [results, Tryd.results51], rfl, rfl, rfl⟩

set_option maxRecDepth 100000 in
set_option maxHeartbeats 1000000 in
theorem rescueR_range (R E : Nat) (a0 a1 : Addr) (cR : Array Value) (cE : Value) (older : List PanicEntry) (w : World) (hR : w.heap[R]? = some (.cells cR 37 (0, 0))) (hRs : cR.size = 2) (hE : w.cell? ⟨E, 0, none⟩ = some cE) (hfE : w.frozen? ⟨E, 0, none⟩ = false) (hne : ¬ E = R) (hg : ErrW w a0 a1) :
    CallsD Tryd.prog 51 #[.pointer (some ⟨R, 0, none⟩), .pointer (some ⟨E, 0, none⟩)] (.panicking ({ v := errV a1, recovered := false } :: older)) w fun e u' w' =>
      e = .returned (.tuple #[]) ∧ u' = .panicking ({ v := errV a1, recovered := true } :: older) ∧ w' = (w.setRow R #[.int .i64 0, .slice none 0 0]).setCell ⟨E, 0, none⟩ (.int .i64 30) := by
  have hA := assertErr
  have hE2 : (w.setRow R #[.int .i64 0, .slice none 0 0]).cell? ⟨E, 0, none⟩ = some cE := (cell_setRow_other w R _ _ hne).trans hE
  have hfE2 : (w.setRow R #[.int .i64 0, .slice none 0 0]).frozen? ⟨E, 0, none⟩ = false := by
    simp only [World.frozen?, setRow_other w R E _ hne] at hfE ⊢; exact hfE
  refine callsD_of_wpS Tryd.func51 rfl fun c₀ cs hu => ?_
  apply wpS_seq
  apply wpS_region
  simp [wpOpsS, go_sem, recoverD, hu, Tryd.ntmps51, Exit.thenS, hA]
  refine wpS_of_wp ?_
  simp only [Array.replicate_succ, Array.replicate_zero, List.push_toArray, List.append_toArray, List.nil_append, List.cons_append, List.setIfInBounds_toArray, List.set_cons_zero, List.set_cons_succ]
  go_wp2_with fail
  (with_reducible refine (codeOf_range a0 a1 _ hg).mono ?_)
  rintro e w1 ⟨rfl, rfl⟩
  go_wp2_with (first | (refine wpList_store_row rfl 37 _ _ rfl R _ rfl rfl 37 _ hR (by kernel_rfl) hRs (by simp [Value.oneCell']) ?_))
  exact ⟨rfl, _, rfl, .tuple #[], by simp [results, Tryd.results51], rfl, rfl, rfl⟩

end Go.Proofs.YtgkdliocfnoffaaDoor
