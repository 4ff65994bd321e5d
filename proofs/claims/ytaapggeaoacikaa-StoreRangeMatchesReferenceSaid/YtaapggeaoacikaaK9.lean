/- WALKS: ordered of no map, and of any. -/
import Derived.Test.YtaapggeaoacikaaK8
set_option linter.unusedVariables false
set_option linter.unusedSimpArgs false
namespace Go.Proofs.Ytaapggeaoacikaa
open Go.RowKit Go.Sort Go.ChangeMaps Go.MapKept

theorem Try.underlying69' : Try.prog.underlying 69 = some (.map 78 50) := Try.underlying69

set_option maxRecDepth 100000 in
set_option maxHeartbeats 8000000 in
theorem ordered_none {W : World} {b : Nat} {L : List MRow} {p : Int} (h : StAt W b none L p) {col : Int} (fv : Value) :
    Calls Try.prog 41 #[.pointer (some ⟨b, 0, none⟩), .int .i64 col, fv] W fun e w' => e = .returned (.slice none 0 0) ∧ Below W.heap.size W w' := by
  have hblt := h.lt
  have hbne : ¬ b = W.heap.size := by omega
  obtain ⟨c0, c1, _, _⟩ := h.cells
  have hS := fun fv W => AnyF.slices_SortFunc_none (P := Try.prog) (ρ := Try.laysSort_ren) { Try.laysSort with } none 0 fv W
  change ∀ fv W, Calls Try.prog 52 _ _ _ at hS
  have HSort := Lib.hid hS
  have hR := fun w => run_range_nilMap (P := Try.prog) w 69 78 50 Try.underlying69
  have hN := fun ty a b s => run_next_nilMap (P := Try.prog) (W.alloc (.cells #[.int .i64 col] 3)) ty a b s
  simp only [World.size_alloc] at hN
  clear hS
  go_enter Try.func41, Try.ntmps41
  go_wp2_with fail
  refine wp_loop_rounds 1 ?_
  simp only [Code.rounds]
  go_wp2_with fail
  (with_reducible refine (HSort.out _ _).mono ?_)
  rintro e w9 ⟨rfl, rfl⟩
  go_wp2_with fail
  go_ret
  exact ⟨rfl, bt (ba W _) ((ba (W.alloc (.cells #[.int .i64 col] 3)) _).mono (by simp))⟩

/-- A row's value v lies on the rows M in blocks from base on. -/
theorem ordered_any {W : World} {b : Nat} {m : Option Nat} {L : List MRow} {p : Int} (h : StAt W b m L p) {col : Int} (h1 : 0 ≤ col) (h2 : col ≤ 3) {g : FuncId} {cb : Array Value} {sel : MRow → Bool}
    (eg : ∀ args w, (callFunc g args).run Try.prog w = .ok (.enter g args) w) (hsel : Chooses W g cb sel) :
    Calls Try.prog 41 #[.pointer (some ⟨b, 0, none⟩), .int .i64 col, .func (.func g) #[] cb] W fun e w' => ∃ v M, e = .returned v ∧ OwnR w' W.heap.size v M ∧ SortOf L sel col M ∧ Below W.heap.size W w' := by
  rcases m with _ | mb
  · refine (ordered_none h _).mono fun e w' ⟨he, hb⟩ => ⟨_, [], he, OwnR.nil _ _, ?_, hb⟩
    rw [show L = [] from h.mp]
    exact ⟨List.Perm.refl _, List.Pairwise.nil⟩
  · exact ordered_some h h1 h2 eg hsel
end Go.Proofs.Ytaapggeaoacikaa
