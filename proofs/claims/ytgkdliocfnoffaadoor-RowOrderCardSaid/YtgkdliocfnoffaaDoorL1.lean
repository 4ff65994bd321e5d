/- WHAT THE LISTED VARIABLES GIVE THE WALKS: the two errors; the start of the witnesses. -/
import Derived.Test.YtgkdliocfnoffaaDoorRows
import Derived.Test.YtgkdliocfnoffaaDoorL0
import Derived.Test.YtgkdliocfnoffaaDoorS2
import Derived.Stop.LaidTwo
namespace Go.Proofs.YtgkdliocfnoffaaDoor
open Go.ChangeShapes Go.WideShapes Go.ChangeAt Go.RowKit

def theLaid : List (String × DataW Unit) := [("cachetier/row.errWire", Rows.laid_cachetier_row_errWire), ("cachetier/row.errRange", Rows.laid_cachetier_row_errRange)]
theorem own : ownKnob Tryd.prog.godebug = none := by kernel_rfl
theorem laidOut : laidOutB Tryd.prog = true := by kernel_rfl
theorem gWire : Tryd.prog.globalNamed "cachetier/row.errWire" = some 0 := by kernel_rfl
theorem gRange : Tryd.prog.globalNamed "cachetier/row.errRange" = some 1 := by kernel_rfl
theorem tWire : (Tryd.prog.globals[0]?).map (·.type) = some 58 := by kernel_rfl
theorem tRange : (Tryd.prog.globals[1]?).map (·.type) = some 58 := by kernel_rfl

theorem door_met (os : Os) (args : Array Value) : laidMetH Tryd.prog theLaid ((World.doorLaid Tryd.prog 400 os).forCall (fun _ _ => 0) ⟨#[], args, []⟩).memory :=
  laidMetH_of_parts3 (fuel := 8) (laidMet_of_run' 8 (by kernel_rfl) (by kernel_rfl)) (by kernel_rfl) (by kernel_rfl)

theorem star116 : "*" ++ "errors.errorString" = "*errors.errorString" := by decide
theorem row116 (u : TypeId) (h : Tryd.prog.typeName? 3 u = some "*errors.errorString") : u = 116 := typeName_ptr_named (nm := "errors.errorString") (by rw [star116]; kernel_rfl) (by kernel_rfl) (by decide) u (by rw [star116]; exact h)
theorem errorsPtr : ∃ te f, Tryd.prog.underlying 116 = some (.pointer te) ∧ Tryd.prog.underlying te = some (.struct #[f]) ∧ f.type = 9 ∧ f.offset = 0 ∧ Tryd.prog.cellsOf te = 1 := ⟨139, _, Tryd.underlying116, Tryd.underlying139, rfl, rfl, by kernel_rfl⟩

theorem errs_of_laid {W : World} (h : laidMetH Tryd.prog theLaid W) : Errs W := by
  rw [MakeChecks.laidMetH_plain _ _ _ (by kernel_rfl)] at h
  obtain ⟨te, f, hp, he, hft, hfo, hc⟩ := errorsPtr
  obtain ⟨a0, a1, s0, s1, c0, c1, t0, t1, hv0, hv1, hc0, hs0, hz0, hc1, hs1, hz1, hne, hb0, hb1⟩ := laid_sentinels2 h gWire tWire gRange tRange Tryd.underlying58 row116 hp he hft hfo Tryd.underlying9 hc (by kernel_rfl)
  have e0 : W.cell? ⟨0, 0, none⟩ = some (errV a0) := by simpa using World.var?_cell gWire hv0 0
  have e1 : W.cell? ⟨1, 0, none⟩ = some (errV a1) := by simpa using World.var?_cell gRange hv1 0
  exact ⟨a0, a1, ⟨e0, e1, hne, ⟨_, _, hb0⟩, ⟨_, _, hb1⟩⟩, World.block_lt_of_cell? W _ e1, World.block_lt_of_cell? W _ hc0, World.block_lt_of_cell? W _ hc1⟩
end Go.Proofs.YtgkdliocfnoffaaDoor
