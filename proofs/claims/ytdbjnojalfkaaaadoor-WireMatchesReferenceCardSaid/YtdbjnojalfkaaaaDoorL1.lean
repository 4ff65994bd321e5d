/- WHAT THE LISTED TABLE GIVES THE WALKS; the start of the witnesses. -/
import Derived.Test.YtdbjnojalfkaaaaDoorRows
import Derived.Test.YtdbjnojalfkaaaaDoorL0
import Derived.Test.YtdbjnojalfkaaaaDoorA6
namespace Go.Proofs.YtdbjnojalfkaaaaDoor
open Go.ChangeShapes Go.WideShapes Go.ChangeAt Go.RowKit

def theLaid : List (String × DataW Unit) := [("cachetier/wire.nibbles", Rows.laid_cachetier_wire_nibbles)]
theorem own : ownKnob Tryd.prog.godebug = none := by kernel_rfl
theorem laidOut : laidOutB Tryd.prog = true := by kernel_rfl
theorem gNib : Tryd.prog.globalNamed "cachetier/wire.nibbles" = some 0 := by kernel_rfl
theorem tNib : (Tryd.prog.globals[0]?).map (·.type) = some 54 := by kernel_rfl
theorem c43 : Tryd.prog.cellsOf 43 = 1 := by kernel_rfl
theorem c54 : Tryd.prog.cellsOf 54 = 16 := by kernel_rfl

theorem door_met (os : Os) (args : Array Value) : laidMetH Tryd.prog theLaid ((World.doorLaid Tryd.prog 400 os).forCall (fun _ _ => 0) ⟨#[], args, []⟩).memory :=
  laidMetH_of_parts3 (fuel := 8) (laidMet_of_run' 8 (by kernel_rfl) (by kernel_rfl)) (by kernel_rfl) (by kernel_rfl)

theorem nib_of_laid {W : World} (h : laidMetH Tryd.prog theLaid W) : Nib W := by
  rw [MakeChecks.laidMetH_plain _ _ _ (by kernel_rfl)] at h
  obtain ⟨ps, ⟨g0, t0, cs0, f0, p0, q0, hg0, ht0, hv0, hd0, _, _⟩, _, _⟩ := h
  obtain rfl := Option.some.inj (gNib.symm.trans hg0)
  obtain rfl := Option.some.inj (tNib.symm.trans ht0)
  obtain ⟨xs, m1, rfl, hx1, hlen, hn3, hel⟩ := DataW.trod_array Tryd.underlying54 hd0
  rw [c54] at hlen
  refine ⟨?_, fun i hi => ?_⟩
  · have := World.var?_cell hg0 hv0 0
    rw [Array.getElem?_eq_getElem (by rw [← Array.length_toList, hlen]; decide)] at this
    rcases Nat.eq_zero_or_pos W.heap.size with h0 | h0
    · exfalso
      have : W.heap[0]? = none := by simp [h0]
      simp_all [World.cell?]
    · exact h0
  · have h0 := hel i hi
    have hi' : i < xs.length := by omega
    rw [List.getElem?_eq_getElem hi', c43, Nat.mul_one] at h0
    obtain ⟨k, e1, e2, _⟩ := DataW.trod_int Tryd.underlying43 h0
    have hcell := World.var?_cell hg0 hv0 i
    have hc : cs0[i]? = some (.int .u32 k) := by
      have : cs0.toList[i]? = some (.int .u32 k) := by
        have h1 := congrArg (fun l => l[0]?) e1
        simpa [List.getElem?_take, List.getElem?_drop] using h1
      simpa using this
    rw [hc] at hcell
    have hk : (xs.map (·.1))[i]? = some (.lit (.int .u32 k)) := by
      rw [List.getElem?_map, List.getElem?_eq_getElem hi', Option.map_some, e2]
    simp only [Prod.mk.injEq] at hx1
    have hx2 : Rows.laid_cachetier_wire_nibbles = DataW.agg (xs.map (·.1)) := hx1.1
    have hl : (Rows.laid_cachetier_wire_nibbles : DataW Unit) = .agg (cTab.map fun (n : Nat) => .lit (.int .u32 (n : Int))) := rfl
    rw [hl] at hx2
    have hx3 : (cTab.map fun (n : Nat) => (DataW.lit (.int .u32 (n : Int)) : DataW Unit)) = xs.map (·.1) := by injection hx2
    have hil : i < cTab.length := hi
    rw [← hx3, List.getElem?_map, List.getElem?_eq_getElem hil] at hk
    have hk2 : ((cTab[i] : Nat) : Int) = k := by simpa using hk
    rw [← hk2] at hcell
    rw [List.getD_eq_getElem?_getD, List.getElem?_eq_getElem hil]
    exact hcell
end Go.Proofs.YtdbjnojalfkaaaaDoor
