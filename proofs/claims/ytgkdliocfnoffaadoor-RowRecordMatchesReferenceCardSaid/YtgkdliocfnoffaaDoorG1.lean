/- BLOCKS behind stores. -/
import Derived.Test.YtgkdliocfnoffaaDoorR1
set_option linter.unusedVariables false
namespace Go.Proofs.YtgkdliocfnoffaaDoor
open Go.RowKit Go.Sort

theorem heap_setCell_row {w : World} {b : Nat} {cs : Array Value} {t : TypeId} {fr : Nat × Nat} (h : w.heap[b]? = some (.cells cs t fr)) (o : Nat) (v : Value) : (w.setCell ⟨b, o, none⟩ v).heap[b]? = some (.cells (cs.setIfInBounds o v) t fr) := by
  have hlt := (Array.getElem?_eq_some_iff.1 h).1
  have hk := (Array.getElem?_eq_some_iff.1 h).2
  show (w.heap.modify b _)[b]? = _
  rw [Array.getElem?_eq_getElem (by rw [Array.size_modify]; exact hlt), Array.getElem_modify_self, hk]
  rfl
theorem heap_setCell_far {w : World} {b c : Nat} (h : ¬ b = c) (o : Nat) (v : Value) : (w.setCell ⟨c, o, none⟩ v).heap[b]? = w.heap[b]? := Below.heap_setCell w ⟨c, o, none⟩ v b h
theorem RdAt.setRow {w : World} {rb : Nat} {s : ByteArray} {k : Nat} (h : RdAt w rb s k) {g : Nat} (hne : ¬ g = rb) (cs : Array Value) : RdAt (w.setRow g cs) rb s k := by
  obtain ⟨h0, h1, h2⟩ := h
  refine ⟨?_, ?_, ?_⟩
  · rw [cell_setRow_other _ _ _ _ (fun e => hne e.symm)]; exact h0
  · rw [cell_setRow_other _ _ _ _ (fun e => hne e.symm)]; exact h1
  · have e := setRow_other w g rb cs (fun e => hne e.symm)
    simp only [World.frozen?, e] at h2 ⊢; exact h2
theorem below_setCell {B : Nat} {w0 w : World} (h : Below B w0 w) {a : Addr} (ha : B ≤ a.block) (v : Value) : Below B w0 (w.setCell a v) :=
  ⟨h.os, h.tape, h.output, by simpa [World.setCell] using h.size, fun k hk => (Below.heap_setCell w a v k (by omega)).trans (h.block k hk)⟩
end Go.Proofs.YtgkdliocfnoffaaDoor
