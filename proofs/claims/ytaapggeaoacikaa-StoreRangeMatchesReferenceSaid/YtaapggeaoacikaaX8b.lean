/- A CHANGE THAT LIES IN A BLOCK, written cell by cell. -/
import Derived.Test.YtaapggeaoacikaaX8
set_option linter.unusedVariables false
set_option linter.unusedSimpArgs false
namespace Go.Proofs.Ytaapggeaoacikaa
open Go.RowKit Go.Sort Go.ChangeMaps Go.MapKept

theorem setCell_heap {w : World} {b : Nat} {cur : Array Value} {t : TypeId} {fr : Nat × Nat} (h : w.heap[b]? = some (.cells cur t fr)) (j : Nat) (u : Value) : (w.setCell ⟨b, j, none⟩ u).heap[b]? = some (.cells (cur.setIfInBounds j u) t fr) := by
  have hlt := lt_of_block h
  have h' : w.heap[b] = .cells cur t fr := by simpa [Array.getElem?_eq_getElem hlt] using h
  show (w.heap.modify b _)[b]? = _
  rw [Array.getElem?_eq_getElem (by simpa using hlt), Array.getElem_modify_self, h']
  rfl
/-- Block cb holds the change c, and nothing else of w has turned. -/
def CBk (cb : Nat) (w wy : World) (c : MCh) : Prop := wy.heap[cb]? = some (.cells (chCells c) 57 (0, 0)) ∧ Kept (fun i => i = cb) w wy
theorem CBk.alloc {cb : Nat} {w wy : World} {c : MCh} (h : CBk cb w wy c) (o : Obj) : CBk cb w (wy.alloc o) c := ⟨(MapKept.heap_alloc wy o).2 _ (lt_of_block h.1) |>.trans h.1, h.2.then (ba wy o)⟩
theorem CBk.below {cb : Nat} {w wy wz : World} {c : MCh} (h : CBk cb w wy c) (k : Below wy.heap.size wy wz) : CBk cb w wz c := ⟨(k.block _ (lt_of_block h.1)).trans h.1, h.2.then k⟩
theorem ks {cb : Nat} {w wy : World} (h : Kept (fun i => i = cb) w wy) (j : Nat) (u : Value) : Kept (fun i => i = cb) w (wy.setCell ⟨cb, j, none⟩ u) := Kept.setCell (F := fun i => i = cb) (p := ⟨cb, j, none⟩) h (.inl rfl) u
theorem cbk_had {cb : Nat} {w : World} {t k a b c : Int} {had has : Bool} (h : w.heap[cb]? = some (.cells (chCells ⟨t, k, false, ⟨0, 0, 0⟩, false, ⟨0, 0, 0⟩⟩) 57 (0, 0))) :
    CBk cb w (((((w.setCell ⟨cb, 2, none⟩ (.bool had)).setCell ⟨cb, 3, none⟩ (.int .i64 a)).setCell ⟨cb, 4, none⟩ (.int .i64 b)).setCell ⟨cb, 5, none⟩ (.int .i64 c)).setCell ⟨cb, 6, none⟩ (.bool has)) ⟨t, k, had, ⟨a, b, c⟩, has, ⟨0, 0, 0⟩⟩ :=
  ⟨setCell_heap (setCell_heap (setCell_heap (setCell_heap (setCell_heap h 2 _) 3 _) 4 _) 5 _) 6 _, ks (ks (ks (ks (ks (Kept.refl _ _) _ _) _ _) _ _) _ _) _ _⟩
theorem cbk_new {cb : Nat} {w wy : World} {t k oa ob oc a b c : Int} {had has : Bool} (h : CBk cb w wy ⟨t, k, had, ⟨oa, ob, oc⟩, has, ⟨0, 0, 0⟩⟩) :
    CBk cb w (((wy.setCell ⟨cb, 7, none⟩ (.int .i64 a)).setCell ⟨cb, 8, none⟩ (.int .i64 b)).setCell ⟨cb, 9, none⟩ (.int .i64 c)) ⟨t, k, had, ⟨oa, ob, oc⟩, has, ⟨a, b, c⟩⟩ :=
  ⟨setCell_heap (setCell_heap (setCell_heap h.1 7 _) 8 _) 9 _, ks (ks (ks h.2 _ _) _ _) _ _⟩
/-- What the walk reads of it. -/
theorem CBk.cells {cb : Nat} {w wy : World} {t k oa ob oc a b c : Int} {had has : Bool} (h : CBk cb w wy ⟨t, k, had, ⟨oa, ob, oc⟩, has, ⟨a, b, c⟩⟩) :
    (wy.cell? ⟨cb, 0, none⟩ = some (.int .i64 t) ∧ wy.cell? ⟨cb, 1, none⟩ = some (.int .i64 k) ∧ wy.cell? ⟨cb, 2, none⟩ = some (.bool had) ∧ wy.cell? ⟨cb, 3, none⟩ = some (.int .i64 oa) ∧ wy.cell? ⟨cb, 4, none⟩ = some (.int .i64 ob) ∧ wy.cell? ⟨cb, 5, none⟩ = some (.int .i64 oc) ∧
     wy.cell? ⟨cb, 6, none⟩ = some (.bool has) ∧ wy.cell? ⟨cb, 7, none⟩ = some (.int .i64 a) ∧ wy.cell? ⟨cb, 8, none⟩ = some (.int .i64 b) ∧ wy.cell? ⟨cb, 9, none⟩ = some (.int .i64 c)) ∧ ∀ j, wy.frozen? ⟨cb, j, none⟩ = false := by
  have h1 := h.1
  refine ⟨⟨?_, ?_, ?_, ?_, ?_, ?_, ?_, ?_, ?_, ?_⟩, fun j => by simp [World.frozen?, h1]⟩ <;> simp [World.cell?, h1, chCells]
end Go.Proofs.Ytaapggeaoacikaa
