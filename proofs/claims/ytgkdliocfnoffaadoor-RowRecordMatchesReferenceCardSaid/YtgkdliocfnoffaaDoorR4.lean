/- WALKS: readRecord. -/
import Derived.Test.YtgkdliocfnoffaaDoorR2
import Derived.Test.YtgkdliocfnoffaaDoorG1
set_option linter.unusedVariables false
namespace Go.Proofs.YtgkdliocfnoffaaDoor
open Go.RowKit Go.Sort

/-- Ten cells of a row, from o on, set to a change. -/
def put10 (cs : Array Value) (o : Nat) (c : MCh) : Array Value :=
  (((((((((cs.setIfInBounds o (.int .i64 c.t)).setIfInBounds (o + 1) (.int .i64 c.k)).setIfInBounds (o + 2) (.bool c.had)).setIfInBounds (o + 3) (.int .i64 c.o.a)).setIfInBounds (o + 4) (.int .i64 c.o.b)).setIfInBounds (o + 5) (.int .i64 c.o.c)).setIfInBounds (o + 6) (.bool c.has)).setIfInBounds (o + 7) (.int .i64 c.n.a)).setIfInBounds (o + 8) (.int .i64 c.n.b)).setIfInBounds (o + 9) (.int .i64 c.n.c)
theorem put10_size (cs : Array Value) (o : Nat) (c : MCh) : (put10 cs o c).size = cs.size := by simp [put10]
theorem put10_low (cs : Array Value) (o : Nat) (c : MCh) (p : Nat) (h : p < o) : (put10 cs o c)[p]? = cs[p]? := by
  unfold put10
  repeat rw [Array.getElem?_setIfInBounds_ne (by omega)]
theorem put10_at (cs : Array Value) (o : Nat) (c : MCh) (h : o + 10 ≤ cs.size) (j : Nat) (hj : j < 10) : (put10 cs o c)[o + j]? = (chCells c)[j]? := by
  unfold put10
  match j, hj with
  | 0, _ => simp [chCells, Array.getElem?_setIfInBounds]; omega
  | 1, _ => simp [chCells, Array.getElem?_setIfInBounds]; omega
  | 2, _ => simp [chCells, Array.getElem?_setIfInBounds]; omega
  | 3, _ => simp [chCells, Array.getElem?_setIfInBounds]; omega
  | 4, _ => simp [chCells, Array.getElem?_setIfInBounds]; omega
  | 5, _ => simp [chCells, Array.getElem?_setIfInBounds]; omega
  | 6, _ => simp [chCells, Array.getElem?_setIfInBounds]; omega
  | 7, _ => simp [chCells, Array.getElem?_setIfInBounds]; omega
  | 8, _ => simp [chCells, Array.getElem?_setIfInBounds]; omega
  | 9, _ => simp [chCells, Array.getElem?_setIfInBounds]; omega

/-- A block that is being filled with changes. -/
def Fill (w : World) (S n : Nat) (acc : List MCh) : Prop :=
  ∃ cs, w.heap[S]? = some (.cells cs 42 (0, 0)) ∧ cs.size = 10 * n ∧ ∀ i, i < acc.length → ∀ j, j < 10 → cs[i * 10 + j]? = (chCells (acc.getD i chZ))[j]?
theorem Fill.step {w w' : World} {S n : Nat} {acc : List MCh} {cs : Array Value} (h1 : cs.size = 10 * n) (h2 : ∀ i, i < acc.length → ∀ j, j < 10 → cs[i * 10 + j]? = (chCells (acc.getD i chZ))[j]?) (hl : acc.length < n) (c : MCh)
    (h : w'.heap[S]? = some (.cells (put10 cs (acc.length * 10) c) 42 (0, 0))) : Fill w' S n (acc ++ [c]) := by
  refine ⟨_, h, by rw [put10_size]; exact h1, fun i hi j hj => ?_⟩
  rw [List.length_append, List.length_singleton] at hi
  rcases Nat.lt_or_eq_of_le (Nat.le_of_lt_succ hi) with hi | rfl
  · rw [put10_low _ _ _ _ (by omega), h2 i hi j hj, List.getD_eq_getElem?_getD, List.getD_eq_getElem?_getD, List.getElem?_append_left hi]
  · rw [put10_at _ _ _ (by omega) j hj, List.getD_eq_getElem?_getD]
    simp
theorem Fill.chs {w : World} {S n : Nat} {acc : List MCh} (h : Fill w S n acc) (hn : acc.length = n) (h8 : n ≤ 8) : ChS w (.slice (some ⟨S, 0, none⟩) n n) acc := by
  obtain ⟨cs, h1, h2, h3⟩ := h
  refine ⟨_, n, n, rfl, hn.symm, Nat.le_refl _, by omega, fun _ => ⟨S, 0, rfl, (Array.getElem?_eq_some_iff.1 h1).1, fun i hi j hj => ?_⟩⟩
  rw [Nat.zero_add, cell_of_row w S _ cs 42 (0, 0) h1]
  exact h3 i (by omega) j hj

/-- A fresh slice of changes. -/
def ChF (w0 w : World) (v : Value) (L : List MCh) : Prop :=
  ∃ b n, v = .slice (some ⟨b, 0, none⟩) n n ∧ w0.heap.size ≤ b ∧ b < w.heap.size ∧ n = L.length ∧ n ≤ 8 ∧ ∀ i, i < n → ChAt w b (i * 10) (L.getD i chZ)
theorem ChF.chs {w0 w : World} {v : Value} {L : List MCh} (h : ChF w0 w v L) : ChS w v L := by
  obtain ⟨b, n, e, h1, h2, h3, h4, h5⟩ := h
  exact ⟨_, n, n, e, h3, Nat.le_refl _, by omega, fun _ => ⟨b, 0, rfl, h2, fun i hi => by rw [Nat.zero_add]; exact h5 i hi⟩⟩
theorem ChF.below {w0 w w' : World} {v : Value} {L : List MCh} (h : ChF w0 w v L) (k : Below w.heap.size w w') : ChF w0 w' v L := by
  obtain ⟨b, n, e, h1, h2, h3, h4, h5⟩ := h
  exact ⟨b, n, e, h1, Nat.lt_of_lt_of_le h2 k.size, h3, h4, fun i hi => (h5 i hi).below h2 k⟩
theorem ChF.setRow {w0 w : World} {v : Value} {L : List MCh} (h : ChF w0 w v L) {g : Nat} (hg : g < w0.heap.size) (cs : Array Value) : ChF w0 (w.setRow g cs) v L := by
  obtain ⟨b, n, e, h1, h2, h3, h4, h5⟩ := h
  exact ⟨b, n, e, h1, by simpa using h2, h3, h4, fun i hi j hj => by rw [cell_setRow_other _ _ _ _ (by simp; omega)]; exact h5 i hi j hj⟩
theorem ChF.setCell {w0 w : World} {v : Value} {L : List MCh} (h : ChF w0 w v L) {g : Nat} (hg : g < w0.heap.size) (o : Nat) (u : Value) : ChF w0 (w.setCell ⟨g, o, none⟩ u) v L := by
  obtain ⟨b, n, e, h1, h2, h3, h4, h5⟩ := h
  refine ⟨b, n, e, h1, by simpa [World.setCell] using h2, h3, h4, fun i hi j hj => ?_⟩
  exact (World.cell?_setCell_other w ⟨g, o, none⟩ ⟨b, i * 10 + j, none⟩ u (fun e => by have := congrArg Addr.block e; simp at this; omega)).trans (h5 i hi j hj)
theorem Fill.chf {w0 w : World} {S n : Nat} {acc : List MCh} (h : Fill w S n acc) (hn : acc.length = n) (h8 : n ≤ 8) (hS : w0.heap.size ≤ S) : ChF w0 w (.slice (some ⟨S, 0, none⟩) n n) acc := by
  obtain ⟨cs, h1, h2, h3⟩ := h
  refine ⟨S, n, rfl, hS, (Array.getElem?_eq_some_iff.1 h1).1, hn.symm, h8, fun i hi j hj => ?_⟩
  rw [cell_of_row w S _ cs 42 (0, 0) h1]
  exact h3 i (by omega) j hj

abbrev set10 (w : World) (S o : Nat) (c : MCh) : World :=
  (((((((((w.setCell ⟨S, o, none⟩ (.int .i64 c.t)).setCell ⟨S, o + 1, none⟩ (.int .i64 c.k)).setCell ⟨S, o + 2, none⟩ (.bool c.had)).setCell ⟨S, o + 3, none⟩ (.int .i64 c.o.a)).setCell ⟨S, o + 4, none⟩ (.int .i64 c.o.b)).setCell ⟨S, o + 5, none⟩ (.int .i64 c.o.c)).setCell ⟨S, o + 6, none⟩ (.bool c.has)).setCell ⟨S, o + 7, none⟩ (.int .i64 c.n.a)).setCell ⟨S, o + 8, none⟩ (.int .i64 c.n.b)).setCell ⟨S, o + 9, none⟩ (.int .i64 c.n.c)
theorem rd_set10 {w : World} {rb : Nat} {s : ByteArray} {k : Nat} (h : RdAt w rb s k) {S : Nat} (hS : ¬ S = rb) (o : Nat) (c : MCh) : RdAt (set10 w S o c) rb s k :=
  (((((((((h.setOther hS _ _).setOther hS _ _).setOther hS _ _).setOther hS _ _).setOther hS _ _).setOther hS _ _).setOther hS _ _).setOther hS _ _).setOther hS _ _).setOther hS _ _
theorem kx_set10 {w0 w : World} {rb : Nat} (h : Kx rb w0 w) {S : Nat} (hS : w0.heap.size ≤ S) (o : Nat) (c : MCh) : Kx rb w0 (set10 w S o c) :=
  (((((((((h.setNew hS _ _).setNew hS _ _).setNew hS _ _).setNew hS _ _).setNew hS _ _).setNew hS _ _).setNew hS _ _).setNew hS _ _).setNew hS _ _).setNew hS _ _
theorem far_set10 {w : World} {b S : Nat} (hne : ¬ b = S) (o : Nat) (c : MCh) : (set10 w S o c).heap[b]? = w.heap[b]? := by
  unfold set10
  rw [heap_setCell_far hne, heap_setCell_far hne, heap_setCell_far hne, heap_setCell_far hne, heap_setCell_far hne, heap_setCell_far hne, heap_setCell_far hne, heap_setCell_far hne, heap_setCell_far hne, heap_setCell_far hne]
theorem row_set10 {w : World} {S : Nat} {cs : Array Value} (h : w.heap[S]? = some (.cells cs 42 (0, 0))) (o : Nat) (c : MCh) : (set10 w S o c).heap[S]? = some (.cells (put10 cs o c) 42 (0, 0)) :=
  heap_setCell_row (heap_setCell_row (heap_setCell_row (heap_setCell_row (heap_setCell_row (heap_setCell_row (heap_setCell_row (heap_setCell_row (heap_setCell_row (heap_setCell_row h _ _) _ _) _ _) _ _) _ _) _ _) _ _) _ _) _ _) _ _
/-- One change more. -/
theorem fill_set10 {w w' : World} {rb : Nat} {S n j : Nat} {acc : List MCh} (h : Fill w S n acc) (hK : Kx rb w w') (hS : ¬ S = rb) (hl : acc.length = j) (hj : j < n) (c : MCh) : Fill (set10 w' S (j * 10) c) S n (acc ++ [c]) := by
  obtain ⟨cs, h1, h2, h3⟩ := h
  subst hl
  exact Fill.step (w := w) h2 h3 hj c (row_set10 ((hK.block S (Array.getElem?_eq_some_iff.1 h1).1 hS).trans h1) _ _)
/-- The ten cells are there. -/
theorem room_set10 {w w' : World} {rb : Nat} {S n j : Nat} {acc : List MCh} (h : Fill w S n acc) (hK : Kx rb w w') (hS : ¬ S = rb) (hj : j < n) :
    (∀ q : Nat, q < 10 → (w'.cell? ⟨S, j * 10 + q, none⟩).isSome = true) ∧ ∀ o, w'.frozen? ⟨S, o, none⟩ = false := by
  obtain ⟨cs, h1, h2, h3⟩ := h
  have h4 := (hK.block S (Array.getElem?_eq_some_iff.1 h1).1 hS).trans h1
  refine ⟨fun q hq => ?_, fun o => by simp [World.frozen?, h4]⟩
  rw [cell_of_row w' S _ cs 42 (0, 0) h4, Array.getElem?_eq_getElem (by omega)]
  rfl
end Go.Proofs.YtgkdliocfnoffaaDoor
