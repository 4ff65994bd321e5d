/- WALKS: what the reference's records need. -/
import Derived.Test.YtgkdliocfnoffaaDoorB8
set_option linter.unusedVariables false
set_option linter.unusedSimpArgs false
namespace Go.Proofs.YtgkdliocfnoffaaDoor
open Go.RowKit Go.Sort

/-- A record that lies in a block of its own. -/
structure RecAt (w : World) (X : Nat) (p : Int) (u : Value) : Prop where
  c0 : w.cell? ⟨X, 0, none⟩ = some (.int .i64 p)
  c1 : w.cell? ⟨X, 1, none⟩ = some u
  f0 : w.frozen? ⟨X, 0, none⟩ = false
  f1 : w.frozen? ⟨X, 1, none⟩ = false
theorem RecAt.lt {w : World} {X : Nat} {p : Int} {u : Value} (h : RecAt w X p u) : X < w.heap.size := World.block_lt_of_cell? w _ h.c0
theorem RecAt.new (w : World) (p : Int) (u : Value) : RecAt (w.alloc (.cells #[.int .i64 p, u] 37)) w.heap.size p u := ⟨by simp [go_sem], by simp [go_sem], by simp [go_sem], by simp [go_sem]⟩
theorem RecAt.next {w w' : World} {X : Nat} {p : Int} {u : Value} (h : RecAt w X p u) (k : Below w.heap.size w w') : RecAt w' X p u := by
  obtain ⟨hc, hf⟩ := bcell k
  have hl := h.lt
  exact ⟨by rw [hc _ _ hl]; exact h.c0, by rw [hc _ _ hl]; exact h.c1, by rw [hf _ _ hl]; exact h.f0, by rw [hf _ _ hl]; exact h.f1⟩
theorem cellsOf_snoc (A : List MCh) (n : Nat) (c : MCh) (hn : A.length = n) : cellsOf A n ++ (chCells c).toList = cellsOf (A ++ [c]) (n + 1) := by
  apply List.ext_getElem?
  intro j
  by_cases hj : j < n * 10
  · rw [List.getElem?_append_left (by rw [cellsOf_len]; exact hj), cellsOf_get A n j hj, cellsOf_get _ _ j (by omega)]
    rw [show (A ++ [c]).getD (j / 10) chZ = A.getD (j / 10) chZ by rw [List.getD_eq_getElem?_getD, List.getElem?_append_left (by omega), ← List.getD_eq_getElem?_getD]]
  · rw [List.getElem?_append_right (by rw [cellsOf_len]; omega), cellsOf_len]
    by_cases hj2 : j < (n + 1) * 10
    · rw [cellsOf_get _ _ j hj2, show j / 10 = n by omega, show (A ++ [c]).getD n chZ = c by simp [List.getD_eq_getElem?_getD, ← hn], show j - n * 10 = j % 10 by omega]
      simp
    · rw [List.getElem?_eq_none (by simp [chCells]; omega), List.getElem?_eq_none (by rw [cellsOf_len]; omega)]
theorem chs_owns {w : World} {base g m cap : Nat} {L : List MCh} (h : w.ownsRow base 42 10 (.slice (some ⟨g, 0, none⟩) m cap) m (cellsOf L m)) (hm : m = L.length) : ChS w (.slice (some ⟨g, 0, none⟩) m cap) L := by
  have hch := chAt_of_owns h
  obtain ⟨hl, h | ⟨g', cap', cur, e, hb, hr, hn, hc, hs, ht⟩⟩ := h
  · simp at h
  · obtain ⟨⟨rfl, _⟩, _, rfl⟩ : ((g = g' ∧ True) ∧ True ∧ cap = cap') := by simpa using e
    exact ⟨_, m, cap, rfl, hm, hn, by unfold maxLen at hc; omega, fun _ => ⟨g, 0, rfl, (Array.getElem?_eq_some_iff.1 hr).1, fun i hi => by rw [Nat.zero_add]; exact hch i hi⟩⟩
theorem cutN_size (s : ByteArray) (k : Nat) : (s.extract 0 k).size ≤ k := by simp; omega
end Go.Proofs.YtgkdliocfnoffaaDoor
