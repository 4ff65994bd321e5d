/- SMALL WORDS for the digest's walks. -/
import Derived.Test.YtkmiodlehmocnaaDoorT4
import Derived.Test.YtkmiodlehmocnaaDoorT2
import Derived.Deep.WholeRow
set_option linter.unusedVariables false
namespace Go.Proofs.YtkmiodlehmocnaaDoor
open Go.RowKit

def wordV (b : Nat) : Value := .int .u32 (b : Int)
theorem getD_lt {l : List Nat} {k m : Nat} (h : ∀ x ∈ l, x < m) (hk : k < l.length) : l.getD k 0 < m := by
  rw [List.getD_eq_getElem?_getD, List.getElem?_eq_getElem hk]
  exact h _ (List.getElem_mem hk)
theorem or_add (a b k : Nat) (h : b < 2 ^ k) : (a * 2 ^ k ||| b) = a * 2 ^ k + b := by
  rw [Nat.mul_comm, Nat.two_pow_add_eq_or_of_lt h]
theorem or_add24 {x0 x1 : Nat} (h0 : x0 < 256) (h1 : x1 < 256) : bits .or .u32 ((x0 : Int) * 16777216) ((x1 : Int) * 65536) = (x0 : Int) * 16777216 + (x1 : Int) * 65536 := by
  have := u32_or_nat (x0 * 16777216) (x1 * 65536) (by omega) (by omega)
  rw [show x0 * 16777216 = x0 * 2 ^ 24 from by omega, or_add x0 (x1 * 65536) 24 (by omega)] at this
  rw [show ((x0 : Int) * 16777216) = ((x0 * 2 ^ 24 : Nat) : Int) by omega, show ((x1 : Int) * 65536) = ((x1 * 65536 : Nat) : Int) by omega, this]
  omega
theorem or_add16 {x0 x1 x2 : Nat} (h0 : x0 < 256) (h1 : x1 < 256) (h2 : x2 < 256) : bits .or .u32 ((x0 : Int) * 16777216 + (x1 : Int) * 65536) ((x2 : Int) * 256) = (x0 : Int) * 16777216 + (x1 : Int) * 65536 + (x2 : Int) * 256 := by
  have := u32_or_nat (x0 * 16777216 + x1 * 65536) (x2 * 256) (by omega) (by omega)
  rw [show x0 * 16777216 + x1 * 65536 = (x0 * 256 + x1) * 2 ^ 16 from by omega, or_add (x0 * 256 + x1) (x2 * 256) 16 (by omega)] at this
  rw [show ((x0 : Int) * 16777216 + (x1 : Int) * 65536) = (((x0 * 256 + x1) * 2 ^ 16 : Nat) : Int) by omega, show ((x2 : Int) * 256) = ((x2 * 256 : Nat) : Int) by omega, this]
  omega
theorem or_add8 {x0 x1 x2 x3 : Nat} (h0 : x0 < 256) (h1 : x1 < 256) (h2 : x2 < 256) (h3 : x3 < 256) : bits .or .u32 ((x0 : Int) * 16777216 + (x1 : Int) * 65536 + (x2 : Int) * 256) (x3 : Int) = (x0 : Int) * 16777216 + (x1 : Int) * 65536 + (x2 : Int) * 256 + (x3 : Int) := by
  have := u32_or_nat (x0 * 16777216 + x1 * 65536 + x2 * 256) x3 (by omega) (by omega)
  rw [show x0 * 16777216 + x1 * 65536 + x2 * 256 = (x0 * 65536 + x1 * 256 + x2) * 2 ^ 8 from by omega, or_add (x0 * 65536 + x1 * 256 + x2) x3 8 (by omega)] at this
  rw [show ((x0 : Int) * 16777216 + (x1 : Int) * 65536 + (x2 : Int) * 256) = (((x0 * 65536 + x1 * 256 + x2) * 2 ^ 8 : Nat) : Int) by omega, this]
  omega
theorem below_of_append' {B : Nat} {a w w1 : World} {l : List Value} {n : Nat} {v : Value} {e : TypeId} {o : Obj} (hB : Below B a w) (hown : w.ownsRow B e 1 v n l) (hs : B ≤ w.heap.size)
    (hg : (w.alloc o).drew.grownBy w1 v.ownBlock) : Below B a w1 := by
  refine (hB.alloc hs o).drew.grown hg (by simp; omega) ?_
  intro k hk
  rcases hown.2 with ⟨rfl, _⟩ | ⟨g, cap, cur, rfl, _, hgb, _⟩
  · simp [Value.ownBlock] at hk
  · simp [Value.ownBlock] at hk
    omega
theorem sched_length (b : List Nat) (k : Nat) : (sched b k).length = k := by
  induction k with
  | zero => rfl
  | succ k ih => simp [sched, ih]
theorem word_lt {b : List Nat} (hb : b.length = 64) (h8 : ∀ x ∈ b, x < 256) {k : Nat} (hk : k < 16) : word b k < 4294967296 := by
  have h0 := getD_lt h8 (show 4 * k < b.length by omega)
  have h1 := getD_lt h8 (show 4 * k + 1 < b.length by omega)
  have h2 := getD_lt h8 (show 4 * k + 2 < b.length by omega)
  have h3 := getD_lt h8 (show 4 * k + 3 < b.length by omega)
  unfold word
  omega
theorem sched_lt {b : List Nat} (hb : b.length = 64) (h8 : ∀ x ∈ b, x < 256) (k : Nat) : ∀ x ∈ sched b k, x < 4294967296 := by
  induction k with
  | zero => simp [sched]
  | succ k ih =>
    intro x hx
    simp only [sched, List.mem_append, List.mem_singleton] at hx
    rcases hx with hx | hx
    · exact ih x hx
    · subst hx
      split
      · exact word_lt hb h8 ‹_›
      · exact Nat.mod_lt _ (by decide)
theorem own_cell {W : World} {B g c n : Nat} {l : List Nat} (h : W.ownsRow B 47 1 (.slice (some ⟨g, 0, none⟩) n c) n (l.map wordV)) {j : Nat} (hj : j < l.length) : W.cell? ⟨g, j, none⟩ = some (.int .u32 (l.getD j 0 : Nat)) := by
  have := h.cells (g := g) rfl j (wordV (l.getD j 0)) (by simp [hj])
  rw [show (⟨g, 0, none⟩ : Addr).add j = ⟨g, j, none⟩ from by unfold Addr.add; split <;> simp_all] at this
  exact this
theorem own_form {W : World} {B k : Nat} {e : TypeId} {x : Value} {xs : List Value} (hk : 0 < k) (h : W.ownsRow B e 1 x k xs) : ∃ g c, x = .slice (some ⟨g, 0, none⟩) k c := by
  obtain ⟨q, rfl⟩ : ∃ q, k = q + 1 := ⟨k - 1, by omega⟩
  exact ownsRow_succ h
theorem rotr_lt {x n : Nat} (h : x < 4294967296) : rotr x n < 4294967296 :=
  Nat.or_lt_two_pow (n := 32) (Nat.lt_of_le_of_lt (Nat.div_le_self _ _) h) (Nat.mod_lt _ (by decide))
theorem own_lt {W : World} {B g c n : Nat} {e : TypeId} {xs : List Value} (h : W.ownsRow B e 1 (.slice (some ⟨g, 0, none⟩) n c) n xs) : g < W.heap.size := by
  rcases h.2 with ⟨h0, _⟩ | ⟨g', cap, cur, h0, _, hgb, _⟩
  · simp at h0
  · simp at h0
    obtain ⟨rfl, _⟩ := h0
    exact (Array.getElem?_eq_some_iff.1 hgb).1
def St.ok (s : St) : Prop := s.a < 4294967296 ∧ s.b < 4294967296 ∧ s.c < 4294967296 ∧ s.d < 4294967296 ∧ s.e < 4294967296 ∧ s.f < 4294967296 ∧ s.g < 4294967296 ∧ s.h < 4294967296
theorem step_ok {s : St} (h : s.ok) (k w : Nat) : (s.step k w).ok := by
  obtain ⟨h1, h2, h3, h4, h5, h6, h7, h8⟩ := h
  exact ⟨Nat.mod_lt _ (by decide), h1, h2, h3, Nat.mod_lt _ (by decide), h5, h6, h7⟩
theorem rounds_ok {L : List Nat} {s : St} (h : s.ok) (k : Nat) : (rounds L s k).ok := by
  induction k with
  | zero => exact h
  | succ k ih => exact step_ok ih _ _
theorem add_ok (s r : St) : (s.add r).ok := ⟨Nat.mod_lt _ (by decide), Nat.mod_lt _ (by decide), Nat.mod_lt _ (by decide), Nat.mod_lt _ (by decide), Nat.mod_lt _ (by decide), Nat.mod_lt _ (by decide), Nat.mod_lt _ (by decide), Nat.mod_lt _ (by decide)⟩
theorem kTab_lt : ∀ x ∈ kTab, x < 4294967296 := by decide

theorem Blk.setOther {w : World} {B : Nat} {cs : List Value} {T : TypeId} (h : Blk w B cs T) {a : Addr} (ha : a.block ≠ B) (v : Value) : Blk (w.setCell a v) B cs T := by
  have h := h
  unfold Blk at h ⊢
  obtain ⟨hlt, hk⟩ := Array.getElem?_eq_some_iff.1 h
  show (w.heap.modify a.block _)[B]? = _
  rw [Array.getElem?_eq_getElem (by rw [Array.size_modify]; exact hlt), Array.getElem_modify_of_ne ha, hk]

/-- A WHOLE ARRAY STORED INTO A BLOCK. -/
theorem wpList_store_row {P : Program} {ops : Array Oper} {rest : List Oper} {o : Oper} {a : Act} {w : World} {Q : Exit → Act → World → Prop} (hgd : o.guard = none) (ty : TypeId) (x y : Operand) (ho : o.op = .store ty x y)
    (g : Nat) (hx : a.eval x = .pointer (some ⟨g, 0, none⟩)) (t : TypeId) (old cs : Array Value) (hy : a.eval y = .agg cs) (hg : w.heap[g]? = some (.cells old t (0, 0)))
    (hi : (P.info? ty).map (·.size) = some cs.size) (hs : old.size = cs.size) (h1 : cs.all (·.oneCell') = true)
    (h : wpList P ops Q rest (a.put o.dst undef) (w.setRow g cs)) : wpList P ops Q (o :: rest) a w :=
  wpList_plain hgd fun _ hK => wp_store_row ty x y ho g cs hx hy t old hg hi hs h1 (hK _ _ h)
theorem Blk.setRow {w : World} {B : Nat} {cs : List Value} {T : TypeId} (h : Blk w B cs T) (l : List Value) : Blk (w.setRow B l.toArray) B l T := setRow_heap w B _ _ T _ h
theorem Blk.setRowOther {w : World} {B : Nat} {cs : List Value} {T : TypeId} (h : Blk w B cs T) {g : Nat} (hg : B ≠ g) (l : Array Value) : Blk (w.setRow g l) B cs T := (setRow_other w g B l hg).trans h
theorem below_setRow {B : Nat} {a w : World} (h : Below B a w) {g : Nat} (hg : B ≤ g) (l : Array Value) : Below B a (w.setRow g l) :=
  h.trans ⟨rfl, rfl, rfl, by simp, fun k hk => setRow_other w g k l (by omega)⟩

/-- The cells of numbers. -/
def bytesV (l : List Nat) : List Value := l.map byteV
def wordsV (l : List Nat) : List Value := l.map wordV
theorem wordsV_one (l : List Nat) : (wordsV l).toArray.all (·.oneCell') = true := by
  simp [wordsV, wordV, Value.oneCell']
theorem bytesV_one (l : List Nat) : (bytesV l).toArray.all (·.oneCell') = true := by
  simp [bytesV, byteV, Value.oneCell']
theorem bytesV_cell {w : World} {B : Nat} {l : List Nat} {T : TypeId} (h : Blk w B (bytesV l) T) {j : Nat} (hj : j < l.length) : w.cell? ⟨B, j, none⟩ = some (.int .u8 ((l.getD j 0 : Nat) : Int)) := by
  rw [h.cell (by simpa [bytesV] using hj)]
  simp [bytesV, byteV, List.getD, hj]
theorem wordsV_cell {w : World} {B : Nat} {l : List Nat} {T : TypeId} (h : Blk w B (wordsV l) T) {j : Nat} (hj : j < l.length) : w.cell? ⟨B, j, none⟩ = some (.int .u32 ((l.getD j 0 : Nat) : Int)) := by
  rw [h.cell (by simpa [wordsV] using hj)]
  simp [wordsV, wordV, List.getD, hj]
/-- The first k words of the schedule, the others 0. -/
def schW (b : List Nat) (k : Nat) : List Nat := sched b k ++ List.replicate (64 - k) 0
theorem schW_length (b : List Nat) {k : Nat} (hk : k ≤ 64) : (schW b k).length = 64 := by simp [schW, sched_length]; omega
theorem schW_set (b : List Nat) {k x : Nat} (hk : k < 64) (h : sched b (k + 1) = sched b k ++ [x]) : (schW b k).set k x = schW b (k + 1) := by
  unfold schW
  rw [h, List.set_append_right _ _ (by rw [sched_length]; omega), sched_length, Nat.sub_self, show 64 - k = (64 - (k + 1)) + 1 by omega, List.replicate_succ, List.set_cons_zero]
  simp
theorem schW_getD (b : List Nat) {k j : Nat} (hj : j < k) : (schW b k).getD j 0 = (sched b k).getD j 0 := by
  unfold schW
  rw [List.getD_eq_getElem?_getD, List.getElem?_append_left (by rw [sched_length]; exact hj), ← List.getD_eq_getElem?_getD]
theorem wordsV_set (l : List Nat) (k x : Nat) : (wordsV l).set k (.int .u32 (x : Int)) = wordsV (l.set k x) := by
  simp [wordsV, List.map_set, wordV]
theorem bytesV_set (l : List Nat) (k x : Nat) : (bytesV l).set k (.int .u8 (x : Int)) = bytesV (l.set k x) := by
  simp [bytesV, List.map_set, byteV]
end Go.Proofs.YtkmiodlehmocnaaDoor
