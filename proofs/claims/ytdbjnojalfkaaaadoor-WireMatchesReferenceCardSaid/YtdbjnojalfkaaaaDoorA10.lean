/- A BLOCK OF BYTES THAT THE CALL OWNS: what it holds, told by a list of numbers. -/
import Derived.Test.YtdbjnojalfkaaaaDoorA9
import Derived.Laws.BytesArg
import Derived.Laws.BytesString
import Derived.Lib.ConvBytes
set_option linter.unusedVariables false
namespace Go.Proofs.YtdbjnojalfkaaaaDoor
open Go.RowKit

def byteV (b : Nat) : Value := .int .u8 (b : Int)
/-- Block B holds the bytes l, at its beginning, and they may be written. -/
def Buf (w : World) (B : Nat) (l : List Nat) : Prop :=
  ∃ (tl : List Value) (a b : Nat), (∀ j, j < l.length → ¬ (a ≤ j ∧ j < b)) ∧ w.heap[B]? = some (.cells (l.map byteV ++ tl).toArray 5 (a, b))

theorem Buf.lt {w : World} {B : Nat} {l : List Nat} (h : Buf w B l) : B < w.heap.size := by
  obtain ⟨_, _, _, _, h⟩ := h
  exact (Array.getElem?_eq_some_iff.1 h).1
theorem Buf.cell {w : World} {B : Nat} {l : List Nat} (h : Buf w B l) {j : Nat} (hj : j < l.length) : w.cell? ⟨B, j, none⟩ = some (.int .u8 ((l.getD j 0 : Nat) : Int)) := by
  obtain ⟨_, _, _, _, h⟩ := h
  simp [World.cell?, h, hj, byteV, List.getElem?_append]
theorem Buf.frozen {w : World} {B : Nat} {l : List Nat} (h : Buf w B l) {j : Nat} (hj : j < l.length) : w.frozen? ⟨B, j, none⟩ = false := by
  obtain ⟨_, _, _, hf, h⟩ := h
  have := hf j hj
  simp [World.frozen?, h]
  omega
theorem Buf.set {w : World} {B : Nat} {l : List Nat} (h : Buf w B l) {j : Nat} (hj : j < l.length) (b : Nat) : Buf (w.setCell ⟨B, j, none⟩ (.int .u8 (b : Int))) B (l.set j b) := by
  obtain ⟨tl, x, y, hf, h⟩ := h
  obtain ⟨hlt, hk⟩ := Array.getElem?_eq_some_iff.1 h
  refine ⟨tl, x, y, by simpa using hf, ?_⟩
  show (w.heap.modify B _)[B]? = _
  rw [Array.getElem?_eq_getElem (by rw [Array.size_modify]; exact hlt), Array.getElem_modify_self, hk]
  simp [byteV, List.map_set, hj]
theorem Buf.drew {w : World} {B : Nat} {l : List Nat} (h : Buf w B l) : Buf w.drew B l := h
theorem Buf.drewN {w : World} {B : Nat} {l : List Nat} (h : Buf w B l) (n : Nat) : Buf (w.drewN n) B l := by
  have : (w.drewN n).heap = w.heap := by simp
  unfold Buf; rw [this]; exact h
theorem Buf.alloc {w : World} {B : Nat} {l : List Nat} (h : Buf w B l) (o : Obj) : Buf (w.alloc o) B l := by
  have hlt := h.lt
  obtain ⟨tl, x, y, hf, h⟩ := h
  exact ⟨tl, x, y, hf, (Below.heap_alloc w o B hlt).trans h⟩
theorem Buf.below {w w' : World} {B : Nat} {l : List Nat} (h : Buf w B l) (hb : Below w.heap.size w w') : Buf w' B l := by
  have hlt := h.lt
  obtain ⟨tl, x, y, hf, h⟩ := h
  exact ⟨tl, x, y, hf, (hb.block B hlt).trans h⟩

theorem made_zero (n : Nat) : madeCells (Value.int .u8 0).cells n = ((List.replicate n 0).map byteV).toArray := by
  apply Array.ext
  · simp [madeCells]
  · intro i h1 h2
    simp [madeCells, Value.cells, byteV, Nat.mod_one]
theorem Buf.made (w : World) (n : Nat) : Buf (w.alloc (.cells (madeCells (Value.int .u8 0).cells n) 5)) w.heap.size (List.replicate n 0) := by
  rw [made_zero]; exact ⟨[], 0, 0, by omega, by rw [List.append_nil]; exact World.alloc_heap_new w _⟩

/-- The string of a list of numbers. -/
def strOf' (l : List Nat) : ByteArray := ⟨(l.map UInt8.ofNat).toArray⟩
theorem strOf'_nums {l : List Nat} (h : ∀ b ∈ l, b < 256) : nums (strOf' l) = l := by
  unfold nums strOf'
  simp only [List.map_map]
  conv => rhs; rw [← List.map_id l]
  apply List.map_congr_left
  intro a ha
  have := h a ha
  simp; omega
theorem strOf'_size (l : List Nat) : (strOf' l).size = l.length := by simp [strOf', ByteArray.size]

theorem run_bytes_str {w : World} {B : Nat} {l : List Nat} (h : Buf w B l) (cap : Nat) :
    (convert 38 9 (.slice (some ⟨B, 0, none⟩) l.length cap)).run Tryd.prog w = .ok (.string (strOf' l)) w := by
  have := run_convert_bytes_arg (P := Tryd.prog) w 38 5 Tryd.underlying38 Tryd.underlying5 B 0 l.length cap (l.map fun (b : Nat) => (b : Int)) (by simp)
    (fun i hi => by rw [Nat.zero_add, h.cell hi]; simp [List.getD, hi]) 9 Tryd.underlying9
  rw [this]
  congr 2
  simp [strOfNums, strOf', List.map_map, Function.comp_def]

/-- []byte(s): the bytes lie in a new block. -/
theorem run_str_bytes (s : ByteArray) (w : World) : ∃ (cap : Nat) (w' : World), (convert 9 38 (.string s)).run Tryd.prog w = .ok (.slice (some ⟨w.heap.size, 0, none⟩) s.size cap) w' ∧ Buf w' w.heap.size (nums s) ∧ Below w.heap.size w w' := by
  refine ⟨_, _, Lib.run_convert_string_bytes w 9 38 5 s Tryd.underlying9 Tryd.underlying38 Tryd.underlying5, ?_, ?_⟩
  · refine ⟨List.replicate (grownCap w s.size 0 5 - s.size) (.int .u8 0), (Lib.bytesCells w 5 s).size, (Lib.bytesCells w 5 s).size + 1, ?_, ?_⟩
    · intro j hj
      rw [nums_len] at hj
      have : s.size ≤ (Lib.bytesCells w 5 s).size := by simp [Lib.bytesCells]
      omega
    · rw [Lib.bytesWorld_at_new]
      congr 2
      apply Array.ext'
      simp [Lib.bytesCells, nums, byteV, List.map_map, Function.comp_def]
  · exact ⟨rfl, rfl, rfl, by rw [Lib.bytesWorld_size]; omega, fun j hj => Lib.bytesWorld_at_old w 5 s j hj⟩

theorem i64_xor_nat (a b : Nat) (ha : a < 9223372036854775808) (hb : b < 9223372036854775808) : bits .xor .i64 (a : Int) (b : Int) = ((a ^^^ b : Nat) : Int) := by
  have hx : a ^^^ b < 2 ^ 63 := Nat.xor_lt_two_pow (by omega) (by omega)
  have h1 : (BitVec.ofInt 64 (a : Int)).toNat = a := by
    rw [BitVec.ofInt_natCast, BitVec.toNat_ofNat]; exact Nat.mod_eq_of_lt (by omega)
  have h2 : (BitVec.ofInt 64 (b : Int)).toNat = b := by
    rw [BitVec.ofInt_natCast, BitVec.toNat_ofNat]; exact Nat.mod_eq_of_lt (by omega)
  show IntKind.i64.wrap ((BitVec.ofInt 64 (a : Int) ^^^ BitVec.ofInt 64 (b : Int)).toNat : Int) = _
  rw [BitVec.toNat_xor, h1, h2, IntKind.wrap_i64]
  omega
theorem sumOf_lt (s : ByteArray) : sumOf s < 4294967296 := by
  unfold sumOf
  exact Nat.xor_lt_two_pow (n := 32) (cCrc_lt _ (by decide) (nums_lt s)) (by decide)
end Go.Proofs.YtdbjnojalfkaaaaDoor
