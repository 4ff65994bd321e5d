/- WALKS: a log of one record, what its methods return. -/
import Derived.Test.YtpapfegbodolgaaDoorS2
import Derived.Test.YtpapfegbodolgaaDoorP8
import Derived.Test.YtpapfegbodolgaaDoorP3
import Derived.Test.YtpapfegbodolgaaDoorP7
set_option linter.unusedVariables false
set_option linter.unnecessarySimpa false
set_option linter.unusedSimpArgs false
namespace Go.Proofs.YtpapfegbodolgaaDoor
open Go.RowKit Go.Sort

/-- Blocks of two ranges. -/
def FL (a b c d : Nat) (k : Nat) : Prop := (a ≤ k ∧ k < b) ∨ (c ≤ k ∧ k < d)
theorem LgAt.tight {W : World} {F : Nat → Prop} {b : Nat} {R : List MRec} {H : List MHead} (h : LgAt W F b R H) : LgAt W (fun k => F k ∧ k < W.heap.size) b R H := by
  obtain ⟨vr, vh, Q, hb, fb, hq, fq, hh, fh, e, hc, hl⟩ := h
  exact ⟨vr, vh, Q, hb, ⟨fb, lt_of_block hb⟩, hq, fun i e => ⟨fq i e, (ownsRow_lt hq e).2.elim fun _ h => lt_of_block h⟩, hh, fun i e => ⟨fh i e, (ownsRow_lt hh e).2.elim fun _ h => lt_of_block h⟩, e,
    fun q m => ⟨(hc q m).1, fun i e => ⟨(hc q m).2 i e, (ownsRow_lt (hc q m).1 e).2.elim fun _ h => lt_of_block h⟩⟩, hl⟩

section
variable {W : World} {F : Nat → Prop} {b : Nat} {R : List MRec} {h0 h1 : MHead} {r : MRec}
theorem head_two0 (h : LgAt W F b R [h0, h1]) : Calls Tryd.prog 13 #[.pointer (some ⟨b, 0, none⟩), .int .i64 0] W fun e w' => e = .returned (.tuple #[headV h0, .bool true]) ∧ Below W.heap.size W w' := by
  have := head_any h 0
  rwa [show headOut [h0, h1] 0 = .tuple #[headV h0, .bool true] from if_pos ⟨by decide, by simp⟩] at this
theorem head_two1 (h : LgAt W F b R [h0, h1]) : Calls Tryd.prog 13 #[.pointer (some ⟨b, 0, none⟩), .int .i64 1] W fun e w' => e = .returned (.tuple #[headV h1, .bool true]) ∧ Below W.heap.size W w' := by
  have := head_any h 1
  rwa [show headOut [h0, h1] 1 = .tuple #[headV h1, .bool true] from if_pos ⟨by decide, by simp⟩] at this
theorem prove_two (h : LgAt W F b R [h0, h1]) (hT : Tab W) : Calls Tryd.prog 14 #[.pointer (some ⟨b, 0, none⟩), .int .i64 1] W (PathOut W (dg.path [encH h0, encH h1] 1)) := prove_ok h hT 1 (by simp)
theorem prove_two2 (h : LgAt W F b R [h0, h1]) : Calls Tryd.prog 14 #[.pointer (some ⟨b, 0, none⟩), .int .i64 2] W fun e w' => e = .returned (.tuple #[.slice none 0 0, .int .i64 2]) ∧ Below W.heap.size W w' := prove_bad h 2 (.inr (by simp))
theorem ext_two2 {H : List MHead} (h : LgAt W F b [r] H) : Calls Tryd.prog 20 #[.pointer (some ⟨b, 0, none⟩), .int .i64 2] W fun e w' => e = .returned (.tuple #[.slice none 0 0, .int .i64 2]) ∧ W = w' := extL_bad h 2 (.inr (by simp))
theorem record_two {H : List MHead} (h : LgAt W F b [r] H) : Calls Tryd.prog 22 #[.pointer (some ⟨b, 0, none⟩), .int .i64 1] W (RecOut W r) := record_any h 0 (by simp)
theorem len_two {H : List MHead} (h : LgAt W F b [r] H) : Calls Tryd.prog 28 #[.pointer (some ⟨b, 0, none⟩)] W fun e w' => e = .returned (.int .i64 1) ∧ W = w' := by
  obtain ⟨vr, vh, hb, hr, -⟩ := h.read
  exact len_any hb hr
theorem root_two (h : LgAt W F b R [h0, h1]) (hT : Tab W) : Calls Tryd.prog 16 #[.pointer (some ⟨b, 0, none⟩)] W fun e w' => e = .returned (.string (dg.root [encH h0, encH h1])) ∧ Below W.heap.size W w' := rootL_any h hT
end
theorem path_short (L : List ByteArray) (i : Nat) : Short (dg.path L i) := short_areD (dg.path_areD L i)
/-- One change in a block of its own. -/
theorem chS_one {w : World} {g : Nat} (c : MCh) (h : w.heap[g]? = some (.cells (chCells c) 57 (0, 0))) : ChS w (.slice (some ⟨g, 0, none⟩) 1 1) [c] :=
  ⟨_, _, _, rfl, rfl, Nat.le_refl _, by omega, fun _ => ⟨g, 0, rfl, lt_of_block h, fun i hi => by
    obtain rfl : i = 0 := by omega
    intro j hj
    simp [World.cell?, h]⟩⟩
theorem recS_one {w : World} {g : Nat} (p : Int) (v : Value) (L : List MCh) (h : w.heap[g]? = some (.cells #[.int .i64 p, v] 51 (0, 0))) (hc : ChS w v L) : RecS w (.slice (some ⟨g, 0, none⟩) 1 1) [⟨p, L⟩] :=
  ⟨_, _, _, rfl, rfl, Nat.le_refl _, by omega, fun _ => ⟨g, 0, rfl, lt_of_block h, fun i hi => by
    obtain rfl : i = 0 := by simpa using hi
    exact ⟨cellOf (j := 0) h rfl, v, cellOf (j := 1) h rfl, hc⟩⟩⟩
end Go.Proofs.YtpapfegbodolgaaDoor
