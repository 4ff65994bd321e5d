/- WALKS: Sum, Leaf, Node, Chain of the code. -/
import Derived.Test.YtpapfegbodolgaaDoorDT7
import Derived.Test.YtpapfegbodolgaaDoorP4
import Derived.Outline
set_option linter.unusedSimpArgs false
set_option linter.unusedVariables false
namespace Go.Proofs.YtpapfegbodolgaaDoor
open Go.RowKit

theorem one_size (x : UInt8) : (⟨#[x]⟩ : ByteArray).size = 1 := rfl
theorem sha_length (l : List Nat) : (sha l).length = 32 := rfl
/-- The digest. -/
def dg : Dig := ⟨fun s => strOf' (sha (nums s)), fun s => by rw [strOf'_size]; rfl⟩
theorem nums_append (a b : ByteArray) : nums (a ++ b) = nums a ++ nums b := by simp [nums, ByteArray.data_append]

theorem texts_new (w : World) (l : List ByteArray) (t : TypeId) : Texts (w.alloc (.cells (l.map Value.string).toArray t)) w.heap.size 0 l :=
  ⟨_, _, _, heap_alloc_new w _, fun j hj => by simp [List.getD, hj]⟩

set_option maxRecDepth 100000 in
set_option maxHeartbeats 400000 in
theorem sum_c (s : ByteArray) (w : World) (hs : s.size ≤ 1000000000) (hT : Tab w) :
    Calls Tryd.prog 51 #[.string s] w fun e w' => e = .returned (.string (dg.f s)) ∧ Below w.heap.size w w' := by
  have HT := Lib.hid hT
  clear hT
  go_enter Tryd.func51, Tryd.ntmps51
  go_wp2_with fail
  have hb0 : Below w.heap.size w (w.alloc (.cells #[.string s] 9)) := (Below.refl _ w).alloc (Nat.le_refl _) _
  refine (sumOf_any [s] w.heap.size 1 _ (by simp [nums_len, one_size]; omega) (by simp) (HT.out.below hb0) (texts_new w [s] 9)).mono ?_
  rintro e w1 ⟨rfl, hb1⟩
  have HE := Lib.hid (show strOf' (sha (List.map nums [s]).flatten) = dg.f s from by simp [dg])
  rw [HE.out]
  go_wp2_with fail
  go_ret
  exact ⟨rfl, hb0.trans (hb1.mono (by simp))⟩

set_option maxRecDepth 100000 in
set_option maxHeartbeats 400000 in
theorem leaf_c (s : ByteArray) (w : World) (hs : s.size ≤ 1000000000) (hT : Tab w) :
    Calls Tryd.prog 52 #[.string s] w fun e w' => e = .returned (.string (dg.leaf s)) ∧ Below w.heap.size w w' := by
  have HT := Lib.hid hT
  clear hT
  go_enter Tryd.func52, Tryd.ntmps52
  go_wp2_with fail
  have hb0 : Below w.heap.size w (w.alloc (.cells #[.string ⟨#[0]⟩, .string s] 9)) := (Below.refl _ w).alloc (Nat.le_refl _) _
  refine (sumOf_any [⟨#[0]⟩, s] w.heap.size 2 _ (by simp [nums_len, one_size]; omega) (by simp) (HT.out.below hb0) (texts_new w [⟨#[0]⟩, s] 9)).mono ?_
  rintro e w1 ⟨rfl, hb1⟩
  have HE := Lib.hid (show strOf' (sha (List.map nums [⟨#[0]⟩, s]).flatten) = dg.leaf s from by simp [dg, Dig.leaf, Dig.leafS, nums_append, b1])
  rw [HE.out]
  go_wp2_with fail
  go_ret
  exact ⟨rfl, hb0.trans (hb1.mono (by simp))⟩

set_option maxRecDepth 100000 in
set_option maxHeartbeats 400000 in
theorem node_c (a b : ByteArray) (w : World) (ha : a.size ≤ 1000000000) (hb : b.size ≤ 1000000000) (hT : Tab w) :
    Calls Tryd.prog 54 #[.string a, .string b] w fun e w' => e = .returned (.string (dg.node a b)) ∧ Below w.heap.size w w' := by
  have HT := Lib.hid hT
  clear hT
  go_enter Tryd.func54, Tryd.ntmps54
  go_wp2_with fail
  have hb0 : Below w.heap.size w (w.alloc (.cells #[.string ⟨#[1]⟩, .string a, .string b] 9)) := (Below.refl _ w).alloc (Nat.le_refl _) _
  refine (sumOf_any [⟨#[1]⟩, a, b] w.heap.size 3 _ (by simp [nums_len, one_size]; omega) (by simp) (HT.out.below hb0) (texts_new w [⟨#[1]⟩, a, b] 9)).mono ?_
  rintro e w1 ⟨rfl, hb1⟩
  have HE := Lib.hid (show strOf' (sha (List.map nums [⟨#[1]⟩, a, b]).flatten) = dg.node a b from by simp [dg, Dig.node, Dig.nodeS, nums_append, b1])
  rw [HE.out]
  go_wp2_with fail
  go_ret
  exact ⟨rfl, hb0.trans (hb1.mono (by simp))⟩

set_option maxRecDepth 100000 in
set_option maxHeartbeats 400000 in
theorem chain_c (a b : ByteArray) (w : World) (ha : a.size ≤ 1000000000) (hb : b.size ≤ 1000000000) (hT : Tab w) :
    Calls Tryd.prog 70 #[.string a, .string b] w fun e w' => e = .returned (.string (dg.chain a b)) ∧ Below w.heap.size w w' := by
  have HT := Lib.hid hT
  clear hT
  go_enter Tryd.func70, Tryd.ntmps70
  go_wp2_with fail
  have hb0 : Below w.heap.size w (w.alloc (.cells #[.string ⟨#[2]⟩, .string a, .string b] 9)) := (Below.refl _ w).alloc (Nat.le_refl _) _
  refine (sumOf_any [⟨#[2]⟩, a, b] w.heap.size 3 _ (by simp [nums_len, one_size]; omega) (by simp) (HT.out.below hb0) (texts_new w [⟨#[2]⟩, a, b] 9)).mono ?_
  rintro e w1 ⟨rfl, hb1⟩
  have HE := Lib.hid (show strOf' (sha (List.map nums [⟨#[2]⟩, a, b]).flatten) = dg.chain a b from by simp [dg, Dig.chain, Dig.chainS, nums_append, b1])
  rw [HE.out]
  go_wp2_with fail
  go_ret
  exact ⟨rfl, hb0.trans (hb1.mono (by simp))⟩
end Go.Proofs.YtpapfegbodolgaaDoor
