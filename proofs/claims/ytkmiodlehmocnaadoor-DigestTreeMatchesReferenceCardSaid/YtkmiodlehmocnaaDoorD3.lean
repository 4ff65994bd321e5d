/- WALKS: the reference's Leaf, Node, Chain; DigestSumMatchesReference, over what the reference's block answers. -/
import Derived.Test.YtkmiodlehmocnaaDoorD2
import Derived.Test.YtkmiodlehmocnaaDoorT16
set_option linter.unusedVariables false
set_option linter.unusedSimpArgs false
namespace Go.Proofs.YtkmiodlehmocnaaDoor
open Go.RowKit

set_option maxRecDepth 100000 in
set_option maxHeartbeats 400000 in
theorem ref_leaf (RB : RefBlock) (s : ByteArray) (w : World) (hs : s.size ≤ 1000) :
    Calls Tryd.prog 14 #[.string s] w fun e w' => e = .returned (.string (dg.leaf s)) ∧ Below w.heap.size w w' := by
  have HC := Lib.hid (ref_sum RB ((⟨#[0]⟩ : ByteArray) ++ s) w (by rw [ByteArray.size_append, one_size]; omega))
  have HE := Lib.hid (show dg.f ((⟨#[0]⟩ : ByteArray) ++ s) = dg.leaf s from rfl)
  rw [HE.out] at HC
  clear RB
  go_enter Tryd.func14, Tryd.ntmps14
  go_wp2_with fail
  refine HC.out.mono ?_
  rintro e w1 ⟨rfl, hb1⟩
  go_wp2_with fail
  go_ret
  exact ⟨rfl, hb1⟩
set_option maxRecDepth 100000 in
set_option maxHeartbeats 400000 in
theorem ref_node (RB : RefBlock) (a b : ByteArray) (w : World) (ha : a.size ≤ 1000) (hb : b.size ≤ 1000) :
    Calls Tryd.prog 16 #[.string a, .string b] w fun e w' => e = .returned (.string (dg.node a b)) ∧ Below w.heap.size w w' := by
  have HC := Lib.hid (ref_sum RB ((⟨#[1]⟩ : ByteArray) ++ a ++ b) w (by rw [ByteArray.size_append, ByteArray.size_append, one_size]; omega))
  have HE := Lib.hid (show dg.f ((⟨#[1]⟩ : ByteArray) ++ a ++ b) = dg.node a b from rfl)
  rw [HE.out] at HC
  clear RB
  go_enter Tryd.func16, Tryd.ntmps16
  go_wp2_with fail
  refine HC.out.mono ?_
  rintro e w1 ⟨rfl, hb1⟩
  go_wp2_with fail
  go_ret
  exact ⟨rfl, hb1⟩
set_option maxRecDepth 100000 in
set_option maxHeartbeats 400000 in
theorem ref_chain (RB : RefBlock) (a b : ByteArray) (w : World) (ha : a.size ≤ 1000) (hb : b.size ≤ 1000) :
    Calls Tryd.prog 18 #[.string a, .string b] w fun e w' => e = .returned (.string (dg.chain a b)) ∧ Below w.heap.size w w' := by
  have HC := Lib.hid (ref_sum RB ((⟨#[2]⟩ : ByteArray) ++ a ++ b) w (by rw [ByteArray.size_append, ByteArray.size_append, one_size]; omega))
  have HE := Lib.hid (show dg.f ((⟨#[2]⟩ : ByteArray) ++ a ++ b) = dg.chain a b from rfl)
  rw [HE.out] at HC
  clear RB
  go_enter Tryd.func18, Tryd.ntmps18
  go_wp2_with fail
  refine HC.out.mono ?_
  rintro e w1 ⟨rfl, hb1⟩
  go_wp2_with fail
  go_ret
  exact ⟨rfl, hb1⟩

set_option maxRecDepth 100000 in
set_option maxHeartbeats 2000000 in
theorem sumMatches_walk (RB : RefBlock) (s t : ByteArray) (w : World) (hs : s.size ≤ maxLen) (ht : t.size ≤ maxLen) (hT : Tab w) :
    Calls Tryd.prog 3 #[.string s, .string t] w fun e W' => e = .returned (.bool true) ∧ Below w.heap.size w W' := by
  have HT := Lib.hid hT
  have HRB := Lib.hid RB
  clear hT RB
  unfold maxLen at hs ht
  obtain ⟨y, HY⟩ : ∃ y, Hid (s.extract 0 (min (s.size : Int) 500).toNat = y) := ⟨_, Lib.hid rfl⟩
  obtain ⟨z, HZ⟩ : ∃ y, Hid (t.extract 0 (min (t.size : Int) 500).toNat = y) := ⟨_, Lib.hid rfl⟩
  have hy500 : y.size ≤ 500 := by rw [← HY.out, ByteArray.size_extract]; omega
  have hz500 : z.size ≤ 500 := by rw [← HZ.out, ByteArray.size_extract]; omega
  have hy := HY.out
  have hz := HZ.out
  have m1 : 0 ≤ min (s.size : Int) 500 := by omega
  have m2 : min (s.size : Int) 500 ≤ (s.size : Int) := by omega
  have m3 : 0 ≤ min (t.size : Int) 500 := by omega
  have m4 : min (t.size : Int) 500 ≤ (t.size : Int) := by omega
  go_enter Tryd.func3, Tryd.ntmps3
  go_wp2_with fail
  refine (sane_c _ HT.out).mono ?_
  rintro e w1 ⟨rfl, hb1⟩
  have HB1 := Lib.hid hb1
  clear hb1
  go_wp2_with fail
  refine (sum_c y _ (by omega) (HT.out.below HB1.out)).mono ?_
  rintro e w2 ⟨rfl, hb2⟩
  have HB2 := Lib.hid (bt HB1.out hb2)
  clear hb2
  go_wp2_with fail
  refine (ref_sum HRB.out y _ (by omega)).mono ?_
  rintro e w3 ⟨rfl, hb3⟩
  have HB3 := Lib.hid (bt HB2.out hb3)
  clear hb3
  go_wp2_with fail
  refine (leaf_c z _ (by omega) (HT.out.below HB3.out)).mono ?_
  rintro e w4 ⟨rfl, hb4⟩
  have HB4 := Lib.hid (bt HB3.out hb4)
  clear hb4
  go_wp2_with fail
  refine (ref_leaf HRB.out z _ (by omega)).mono ?_
  rintro e w5 ⟨rfl, hb5⟩
  have HB5 := Lib.hid (bt HB4.out hb5)
  clear hb5
  go_wp2_with fail
  refine (node_c y z _ (by omega) (by omega) (HT.out.below HB5.out)).mono ?_
  rintro e w6 ⟨rfl, hb6⟩
  have HB6 := Lib.hid (bt HB5.out hb6)
  clear hb6
  go_wp2_with fail
  refine (ref_node HRB.out y z _ (by omega) (by omega)).mono ?_
  rintro e w7 ⟨rfl, hb7⟩
  have HB7 := Lib.hid (bt HB6.out hb7)
  clear hb7
  go_wp2_with fail
  refine (chain_c z y _ (by omega) (by omega) (HT.out.below HB7.out)).mono ?_
  rintro e w8 ⟨rfl, hb8⟩
  have HB8 := Lib.hid (bt HB7.out hb8)
  clear hb8
  go_wp2_with fail
  refine (ref_chain HRB.out z y _ (by omega) (by omega)).mono ?_
  rintro e w9 ⟨rfl, hb9⟩
  have HB9 := Lib.hid (bt HB8.out hb9)
  clear hb9
  go_wp2_with fail
  go_ret
  exact ⟨by simp, HB9.out⟩
end Go.Proofs.YtkmiodlehmocnaaDoor
