/- WALKS: the laws' own small functions: sane, NumberFrom. -/
import Derived.Test.YtdbjnojalfkaaaaDoorA5
import Derived.Test.YtdbjnojalfkaaaaDoorA6
set_option linter.unusedVariables false
namespace Go.Proofs.YtdbjnojalfkaaaaDoor
open Go.RowKit

theorem sane_p1 (w : World) : Calls Tryd.prog 12 #[.int .i64 (-64)] w fun e W' => e = .returned (.tuple #[.string ⟨#[127]⟩, .int .i64 0]) ∧ Below w.heap.size w W' :=
  (putInt_ok (-64) w (by omega) (by omega)).mono fun e W' ⟨h, hb⟩ => ⟨by rw [h, show encInt (-64) = [127] from by decide], hb⟩
theorem sane_p2 (w : World) : Calls Tryd.prog 12 #[.int .i64 64] w fun e W' => e = .returned (.tuple #[.string ⟨#[128, 1]⟩, .int .i64 0]) ∧ Below w.heap.size w W' :=
  (putInt_ok 64 w (by omega) (by omega)).mono fun e W' ⟨h, hb⟩ => ⟨by rw [h, show encInt 64 = [128, 1] from by decide], hb⟩
theorem sane_p3 (w : World) : Calls Tryd.prog 15 #[.string ⟨#[97, 172, 2, 98]⟩, .int .i64 1] w fun e W' => e = .returned (.tuple #[.int .i64 150, .int .i64 3, .int .i64 0]) ∧ W' = w :=
  int_some ⟨#[97, 172, 2, 98]⟩ 1 w (by decide) (by decide) (n := 150) (m := 2) (by decide)
theorem sane_p4 (w : World) : Calls Tryd.prog 15 #[.string ⟨#[128, 0]⟩, .int .i64 0] w fun e W' => e = .returned (.tuple #[.int .i64 0, .int .i64 0, .int .i64 10]) ∧ W' = w :=
  int_none ⟨#[128, 0]⟩ 0 w (by decide) (by decide) (by decide)
theorem sane_p5 (w : World) : Calls Tryd.prog 19 #[.string ⟨#[97, 98]⟩] w fun e W' => e = .returned (.tuple #[.string ⟨#[4, 97, 98]⟩, .int .i64 0]) ∧ Below w.heap.size w W' :=
  (putString_ok ⟨#[97, 98]⟩ w (by decide)).mono fun e W' ⟨h, hb⟩ => ⟨by rw [h]; rfl, hb⟩
theorem sane_p6 (w : World) : Calls Tryd.prog 17 #[.string ⟨#[4, 97, 98, 99]⟩, .int .i64 0] w fun e W' => e = .returned (.tuple #[.string ⟨#[97, 98]⟩, .int .i64 3, .int .i64 0]) ∧ Below w.heap.size w W' :=
  (string_any ⟨#[4, 97, 98, 99]⟩ 0 w (by decide) (by decide)).mono fun e W' ⟨h, hb⟩ => ⟨by rw [h]; rfl, hb⟩
theorem sane_p7 (w : World) : Calls Tryd.prog 17 #[.string ⟨#[4, 97]⟩, .int .i64 0] w fun e W' => e = .returned (.tuple #[.string ⟨#[]⟩, .int .i64 0, .int .i64 10]) ∧ Below w.heap.size w W' :=
  (string_any ⟨#[4, 97]⟩ 0 w (by decide) (by decide)).mono fun e W' ⟨h, hb⟩ => ⟨by rw [h]; rfl, hb⟩
theorem sane_p8 (w : World) : Calls Tryd.prog 12 #[.int .i64 4611686018427387904] w fun e W' => e = .returned (.tuple #[.string ⟨#[]⟩, .int .i64 10]) ∧ W' = w :=
  putInt_bad _ w (by omega) (by omega) (by omega)
theorem sane_p9 (w : World) : Calls Tryd.prog 15 #[.string ⟨#[]⟩, .int .i64 1] w fun e W' => e = .returned (.tuple #[.int .i64 0, .int .i64 0, .int .i64 2]) ∧ W' = w :=
  int_hi ⟨#[]⟩ 1 w (by decide) (by decide) (by omega)
theorem sane_p10 (w : World) (hN : Nib w) : Calls Tryd.prog 21 #[.string ⟨#[49, 50, 51, 52, 53, 54, 55, 56, 57]⟩] w fun e W' => e = .returned (.int .i64 3808858755) ∧ W' = w :=
  (sum_any ⟨#[49, 50, 51, 52, 53, 54, 55, 56, 57]⟩ w (by decide) hN).mono fun e W' ⟨h, hb⟩ => ⟨by rw [h, show sumOf ⟨#[49, 50, 51, 52, 53, 54, 55, 56, 57]⟩ = 3808858755 from by decide +kernel]; rfl, hb⟩

set_option maxRecDepth 100000 in
set_option maxHeartbeats 400000 in
theorem sane_any (w : World) (hN : Nib w) : Calls Tryd.prog 10 #[] w fun e W' => e = .returned (.bool true) ∧ Below w.heap.size w W' := by
  have HN := Lib.hid hN
  clear hN
  go_enter Tryd.func10, Tryd.ntmps10
  go_wp2_with fail
  refine (sane_p1 _).mono ?_
  rintro e w1 ⟨rfl, hb1⟩
  go_wp2_with fail
  refine (sane_p2 _).mono ?_
  rintro e w2 ⟨rfl, hb2⟩
  go_wp2_with fail
  refine (sane_p3 _).mono ?_
  rintro e w3 ⟨rfl, rfl⟩
  go_wp2_with fail
  refine (sane_p4 _).mono ?_
  rintro e w4 ⟨rfl, rfl⟩
  go_wp2_with fail
  refine (sane_p5 _).mono ?_
  rintro e w5 ⟨rfl, hb5⟩
  go_wp2_with fail
  refine (sane_p6 _).mono ?_
  rintro e w6 ⟨rfl, hb6⟩
  go_wp2_with fail
  refine (sane_p7 _).mono ?_
  rintro e w7 ⟨rfl, hb7⟩
  go_wp2_with fail
  refine (sane_p8 _).mono ?_
  rintro e w8 ⟨rfl, rfl⟩
  go_wp2_with fail
  refine (sane_p9 _).mono ?_
  rintro e w9 ⟨rfl, rfl⟩
  have hb := ((((hb1.trans (hb2.mono hb1.size)).trans (hb5.mono (Nat.le_trans hb1.size hb2.size))).trans (hb6.mono (Nat.le_trans (Nat.le_trans hb1.size hb2.size) hb5.size))).trans (hb7.mono (Nat.le_trans (Nat.le_trans (Nat.le_trans hb1.size hb2.size) hb5.size) hb6.size)))
  go_wp2_with fail
  refine (sane_p10 _ (HN.out.below hb)).mono ?_
  rintro e w10 ⟨rfl, rfl⟩
  go_wp2_with fail
  go_ret
  exact ⟨rfl, hb⟩
end Go.Proofs.YtdbjnojalfkaaaaDoor
