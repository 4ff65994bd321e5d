/- WALKS OF THE SMALL FUNCTIONS: zigzag numbers. -/
import Derived.Test.YtgkdliocfnoffaaDoorProg
import Derived.Test.YtgkdliocfnoffaaDoorM1
import Derived.WalkKit
import Derived.WalkSpells
import Derived.WalkLawsBesides
namespace Go.Proofs.YtgkdliocfnoffaaDoor
open Go.RowKit

theorem ret_int {k : IntKind} {a b : Int} (h : a = b) : Ending.returned (.int k a) = .returned (.int k b) := by rw [h]

set_option maxHeartbeats 400000 in
theorem unsigned_any (n : Int) (w : World) (h1 : -4611686018427387903 ≤ n) (h2 : n ≤ 4611686018427387903) :
    Calls Tryd.prog 66 #[.int .i64 n] w fun e w' => e = .returned (.int .u64 (zig n)) ∧ w' = w := by
  by_cases h : n < 0
  · have hz : zig n = -2 * n - 1 := by simp [zig, h]
    rw [hz]
    go_enter Tryd.func66, Tryd.ntmps66
    go_wp2
    go_ret
    exact ⟨rfl, rfl⟩
  · have hz : zig n = 2 * n := by simp [zig, h]
    rw [hz]
    go_enter Tryd.func66, Tryd.ntmps66
    go_wp2
    go_ret
    exact ⟨rfl, rfl⟩

set_option maxHeartbeats 400000 in
theorem zigzag_any (n : Int) (w : World) (h1 : -4611686018427387903 ≤ n) (h2 : n ≤ 4611686018427387903) :
    Calls Tryd.prog 67 #[.int .i64 n] w fun e w' => e = .returned (.int .u64 (zig n)) ∧ w' = w := by
  by_cases h : n < 0
  · have hz : zig n = -2 * n - 1 := by simp [zig, h]
    rw [hz]
    go_enter Tryd.func67, Tryd.ntmps67
    go_wp2
    go_ret
    exact ⟨ret_int (by omega), rfl⟩
  · have hz : zig n = 2 * n := by simp [zig, h]
    rw [hz]
    go_enter Tryd.func67, Tryd.ntmps67
    go_wp2
    go_ret
    exact ⟨ret_int (by omega), rfl⟩

set_option maxHeartbeats 400000 in
theorem signed_any (z : Int) (w : World) (h1 : 0 ≤ z) (h2 : z ≤ 9223372036854775807) :
    Calls Tryd.prog 70 #[.int .u64 z] w fun e w' => e = .returned (.int .i64 (zag z)) ∧ w' = w := by
  by_cases h : z % 2 = 1
  · have hz : zag z = -(z / 2) - 1 := by simp [zag, h]
    have hb : (z % 2 == 1) = true := by simp [h]
    rw [hz]
    clear h
    go_enter Tryd.func70, Tryd.ntmps70
    go_wp2
    go_ret
    exact ⟨ret_int (by omega), rfl⟩
  · have hz : zag z = z / 2 := by simp [zag, h]
    have hb : (z % 2 == 1) = false := by simp [h]
    rw [hz]
    clear h
    go_enter Tryd.func70, Tryd.ntmps70
    go_wp2
    go_ret
    exact ⟨ret_int (by omega), rfl⟩

end Go.Proofs.YtgkdliocfnoffaaDoor
