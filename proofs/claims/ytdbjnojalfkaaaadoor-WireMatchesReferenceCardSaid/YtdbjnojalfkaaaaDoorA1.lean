/- WALKS OF THE SMALL FUNCTIONS: zigzag numbers. -/
import Derived.Test.YtdbjnojalfkaaaaDoorProg
import Derived.Test.YtdbjnojalfkaaaaDoorM1
import Derived.WalkKit
import Derived.WalkSpells
import Derived.WalkLawsBesides
namespace Go.Proofs.YtdbjnojalfkaaaaDoor
open Go.RowKit

theorem ret_int {k : IntKind} {a b : Int} (h : a = b) : Ending.returned (.int k a) = .returned (.int k b) := by rw [h]

set_option maxHeartbeats 400000 in
theorem unsigned_any (n : Int) (w : World) (h1 : -4611686018427387903 ≤ n) (h2 : n ≤ 4611686018427387903) :
    Calls Tryd.prog 24 #[.int .i64 n] w fun e w' => e = .returned (.int .u64 (zig n)) ∧ w' = w := by
  by_cases h : n < 0
  · have hz : zig n = -2 * n - 1 := by simp [zig, h]
    rw [hz]
    go_enter Tryd.func24, Tryd.ntmps24
    go_wp2
    go_ret
    exact ⟨rfl, rfl⟩
  · have hz : zig n = 2 * n := by simp [zig, h]
    rw [hz]
    go_enter Tryd.func24, Tryd.ntmps24
    go_wp2
    go_ret
    exact ⟨rfl, rfl⟩

set_option maxHeartbeats 400000 in
theorem zigzag_any (n : Int) (w : World) (h1 : -4611686018427387903 ≤ n) (h2 : n ≤ 4611686018427387903) :
    Calls Tryd.prog 25 #[.int .i64 n] w fun e w' => e = .returned (.int .u64 (zig n)) ∧ w' = w := by
  by_cases h : n < 0
  · have hz : zig n = -2 * n - 1 := by simp [zig, h]
    rw [hz]
    go_enter Tryd.func25, Tryd.ntmps25
    go_wp2
    go_ret
    exact ⟨ret_int (by omega), rfl⟩
  · have hz : zig n = 2 * n := by simp [zig, h]
    rw [hz]
    go_enter Tryd.func25, Tryd.ntmps25
    go_wp2
    go_ret
    exact ⟨ret_int (by omega), rfl⟩

set_option maxHeartbeats 400000 in
theorem signed_any (z : Int) (w : World) (h1 : 0 ≤ z) (h2 : z ≤ 9223372036854775807) :
    Calls Tryd.prog 26 #[.int .u64 z] w fun e w' => e = .returned (.int .i64 (zag z)) ∧ w' = w := by
  by_cases h : z % 2 = 1
  · have hz : zag z = -(z / 2) - 1 := by simp [zag, h]
    have hb : (z % 2 == 1) = true := by simp [h]
    rw [hz]
    clear h
    go_enter Tryd.func26, Tryd.ntmps26
    go_wp2
    go_ret
    exact ⟨ret_int (by omega), rfl⟩
  · have hz : zag z = z / 2 := by simp [zag, h]
    have hb : (z % 2 == 1) = false := by simp [h]
    rw [hz]
    clear h
    go_enter Tryd.func26, Tryd.ntmps26
    go_wp2
    go_ret
    exact ⟨ret_int (by omega), rfl⟩

/-- pick. -/
def pk (c n : Int) : Int := (if c < 0 then -(c + 1) else c) % n

set_option maxHeartbeats 400000 in
theorem pick_any (c n : Int) (w : World) (h1 : -9223372036854775808 ≤ c) (h2 : c ≤ 9223372036854775807) (h3 : 1 ≤ n) (h4 : n ≤ 9223372036854775807) :
    Calls Tryd.prog 14 #[.int .i64 c, .int .i64 n] w fun e w' => e = .returned (.int .i64 (pk c n)) ∧ w' = w := by
  by_cases h : c < 0
  · have hz : pk c n = (-(c + 1)) % n := by simp [pk, h]
    rw [hz]
    go_enter Tryd.func14, Tryd.ntmps14
    go_wp2
    go_ret
    exact ⟨ret_int (by first | omega | rw [← Int.neg_tmod, Int.tmod_eq_emod_of_nonneg (by omega)]), rfl⟩
  · have hz : pk c n = c % n := by simp [pk, h]
    rw [hz]
    go_enter Tryd.func14, Tryd.ntmps14
    go_wp2
    go_ret
    exact ⟨ret_int (by omega), rfl⟩
end Go.Proofs.YtdbjnojalfkaaaaDoor
