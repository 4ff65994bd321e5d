/- WALKS: pick of a law package (sed law01 to the right one). -/
import Derived.Test.YtgkdliocfnoffaaDoorWA1
namespace Go.Proofs.YtgkdliocfnoffaaDoor
open Go.RowKit

/-- pick. -/
def pk (c n : Int) : Int := (if c < 0 then -(c + 1) else c) % n

set_option maxHeartbeats 400000 in
theorem pick_any (c n : Int) (w : World) (h1 : -9223372036854775808 ≤ c) (h2 : c ≤ 9223372036854775807) (h3 : 1 ≤ n) (h4 : n ≤ 9223372036854775807) :
    Calls Tryd.prog 21 #[.int .i64 c, .int .i64 n] w fun e w' => e = .returned (.int .i64 (pk c n)) ∧ w' = w := by
  by_cases h : c < 0
  · have hz : pk c n = (-(c + 1)) % n := by simp [pk, h]
    rw [hz]
    go_enter Tryd.func21, Tryd.ntmps21
    go_wp2
    go_ret
    exact ⟨ret_int (by first | omega | rw [← Int.neg_tmod, Int.tmod_eq_emod_of_nonneg (by omega)]), rfl⟩
  · have hz : pk c n = c % n := by simp [pk, h]
    rw [hz]
    go_enter Tryd.func21, Tryd.ntmps21
    go_wp2
    go_ret
    exact ⟨ret_int (by omega), rfl⟩
end Go.Proofs.YtgkdliocfnoffaaDoor
