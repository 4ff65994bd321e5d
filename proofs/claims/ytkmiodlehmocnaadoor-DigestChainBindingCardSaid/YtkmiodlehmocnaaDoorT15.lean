/- WALKS: hex of the laws. -/
import Derived.Test.YtkmiodlehmocnaaDoorT14
set_option linter.unusedVariables false
namespace Go.Proofs.YtkmiodlehmocnaaDoor
open Go.RowKit

def hexAll : ByteArray := ⟨#[48, 49, 50, 51, 52, 53, 54, 55, 56, 57, 97, 98, 99, 100, 101, 102]⟩
/-- The digits of the first k bytes. -/
def hexTo (l : List Nat) : Nat → ByteArray
  | 0 => ⟨#[]⟩
  | k + 1 => hexTo l k ++ hexAll.extract (l.getD k 0 / 16) (l.getD k 0 / 16 + 1) ++ hexAll.extract (l.getD k 0 % 16) (l.getD k 0 % 16 + 1)

set_option maxRecDepth 100000 in
set_option maxHeartbeats 1000000 in
theorem hex_c (s : ByteArray) (w : World) (hs : s.size ≤ 1000) :
    Calls Tryd.prog 35 #[.string s] w fun e w' => e = .returned (.string (hexTo (nums s) s.size)) ∧ Below w.heap.size w w' := by
  obtain ⟨R, HR⟩ : ∃ R, Hid (hexTo (nums s) s.size = R) := ⟨_, Lib.hid rfl⟩
  rw [HR.out]
  go_enter Tryd.func35, Tryd.ntmps35
  go_wp2_with fail
  go_loopw [3, 4] (fun o i wr => ∃ (k : Nat) (t : ByteArray), k ≤ s.size ∧ i = .int .i64 k ∧ o = .string t ∧ Hid (hexTo (nums s) k = t) ∧ t.size ≤ 2 * k ∧ Below w.heap.size w wr) (fun _ i _ => s.size - (intOf i).toNat)
  case atStart => exact ⟨0, ⟨#[]⟩, by omega, rfl, rfl, Lib.hid rfl, Nat.le_refl _, Below.refl _ _⟩
  case round =>
    obtain ⟨k, t, hk, rfl, rfl, HT, htz, hB⟩ := hrel
    by_cases hlt : k < s.size
    · obtain ⟨b, Hb⟩ : ∃ b, Hid (s[k].toNat = b) := ⟨_, Lib.hid rfl⟩
      have hb : b < 256 := by rw [← Hb.out]; exact s[k].toNat_lt
      have HG := Lib.hid (show (nums s).getD k 0 = b from by rw [← Hb.out]; simp [nums, List.getD, hlt]; rfl)
      have hbe : ((s[k].toNat : Nat) : Int) = (b : Int) := by rw [Hb.out]
      go_wp2_with fail
      go_quiet (fail)
      go_wp2_with fail
      refine ⟨⟨k + 1, _, by omega, by go_num, rfl, Lib.hid (by simp only [hexTo]; rw [HT.out, HG.out]; rfl), ?_, below_drewN hB nq⟩, by simp [intOf]; omega⟩
      rw [ByteArray.size_append, ByteArray.size_append, ByteArray.size_extract, ByteArray.size_extract]
      omega
    · obtain rfl : k = s.size := by omega
      have HF : Hid (t = R) := Lib.hid (by rw [← HR.out, ← HT.out])
      go_wp2_with fail
      go_ret
      exact ⟨by rw [HF.out]; rfl, hB⟩
end Go.Proofs.YtkmiodlehmocnaaDoor
