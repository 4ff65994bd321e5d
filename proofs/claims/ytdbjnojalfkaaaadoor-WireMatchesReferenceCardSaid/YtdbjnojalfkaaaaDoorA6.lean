/- WALKS: the checksums. -/
import Derived.Test.YtdbjnojalfkaaaaDoorA1
import Derived.Test.YtdbjnojalfkaaaaDoorM2
import Derived.Lib.Hide
set_option linter.unusedVariables false
namespace Go.Proofs.YtdbjnojalfkaaaaDoor
open Go.RowKit

/-- The bytes of a string as numbers; its checksum. -/
def nums (s : ByteArray) : List Nat := s.data.toList.map (·.toNat)
def sumOf (s : ByteArray) : Nat := cCrc 4294967295 (nums s) ^^^ 4294967295

/-- The table lies in memory. -/
def Nib (w : World) : Prop := 0 < w.heap.size ∧ ∀ i, i < 16 → w.cell? ⟨0, i, none⟩ = some (.int .u32 ((cTab.getD i 0 : Nat) : Int))
theorem Nib.below {w w' : World} (h : Nib w) (hb : Below w.heap.size w w') : Nib w' :=
  ⟨Nat.lt_of_lt_of_le h.1 hb.size, fun i hi => (hb.cell (p := ⟨0, i, none⟩) h.1).trans (h.2 i hi)⟩

theorem Nib.drewN {w : World} (h : Nib w) (m : Nat) : Nib (w.drewN m) :=
  ⟨by simpa using h.1, fun i hi => by rw [show (w.drewN m).cell? ⟨0, i, none⟩ = w.cell? ⟨0, i, none⟩ from by simp]; exact h.2 i hi⟩
theorem nums_take_succ (s : ByteArray) (k : Nat) (hk : k < s.size) : (nums s).take (k + 1) = (nums s).take k ++ [s[k].toNat] := by
  unfold nums
  rw [List.take_succ_eq_append_getElem (by simpa using hk)]
  simp
  rfl
theorem nums_lt (s : ByteArray) : ∀ b ∈ nums s, b < 256 := by
  intro b hb
  obtain ⟨c, _, rfl⟩ := List.mem_map.1 hb
  exact c.toNat_lt
theorem nums_len (s : ByteArray) : (nums s).length = s.size := by simp [nums]
theorem cTab_lt (i : Nat) : cTab.getD i 0 < 4294967296 := by
  by_cases h : i < 16
  · have : ∀ j : Fin 16, cTab.getD j.val 0 < 4294967296 := by decide
    exact this ⟨i, h⟩
  · rw [List.getD_eq_getElem?_getD, List.getElem?_eq_none (by simp [cTab]; omega)]; decide

set_option maxRecDepth 100000 in
set_option maxHeartbeats 400000 in
theorem sum_any (s : ByteArray) (w : World) (hs : s.size ≤ maxLen) (hN : Nib w) :
    Calls Tryd.prog 21 #[.string s] w fun e w' => e = .returned (.int .i64 (sumOf s)) ∧ w' = w := by
  unfold maxLen at hs
  have HN := Lib.hid hN
  clear hN
  go_enter Tryd.func21, Tryd.ntmps21
  go_wp2
  go_loop [3, 7, 4] (fun r i j => ∃ (k z : Nat), k ≤ s.size ∧ i = .int .i64 k ∧ r = .int .u32 z ∧ z < 4294967296 ∧ Hid (z = cCrc 4294967295 ((nums s).take k))) (fun _ i _ => s.size - (intOf i).toNat)
  case atStart => exact ⟨0, 4294967295, by omega, rfl, rfl, by omega, Lib.hid rfl⟩
  case round =>
    obtain ⟨k, r, hk, rfl, rfl, hr, HR⟩ := hrel
    by_cases hlt : k < s.size
    · have hb := s[k].toNat_lt
      obtain ⟨b, Hb⟩ : ∃ b, Hid (s[k].toNat = b) := ⟨_, Lib.hid rfl⟩
      rw [Hb.out] at hb
      obtain ⟨x1, H1⟩ : ∃ x, Hid (r ^^^ b = x) := ⟨_, Lib.hid rfl⟩
      obtain ⟨i1, J1⟩ : ∃ x, Hid (x1 % 16 = x) := ⟨_, Lib.hid rfl⟩
      obtain ⟨t1, K1⟩ : ∃ x, Hid (cTab.getD i1 0 = x) := ⟨_, Lib.hid rfl⟩
      obtain ⟨x2, H2⟩ : ∃ x, Hid (x1 / 16 ^^^ t1 = x) := ⟨_, Lib.hid rfl⟩
      obtain ⟨i2, J2⟩ : ∃ x, Hid (x2 % 16 = x) := ⟨_, Lib.hid rfl⟩
      obtain ⟨t2, K2⟩ : ∃ x, Hid (cTab.getD i2 0 = x) := ⟨_, Lib.hid rfl⟩
      obtain ⟨x3, H3⟩ : ∃ x, Hid (x2 / 16 ^^^ t2 = x) := ⟨_, Lib.hid rfl⟩
      have hx1 : x1 < 4294967296 := by rw [← H1.out]; exact Nat.xor_lt_two_pow (n := 32) hr (by omega)
      have hi1 : i1 < 16 := by rw [← J1.out]; omega
      have ht1 : t1 < 4294967296 := by rw [← K1.out]; exact cTab_lt _
      have hx2 : x2 < 4294967296 := by rw [← H2.out]; exact Nat.xor_lt_two_pow (n := 32) (by omega) ht1
      have hi2 : i2 < 16 := by rw [← J2.out]; omega
      have ht2 : t2 < 4294967296 := by rw [← K2.out]; exact cTab_lt _
      have hx3 : x3 < 4294967296 := by rw [← H3.out]; exact Nat.xor_lt_two_pow (n := 32) (by omega) ht2
      have e0 : ((s[k].toNat : Int) % 4294967296) = (b : Int) := by rw [Hb.out]; omega
      have e1 : bits .xor .u32 (r : Int) (b : Int) = (x1 : Int) := by rw [u32_xor_nat _ _ hr (by omega), H1.out]
      have e2 : bits .and .u32 (x1 : Int) 15 = (i1 : Int) := by
        have := u32_and_nat x1 15 hx1 (by decide)
        rw [show ((15 : Nat) : Int) = 15 from rfl] at this
        rw [this, show (15 : Nat) = 2 ^ 4 - 1 from rfl, Nat.and_two_pow_sub_one_eq_mod]
        rw [show (2 : Nat) ^ 4 = 16 from rfl, J1.out]
      have c1 : w.cell? ⟨0, i1, none⟩ = some (.int .u32 (t1 : Int)) := by rw [HN.out.2 i1 hi1, K1.out]
      have e3 : bits .xor .u32 ((x1 : Int) / 16) (t1 : Int) = (x2 : Int) := by
        rw [show ((x1 : Int) / 16) = ((x1 / 16 : Nat) : Int) from by omega, u32_xor_nat _ _ (by omega) ht1, H2.out]
      have e4 : bits .and .u32 (x2 : Int) 15 = (i2 : Int) := by
        have := u32_and_nat x2 15 hx2 (by decide)
        rw [show ((15 : Nat) : Int) = 15 from rfl] at this
        rw [this, show (15 : Nat) = 2 ^ 4 - 1 from rfl, Nat.and_two_pow_sub_one_eq_mod]
        rw [show (2 : Nat) ^ 4 = 16 from rfl, J2.out]
      have c2 : w.cell? ⟨0, i2, none⟩ = some (.int .u32 (t2 : Int)) := by rw [HN.out.2 i2 hi2, K2.out]
      have e5 : bits .xor .u32 ((x2 : Int) / 16) (t2 : Int) = (x3 : Int) := by
        rw [show ((x2 : Int) / 16) = ((x2 / 16 : Nat) : Int) from by omega, u32_xor_nat _ _ (by omega) ht2, H3.out]
      have HX : Hid (x3 = cCrc 4294967295 ((nums s).take (k + 1))) := Lib.hid (by
        rw [nums_take_succ s k hlt, cCrc_snoc, ← HR.out, Hb.out, cUpd_nib, H1.out, cSs_nib x1, J1.out, K1.out, H2.out, cSs_nib x2, J2.out, K2.out, H3.out])
      go_wp2
      exact ⟨⟨k + 1, x3, by omega, by go_num, rfl, hx3, HX⟩, by simp [intOf]; omega⟩
    · have HS : Hid ((sumOf s : Int) = wrap64 (bits .xor .u32 IntKind.u32.max (r : Int))) := Lib.hid (by
        have e : bits .xor .u32 IntKind.u32.max (r : Int) = ((4294967295 ^^^ r : Nat) : Int) := u32_xor_nat 4294967295 r (by decide) hr
        have hl : 4294967295 ^^^ r < 4294967296 := Nat.xor_lt_two_pow (n := 32) (by decide) hr
        rw [e, IntWalk.wrap64_in _ ⟨by omega, by omega⟩, HR.out, List.take_of_length_le (by rw [nums_len]; omega), Nat.xor_comm]
        rfl)
      go_wp2
      go_ret
      exact ⟨by rw [HS.out]; rfl, rfl⟩
end Go.Proofs.YtdbjnojalfkaaaaDoor
