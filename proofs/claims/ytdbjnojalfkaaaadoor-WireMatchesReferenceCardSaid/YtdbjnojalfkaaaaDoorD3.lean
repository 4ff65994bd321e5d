/- WALKS: the reference's String and Sum. -/
import Derived.Test.YtdbjnojalfkaaaaDoorD2
set_option linter.unusedVariables false
namespace Go.Proofs.YtdbjnojalfkaaaaDoor
open Go.RowKit

theorem refInt_none (s : ByteArray) (k : Nat) (w : World) (hs : s.size ≤ maxLen) (hk : k ≤ s.size) (h : decInt (s.data.toList.drop k) = none) :
    Calls Tryd.prog 16 #[.string s, .int .i64 k] w fun e w' => e = .returned (.tuple #[.int .i64 0, .int .i64 0, .int .i64 10]) ∧ Below w.heap.size w w' :=
  (refInt_any s k w hs hk).mono fun e w' hw => by rw [intOut_none h] at hw; exact hw
theorem refInt_some (s : ByteArray) (k : Nat) (w : World) (hs : s.size ≤ maxLen) (hk : k ≤ s.size) {n : Int} {m : Nat} (h : decInt (s.data.toList.drop k) = some (n, m)) :
    Calls Tryd.prog 16 #[.string s, .int .i64 k] w fun e w' => e = .returned (.tuple #[.int .i64 n, .int .i64 ((k + m : Nat) : Int), .int .i64 0]) ∧ Below w.heap.size w w' :=
  (refInt_any s k w hs hk).mono fun e w' hw => by rw [intOut_some h] at hw; exact hw

set_option maxRecDepth 100000 in
set_option maxHeartbeats 400000 in
theorem refString_lo (s : ByteArray) (k : Int) (w : World) (hs : s.size ≤ maxLen) (hk : k < 0) (hk2 : -9223372036854775808 ≤ k) :
    Calls Tryd.prog 18 #[.string s, .int .i64 k] w fun e w' => e = .returned (.tuple #[.string ⟨#[]⟩, .int .i64 0, .int .i64 2]) ∧ w' = w := by
  go_enter Tryd.func18, Tryd.ntmps18
  go_wp2_with (go_at_call 16; refine (refInt_lo _ _ _ hs hk hk2).mono ?_; rintro e w' ⟨rfl, rfl⟩)
  go_ret3
  exact ⟨rfl, rfl⟩
set_option maxRecDepth 100000 in
set_option maxHeartbeats 400000 in
theorem refString_hi (s : ByteArray) (k : Int) (w : World) (hs : s.size ≤ maxLen) (hk : s.size < k) (hk2 : k ≤ 9223372036854775807) :
    Calls Tryd.prog 18 #[.string s, .int .i64 k] w fun e w' => e = .returned (.tuple #[.string ⟨#[]⟩, .int .i64 0, .int .i64 2]) ∧ w' = w := by
  go_enter Tryd.func18, Tryd.ntmps18
  go_wp2_with (go_at_call 16; refine (refInt_hi _ _ _ hs hk hk2).mono ?_; rintro e w' ⟨rfl, rfl⟩)
  go_ret3
  exact ⟨rfl, rfl⟩

set_option maxRecDepth 100000 in
set_option maxHeartbeats 1000000 in
theorem refString_any (s : ByteArray) (k : Nat) (w : World) (hs : s.size ≤ maxLen) (hk : k ≤ s.size) :
    Calls Tryd.prog 18 #[.string s, .int .i64 k] w fun e w' => e = .returned (strOut (strRes s k)) ∧ Below w.heap.size w w' := by
  cases hd : decInt (s.data.toList.drop k) with
  | none =>
    have hfin : Hid (strOut (strRes s k) = .tuple #[.string ⟨#[]⟩, .int .i64 0, .int .i64 10]) := Lib.hid (by unfold strRes; rw [hd]; rfl)
    have HD := Lib.hid hd
    clear hd
    go_enter Tryd.func18, Tryd.ntmps18
    go_wp2_with (go_at_call 16; refine (refInt_none _ _ _ hs hk HD.out).mono ?_; rintro e w' ⟨rfl, hB⟩)
    go_ret3
    exact ⟨by rw [hfin.out]; rfl, hB⟩
  | some p =>
    obtain ⟨n, m⟩ := p
    obtain ⟨hm, he, hml, hm1, hn1, hn2⟩ := decInt_sound hd
    have hml' : k + m ≤ s.size := by
      rw [List.length_drop] at hml
      have : s.data.toList.length = s.size := rfl
      omega
    clear hm he hml
    have HD := Lib.hid hd
    unfold maxLen at hs
    by_cases hbad : n < 0 ∨ 65536 < n ∨ (s.size : Int) - (k + m) < n
    · have hfin : Hid (strOut (strRes s k) = .tuple #[.string ⟨#[]⟩, .int .i64 0, .int .i64 10]) := Lib.hid (by unfold strRes; rw [hd]; simp only []; rw [if_pos hbad]; rfl)
      clear hd
      go_enter Tryd.func18, Tryd.ntmps18
      go_wp2_with (go_at_call 16; refine (refInt_some _ _ _ hs hk HD.out).mono ?_; rintro e w' ⟨rfl, hB⟩)
      all_goals
        go_ret3
        exact ⟨by rw [hfin.out]; rfl, hB⟩
    · have hfin : Hid (strOut (strRes s k) = .tuple #[.string (s.extract (k + m) (k + m + n.toNat)), .int .i64 ((k + m + n.toNat : Nat) : Int), .int .i64 0]) := Lib.hid (by unfold strRes; rw [hd]; simp only []; rw [if_neg hbad]; rfl)
      clear hd
      obtain ⟨q, rfl⟩ : ∃ q : Nat, n = (q : Int) := ⟨n.toNat, by omega⟩
      have h1 : (q : Int) ≤ 65536 := by omega
      have h2 : (k : Int) + m + q ≤ s.size := by omega
      clear hbad
      go_enter Tryd.func18, Tryd.ntmps18
      go_wp2_with (go_at_call 16; refine (refInt_some _ _ _ hs hk HD.out).mono ?_; rintro e w' ⟨rfl, hB⟩)
      go_ret3
      exact ⟨by rw [hfin.out]; rfl, hB⟩

set_option maxRecDepth 100000 in
set_option maxHeartbeats 1000000 in
theorem refSum_any (s : ByteArray) (w : World) (hs : s.size ≤ maxLen) :
    Calls Tryd.prog 22 #[.string s] w fun e w' => e = .returned (.int .i64 (sumOf s)) ∧ w' = w := by
  unfold maxLen at hs
  go_enter Tryd.func22, Tryd.ntmps22
  go_wp2
  go_loop [3, 4, 5, 6] (fun r i _ _ => ∃ (k z : Nat), k ≤ s.size ∧ i = .int .i64 k ∧ r = .int .u32 z ∧ z < 4294967296 ∧ Hid (z = cCrc 4294967295 ((nums s).take k))) (fun _ i _ _ => s.size - (intOf i).toNat)
  case atStart => exact ⟨0, 4294967295, by omega, rfl, rfl, by omega, Lib.hid rfl⟩
  case round =>
    obtain ⟨k, r, hk, rfl, rfl, hr, HR⟩ := hrel
    by_cases hlt : k < s.size
    · have hb := s[k].toNat_lt
      obtain ⟨b, Hb⟩ : ∃ b, Hid (s[k].toNat = b) := ⟨_, Lib.hid rfl⟩
      rw [Hb.out] at hb
      obtain ⟨x, HX⟩ : ∃ x, Hid (r ^^^ b = x) := ⟨_, Lib.hid rfl⟩
      have hx : x < 4294967296 := by rw [← HX.out]; exact Nat.xor_lt_two_pow (n := 32) hr (by omega)
      have e0 : ((s[k].toNat : Int) % 4294967296) = (b : Int) := by rw [Hb.out]; omega
      have e1 : bits .xor .u32 (r : Int) (b : Int) = (x : Int) := by rw [u32_xor_nat _ _ hr (by omega), HX.out]
      go_wp2
      clear e0 e1
      go_loop [3, 5, 6] (fun r' i' _ => ∃ (j z : Nat), j ≤ 8 ∧ i' = .int .i64 j ∧ r' = .int .u32 z ∧ z < 4294967296 ∧ Hid (z = cSs j x)) (fun _ i' _ => 8 - (intOf i').toNat)
      case atStart => exact ⟨0, x, by omega, rfl, rfl, hx, Lib.hid rfl⟩
      case round =>
        obtain ⟨j, z, hj, rfl, rfl, hz, HZ⟩ := hrel
        by_cases hj8 : j < 8
        · have hstep : Hid (cSs (j + 1) x = cS z) := Lib.hid (by rw [cSs_add, ← HZ.out]; rfl)
          by_cases hodd : z % 2 = 1
          · obtain ⟨y, HY⟩ : ∃ y, Hid (z / 2 ^^^ 2197175160 = y) := ⟨_, Lib.hid rfl⟩
            have hy : y < 4294967296 := by rw [← HY.out]; exact Nat.xor_lt_two_pow (n := 32) (by omega) (by decide)
            have e1 : bits .xor .u32 ((z : Int) / 2) 2197175160 = (y : Int) := by
              rw [show ((z : Int) / 2) = ((z / 2 : Nat) : Int) from by omega, ← HY.out]
              exact u32_xor_nat (z / 2) 2197175160 (by omega) (by decide)
            go_wp2
            refine ⟨⟨j + 1, y, by omega, by go_num, rfl, hy, Lib.hid ?_⟩, by simp [intOf]; omega⟩
            rw [hstep.out, ← HY.out]
            unfold cS
            rw [if_pos hodd]
          · go_wp2
            refine ⟨⟨j + 1, z / 2, by omega, by go_num, by simp, by omega, Lib.hid ?_⟩, by simp [intOf]; omega⟩
            rw [hstep.out]
            unfold cS
            rw [if_neg hodd, Nat.xor_zero]
        · obtain rfl : j = 8 := by omega
          go_wp2
          refine ⟨⟨k + 1, z, by omega, by go_num, rfl, hz, Lib.hid ?_⟩, by simp [intOf]; omega⟩
          rw [nums_take_succ s k hlt, cCrc_snoc, ← HR.out, Hb.out, HZ.out, ← HX.out]
          rfl
    · have HS : Hid ((sumOf s : Int) = wrap64 (bits .xor .u32 IntKind.u32.max (r : Int))) := Lib.hid (by
        have e : bits .xor .u32 IntKind.u32.max (r : Int) = ((4294967295 ^^^ r : Nat) : Int) := u32_xor_nat 4294967295 r (by decide) hr
        have hl : 4294967295 ^^^ r < 4294967296 := Nat.xor_lt_two_pow (n := 32) (by decide) hr
        rw [e, IntWalk.wrap64_in _ ⟨by omega, by omega⟩, HR.out, List.take_of_length_le (by rw [nums_len]; omega), Nat.xor_comm]
        rfl)
      go_wp2
      go_ret
      exact ⟨by rw [HS.out]; rfl, rfl⟩
end Go.Proofs.YtdbjnojalfkaaaaDoor
