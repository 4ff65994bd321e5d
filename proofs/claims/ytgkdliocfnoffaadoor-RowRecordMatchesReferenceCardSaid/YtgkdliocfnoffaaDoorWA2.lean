/- WALKS: wire.Int. -/
import Derived.Test.YtgkdliocfnoffaaDoorWA1
import Derived.Shelf.LaysM
import Derived.Shelf.Strconv.Clone
import Derived.Deep.QuietTactic
import Derived.BigQuiet
import Derived.Lib.Hide
import Derived.Lib.Strings
import Derived.Lib.IndexBytes
import Derived.Deep.LoopGhost
set_option linter.unusedVariables false
namespace Go.Proofs.YtgkdliocfnoffaaDoor
open Go.RowKit

set_option maxRecDepth 100000 in
set_option maxHeartbeats 400000 in
theorem int_lo (s : ByteArray) (k : Int) (w : World) (hs : s.size ≤ maxLen) (hk : k < 0) (hk2 : -9223372036854775808 ≤ k) :
    Calls Tryd.prog 60 #[.string s, .int .i64 k] w fun e w' => e = .returned (.tuple #[.int .i64 0, .int .i64 0, .int .i64 2]) ∧ w' = w := by
  unfold maxLen at hs
  go_enter Tryd.func60, Tryd.ntmps60
  go_wp2
  go_ret3
  exact ⟨rfl, rfl⟩
set_option maxRecDepth 100000 in
set_option maxHeartbeats 400000 in
theorem int_hi (s : ByteArray) (k : Int) (w : World) (hs : s.size ≤ maxLen) (hk : s.size < k) (hk2 : k ≤ 9223372036854775807) :
    Calls Tryd.prog 60 #[.string s, .int .i64 k] w fun e w' => e = .returned (.tuple #[.int .i64 0, .int .i64 0, .int .i64 2]) ∧ w' = w := by
  unfold maxLen at hs
  go_enter Tryd.func60, Tryd.ntmps60
  go_wp2
  go_ret3
  exact ⟨rfl, rfl⟩

theorem pow7 {j : Nat} (h : j < 9) : 2 ^ (7 * j) * 128 ≤ 2 ^ 63 := by
  have : 2 ^ (7 * j) * 2 ^ 7 = 2 ^ (7 * j + 7) := (Nat.pow_add 2 _ _).symm
  have h2 : 2 ^ (7 * j + 7) ≤ 2 ^ 63 := Nat.pow_le_pow_right (by omega) (by omega)
  omega
theorem group_lt {zz j b : Nat} (h : zz < 2 ^ (7 * j)) : zz + b % 128 * 2 ^ (7 * j) < 2 ^ (7 * (j + 1)) := by
  rw [pow_step]
  have h1 : b % 128 * 2 ^ (7 * j) ≤ 127 * 2 ^ (7 * j) := Nat.mul_le_mul_right _ (by omega)
  omega
theorem group_lt63 {zz j b : Nat} (h : zz < 2 ^ (7 * j)) (hj : j < 9) : zz + b % 128 * 2 ^ (7 * j) < 9223372036854775808 := by
  have h1 := group_lt (b := b) h
  have h2 := pow7 hj
  rw [pow_step] at h1
  have : (2 : Nat) ^ 63 = 9223372036854775808 := by decide
  omega
theorem and_group {b : Nat} (hb : b < 256) : bits .and .u8 (b : Int) 127 = ((b % 128 : Nat) : Int) := by
  have := u8_and_nat b 127 hb (by decide)
  rw [show ((127 : Nat) : Int) = 127 from rfl] at this
  rw [this, show (127 : Nat) = 2 ^ 7 - 1 from rfl, Nat.and_two_pow_sub_one_eq_mod]
theorem or_group {zz j b : Nat} (h : zz < 2 ^ (7 * j)) (hj : j < 9) (hb : b < 256) :
    bits .or .u64 (zz : Int) (IntKind.u64.wrap (IntKind.u64.wrap (bits .and .u8 (b : Int) 127) * 2 ^ (7 * j))) = ((zz + b % 128 * 2 ^ (7 * j) : Nat) : Int) := by
  have h1 := group_lt63 (b := b) h hj
  have e1 : IntKind.u64.wrap (bits .and .u8 (b : Int) 127) = ((b % 128 : Nat) : Int) := by
    rw [and_group hb, IntKind.wrap_u64]; omega
  have e2 : ((b % 128 : Nat) : Int) * 2 ^ (7 * j) = ((b % 128 * 2 ^ (7 * j) : Nat) : Int) := by push_cast; rfl
  have e3 : IntKind.u64.wrap ((b % 128 * 2 ^ (7 * j) : Nat) : Int) = ((b % 128 * 2 ^ (7 * j) : Nat) : Int) := by
    rw [IntKind.wrap_u64]; omega
  rw [e1, e2, e3, bits_or_u64_nat _ _ (by omega) (by omega)]
  congr 1
  rw [Nat.or_comm, Nat.mul_comm, ← Nat.two_pow_add_eq_or_of_lt h]
  omega

/-- What Int hands back, by what the decoder gives at its offset. -/
def intOut (o : Option (Nat × Nat)) (k : Nat) : Value :=
  match o with
  | none => .tuple #[.int .i64 0, .int .i64 0, .int .i64 10]
  | some (z, m) => .tuple #[.int .i64 (zag z), .int .i64 ((k + m : Nat) : Int), .int .i64 0]

theorem dec_round_more {f j zz : Nat} {L : List UInt8} {b : UInt8} (hb : L[j]? = some b) (h : 128 ≤ b.toNat) (hf : 0 < f) :
    dec f (L.drop j) j zz = dec (f - 1) (L.drop (j + 1)) (j + 1) (zz + b.toNat % 128 * 2 ^ (7 * j)) := by
  obtain ⟨hj, rfl⟩ := List.getElem?_eq_some_iff.1 hb
  obtain ⟨f, rfl⟩ : ∃ g, f = g + 1 := ⟨f - 1, by omega⟩
  rw [List.drop_eq_getElem_cons hj]
  simp only [dec]
  rw [if_pos h]
  rfl
theorem dec_round_bad {f j zz : Nat} {L : List UInt8} {b : UInt8} (hb : L[j]? = some b) (h : b.toNat < 128) (hf : 0 < f)
    (hc : (b.toNat = 0 ∧ 0 < j) ∨ 9223372036854775806 < zz + b.toNat % 128 * 2 ^ (7 * j)) : dec f (L.drop j) j zz = none := by
  obtain ⟨hj, rfl⟩ := List.getElem?_eq_some_iff.1 hb
  obtain ⟨f, rfl⟩ : ∃ g, f = g + 1 := ⟨f - 1, by omega⟩
  rw [List.drop_eq_getElem_cons hj]
  simp only [dec]
  rw [if_neg (by omega), if_pos hc]
theorem dec_round_good {f j zz : Nat} {L : List UInt8} {b : UInt8} (hb : L[j]? = some b) (h : b.toNat < 128) (hf : 0 < f)
    (hc : ¬ ((b.toNat = 0 ∧ 0 < j) ∨ 9223372036854775806 < zz + b.toNat % 128 * 2 ^ (7 * j))) : dec f (L.drop j) j zz = some (zz + b.toNat % 128 * 2 ^ (7 * j), j + 1) := by
  obtain ⟨hj, rfl⟩ := List.getElem?_eq_some_iff.1 hb
  obtain ⟨f, rfl⟩ : ∃ g, f = g + 1 := ⟨f - 1, by omega⟩
  rw [List.drop_eq_getElem_cons hj]
  simp only [dec]
  rw [if_neg (by omega), if_neg hc]
theorem dec_round_end {f j zz : Nat} {L : List UInt8} (h : L.length ≤ j ∨ f = 0) : dec f (L.drop j) j zz = none := by
  cases f with
  | zero => rfl
  | succ f => rw [List.drop_eq_nil_of_le (by omega)]; rfl

set_option maxRecDepth 100000 in
set_option maxHeartbeats 400000 in
theorem int_any (s : ByteArray) (k : Nat) (w : World) (hs : s.size ≤ maxLen) (hk : k ≤ s.size) :
    Calls Tryd.prog 60 #[.string s, .int .i64 k] w fun e w' => e = .returned (intOut (dec 9 (s.data.toList.drop k) 0 0) k) ∧ w' = w := by
  unfold maxLen at hs
  have hd1 : decide ((k : Int) < 0) = false := by simp
  have hd2 : decide (s.size < k) = false := by simp; omega
  go_enter Tryd.func60, Tryd.ntmps60
  go_wp2
  clear hd1 hd2
  obtain ⟨t, Ht⟩ : ∃ t, Hid (s.extract k s.size = t) := ⟨_, Lib.hid rfl⟩
  rw [Ht.out]
  obtain ⟨n, Hn⟩ : ∃ n, Hid (s.size - k = n) := ⟨_, Lib.hid rfl⟩
  rw [Hn.out]
  have htn : Hid (t.size = n) := Lib.hid (by rw [← Ht.out, ← Hn.out]; simp)
  have htl : Hid (s.data.toList.drop k = t.data.toList) := Lib.hid (by rw [← Ht.out, Lib.extract_to_end])
  have htt : Hid (t.data.toList.length = n) := Lib.hid (by rw [← htn.out]; rfl)
  have hn : n ≤ 9223372036854775807 := by rw [← Hn.out]; omega
  have hkn : k + n ≤ 9223372036854775807 := by rw [← Hn.out]; omega
  go_loop [8, 26, 9, 10, 11] (fun z i _ _ _ => ∃ (j zz : Nat), j ≤ 9 ∧ j ≤ n ∧ i = .int .i64 j ∧ z = .int .u64 zz ∧ zz < 2 ^ (7 * j) ∧ Hid (dec 9 t.data.toList 0 0 = dec (9 - j) (t.data.toList.drop j) j zz)) (fun _ i _ _ _ => 9 - (intOf i).toNat)
  case atStart => exact ⟨0, 0, by omega, by omega, rfl, rfl, by simp, Lib.hid rfl⟩
  case round =>
    obtain ⟨j, zz, hj9, hjn, rfl, rfl, hzz, HD⟩ := hrel
    by_cases hlt : j < n ∧ j < 9
    · obtain ⟨hlt, hlt9⟩ := hlt
      have htj : j < t.size := by rw [htn.out]; exact hlt
      have HB : Hid (t.data.toList[j]? = some t[j]) := Lib.hid (by rw [List.getElem?_eq_getElem (by rw [htt.out]; exact hlt)]; rfl)
      have hbl := t[j].toNat_lt
      have HE := Lib.hid (or_group (b := t[j].toNat) hzz hlt9 hbl)
      have hG := group_lt (b := t[j].toNat) hzz
      have hG63 := group_lt63 (b := t[j].toNat) hzz hlt9
      by_cases hb : 128 ≤ t[j].toNat
      · go_wp2
        refine ⟨⟨j + 1, zz + t[j].toNat % 128 * 2 ^ (7 * j), by omega, by omega, by go_num, by rw [HE.out], hG, Lib.hid ?_⟩, by simp [intOf]; omega⟩
        rw [HD.out, dec_round_more HB.out hb (by omega)]
        rfl
      · have hE := HE.out
        clear HE
        obtain ⟨y, Hy⟩ : ∃ y, Hid (zz + t[j].toNat % 128 * 2 ^ (7 * j) = y) := ⟨_, Lib.hid rfl⟩
        rw [Hy.out] at hE hG hG63
        by_cases hc : (t[j].toNat = 0 ∧ 0 < j) ∨ 9223372036854775806 < y
        · have hfin : Hid (intOut (dec 9 (s.data.toList.drop k) 0 0) k = .tuple #[.int .i64 0, .int .i64 0, .int .i64 10]) := Lib.hid (by
            rw [htl.out, HD.out, dec_round_bad HB.out (by omega) (by omega) (by rw [Hy.out]; exact hc)]; rfl)
          go_wp2
          all_goals
            go_ret3
            exact ⟨by rw [hfin.out]; rfl, rfl⟩
        · have hfin : Hid (intOut (dec 9 (s.data.toList.drop k) 0 0) k = .tuple #[.int .i64 (zag y), .int .i64 ((k + (j + 1) : Nat) : Int), .int .i64 0]) := Lib.hid (by
            rw [htl.out, HD.out, dec_round_good HB.out (by omega) (by omega) (by rw [Hy.out]; exact hc), Hy.out]; rfl)
          have hy : y ≤ 9223372036854775806 := by omega
          go_wp2_with (go_at_call 70; refine (signed_any _ _ (by omega) (by omega)).mono ?_; rintro e w' ⟨rfl, rfl⟩)
          · go_ret3
            have e : j = 0 := by assumption
            have hfin2 := hfin.out
            rw [show ((k + (j + 1) : Nat) : Int) = (k : Int) + 1 from by omega] at hfin2
            exact ⟨by rw [hfin2]; rfl, rfl⟩
          · go_ret3
            exact ⟨by rw [hfin.out]; push_cast; rfl, rfl⟩
    · go_wp2
      go_ret3
      refine ⟨?_, rfl⟩
      rw [htl.out, HD.out, dec_round_end (by rw [htt.out]; omega)]
      rfl
end Go.Proofs.YtgkdliocfnoffaaDoor
