/- WALKS: the reference's Int. -/
import Derived.Test.YtgkdliocfnoffaaDoorWD1
set_option linter.unusedVariables false
namespace Go.Proofs.YtgkdliocfnoffaaDoor
open Go.RowKit

theorem ref_good {L : List UInt8} {y j : Nat} (h : dec 9 L 0 0 = some (y, j + 1)) : leb 9 y = L.take (j + 1) ∧ y ≤ 9223372036854775806 := by
  obtain ⟨x, e1, e2, e3, _, _, _, e7⟩ := dec_sound 9 L 0 0 y (j + 1) h
  simp at e1 e2
  subst e1
  exact ⟨by rw [e2]; exact e3, e7⟩
theorem ref_bad {L : List UInt8} {y j : Nat} (h : dec 9 L 0 0 = none) (hy : y ≤ 9223372036854775806) : leb 9 y ≠ L.take (j + 1) := by
  intro e
  have h9 : (128 : Nat) ^ 9 = 9223372036854775808 := by decide
  have := dec_leb 9 y 0 0 (L.drop (j + 1)) (by omega) (by omega) (.inr rfl) (by simp; omega)
  rw [e, List.take_append_drop, h] at this
  simp at this
theorem add_group {zz j b : Nat} (h : zz + b % 128 * 2 ^ (7 * j) < 9223372036854775808) :
    IntKind.u64.wrap ((zz : Int) + IntKind.u64.wrap ((b : Int) % 128 * 2 ^ (7 * j))) = ((zz + b % 128 * 2 ^ (7 * j) : Nat) : Int) := by
  have e2 : (b : Int) % 128 * 2 ^ (7 * j) = ((b % 128 * 2 ^ (7 * j) : Nat) : Int) := by push_cast; rfl
  rw [e2, IntKind.wrap_u64, IntKind.wrap_u64]
  generalize b % 128 * 2 ^ (7 * j) = m at *
  omega
theorem enc_zag {y : Nat} (hy : y ≤ 9223372036854775806) : encInt (zag y) = leb 9 y := by
  unfold encInt
  rw [zig_zag _ (by omega)]
  simp

set_option maxRecDepth 100000 in
set_option maxHeartbeats 400000 in
theorem refInt_lo (s : ByteArray) (k : Int) (w : World) (hs : s.size ≤ maxLen) (hk : k < 0) (hk2 : -9223372036854775808 ≤ k) :
    Calls Tryd.prog 61 #[.string s, .int .i64 k] w fun e w' => e = .returned (.tuple #[.int .i64 0, .int .i64 0, .int .i64 2]) ∧ w' = w := by
  unfold maxLen at hs
  go_enter Tryd.func61, Tryd.ntmps61
  go_wp2
  go_ret3
  exact ⟨rfl, rfl⟩
set_option maxRecDepth 100000 in
set_option maxHeartbeats 400000 in
theorem refInt_hi (s : ByteArray) (k : Int) (w : World) (hs : s.size ≤ maxLen) (hk : s.size < k) (hk2 : k ≤ 9223372036854775807) :
    Calls Tryd.prog 61 #[.string s, .int .i64 k] w fun e w' => e = .returned (.tuple #[.int .i64 0, .int .i64 0, .int .i64 2]) ∧ w' = w := by
  unfold maxLen at hs
  go_enter Tryd.func61, Tryd.ntmps61
  go_wp2
  go_ret3
  exact ⟨rfl, rfl⟩

set_option maxRecDepth 100000 in
set_option maxHeartbeats 1000000 in
theorem refInt_any (s : ByteArray) (k : Nat) (w : World) (hs : s.size ≤ maxLen) (hk : k ≤ s.size) :
    Calls Tryd.prog 61 #[.string s, .int .i64 k] w fun e w' => e = .returned (intOut (dec 9 (s.data.toList.drop k) 0 0) k) ∧ Below w.heap.size w w' := by
  unfold maxLen at hs
  have hd1 : decide ((k : Int) < 0) = false := by simp
  have hd2 : decide (s.size < k) = false := by simp; omega
  go_enter Tryd.func61, Tryd.ntmps61
  go_wp2
  clear hd1 hd2
  obtain ⟨L, HL⟩ : ∃ L, Hid (s.data.toList.drop k = L) := ⟨_, Lib.hid rfl⟩
  have HLl : Hid (L.length = s.size - k) := Lib.hid (by rw [← HL.out, List.length_drop]; rfl)
  go_loop [7, 8, 9, 10, 11, 12] (fun z i _ _ _ _ => ∃ (j zz : Nat), j ≤ 9 ∧ k + j ≤ s.size ∧ i = .int .i64 j ∧ z = .int .u64 zz ∧ zz < 2 ^ (7 * j) ∧ Hid (dec 9 L 0 0 = dec (9 - j) (L.drop j) j zz)) (fun _ i _ _ _ _ => 9 - (intOf i).toNat)
  case atStart => exact ⟨0, 0, by omega, by omega, rfl, rfl, by simp, Lib.hid rfl⟩
  case round =>
    obtain ⟨j, zz, hj9, hjn, rfl, rfl, hzz, HD⟩ := hrel
    by_cases hlt : k + j < s.size ∧ j < 9
    · obtain ⟨hlt, hlt9⟩ := hlt
      have HB : Hid (L[j]? = some s[k + j]) := Lib.hid (by rw [← HL.out, List.getElem?_drop, List.getElem?_eq_getElem (by show k + j < s.size; omega)]; rfl)
      have hbl := s[k + j].toNat_lt
      have hG := group_lt (b := s[k + j].toNat) hzz
      have hG63 := group_lt63 (b := s[k + j].toNat) hzz hlt9
      by_cases hb : 128 ≤ s[k + j].toNat
      · have HE := Lib.hid (add_group (b := s[k + j].toNat) hG63)
        go_wp2
        refine ⟨⟨j + 1, zz + s[k + j].toNat % 128 * 2 ^ (7 * j), by omega, by omega, by go_num, by rw [HE.out], hG, Lib.hid ?_⟩, by simp [intOf]; omega⟩
        rw [HD.out, dec_round_more HB.out hb (by omega)]
        rfl
      · have hE := add_group (b := s[k + j].toNat) hG63
        obtain ⟨y, Hy⟩ : ∃ y, Hid (zz + s[k + j].toNat % 128 * 2 ^ (7 * j) = y) := ⟨_, Lib.hid rfl⟩
        rw [Hy.out] at hE hG hG63
        obtain ⟨X, HX⟩ : ∃ X, Hid (s.extract k (k + j + 1) = X) := ⟨_, Lib.hid rfl⟩
        have HXl : Hid (X.data.toList = L.take (j + 1)) := Lib.hid (by rw [← HX.out, extract_list, HL.out, show k + j + 1 - k = j + 1 by omega])
        by_cases hbig : 9223372036854775806 < y
        · have hfin : Hid (intOut (dec 9 (s.data.toList.drop k) 0 0) k = .tuple #[.int .i64 0, .int .i64 0, .int .i64 10]) := Lib.hid (by
            rw [HL.out, HD.out, dec_round_bad HB.out (by omega) (by omega) (by rw [Hy.out]; exact .inr hbig)]; rfl)
          go_wp2_with (go_at_call 57; refine (refPutInt_bad _ _ (by omega) (by omega) (by omega)).mono ?_; rintro e w' ⟨rfl, rfl⟩)
          go_ret3
          exact ⟨by rw [hfin.out]; rfl, Below.refl _ _⟩
        · have hzl := zag_lo y (by omega) (by omega)
          by_cases hc : s[k + j].toNat = 0 ∧ 0 < j
          · have hno : dec 9 L 0 0 = none := by
              rw [HD.out, dec_round_bad HB.out (by omega) (by omega) (.inl hc)]
            have hfin : Hid (intOut (dec 9 (s.data.toList.drop k) 0 0) k = .tuple #[.int .i64 0, .int .i64 0, .int .i64 10]) := Lib.hid (by rw [HL.out, hno]; rfl)
            have hX : encI (zag y) ≠ X := fun e => ref_bad (y := y) (j := j) hno (by omega) (by rw [← enc_zag (y := y) (by omega), ← encI_list, e, HXl.out])
            clear hno hc
            by_cases hodd : (y : Int) % 2 = 1
            · have hz : zag y = -((y : Int) / 2) - 1 := by unfold zag; rw [if_pos hodd]
              rw [hz] at hX hzl
              clear hz
              have e1 := str_ne hX
              rw [← HX.out] at e1
              clear hX
              go_wp2_with (go_at_call 57; refine (refPutInt_ok _ _ (by omega) (by omega)).mono ?_; rintro e w' ⟨rfl, hB⟩)
              go_ret3
              exact ⟨by rw [hfin.out]; rfl, hB⟩
            · have hz : zag y = (y : Int) / 2 := by unfold zag; rw [if_neg hodd]
              rw [hz] at hX hzl
              clear hz
              have e1 := str_ne hX
              rw [← HX.out] at e1
              clear hX
              go_wp2_with (go_at_call 57; refine (refPutInt_ok _ _ (by omega) (by omega)).mono ?_; rintro e w' ⟨rfl, hB⟩)
              go_ret3
              exact ⟨by rw [hfin.out]; rfl, hB⟩
          · have hyes : dec 9 L 0 0 = some (y, j + 1) := by
              rw [HD.out, dec_round_good HB.out (by omega) (by omega) (by rw [Hy.out]; exact fun h => h.elim hc hbig), Hy.out]
            have hfin : Hid (intOut (dec 9 (s.data.toList.drop k) 0 0) k = .tuple #[.int .i64 (zag y), .int .i64 ((k : Int) + (j : Int) + 1), .int .i64 0]) := Lib.hid (by
              rw [HL.out, hyes]
              simp only [intOut]
              rw [show ((k + (j + 1) : Nat) : Int) = (k : Int) + (j : Int) + 1 by omega])
            have hX : encI (zag y) = X := ext_list (by rw [encI_list, enc_zag (y := y) (by omega), HXl.out]; exact (ref_good hyes).1)
            clear hyes hc
            by_cases hodd : (y : Int) % 2 = 1
            · have hz : zag y = -((y : Int) / 2) - 1 := by unfold zag; rw [if_pos hodd]
              rw [hz] at hX hzl hfin
              clear hz
              have e1 := str_eq hX
              rw [← HX.out] at e1
              clear hX
              go_wp2_with (go_at_call 57; refine (refPutInt_ok _ _ (by omega) (by omega)).mono ?_; rintro e w' ⟨rfl, hB⟩)
              go_ret3
              exact ⟨by rw [hfin.out]; push_cast; rfl, hB⟩
            · have hz : zag y = (y : Int) / 2 := by unfold zag; rw [if_neg hodd]
              rw [hz] at hX hzl hfin
              clear hz
              have e1 := str_eq hX
              rw [← HX.out] at e1
              clear hX
              go_wp2_with (go_at_call 57; refine (refPutInt_ok _ _ (by omega) (by omega)).mono ?_; rintro e w' ⟨rfl, hB⟩)
              go_ret3
              exact ⟨by rw [hfin.out]; push_cast; rfl, hB⟩
    · go_wp2
      all_goals
        go_ret3
        refine ⟨?_, Below.refl _ _⟩
        rw [HL.out, HD.out, dec_round_end (by rw [HLl.out]; omega)]
        rfl
end Go.Proofs.YtgkdliocfnoffaaDoor
