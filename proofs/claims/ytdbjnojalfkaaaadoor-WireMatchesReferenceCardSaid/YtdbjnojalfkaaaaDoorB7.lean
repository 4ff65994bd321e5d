/- THE WALK OF WireMatchesReference. -/
import Derived.Test.YtdbjnojalfkaaaaDoorD3
import Derived.RegionTactic
import Derived.ChangeAlike
import Derived.BigRegion
import Derived.WalkSmall
import Derived.StillTailTactics
import Derived.Deep.RegionHeld3
import Derived.Deep.RegionWith
set_option linter.unusedVariables false
namespace Go.Proofs.YtdbjnojalfkaaaaDoor
open Go.RowKit

theorem putInt_both (v : Int) (h1 : -9223372036854775808 ≤ v) (h2 : v ≤ 9223372036854775807) : ∃ (T : ByteArray) (E : Int),
    (∀ w, Calls Tryd.prog 12 #[.int .i64 v] w fun e w' => e = .returned (.tuple #[.string T, .int .i64 E]) ∧ Below w.heap.size w w') ∧
    (∀ w, Calls Tryd.prog 13 #[.int .i64 v] w fun e w' => e = .returned (.tuple #[.string T, .int .i64 E]) ∧ Below w.heap.size w w') := by
  by_cases h : v < -4611686018427387903 ∨ 4611686018427387903 < v
  · exact ⟨⟨#[]⟩, 10, fun w => (putInt_bad v w h h1 h2).mono fun e w' hw => ⟨hw.1, by rw [hw.2]; exact Below.refl _ _⟩, fun w => (refPutInt_bad v w h h1 h2).mono fun e w' hw => ⟨hw.1, by rw [hw.2]; exact Below.refl _ _⟩⟩
  · exact ⟨encI v, 0, fun w => putInt_enc v w (by omega) (by omega), fun w => refPutInt_ok v w (by omega) (by omega)⟩

theorem int_both (s : ByteArray) (hs : s.size ≤ maxLen) (k : Int) (h1 : -9223372036854775808 ≤ k) (h2 : k ≤ 9223372036854775807) : ∃ (N M E : Int),
    (∀ w, Calls Tryd.prog 15 #[.string s, .int .i64 k] w fun e w' => e = .returned (.tuple #[.int .i64 N, .int .i64 M, .int .i64 E]) ∧ w' = w) ∧
    (∀ w, Calls Tryd.prog 16 #[.string s, .int .i64 k] w fun e w' => e = .returned (.tuple #[.int .i64 N, .int .i64 M, .int .i64 E]) ∧ Below w.heap.size w w') := by
  by_cases hlo : k < 0
  · exact ⟨0, 0, 2, fun w => int_lo s k w hs hlo h1, fun w => (refInt_lo s k w hs hlo h1).mono fun e w' hw => ⟨hw.1, by rw [hw.2]; exact Below.refl _ _⟩⟩
  · by_cases hhi : (s.size : Int) < k
    · exact ⟨0, 0, 2, fun w => int_hi s k w hs hhi h2, fun w => (refInt_hi s k w hs hhi h2).mono fun e w' hw => ⟨hw.1, by rw [hw.2]; exact Below.refl _ _⟩⟩
    · obtain ⟨q, rfl⟩ : ∃ q : Nat, k = (q : Int) := ⟨k.toNat, by omega⟩
      have hq : q ≤ s.size := by omega
      cases hd : decInt (s.data.toList.drop q) with
      | none => exact ⟨0, 0, 10, fun w => int_none s q w hs hq hd, fun w => refInt_none s q w hs hq hd⟩
      | some p => exact ⟨p.1, ((q + p.2 : Nat) : Int), 0, fun w => int_some s q w hs hq hd, fun w => refInt_some s q w hs hq hd⟩

theorem string_both (s : ByteArray) (hs : s.size ≤ maxLen) (k : Int) (h1 : -9223372036854775808 ≤ k) (h2 : k ≤ 9223372036854775807) : ∃ (T : ByteArray) (M E : Int),
    (∀ w, Calls Tryd.prog 17 #[.string s, .int .i64 k] w fun e w' => e = .returned (.tuple #[.string T, .int .i64 M, .int .i64 E]) ∧ Below w.heap.size w w') ∧
    (∀ w, Calls Tryd.prog 18 #[.string s, .int .i64 k] w fun e w' => e = .returned (.tuple #[.string T, .int .i64 M, .int .i64 E]) ∧ Below w.heap.size w w') := by
  by_cases hlo : k < 0
  · exact ⟨⟨#[]⟩, 0, 2, fun w => (string_lo s k w hs hlo h1).mono fun e w' hw => ⟨hw.1, by rw [hw.2]; exact Below.refl _ _⟩, fun w => (refString_lo s k w hs hlo h1).mono fun e w' hw => ⟨hw.1, by rw [hw.2]; exact Below.refl _ _⟩⟩
  · by_cases hhi : (s.size : Int) < k
    · exact ⟨⟨#[]⟩, 0, 2, fun w => (string_hi s k w hs hhi h2).mono fun e w' hw => ⟨hw.1, by rw [hw.2]; exact Below.refl _ _⟩, fun w => (refString_hi s k w hs hhi h2).mono fun e w' hw => ⟨hw.1, by rw [hw.2]; exact Below.refl _ _⟩⟩
    · obtain ⟨q, rfl⟩ : ∃ q : Nat, k = (q : Int) := ⟨k.toNat, by omega⟩
      have hq : q ≤ s.size := by omega
      have a := string_any s q
      have b := refString_any s q
      cases hd : strRes s q with
      | none => rw [hd] at a b; exact ⟨⟨#[]⟩, 0, 10, fun w => a w hs hq, fun w => b w hs hq⟩
      | some p => rw [hd] at a b; exact ⟨p.1, (p.2 : Int), 0, fun w => a w hs hq, fun w => b w hs hq⟩

set_option maxRecDepth 100000 in
set_option maxHeartbeats 1000000 in
theorem matches_walk (n : Int) (s : ByteArray) (at' : Int) (w : World) (hn1 : -9223372036854775808 ≤ n) (hn2 : n ≤ 9223372036854775807) (hs : s.size ≤ maxLen)
    (h1 : -9223372036854775808 ≤ at') (h2 : at' ≤ 9223372036854775807) (hN : Nib w) :
    Calls Tryd.prog 3 #[.int .i64 n, .string s, .int .i64 at'] w fun e W' => e = .returned (.bool true) ∧ Below w.heap.size w W' := by
  unfold maxLen at hs
  have HN := Lib.hid hN
  clear hN
  go_enter Tryd.func3, Tryd.ntmps3
  go_wp2_with fail
  refine (sane_any _ HN.out).mono ?_
  rintro e w1 ⟨rfl, hb1⟩
  have hts := cut_size s 300
  rw [show ((300 : Nat) : Int) = 300 from rfl] at hts
  go_wp2_with fail
  obtain ⟨t, Ht⟩ : ∃ t, Hid (s.extract 0 (min (s.size : Int) 300).toNat = t) := ⟨_, Lib.hid rfl⟩
  rw [Ht.out] at hts
  rw [Ht.out]
  have ht63 : t.size ≤ maxLen := by unfold maxLen; omega
  refine (nf_any n _ hn1 hn2).mono ?_
  rintro e w2 ⟨rfl, hb2⟩
  have hnf := nf_range n
  obtain ⟨m, Hm⟩ : ∃ m, Hid (nf n = m) := ⟨_, Lib.hid rfl⟩
  rw [Hm.out] at hnf ⊢
  go_wp2_with fail
  have hB2 : Below w.heap.size w (w2.alloc (.cells #[.int .i64 n, .int .i64 m] 3)) := bt (bt hb1 hb2) (ba w2 _)
  have hc0 : (w2.alloc (.cells #[.int .i64 n, .int .i64 m] 3)).cell? ⟨w2.heap.size, 0, none⟩ = some (.int .i64 n) := by simp
  have hc1 : (w2.alloc (.cells #[.int .i64 n, .int .i64 m] 3)).cell? ⟨w2.heap.size, 1, none⟩ = some (.int .i64 m) := by simp
  have hBl : w2.heap.size < (w2.alloc (.cells #[.int .i64 n, .int .i64 m] 3)).heap.size := by simp
  generalize w2.alloc (.cells #[.int .i64 n, .int .i64 m] 3) = W0 at hB2 hc0 hc1 hBl ⊢
  obtain ⟨B, HBe⟩ : ∃ B, Hid (w2.heap.size = B) := ⟨_, Lib.hid rfl⟩
  rw [HBe.out] at hc0 hc1 hBl ⊢
  have HC0 := Lib.hid hc0
  have HC1 := Lib.hid hc1
  clear hc0 hc1
  go_loopw [44] (fun i wr => ∃ j : Nat, j ≤ 2 ∧ i = .int .i64 j ∧ Below W0.heap.size W0 wr) (fun i _ => 2 - (intOf i).toNat)
  case atStart => exact ⟨0, by omega, rfl, Below.refl _ _⟩
  case round =>
    obtain ⟨i, hi, rfl, hW⟩ := hrel
    by_cases hlt : i < 2
    · obtain ⟨K, hK1, hK2, hcK⟩ : ∃ K : Int, -9223372036854775808 ≤ K ∧ K ≤ 9223372036854775807 ∧ wr.cell? ⟨B, i, none⟩ = some (.int .i64 K) := by
        rcases Nat.lt_or_ge i 1 with h | h
        · obtain rfl : i = 0 := by omega
          exact ⟨n, by omega, by omega, (hW.cell (p := ⟨B, 0, none⟩) hBl).trans HC0.out⟩
        · obtain rfl : i = 1 := by omega
          exact ⟨m, by omega, by omega, (hW.cell (p := ⟨B, 1, none⟩) hBl).trans HC1.out⟩
      obtain ⟨T, E, hP, hQ⟩ := putInt_both K hK1 hK2
      have HP := Lib.hid hP
      have HQ := Lib.hid hQ
      clear hP hQ
      go_wp2_with fail
      clear hcK
      refine (HP.out _).mono ?_
      rintro e w4 ⟨rfl, hb4⟩
      go_wp2_with fail
      refine (HQ.out _).mono ?_
      rintro e w5 ⟨rfl, hb5⟩
      go_wp2_with fail
      exact ⟨⟨i + 1, by omega, by go_num, bt (bt hW hb4) hb5⟩, by simp [intOf]; omega⟩
    · have hBW := bt hB2 hW
      have HN1 := Lib.hid (HN.out.below hBW)
      clear hW hB2 HC0 HC1 hBl
      go_wp2_with fail
      have hk := pk_range (c := at') (n := (t.size : Int) + 2) (by omega)
      refine (pick_any at' ((t.size : Int) + 2) _ h1 h2 (by omega) (by omega)).mono ?_
      rintro e w3 ⟨rfl, rfl⟩
      obtain ⟨p, Hp⟩ : ∃ p, Hid (pk at' ((t.size : Int) + 2) = p) := ⟨_, Lib.hid rfl⟩
      rw [Hp.out] at hk ⊢
      go_wp2_with fail
      have hB3 : Below w.heap.size w (w3.alloc (.cells #[.int .i64 at', .int .i64 p] 3)) := bt hBW (ba w3 _)
      have hd0 : (w3.alloc (.cells #[.int .i64 at', .int .i64 p] 3)).cell? ⟨w3.heap.size, 0, none⟩ = some (.int .i64 at') := by simp
      have hd1 : (w3.alloc (.cells #[.int .i64 at', .int .i64 p] 3)).cell? ⟨w3.heap.size, 1, none⟩ = some (.int .i64 p) := by simp
      have hCl : w3.heap.size < (w3.alloc (.cells #[.int .i64 at', .int .i64 p] 3)).heap.size := by simp
      generalize w3.alloc (.cells #[.int .i64 at', .int .i64 p] 3) = W1 at hB3 hd0 hd1 hCl ⊢
      obtain ⟨C, HCe⟩ : ∃ C, Hid (w3.heap.size = C) := ⟨_, Lib.hid rfl⟩
      rw [HCe.out] at hd0 hd1 hCl ⊢
      have HD0 := Lib.hid hd0
      have HD1 := Lib.hid hd1
      clear hd0 hd1
      go_loopw [75] (fun i wr => ∃ j : Nat, j ≤ 2 ∧ i = .int .i64 j ∧ Below W1.heap.size W1 wr) (fun i _ => 2 - (intOf i).toNat)
      case atStart => exact ⟨0, by omega, rfl, Below.refl _ _⟩
      case round =>
        obtain ⟨i, hi, rfl, hW⟩ := hrel
        by_cases hlt : i < 2
        · obtain ⟨K, hK1, hK2, hcK⟩ : ∃ K : Int, -9223372036854775808 ≤ K ∧ K ≤ 9223372036854775807 ∧ wr.cell? ⟨C, i, none⟩ = some (.int .i64 K) := by
            rcases Nat.lt_or_ge i 1 with h | h
            · obtain rfl : i = 0 := by omega
              exact ⟨at', by omega, by omega, (hW.cell (p := ⟨C, 0, none⟩) hCl).trans HD0.out⟩
            · obtain rfl : i = 1 := by omega
              exact ⟨p, by omega, by omega, (hW.cell (p := ⟨C, 1, none⟩) hCl).trans HD1.out⟩
          obtain ⟨N, M, E, hP, hQ⟩ := int_both t ht63 K hK1 hK2
          obtain ⟨T, M', E', hR, hS⟩ := string_both t ht63 K hK1 hK2
          have HP := Lib.hid hP
          have HQ := Lib.hid hQ
          have HR := Lib.hid hR
          have HS := Lib.hid hS
          clear hP hQ hR hS
          go_wp2_with fail
          clear hcK
          refine (HP.out _).mono ?_
          rintro e w4 ⟨rfl, rfl⟩
          go_wp2_with fail
          refine (HQ.out _).mono ?_
          rintro e w5 ⟨rfl, hb5⟩
          go_wp2_with fail
          refine (HR.out _).mono ?_
          rintro e w6 ⟨rfl, hb6⟩
          go_wp2_with fail
          refine (HS.out _).mono ?_
          rintro e w7 ⟨rfl, hb7⟩
          go_wp2_with fail
          exact ⟨⟨i + 1, by omega, by go_num, bt (bt (bt hW hb5) hb6) hb7⟩, by simp [intOf]; omega⟩
        · have hBW1 := bt hB3 hW
          have HN2 := Lib.hid (HN.out.below hBW1)
          clear hW hB3 HD0 HD1 hCl
          go_wp2_with fail
          refine (putString_enc t _ (by omega)).mono ?_
          rintro e w8 ⟨rfl, hb8⟩
          go_wp2_with fail
          refine (refPutString_enc t _ (by omega)).mono ?_
          rintro e w9 ⟨rfl, hb9⟩
          have HN3 := Lib.hid (HN2.out.below (bt hb8 hb9))
          go_wp2_with fail
          refine (sum_any t _ ht63 HN3.out).mono ?_
          rintro e w10 ⟨rfl, rfl⟩
          go_wp2_with fail
          refine (refSum_any t _ ht63).mono ?_
          rintro e w11 ⟨rfl, rfl⟩
          go_wp2_with fail
          go_ret
          exact ⟨rfl, bt (bt hBW1 hb8) hb9⟩
end Go.Proofs.YtdbjnojalfkaaaaDoor
