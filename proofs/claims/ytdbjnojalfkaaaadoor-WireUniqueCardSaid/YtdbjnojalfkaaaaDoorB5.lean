/- THE WALK OF WireUnique. -/
import Derived.Test.YtdbjnojalfkaaaaDoorA10
import Derived.RegionTactic
import Derived.ChangeAlike
import Derived.BigRegion
import Derived.WalkSmall
set_option linter.unusedVariables false
namespace Go.Proofs.YtdbjnojalfkaaaaDoor
open Go.RowKit

theorem decInt_at_sound {t : ByteArray} {k m : Nat} {n : Int} (hk : k ≤ t.size) (h : decInt (t.data.toList.drop k) = some (n, m)) :
    t.extract k (k + m) = encI n ∧ k + m ≤ t.size ∧ -4611686018427387903 ≤ n ∧ n ≤ 4611686018427387903 := by
  obtain ⟨h1, h2, h3, h4, h5, h6⟩ := decInt_sound h
  rw [List.length_drop, list_size] at h3
  refine ⟨?_, by omega, h5, h6⟩
  apply ext_list
  rw [extract_list, Nat.add_sub_cancel_left, encI_list, h2]
theorem strRes_sound {t v : ByteArray} {k e : Nat} (hk : k ≤ t.size) (h : strRes t k = some (v, e)) : t.extract k e = encS v ∧ k ≤ e ∧ e ≤ t.size ∧ v.size ≤ 65536 := by
  unfold strRes at h
  cases hd : decInt (t.data.toList.drop k) with
  | none => rw [hd] at h; simp at h
  | some p =>
    obtain ⟨n, m⟩ := p
    rw [hd] at h
    simp only [] at h
    by_cases hb : n < 0 ∨ 65536 < n ∨ (t.size : Int) - (k + m) < n
    · rw [if_pos hb] at h; simp at h
    · rw [if_neg hb] at h
      simp only [Option.some.injEq, Prod.mk.injEq] at h
      obtain ⟨rfl, rfl⟩ := h
      obtain ⟨h1, h2, _, _⟩ := decInt_at_sound hk hd
      obtain ⟨q, rfl⟩ : ∃ q : Nat, n = (q : Int) := ⟨n.toNat, by omega⟩
      have hs : (t.extract (k + m) (k + m + q)).size = q := by rw [ByteArray.size_extract]; omega
      rw [Int.toNat_natCast, hs]
      refine ⟨?_, by omega, by omega, by omega⟩
      apply ext_list
      rw [encS_list, hs, ← encI_list, ← h1, extract_list, extract_list, extract_list]
      rw [show k + m + q - k = m + q from by omega, Nat.add_sub_cancel_left, Nat.add_sub_cancel_left, List.take_add, List.drop_drop]

theorem string_none (s : ByteArray) (k : Nat) (w : World) (hs : s.size ≤ maxLen) (hk : k ≤ s.size) (h : strRes s k = none) :
    Calls Tryd.prog 17 #[.string s, .int .i64 k] w fun e w' => e = .returned (.tuple #[.string ⟨#[]⟩, .int .i64 0, .int .i64 10]) ∧ Below w.heap.size w w' :=
  (string_any s k w hs hk).mono fun e w' hw => by rw [h] at hw; exact hw
theorem string_some (s : ByteArray) (k : Nat) (w : World) (hs : s.size ≤ maxLen) (hk : k ≤ s.size) {v : ByteArray} {e : Nat} (h : strRes s k = some (v, e)) :
    Calls Tryd.prog 17 #[.string s, .int .i64 k] w fun e' w' => e' = .returned (.tuple #[.string v, .int .i64 (e : Int), .int .i64 0]) ∧ Below w.heap.size w w' :=
  (string_any s k w hs hk).mono fun e w' hw => by rw [h] at hw; exact hw

set_option maxRecDepth 100000 in
set_option maxHeartbeats 1000000 in
theorem unique_walk (s : ByteArray) (at' first : Int) (w : World) (hs : s.size ≤ maxLen) (h1 : -9223372036854775808 ≤ at') (h2 : at' ≤ 9223372036854775807) (h3 : 0 ≤ first) (h4 : first ≤ 255) (hN : Nib w) :
    Calls Tryd.prog 5 #[.string s, .int .i64 at', .int .u8 first] w fun e W' => e = .returned (.bool true) ∧ Below w.heap.size w W' := by
  unfold maxLen at hs
  have HN := Lib.hid hN
  clear hN
  go_enter Tryd.func5, Tryd.ntmps5
  go_wp2_with fail
  refine (sane_any _ HN.out).mono ?_
  rintro e w1 ⟨rfl, hb1⟩
  obtain ⟨fb, rfl⟩ := Int.eq_ofNat_of_zero_le h3
  obtain ⟨F, HF⟩ : ∃ F, Hid (strOf' [fb] = F) := ⟨_, Lib.hid rfl⟩
  have hF1 : F.size ≤ 1 := by rw [← HF.out, strOf'_size]; simp
  have hconv : (convert 38 9 (.slice (some ⟨w1.heap.size, 0, none⟩) 1 1)).run Tryd.prog (w1.alloc (.cells #[.int .u8 (fb : Int)] 5)).drew = .ok (.string F) (w1.alloc (.cells #[.int .u8 (fb : Int)] 5)).drew := by
    have hb : Buf (w1.alloc (.cells #[.int .u8 (fb : Int)] 5)).drew w1.heap.size [fb] := ⟨[], 0, 0, by omega, World.alloc_heap_new w1 _⟩
    have := run_bytes_str hb 1
    rw [HF.out] at this
    exact this
  have hts := cut_size s 300
  rw [show ((300 : Nat) : Int) = 300 from rfl] at hts
  go_wp2_with fail
  go_region
  clear hconv
  have hB1 : Below w.heap.size w (w1.alloc (.cells #[.int .u8 (fb : Int)] 5)).drew := bt hb1 ((ba w1 _).drew)
  generalize (w1.alloc (.cells #[.int .u8 (fb : Int)] 5)).drew = w2 at hB1 ⊢
  obtain ⟨t, Ht⟩ : ∃ t, Hid (F ++ s.extract 0 (min (s.size : Int) 300).toNat = t) := ⟨_, Lib.hid rfl⟩
  rw [Ht.out]
  have htl : t.size ≤ 301 := by rw [← Ht.out, ByteArray.size_append]; omega
  go_wp2_with fail
  have hk := pk_range (c := at') (n := (t.size : Int) + 1) (by omega)
  refine (pick_any at' ((t.size : Int) + 1) _ h1 h2 (by omega) (by omega)).mono ?_
  rintro e w3 ⟨rfl, rfl⟩
  obtain ⟨k1, HK⟩ : ∃ k : Nat, Hid (pk at' ((t.size : Int) + 1) = (k : Int)) := ⟨(pk at' ((t.size : Int) + 1)).toNat, Lib.hid (by omega)⟩
  rw [HK.out] at hk ⊢
  have hk1 : k1 ≤ t.size := by omega
  clear hk
  go_wp2_with fail
  have hB2 : Below w.heap.size w (w3.alloc (.cells #[.int .i64 0, .int .i64 (k1 : Int)] 3)) := bt hB1 (ba w3 _)
  have hc0 : (w3.alloc (.cells #[.int .i64 0, .int .i64 (k1 : Int)] 3)).cell? ⟨w3.heap.size, 0, none⟩ = some (.int .i64 0) := by simp
  have hc1 : (w3.alloc (.cells #[.int .i64 0, .int .i64 (k1 : Int)] 3)).cell? ⟨w3.heap.size, 1, none⟩ = some (.int .i64 (k1 : Int)) := by simp
  have hBl : w3.heap.size < (w3.alloc (.cells #[.int .i64 0, .int .i64 (k1 : Int)] 3)).heap.size := by simp
  generalize w3.alloc (.cells #[.int .i64 0, .int .i64 (k1 : Int)] 3) = W0 at hB2 hc0 hc1 hBl ⊢
  obtain ⟨B, HBe⟩ : ∃ B, Hid (w3.heap.size = B) := ⟨_, Lib.hid rfl⟩
  rw [HBe.out] at hc0 hc1 hBl ⊢
  have HC0 := Lib.hid hc0
  have HC1 := Lib.hid hc1
  clear hc0 hc1
  have ht63 : t.size ≤ maxLen := by unfold maxLen; omega
  go_loopw [38] (fun i wr => ∃ j : Nat, j ≤ 2 ∧ i = .int .i64 j ∧ Below W0.heap.size W0 wr) (fun i _ => 2 - (intOf i).toNat)
  case atStart => exact ⟨0, by omega, rfl, Below.refl _ _⟩
  case round =>
    obtain ⟨i, hi, rfl, hW⟩ := hrel
    by_cases hlt : i < 2
    · obtain ⟨K, hK, hcK⟩ : ∃ K : Nat, K ≤ t.size ∧ wr.cell? ⟨B, i, none⟩ = some (.int .i64 (K : Int)) := by
        rcases Nat.lt_or_ge i 1 with h | h
        · obtain rfl : i = 0 := by omega
          exact ⟨0, by omega, (hW.cell (p := ⟨B, 0, none⟩) hBl).trans HC0.out⟩
        · obtain rfl : i = 1 := by omega
          exact ⟨k1, hk1, (hW.cell (p := ⟨B, 1, none⟩) hBl).trans HC1.out⟩
      cases hd : decInt (t.data.toList.drop K) with
      | none =>
        have HD := Lib.hid hd
        clear hd
        go_wp2_with fail
        clear hcK
        refine (int_none t K _ ht63 hK HD.out).mono ?_
        rintro e w4 ⟨rfl, rfl⟩
        go_wp2_with fail
        refine (putInt_enc 0 _ (by omega) (by omega)).mono ?_
        rintro e w5 ⟨rfl, hb5⟩
        go_wp2_with fail
        cases hr : strRes t K with
        | none =>
          have HR := Lib.hid hr
          clear hr
          refine (string_none t K _ ht63 hK HR.out).mono ?_
          rintro e w6 ⟨rfl, hb6⟩
          go_wp2_with fail
          refine (putString_enc ⟨#[]⟩ _ (by decide)).mono ?_
          rintro e w7 ⟨rfl, hb7⟩
          go_wp2_with fail
          refine ⟨⟨i + 1, by omega, by go_num, bt (bt (bt (bt hW (Below.refl _ _)) hb5) hb6) hb7⟩, by simp [intOf]; omega⟩
        | some p2 =>
          obtain ⟨v, e⟩ := p2
          obtain ⟨hx, hke, het, hv⟩ := strRes_sound hK hr
          have HR := Lib.hid hr
          clear hr
          refine (string_some t K _ ht63 hK HR.out).mono ?_
          rintro _ w6 ⟨rfl, hb6⟩
          go_wp2_with fail
          refine (putString_enc v _ hv).mono ?_
          rintro _ w7 ⟨rfl, hb7⟩
          go_wp2_with fail
          refine ⟨⟨i + 1, by omega, by go_num, bt (bt (bt (bt hW (Below.refl _ _)) hb5) hb6) hb7⟩, by simp [intOf]; omega⟩
      | some p1 =>
        obtain ⟨n, m⟩ := p1
        obtain ⟨hy, hm, hn1, hn2⟩ := decInt_at_sound hK hd
        have HD := Lib.hid hd
        clear hd
        go_wp2_with fail
        clear hcK
        refine (int_some t K _ ht63 hK HD.out).mono ?_
        rintro e w4 ⟨rfl, rfl⟩
        go_wp2_with fail
        refine (putInt_enc n _ hn1 hn2).mono ?_
        rintro e w5 ⟨rfl, hb5⟩
        go_wp2_with fail
        cases hr : strRes t K with
        | none =>
          have HR := Lib.hid hr
          clear hr
          refine (string_none t K _ ht63 hK HR.out).mono ?_
          rintro e w6 ⟨rfl, hb6⟩
          go_wp2_with fail
          refine (putString_enc ⟨#[]⟩ _ (by decide)).mono ?_
          rintro e w7 ⟨rfl, hb7⟩
          go_wp2_with fail
          refine ⟨⟨i + 1, by omega, by go_num, bt (bt (bt (bt hW (Below.refl _ _)) hb5) hb6) hb7⟩, by simp [intOf]; omega⟩
        | some p2 =>
          obtain ⟨v, e⟩ := p2
          obtain ⟨hx, hke, het, hv⟩ := strRes_sound hK hr
          have HR := Lib.hid hr
          clear hr
          refine (string_some t K _ ht63 hK HR.out).mono ?_
          rintro _ w6 ⟨rfl, hb6⟩
          go_wp2_with fail
          refine (putString_enc v _ hv).mono ?_
          rintro _ w7 ⟨rfl, hb7⟩
          go_wp2_with fail
          refine ⟨⟨i + 1, by omega, by go_num, bt (bt (bt (bt hW (Below.refl _ _)) hb5) hb6) hb7⟩, by simp [intOf]; omega⟩
    · go_wp2
      go_ret
      exact ⟨rfl, bt hB2 hW⟩
end Go.Proofs.YtdbjnojalfkaaaaDoor
