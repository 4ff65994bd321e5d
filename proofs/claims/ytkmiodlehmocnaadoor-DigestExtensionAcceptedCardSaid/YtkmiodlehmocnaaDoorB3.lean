/- THE WALK OF DigestExtensionAccepted. -/
import Derived.Test.YtkmiodlehmocnaaDoorB2
set_option linter.unusedVariables false
set_option linter.unusedSimpArgs false
namespace Go.Proofs.YtkmiodlehmocnaaDoor
open Go.RowKit

set_option maxRecDepth 100000 in
set_option maxHeartbeats 2000000 in
theorem extAccepted_walk (L : List ByteArray) (v : Value) (m : Int) (w : World) (hm1 : -9223372036854775808 ≤ m) (hm2 : m ≤ 9223372036854775807) (hS : InS w v L) (hz : ∀ x ∈ L, x.size ≤ maxLen) (hT : Tab w) :
    Calls Tryd.prog 5 #[v, .int .i64 m] w fun e W' => e = .returned (.bool true) ∧ Below w.heap.size w W' := by
  have HT := Lib.hid hT
  have HS := Lib.hid hS
  have HZ := Lib.hid hz
  clear hT hS hz
  obtain ⟨F, HF⟩ : ∃ F, Hid (fewL L 25 = F) := ⟨_, Lib.hid rfl⟩
  have HFs := Lib.hid (show Short F from by rw [← HF.out]; exact fewL_short _ _)
  have HFl := Lib.hid (show F.length ≤ 25 from by rw [← HF.out, fewL_length]; omega)
  go_enter Tryd.func5, Tryd.ntmps5
  go_wp2_with fail
  refine (sane_c _ HT.out).mono ?_
  rintro e w1 ⟨rfl, hb1⟩
  have HB1 := Lib.hid hb1
  clear hb1
  go_wp2_with fail
  refine (few_c L v 25 _ (by decide) (HS.out.below HB1.out) HZ.out).mono ?_
  rintro e w2 ⟨v2, rfl, ho2, hnil, hb2⟩
  have HB2 := Lib.hid (bt HB1.out hb2)
  clear hb2 HB1
  rw [HF.out] at ho2 hnil
  have HS2 := Lib.hid (OwnS.strs ho2)
  clear ho2
  go_wp2_with fail
  refine (root_c 25 F _ _ HFl.out HS2.out HFs.out (HT.out.below HB2.out)).mono ?_
  rintro e w3 ⟨rfl, hb3⟩
  have HB3 := Lib.hid (bt HB2.out hb3)
  have HS3 := Lib.hid (HS2.out.below hb3)
  have HT3 := Lib.hid (HT.out.below HB3.out)
  clear hb3 HB2 HS2
  obtain ⟨n, HN⟩ : ∃ n, Hid (F.length = n) := ⟨_, Lib.hid rfl⟩
  have hn25 : n ≤ 25 := by rw [← HN.out]; exact HFl.out
  obtain ⟨r0, R0⟩ : ∃ r, Hid (dg.root F = r) := ⟨_, Lib.hid rfl⟩
  have hr0 := Lib.hid (show r0.size = 32 from by rw [← R0.out, dg.root_size])
  obtain ⟨q, HQ⟩ : ∃ q, Hid (binN n = q) := ⟨_, Lib.hid rfl⟩
  have hq : q ≤ 5 := by rw [← HQ.out]; exact binN_le (by omega)
  rw [R0.out]
  obtain ⟨a3, cap3, rfl, hc3, hm3⟩ := HS3.out.open0
  rw [HN.out] at hc3 ⊢
  unfold maxLen at hm3
  have HV := Lib.hid (show ∀ k, k ≤ n → ∀ w', Below w3.heap.size w3 w' → Strs w' (.slice a3 k cap3) (F.take k) from by
    intro k hk w' hw
    rcases Nat.eq_zero_or_pos n with h0 | h0
    · have hF0 : F = [] := List.length_eq_zero_iff.1 (HN.out.trans h0)
      obtain rfl : k = 0 := by omega
      exact ⟨a3, 0, cap3, rfl, by simp, by omega, by unfold maxLen; omega, fun h => by omega⟩
    · obtain ⟨b, o, c, e, e1, e2, e3, e4⟩ := HS3.out.open1 (by rw [HN.out]; exact h0)
      simp only [Value.slice.injEq] at e
      obtain ⟨rfl, _, rfl⟩ := e
      exact (Strs.take e1 e2 e3 e4 (k := k) (by rw [HN.out]; exact hk)).below hw)
  clear hnil
  go_wp2_with fail
  go_loopw [7] (fun i wr => ∃ k : Nat, k ≤ n + 1 ∧ i = .int .i64 k ∧ Below w3.heap.size w3 wr) (fun i _ => n + 1 - (intOf i).toNat)
  case atStart => exact ⟨0, by omega, rfl, Below.refl _ _⟩
  case round =>
    obtain ⟨k, hk, rfl, hB⟩ := hrel
    have HBr := Lib.hid hB
    clear hB
    by_cases hkn : k ≤ n
    · have d1 : decide ((k : Int) ≤ (n : Int)) = true := by simp; omega
      have HSr := Lib.hid (HS3.out.below HBr.out)
      rw [HN.out] at HSr
      have HEx := Lib.hid (ext_any F _ k wr (by rw [HN.out]; omega) (by rw [HN.out]; exact hkn) HSr.out HFs.out (HT3.out.below HBr.out))
      obtain ⟨X, HX⟩ : ∃ X, Hid (extL F k = X) := ⟨_, Lib.hid rfl⟩
      obtain ⟨r, HR⟩ : ∃ r, Hid (X.length = r) := ⟨_, Lib.hid rfl⟩
      have hrq : r ≤ 2 * q := by rw [← HR.out, ← HX.out, ← HQ.out, ← HN.out]; exact ext_size F k (by rw [HN.out]; exact hkn)
      have HXd := Lib.hid (show areD X = true from by rw [← HX.out]; exact ext_areD _ _)
      have HAc := Lib.hid (ext_accept F k (by rw [HN.out]; exact hkn))
      rw [HN.out, HX.out, R0.out] at HAc
      rw [HX.out] at HEx
      obtain ⟨r1, R1⟩ : ∃ r, Hid (dg.root (F.take k) = r) := ⟨_, Lib.hid rfl⟩
      have hr1 := Lib.hid (show r1.size = 32 from by rw [← R1.out, dg.root_size])
      rw [R1.out] at HAc
      have d2 : decide (2 * (q : Int) < (r : Int)) = false := by simp; omega
      go_wp2_with fail
      refine HEx.out.mono ?_
      rintro e w4 ⟨v4, rfl, hs4, hb4⟩
      obtain ⟨a4, c4, rfl, hc4, hm4⟩ := hs4.open0
      rw [HR.out] at hs4 hc4 ⊢
      have HS4 := Lib.hid hs4
      unfold maxLen at hm4
      have HB4 := Lib.hid (bt HBr.out hb4)
      have HC27 := Lib.hid (fun (w' : World) => binary_c n w' (by omega))
      rw [HQ.out] at HC27
      have HC25 := Lib.hid (fun (w' : World) (hw : Below w4.heap.size w4 w') => root_c 25 (F.take k) _ w' (by simp; have := HN.out; omega) (HV.out k hkn w' (bt HB4.out hw)) (HFs.out.take k) ((HT3.out.below HB4.out).below hw))
      rw [R1.out] at HC25
      have HC28 := Lib.hid (fun (w' : World) (hw : Below w4.heap.size w4 w') => verifyExt_c r1 k r0 n _ X w' (by omega) (by omega) (by omega) (by omega) (by rw [hr1.out]; decide) (by rw [hr0.out]; decide) (HS4.out.below hw) (short_areD HXd.out) ((HT3.out.below HB4.out).below hw))
      rw [HAc.out] at HC28
      clear hb4 hs4 HEx
      have hk0 : 0 ≤ (k : Int) := by omega
      have hkc : (k : Int) ≤ (cap3 : Int) := by omega
      go_wp2_with fail
      refine (HC27.out _).mono ?_
      rintro e w5 ⟨rfl, rfl⟩
      go_wp2_with fail
      refine (HC25.out _ (Below.refl _ _)).mono ?_
      rintro e w6 ⟨rfl, hb6⟩
      go_wp2_with fail
      refine (HC28.out _ hb6).mono ?_
      rintro e w7 ⟨rfl, hb7⟩
      have HB7 := Lib.hid (bt (bt HB4.out hb6) hb7)
      clear hb6 hb7
      go_wp2_with fail
      exact ⟨⟨k + 1, by omega, by go_num, HB7.out⟩, by simp [intOf]; omega⟩
    · obtain rfl : k = n + 1 := by omega
      have d1 : decide (((n + 1 : Nat) : Int) ≤ (n : Int)) = false := by simp; omega
      have HBw := Lib.hid (bt HB3.out HBr.out)
      have HSr := Lib.hid (HS3.out.below HBr.out)
      rw [HN.out] at HSr
      have HTr := Lib.hid (HT3.out.below HBr.out)
      by_cases hm : 0 ≤ m ∧ m ≤ (n : Int)
      · obtain ⟨j, rfl⟩ : ∃ j : Nat, m = (j : Int) := ⟨m.toNat, by omega⟩
        have hj : j ≤ n := by omega
        have HEx := Lib.hid (ext_any F _ j wr (by rw [HN.out]; omega) (by rw [HN.out]; exact hj) HSr.out HFs.out HTr.out)
        have d2 : decide (0 ≤ (j : Int)) = true := by simp
        have d3 : decide ((j : Int) ≤ (n : Int)) = true := by simp; omega
        clear hm
        go_wp2_with fail
        refine HEx.out.mono ?_
        rintro e w4 ⟨v4, rfl, hs4, hb4⟩
        have HB4 := Lib.hid (bt HBw.out hb4)
        clear hs4 hb4
        go_wp2_with fail
        go_ret
        exact ⟨rfl, HB4.out⟩
      · have HEx := Lib.hid (ext_bad F _ m wr (by rw [HN.out]; omega) HSr.out)
        have HC28 := Lib.hid (verifyExt_c r0 m r0 n _ [] wr (by omega) (by omega) (by omega) (by omega) (by rw [hr0.out]; decide) (by rw [hr0.out]; decide) (Strs.nil wr) (fun x hx => absurd hx (by simp)) HTr.out)
        rw [ext_refuse r0 m r0 n [] (by omega)] at HC28
        by_cases h0 : 0 ≤ m
        · have hmn : (n : Int) < m := by omega
          have d2 : decide (0 ≤ m) = true := by simp; omega
          have d3 : decide (m ≤ (n : Int)) = false := by simp; omega
          clear hm
          go_wp2_with fail
          refine HEx.out.mono ?_
          rintro e w4 ⟨rfl, rfl⟩
          go_wp2_with fail
          refine HC28.out.mono ?_
          rintro e w5 ⟨rfl, hb5⟩
          have HB5 := Lib.hid (bt HBw.out hb5)
          clear hb5
          go_wp2_with fail
          go_ret
          exact ⟨rfl, HB5.out⟩
        · have d2 : decide (0 ≤ m) = false := by simp; omega
          clear hm
          go_wp2_with fail
          refine HEx.out.mono ?_
          rintro e w4 ⟨rfl, rfl⟩
          go_wp2_with fail
          refine HC28.out.mono ?_
          rintro e w5 ⟨rfl, hb5⟩
          have HB5 := Lib.hid (bt HBw.out hb5)
          clear hb5
          go_wp2_with fail
          go_ret
          exact ⟨rfl, HB5.out⟩
end Go.Proofs.YtkmiodlehmocnaaDoor
