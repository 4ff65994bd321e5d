/- THE WALK OF DigestBinding. -/
import Derived.Test.YtkmiodlehmocnaaDoorB9
set_option linter.unusedVariables false
set_option linter.unusedSimpArgs false
namespace Go.Proofs.YtkmiodlehmocnaaDoor
open Go.RowKit

theorem verify_true {root : ByteArray} {n i : Int} {s : ByteArray} {p : List ByteArray} (h : dg.verify root n i s p = true) :
    0 ≤ i ∧ i < n ∧ areD p = true ∧ (dg.val n.toNat i.toNat s p).2 = true ∧ (dg.val n.toNat i.toNat s p).1 = root := by
  unfold Dig.verify at h
  by_cases h0 : i < 0 ∨ n ≤ i ∨ areD p = false
  · rw [if_pos h0] at h; cases h
  · rw [if_neg h0] at h
    simp only [Bool.and_eq_true, decide_eq_true_eq] at h
    have h1 : ¬ i < 0 := fun e => h0 (.inl e)
    have h2 : ¬ n ≤ i := fun e => h0 (.inr (.inl e))
    have h3 : areD p = true := by
      cases h4 : areD p
      · exact absurd (.inr (.inr h4)) h0
      · rfl
    exact ⟨by omega, by omega, h3, h.1, h.2⟩

set_option maxRecDepth 100000 in
set_option maxHeartbeats 2000000 in
theorem binding_walk (root : ByteArray) (n i : Int) (s : ByteArray) (A : List ByteArray) (v : Value) (t : ByteArray) (B : List ByteArray) (u : Value) (w : World)
    (hn1 : -9223372036854775808 ≤ n) (hn2 : n ≤ 9223372036854775807) (hi1 : -9223372036854775808 ≤ i) (hi2 : i ≤ 9223372036854775807) (hs : s.size ≤ maxLen) (ht : t.size ≤ maxLen)
    (hA : InS w v A) (hzA : ∀ x ∈ A, x.size ≤ maxLen) (hB : InS w u B) (hzB : ∀ x ∈ B, x.size ≤ maxLen) (hT : Tab w) :
    Calls Tryd.prog 6 #[.string root, .int .i64 n, .int .i64 i, .string s, v, .string t, u] w fun e W' => e = .returned (.bool true) ∧ Below w.heap.size w W' := by
  have HT := Lib.hid hT
  have HA := Lib.hid hA
  have HB := Lib.hid hB
  have HZA := Lib.hid hzA
  have HZB := Lib.hid hzB
  clear hT hA hB hzA hzB
  unfold maxLen at hs ht
  obtain ⟨F, HF⟩ : ∃ F, Hid (fewL A 70 = F) := ⟨_, Lib.hid rfl⟩
  obtain ⟨G, HG⟩ : ∃ F, Hid (fewL B 70 = F) := ⟨_, Lib.hid rfl⟩
  have HFs := Lib.hid (show Short F from by rw [← HF.out]; exact fewL_short _ _)
  have HGs := Lib.hid (show Short G from by rw [← HG.out]; exact fewL_short _ _)
  have HFl := Lib.hid (show F.length ≤ 70 from by rw [← HF.out, fewL_length]; omega)
  have HGl := Lib.hid (show G.length ≤ 70 from by rw [← HG.out, fewL_length]; omega)
  obtain ⟨y, HY⟩ : ∃ y, Hid (s.extract 0 (min (s.size : Int) 60).toNat = y) := ⟨_, Lib.hid rfl⟩
  obtain ⟨z, HZ⟩ : ∃ y, Hid (t.extract 0 (min (t.size : Int) 60).toNat = y) := ⟨_, Lib.hid rfl⟩
  have hy60 : y.size ≤ 60 := by rw [← HY.out]; exact cut60_size s
  have hz60 : z.size ≤ 60 := by rw [← HZ.out]; exact cut60_size t
  have hy := HY.out
  have hz := HZ.out
  have m1 : 0 ≤ min (s.size : Int) 60 := by omega
  have m2 : min (s.size : Int) 60 ≤ (s.size : Int) := by omega
  have m3 : 0 ≤ min (t.size : Int) 60 := by omega
  have m4 : min (t.size : Int) 60 ≤ (t.size : Int) := by omega
  obtain ⟨b1, HV1⟩ : ∃ b, Hid (dg.verify root n i y F = b) := ⟨_, Lib.hid rfl⟩
  obtain ⟨b2, HV2⟩ : ∃ b, Hid (dg.verify root n i z G = b) := ⟨_, Lib.hid rfl⟩
  go_enter Tryd.func6, Tryd.ntmps6
  go_wp2_with fail
  refine (sane_c _ HT.out).mono ?_
  rintro e w1 ⟨rfl, hb1⟩
  have HB1 := Lib.hid hb1
  clear hb1
  go_wp2_with fail
  refine (few_c A v 70 _ (by decide) (HA.out.below HB1.out) HZA.out).mono ?_
  rintro e w2 ⟨v2, rfl, ho2, _, hb2⟩
  have HB2 := Lib.hid (bt HB1.out hb2)
  rw [HF.out] at ho2
  have HS2 := Lib.hid (OwnS.strs ho2)
  clear hb2 HB1 ho2
  go_wp2_with fail
  refine (few_c B u 70 _ (by decide) (HB.out.below HB2.out) HZB.out).mono ?_
  rintro e w3 ⟨u3, rfl, ho3, _, hb3⟩
  have HB3 := Lib.hid (bt HB2.out hb3)
  rw [HG.out] at ho3
  have HS3 := Lib.hid (HS2.out.below hb3)
  have HR3 := Lib.hid (OwnS.strs ho3)
  clear hb3 HB2 ho3 HS2
  go_wp2_with fail
  refine (verify_c root n i y v2 F _ hn1 hn2 hi1 hi2 (by omega) HS3.out HFs.out (HT.out.below HB3.out)).mono ?_
  rintro e w4 ⟨rfl, hb4⟩
  rw [HV1.out]
  have HB4 := Lib.hid (bt HB3.out hb4)
  have HS4 := Lib.hid (HS3.out.below hb4)
  have HR4 := Lib.hid (HR3.out.below hb4)
  clear hb4 HB3 HS3 HR3
  go_wp2_with fail
  refine (verify_c root n i z u3 G _ hn1 hn2 hi1 hi2 (by omega) HR4.out HGs.out (HT.out.below HB4.out)).mono ?_
  rintro e w5 ⟨rfl, hb5⟩
  rw [HV2.out]
  have HB5 := Lib.hid (bt HB4.out hb5)
  have HS5 := Lib.hid (HS4.out.below hb5)
  have HR5 := Lib.hid (HR4.out.below hb5)
  clear hb5 HB4 HS4 HR4 hy hz m1 m2 m3 m4
  cases b1
  · go_wp2_with fail
    go_ret
    exact ⟨rfl, HB5.out⟩
  cases b2
  · go_wp2_with fail
    go_ret
    exact ⟨rfl, HB5.out⟩
  by_cases hyz : y = z
  · have d3 := str_eq hyz
    clear hyz
    go_wp2_with fail
    go_ret
    exact ⟨rfl, HB5.out⟩
  have d3 := str_ne hyz
  obtain ⟨hi0, hin, aF, vF, eF⟩ := verify_true HV1.out
  obtain ⟨_, _, aG, vG, eG⟩ := verify_true HV2.out
  obtain ⟨nn, rfl⟩ : ∃ k : Nat, n = (k : Int) := ⟨n.toNat, by omega⟩
  obtain ⟨ii, rfl⟩ : ∃ k : Nat, i = (k : Int) := ⟨i.toNat, by omega⟩
  rw [Int.toNat_natCast, Int.toNat_natCast] at vF eF vG eG
  have HCo := Lib.hid (ways_binds nn ii y z F G vF vG (by rw [eF, eG]) hyz aF aG)
  have HW1 := Lib.hid (fun (w' : World) (hw : Below w5.heap.size w5 w') => way_c 70 F v2 nn ii y w' HFl.out HFl.out (by omega) (by omega) (by omega) hy60 (HS5.out.below hw) aF vF ((HT.out.below HB5.out).below hw))
  have HW2 := Lib.hid (fun (w' : World) (hw : Below w5.heap.size w5 w') => way_c 70 G u3 nn ii z w' HGl.out HGl.out (by omega) (by omega) (by omega) hz60 (HR5.out.below hw) aG vG ((HT.out.below HB5.out).below hw))
  have HX1 := Lib.hid (show Short (ways nn ii y F) from fun x hx => Nat.le_trans (ways_short nn ii y F hy60 aF x hx) (by decide))
  have HX2 := Lib.hid (show Short (ways nn ii z G) from fun x hx => Nat.le_trans (ways_short nn ii z G hz60 aG x hx) (by decide))
  obtain ⟨X, HX⟩ : ∃ X, Hid (ways nn ii y F = X) := ⟨_, Lib.hid rfl⟩
  obtain ⟨Y, HYY⟩ : ∃ X, Hid (ways nn ii z G = X) := ⟨_, Lib.hid rfl⟩
  rw [HX.out, HYY.out] at HCo
  rw [HX.out, eF] at HW1
  rw [HYY.out, eG] at HW2
  rw [HX.out] at HX1
  rw [HYY.out] at HX2
  clear vF eF vG eG aF aG hyz hi0 hin
  go_wp2_with fail
  refine (HW1.out _ (Below.refl _ _)).mono ?_
  rintro e w6 ⟨v6, rfl, ho6, hb6⟩
  have HS6 := Lib.hid (OwnS.strs ho6)
  have HB6 := Lib.hid hb6
  clear ho6 hb6
  go_wp2_with fail
  refine (HW2.out _ HB6.out).mono ?_
  rintro e w7 ⟨v7, rfl, ho7, hb7⟩
  have HS7 := Lib.hid (HS6.out.below hb7)
  have HR7 := Lib.hid (OwnS.strs ho7)
  have HB7 := Lib.hid (bt HB6.out hb7)
  clear ho7 hb7
  go_wp2_with fail
  refine (collide_c X Y _ _ _ HS7.out HR7.out HX1.out HX2.out ((HT.out.below HB5.out).below HB7.out)).mono ?_
  rintro e w8 ⟨b, rfl, hb, hb8⟩
  obtain rfl := hb HCo.out
  have HB8 := Lib.hid (bt HB5.out (bt HB7.out hb8))
  clear hb8 hb
  go_wp2_with fail
  go_ret
  exact ⟨rfl, HB8.out⟩
end Go.Proofs.YtkmiodlehmocnaaDoor
