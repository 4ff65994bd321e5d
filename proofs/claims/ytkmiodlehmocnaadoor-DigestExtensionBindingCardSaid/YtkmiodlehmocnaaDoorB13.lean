/- THE WALK OF DigestExtensionBinding. -/
import Derived.Test.YtkmiodlehmocnaaDoorB12
set_option linter.unusedVariables false
set_option linter.unusedSimpArgs false
namespace Go.Proofs.YtkmiodlehmocnaaDoor
open Go.RowKit

theorem verifyExt_true {old root : ByteArray} {m n : Int} {p : List ByteArray} (h : dg.verifyExt old m root n p = true) :
    0 ≤ m ∧ m ≤ n ∧ old.size = 32 ∧ areD p = true ∧ ((m = 0 ∧ old = dg.root []) ∨ (m ≠ 0 ∧ (dg.two old m.toNat n.toNat p true).2.2 = true ∧ (dg.two old m.toNat n.toNat p true).1 = old ∧ (dg.two old m.toNat n.toNat p true).2.1 = root)) := by
  unfold Dig.verifyExt at h
  by_cases h0 : m < 0 ∨ n < m ∨ areD [old, root] = false ∨ areD p = false
  · rw [if_pos h0] at h; cases h
  · rw [if_neg h0] at h
    have h1 : ¬ m < 0 := fun e => h0 (.inl e)
    have h2 : ¬ n < m := fun e => h0 (.inr (.inl e))
    have h3 : areD p = true := by
      cases h4 : areD p
      · exact absurd (.inr (.inr (.inr h4))) h0
      · rfl
    have h4 : areD [old, root] = true := by
      cases h5 : areD [old, root]
      · exact absurd (.inr (.inr (.inl h5))) h0
      · rfl
    have h5 : old.size = 32 := by simp [areD] at h4; exact h4.1
    refine ⟨by omega, by omega, h5, h3, ?_⟩
    by_cases hm : m = 0
    · rw [if_pos hm] at h
      simp only [Bool.and_eq_true, decide_eq_true_eq] at h
      exact .inl ⟨hm, h.2⟩
    · rw [if_neg hm] at h
      simp only [Bool.and_eq_true, decide_eq_true_eq] at h
      exact .inr ⟨hm, h.1, h.2.1, h.2.2⟩

set_option maxRecDepth 100000 in
set_option maxHeartbeats 2000000 in
theorem extBinding_walk (s : ByteArray) (A : List ByteArray) (v : Value) (t : ByteArray) (B : List ByteArray) (u : Value) (m : Int) (root : ByteArray) (n : Int) (w : World)
    (hm1 : -9223372036854775808 ≤ m) (hm2 : m ≤ 9223372036854775807) (hn1 : -9223372036854775808 ≤ n) (hn2 : n ≤ 9223372036854775807) (hs : s.size ≤ maxLen) (ht : t.size ≤ maxLen) (hr : root.size ≤ maxLen)
    (hA : InS w v A) (hzA : ∀ x ∈ A, x.size ≤ maxLen) (hB : InS w u B) (hzB : ∀ x ∈ B, x.size ≤ maxLen) (hT : Tab w) :
    Calls Tryd.prog 8 #[.string s, v, .string t, u, .int .i64 m, .string root, .int .i64 n] w fun e W' => e = .returned (.bool true) ∧ Below w.heap.size w W' := by
  have HT := Lib.hid hT
  have HA := Lib.hid hA
  have HB := Lib.hid hB
  have HZA := Lib.hid hzA
  have HZB := Lib.hid hzB
  have HSz := Lib.hid hs
  have HTz := Lib.hid ht
  have HRz := Lib.hid hr
  clear hT hA hB hzA hzB hs ht hr
  obtain ⟨F, HF⟩ : ∃ F, Hid (fewL A 70 = F) := ⟨_, Lib.hid rfl⟩
  obtain ⟨G, HG⟩ : ∃ F, Hid (fewL B 70 = F) := ⟨_, Lib.hid rfl⟩
  have HFs := Lib.hid (show Short F from by rw [← HF.out]; exact fewL_short _ _)
  have HGs := Lib.hid (show Short G from by rw [← HG.out]; exact fewL_short _ _)
  have HFl := Lib.hid (show F.length ≤ 70 from by rw [← HF.out, fewL_length]; omega)
  have HGl := Lib.hid (show G.length ≤ 70 from by rw [← HG.out, fewL_length]; omega)
  obtain ⟨b1, HV1⟩ : ∃ b, Hid (dg.verifyExt s m root n F = b) := ⟨_, Lib.hid rfl⟩
  obtain ⟨b2, HV2⟩ : ∃ b, Hid (dg.verifyExt t m root n G = b) := ⟨_, Lib.hid rfl⟩
  go_enter Tryd.func8, Tryd.ntmps8
  go_wp2_with fail
  refine (sane_c _ HT.out).mono ?_
  rintro e w1 ⟨rfl, hb1⟩
  have HB1 := Lib.hid hb1
  clear hb1
  go_wp2_with fail
  refine (few_c A v 70 _ (by decide) (HA.out.below HB1.out) HZA.out).mono ?_
  rintro e w2 ⟨v2, rfl, ho2, _, hb2⟩
  have HB2 := Lib.hid (bt HB1.out hb2)
  rw [HF.out] at ho2
  have HS2 := Lib.hid (OwnS.strs ho2)
  clear hb2 HB1 ho2
  go_wp2_with fail
  refine (few_c B u 70 _ (by decide) (HB.out.below HB2.out) HZB.out).mono ?_
  rintro e w3 ⟨u3, rfl, ho3, _, hb3⟩
  have HB3 := Lib.hid (bt HB2.out hb3)
  rw [HG.out] at ho3
  have HS3 := Lib.hid (HS2.out.below hb3)
  have HR3 := Lib.hid (OwnS.strs ho3)
  clear hb3 HB2 ho3 HS2
  go_wp2_with fail
  refine (verifyExt_c s m root n v2 F _ hn1 hn2 hm1 hm2 HSz.out HRz.out HS3.out HFs.out (HT.out.below HB3.out)).mono ?_
  rintro e w4 ⟨rfl, hb4⟩
  rw [HV1.out]
  have HB4 := Lib.hid (bt HB3.out hb4)
  have HS4 := Lib.hid (HS3.out.below hb4)
  have HR4 := Lib.hid (HR3.out.below hb4)
  clear hb4 HB3 HS3 HR3
  go_wp2_with fail
  refine (verifyExt_c t m root n u3 G _ hn1 hn2 hm1 hm2 HTz.out HRz.out HR4.out HGs.out (HT.out.below HB4.out)).mono ?_
  rintro e w5 ⟨rfl, hb5⟩
  rw [HV2.out]
  have HB5 := Lib.hid (bt HB4.out hb5)
  have HS5 := Lib.hid (HS4.out.below hb5)
  have HR5 := Lib.hid (HR4.out.below hb5)
  clear hb5 HB4 HS4 HR4
  cases b1
  · go_wp2_with fail
    go_ret
    exact ⟨rfl, HB5.out⟩
  cases b2
  · go_wp2_with fail
    go_ret
    exact ⟨rfl, HB5.out⟩
  by_cases hst : s = t
  · have d3 := str_eq hst
    clear hst
    go_wp2_with fail
    go_ret
    exact ⟨rfl, HB5.out⟩
  have d3 := str_ne hst
  obtain ⟨hm0, hmn, s32, aF, h1⟩ := verifyExt_true HV1.out
  obtain ⟨_, _, t32, aG, h2⟩ := verifyExt_true HV2.out
  rcases h1 with ⟨hz, e1⟩ | ⟨hz, vF, eF, rF⟩
  · rcases h2 with ⟨_, e2⟩ | ⟨h, _⟩
    · exact absurd (e1.trans e2.symm) hst
    · exact absurd hz h
  rcases h2 with ⟨h, _⟩ | ⟨_, vG, eG, rG⟩
  · exact absurd h hz
  obtain ⟨nn, rfl⟩ : ∃ k : Nat, n = (k : Int) := ⟨n.toNat, by omega⟩
  obtain ⟨mm, rfl⟩ : ∃ k : Nat, m = (k : Int) := ⟨m.toNat, by omega⟩
  rw [Int.toNat_natCast, Int.toNat_natCast] at vF eF rF vG eG rG
  have hmm : 1 ≤ mm := by omega
  have hmn' : mm ≤ nn := by omega
  have HCo := Lib.hid (sides_binds nn s t mm F G true hmm hmn' s32 t32 aF aG vF vG (by rw [rF, rG]) (by rw [eF, eG]; exact hst))
  have HW1 := Lib.hid (fun (w' : World) (hw : Below w5.heap.size w5 w') => sides_c nn F v2 s mm true w' HFl.out hmm hmn' (by omega) s32 (HS5.out.below hw) aF vF ((HT.out.below HB5.out).below hw))
  have HW2 := Lib.hid (fun (w' : World) (hw : Below w5.heap.size w5 w') => sides_c nn G u3 t mm true w' HGl.out hmm hmn' (by omega) t32 (HR5.out.below hw) aG vG ((HT.out.below HB5.out).below hw))
  have HX1 := Lib.hid (show Short (sidesL s mm nn F true) from fun x hx => Nat.le_trans (sidesL_short nn s mm F true hmm hmn' s32 aF vF x hx) (by decide))
  have HX2 := Lib.hid (show Short (sidesL t mm nn G true) from fun x hx => Nat.le_trans (sidesL_short nn t mm G true hmm hmn' t32 aG vG x hx) (by decide))
  obtain ⟨X, HX⟩ : ∃ X, Hid (sidesL s mm nn F true = X) := ⟨_, Lib.hid rfl⟩
  obtain ⟨Y, HYY⟩ : ∃ X, Hid (sidesL t mm nn G true = X) := ⟨_, Lib.hid rfl⟩
  rw [HX.out, HYY.out] at HCo
  rw [HX.out, rF] at HW1
  rw [HYY.out, rG] at HW2
  rw [HX.out] at HX1
  rw [HYY.out] at HX2
  clear vF eF rF vG eG rG aF aG hst hm0 hmn hz s32 t32
  go_wp2_with fail
  refine (HW1.out _ (Below.refl _ _)).mono ?_
  rintro e w6 ⟨v6, rfl, ho6, _, hb6⟩
  have HS6 := Lib.hid (OwnS.strs ho6)
  have HB6 := Lib.hid hb6
  clear ho6 hb6
  go_wp2_with fail
  refine (HW2.out _ HB6.out).mono ?_
  rintro e w7 ⟨v7, rfl, ho7, _, hb7⟩
  have HS7 := Lib.hid (HS6.out.below hb7)
  have HR7 := Lib.hid (OwnS.strs ho7)
  have HB7 := Lib.hid (bt HB6.out hb7)
  clear ho7 hb7
  go_wp2_with fail
  refine (collide_c X Y _ _ _ HS7.out HR7.out HX1.out HX2.out ((HT.out.below HB5.out).below HB7.out)).mono ?_
  rintro e w8 ⟨b, rfl, hb, hb8⟩
  obtain rfl := hb HCo.out
  have HB8 := Lib.hid (bt HB5.out (bt HB7.out hb8))
  clear hb8 hb
  go_wp2_with fail
  go_ret
  exact ⟨rfl, HB8.out⟩
end Go.Proofs.YtkmiodlehmocnaaDoor
