/- THE WALK OF DigestTreeMatchesReference, over what the reference's block answers. -/
import Derived.Test.YtkmiodlehmocnaaDoorD5
import Derived.Test.YtkmiodlehmocnaaDoorD6
import Derived.Test.YtkmiodlehmocnaaDoorB2
import Derived.Test.YtkmiodlehmocnaaDoorB4
set_option linter.unusedVariables false
set_option linter.unusedSimpArgs false
namespace Go.Proofs.YtkmiodlehmocnaaDoor
open Go.RowKit

def prL (L : List ByteArray) (i : Int) : List ByteArray := if 0 ≤ i ∧ i < (L.length : Int) then dg.path L i.toNat else []
def prE (L : List ByteArray) (i : Int) : Int := if 0 ≤ i ∧ i < (L.length : Int) then 0 else 2
def exL (L : List ByteArray) (m : Int) : List ByteArray := if 0 ≤ m ∧ m ≤ (L.length : Int) then extL L m.toNat else []
def exE (L : List ByteArray) (m : Int) : Int := if 0 ≤ m ∧ m ≤ (L.length : Int) then 0 else 2
theorem Short1.short {L : List ByteArray} (h : Short1 L) : Short L := fun x hx => Nat.le_trans (h x hx) (by decide)

theorem proof_all (L : List ByteArray) (v : Value) (i : Int) (w : World) (hL : L.length ≤ 1000000) (hS : Strs w v L) (hsh : Short1 L) (hT : Tab w) :
    Calls Tryd.prog 20 #[v, .int .i64 i] w fun e w' => ∃ v', e = .returned (.tuple #[v', .int .i64 (prE L i)]) ∧ Strs w' v' (prL L i) ∧ Below w.heap.size w w' := by
  by_cases h : 0 ≤ i ∧ i < (L.length : Int)
  · obtain ⟨j, rfl⟩ : ∃ j : Nat, i = (j : Int) := ⟨i.toNat, by omega⟩
    rw [prE, prL, if_pos h, if_pos h, Int.toNat_natCast]
    refine (proof_c L v j w hL (by omega) hS hsh.short hT).mono ?_
    rintro e w' ⟨v', rfl, ho, hb⟩
    exact ⟨v', rfl, ho.strs, hb⟩
  · rw [prE, prL, if_neg h, if_neg h]
    refine (proof_bad L v i w hL (by omega) hS).mono ?_
    rintro e w' ⟨rfl, rfl⟩
    exact ⟨_, rfl, Strs.nil _, Below.refl _ _⟩
theorem ref_proof_all (RB : RefBlock) (L : List ByteArray) (v : Value) (i : Int) (w : World) (hL : L.length ≤ 1000000) (hS : Strs w v L) (hsh : Short1 L) :
    Calls Tryd.prog 21 #[v, .int .i64 i] w fun e w' => ∃ v', e = .returned (.tuple #[v', .int .i64 (prE L i)]) ∧ Strs w' v' (prL L i) ∧ Below w.heap.size w w' := by
  by_cases h : 0 ≤ i ∧ i < (L.length : Int)
  · obtain ⟨j, rfl⟩ : ∃ j : Nat, i = (j : Int) := ⟨i.toNat, by omega⟩
    rw [prE, prL, if_pos h, if_pos h, Int.toNat_natCast]
    refine (ref_proof RB L.length L v j w (Nat.le_refl _) hL (by omega) hS hsh).mono ?_
    rintro e w' ⟨v', rfl, ho, hb⟩
    exact ⟨v', rfl, OwnS.strs ho, hb⟩
  · rw [prE, prL, if_neg h, if_neg h]
    refine (ref_proof_bad L v i w (by omega) hS).mono ?_
    rintro e w' ⟨rfl, rfl⟩
    exact ⟨_, rfl, Strs.nil _, Below.refl _ _⟩
theorem ext_all (L : List ByteArray) (v : Value) (m : Int) (w : World) (hL : L.length ≤ 1000000) (hS : Strs w v L) (hsh : Short1 L) (hT : Tab w) :
    Calls Tryd.prog 22 #[v, .int .i64 m] w fun e w' => ∃ v', e = .returned (.tuple #[v', .int .i64 (exE L m)]) ∧ Strs w' v' (exL L m) ∧ Below w.heap.size w w' := by
  by_cases h : 0 ≤ m ∧ m ≤ (L.length : Int)
  · obtain ⟨j, rfl⟩ : ∃ j : Nat, m = (j : Int) := ⟨m.toNat, by omega⟩
    rw [exE, exL, if_pos h, if_pos h, Int.toNat_natCast]
    exact ext_any L v j w hL (by omega) hS hsh.short hT
  · rw [exE, exL, if_neg h, if_neg h]
    refine (ext_bad L v m w (by omega) hS).mono ?_
    rintro e w' ⟨rfl, rfl⟩
    exact ⟨_, rfl, Strs.nil _, Below.refl _ _⟩
theorem ref_ext_all (RB : RefBlock) (L : List ByteArray) (v : Value) (m : Int) (w : World) (hL : L.length ≤ 1000000) (hS : Strs w v L) (hsh : Short1 L) :
    Calls Tryd.prog 23 #[v, .int .i64 m] w fun e w' => ∃ v', e = .returned (.tuple #[v', .int .i64 (exE L m)]) ∧ Strs w' v' (exL L m) ∧ Below w.heap.size w w' := by
  by_cases h : 0 ≤ m ∧ m ≤ (L.length : Int)
  · obtain ⟨j, rfl⟩ : ∃ j : Nat, m = (j : Int) := ⟨m.toNat, by omega⟩
    rw [exE, exL, if_pos h, if_pos h, Int.toNat_natCast]
    by_cases h0 : j = 0
    · subst h0
      refine (ref_ext_zero L v w hS).mono ?_
      rintro e w' ⟨rfl, rfl⟩
      exact ⟨_, rfl, Strs.nil _, Below.refl _ _⟩
    · refine (ref_ext RB L v j w hL (by omega) (by omega) hS hsh).mono ?_
      rintro e w' ⟨v', rfl, ho, hb⟩
      refine ⟨v', rfl, ?_, hb⟩
      unfold extL
      rw [if_neg h0]
      exact OwnS.strs ho
  · rw [exE, exL, if_neg h, if_neg h]
    refine (ref_ext_bad L v m w (by omega) hS).mono ?_
    rintro e w' ⟨rfl, rfl⟩
    exact ⟨_, rfl, Strs.nil _, Below.refl _ _⟩

set_option maxRecDepth 100000 in
set_option maxHeartbeats 2000000 in
theorem treeMatches_walk (RB : RefBlock) (L : List ByteArray) (v : Value) (i m : Int) (w : World) (hi1 : -9223372036854775808 ≤ i) (hi2 : i ≤ 9223372036854775807) (hm1 : -9223372036854775808 ≤ m) (hm2 : m ≤ 9223372036854775807) (hS : InS w v L) (hz : ∀ x ∈ L, x.size ≤ maxLen) (hT : Tab w) :
    Calls Tryd.prog 4 #[v, .int .i64 i, .int .i64 m] w fun e W' => e = .returned (.bool true) ∧ Below w.heap.size w W' := by
  have HT := Lib.hid hT
  have HS := Lib.hid hS
  have HZ := Lib.hid hz
  have HRB := Lib.hid RB
  clear hT hS hz RB
  obtain ⟨F, HF⟩ : ∃ F, Hid (fewL L 40 = F) := ⟨_, Lib.hid rfl⟩
  have HFs := Lib.hid (show Short1 F from by rw [← HF.out]; exact fun x hx => Nat.le_trans (fewL_size hx) (by decide))
  have HFl := Lib.hid (show F.length ≤ 40 from by rw [← HF.out, fewL_length]; omega)
  have HFm := Lib.hid (show F.length ≤ 1000000 from Nat.le_trans HFl.out (by decide))
  obtain ⟨P, HP⟩ : ∃ P, Hid (prL F i = P) := ⟨_, Lib.hid rfl⟩
  obtain ⟨pe, HPe⟩ : ∃ pe, Hid (prE F i = pe) := ⟨_, Lib.hid rfl⟩
  obtain ⟨X, HX⟩ : ∃ P, Hid (exL F m = P) := ⟨_, Lib.hid rfl⟩
  obtain ⟨xe, HXe⟩ : ∃ pe, Hid (exE F m = pe) := ⟨_, Lib.hid rfl⟩
  obtain ⟨r0, R0⟩ : ∃ r, Hid (dg.root F = r) := ⟨_, Lib.hid rfl⟩
  have C20 := Lib.hid (fun v w' (h : Strs w' v F) (hT : Tab w') => proof_all F v i w' HFm.out h HFs.out hT)
  have C21 := Lib.hid (fun v w' (h : Strs w' v F) => ref_proof_all HRB.out F v i w' HFm.out h HFs.out)
  have C22 := Lib.hid (fun v w' (h : Strs w' v F) (hT : Tab w') => ext_all F v m w' HFm.out h HFs.out hT)
  have C23 := Lib.hid (fun v w' (h : Strs w' v F) => ref_ext_all HRB.out F v m w' HFm.out h HFs.out)
  have C25 := Lib.hid (fun v w' (h : Strs w' v F) (hT : Tab w') => root_c 40 F v w' HFl.out h HFs.out.short hT)
  have C26 := Lib.hid (fun v w' (h : Strs w' v F) => ref_root HRB.out 40 F v w' HFl.out HFm.out h HFs.out)
  rw [HP.out, HPe.out] at C20 C21
  rw [HX.out, HXe.out] at C22 C23
  rw [R0.out] at C25 C26
  have SP := Lib.hid (fun v u w' (h : Strs w' v P) (h2 : Strs w' u P) => same_c P P v u w' h h2)
  have SX := Lib.hid (fun v u w' (h : Strs w' v X) (h2 : Strs w' u X) => same_c X X v u w' h h2)
  rw [show decide (P = P) = true from by simp] at SP
  rw [show decide (X = X) = true from by simp] at SX
  have d1 : (pe == pe) = true := by simp
  have d2 : (xe == xe) = true := by simp
  clear HP HPe HX HXe R0 HFl HFm HFs HRB
  go_enter Tryd.func4, Tryd.ntmps4
  go_wp2_with fail
  refine (sane_c _ HT.out).mono ?_
  rintro e w1 ⟨rfl, hb1⟩
  have HB1 := Lib.hid hb1
  clear hb1
  go_wp2_with fail
  refine (few_c L v 40 _ (by decide) (HS.out.below HB1.out) HZ.out).mono ?_
  rintro e w2 ⟨v2, rfl, ho2, hnil, hb2⟩
  have HB2 := Lib.hid (bt HB1.out hb2)
  clear hb2 HB1
  rw [HF.out] at ho2 hnil
  have HS2 := Lib.hid (OwnS.strs ho2)
  clear ho2 hnil
  go_wp2_with fail
  refine (C20.out _ _ HS2.out (HT.out.below HB2.out)).mono ?_
  rintro e w3 ⟨v3, rfl, hs3, hb3⟩
  have HB3 := Lib.hid (bt HB2.out hb3)
  have HS3 := Lib.hid (HS2.out.below hb3)
  have HP3 := Lib.hid hs3
  clear hb3 hs3 HB2 HS2
  go_wp2_with fail
  refine (C21.out _ _ HS3.out).mono ?_
  rintro e w4 ⟨v4, rfl, hs4, hb4⟩
  have HB4 := Lib.hid (bt HB3.out hb4)
  have HS4 := Lib.hid (HS3.out.below hb4)
  have HP4 := Lib.hid (HP3.out.below hb4)
  have HQ4 := Lib.hid hs4
  clear hb4 hs4 HB3 HS3 HP3
  go_wp2_with fail
  refine (C22.out _ _ HS4.out (HT.out.below HB4.out)).mono ?_
  rintro e w5 ⟨v5, rfl, hs5, hb5⟩
  have HB5 := Lib.hid (bt HB4.out hb5)
  have HS5 := Lib.hid (HS4.out.below hb5)
  have HP5 := Lib.hid (HP4.out.below hb5)
  have HQ5 := Lib.hid (HQ4.out.below hb5)
  have HX5 := Lib.hid hs5
  clear hb5 hs5 HB4 HS4 HP4 HQ4
  go_wp2_with fail
  refine (C23.out _ _ HS5.out).mono ?_
  rintro e w6 ⟨v6, rfl, hs6, hb6⟩
  have HB6 := Lib.hid (bt HB5.out hb6)
  have HS6 := Lib.hid (HS5.out.below hb6)
  have HP6 := Lib.hid (HP5.out.below hb6)
  have HQ6 := Lib.hid (HQ5.out.below hb6)
  have HX6 := Lib.hid (HX5.out.below hb6)
  have HY6 := Lib.hid hs6
  clear hb6 hs6 HB5 HS5 HP5 HQ5 HX5
  go_wp2_with fail
  refine (SP.out _ _ _ HP6.out HQ6.out).mono ?_
  rintro e w7 ⟨rfl, hb7⟩
  have HB7 := Lib.hid (bt HB6.out hb7)
  have HS7 := Lib.hid (HS6.out.below hb7)
  have HX7 := Lib.hid (HX6.out.below hb7)
  have HY7 := Lib.hid (HY6.out.below hb7)
  clear hb7 HB6 HS6 HP6 HQ6 HX6 HY6
  go_wp2_with fail
  refine (SX.out _ _ _ HX7.out HY7.out).mono ?_
  rintro e w8 ⟨rfl, hb8⟩
  have HB8 := Lib.hid (bt HB7.out hb8)
  have HS8 := Lib.hid (HS7.out.below hb8)
  clear hb8 HB7 HS7 HX7 HY7
  go_wp2_with fail
  refine (C25.out _ _ HS8.out (HT.out.below HB8.out)).mono ?_
  rintro e w9 ⟨rfl, hb9⟩
  have HB9 := Lib.hid (bt HB8.out hb9)
  have HS9 := Lib.hid (HS8.out.below hb9)
  clear hb9 HB8 HS8
  go_wp2_with fail
  refine (C26.out _ _ HS9.out).mono ?_
  rintro e w10 ⟨rfl, hb10⟩
  have HB10 := Lib.hid (bt HB9.out hb10)
  clear hb10
  go_wp2_with fail
  go_ret
  exact ⟨by simp, HB10.out⟩
end Go.Proofs.YtkmiodlehmocnaaDoor
