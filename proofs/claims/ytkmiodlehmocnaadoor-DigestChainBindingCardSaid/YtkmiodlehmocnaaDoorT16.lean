/- WALKS: sane of the laws. -/
import Derived.Test.YtkmiodlehmocnaaDoorT15
import Derived.Test.YtkmiodlehmocnaaDoorS5
set_option linter.unusedVariables false
namespace Go.Proofs.YtkmiodlehmocnaaDoor
open Go.RowKit

def hex1 : ByteArray := ⟨#[101, 51, 98, 48, 99, 52, 52, 50, 57, 56, 102, 99, 49, 99, 49, 52, 57, 97, 102, 98, 102, 52, 99, 56, 57, 57, 54, 102, 98, 57, 50, 52, 50, 55, 97, 101, 52, 49, 101, 52, 54, 52, 57, 98, 57, 51, 52, 99, 97, 52, 57, 53, 57, 57, 49, 98, 55, 56, 53, 50, 98, 56, 53, 53]⟩
def hex2 : ByteArray := ⟨#[98, 97, 55, 56, 49, 54, 98, 102, 56, 102, 48, 49, 99, 102, 101, 97, 52, 49, 52, 49, 52, 48, 100, 101, 53, 100, 97, 101, 50, 50, 50, 51, 98, 48, 48, 51, 54, 49, 97, 51, 57, 54, 49, 55, 55, 97, 57, 99, 98, 52, 49, 48, 102, 102, 54, 49, 102, 50, 48, 48, 49, 53, 97, 100]⟩
set_option maxRecDepth 100000 in
theorem hex_nil : hexTo [227, 176, 196, 66, 152, 252, 28, 20, 154, 251, 244, 200, 153, 111, 185, 36, 39, 174, 65, 228, 100, 155, 147, 76, 164, 149, 153, 27, 120, 82, 184, 85] 32 = hex1 := by decide +kernel
set_option maxRecDepth 100000 in
theorem hex_abc : hexTo [186, 120, 22, 191, 143, 1, 207, 234, 65, 65, 64, 222, 93, 174, 34, 35, 176, 3, 97, 163, 150, 23, 122, 156, 180, 16, 255, 97, 242, 0, 21, 173] 32 = hex2 := by decide +kernel
theorem hex_f1 : hexTo (nums (dg.f ⟨#[]⟩)) (dg.f ⟨#[]⟩).size = hex1 := by rw [num_f, dg.size, show nums ⟨#[]⟩ = [] from rfl, sha_nil, hex_nil]
theorem hex_f2 : hexTo (nums (dg.f ⟨#[97, 98, 99]⟩)) (dg.f ⟨#[97, 98, 99]⟩).size = hex2 := by rw [num_f, dg.size, show nums ⟨#[97, 98, 99]⟩ = [97, 98, 99] from rfl, sha_abc, hex_abc]

theorem strs_three (w : World) (a b c : ByteArray) : Strs (w.alloc (.cells #[.string a, .string b, .string c] 9)) (.slice (some ⟨w.heap.size, 0, none⟩) 3 3) [a, b, c] := by
  refine ⟨_, 3, 3, rfl, rfl, Nat.le_refl _, by unfold maxLen; omega, fun _ => ⟨w.heap.size, 0, rfl, by simp, fun j hj => ?_⟩⟩
  have := heap_alloc_new w (.cells #[.string a, .string b, .string c] 9)
  match j, hj with
  | 0, _ => rw [cell_of_row _ _ _ _ _ _ this]; rfl
  | 1, _ => rw [cell_of_row _ _ _ _ _ _ this]; rfl
  | 2, _ => rw [cell_of_row _ _ _ _ _ _ this]; rfl

theorem Strs.cut {w : World} {b o n cap : Nat} {L : List ByteArray} (h : Strs w (.slice (some ⟨b, o, none⟩) n cap) L) (k : Nat) (hk : k ≤ n) : Strs w (.slice (some ⟨b, o, none⟩) k cap) (L.take k) := by
  obtain ⟨a, n', cap', he, hn, hc, hm, h⟩ := h
  simp only [Value.slice.injEq] at he
  obtain ⟨rfl, rfl, rfl⟩ := he
  refine ⟨_, k, cap, rfl, by simp; omega, by omega, hm, fun h1 => ?_⟩
  obtain ⟨b', o', he, hb, hcell⟩ := h (by omega)
  simp only [Option.some.injEq, Addr.mk.injEq] at he
  obtain ⟨rfl, rfl, _⟩ := he
  exact ⟨b, o, rfl, hb, fun j hj => by rw [hcell j (by omega)]; simp [List.getD, List.getElem?_take, hj]⟩
theorem short_ex3 : Short ex3 := fun x hx => by
  simp only [ex3, List.mem_cons, List.not_mem_nil, or_false] at hx
  rcases hx with rfl | rfl | rfl <;> decide
theorem short_areD {L : List ByteArray} (h : areD L = true) : Short L := fun x hx => by
  have := List.all_eq_true.1 h x hx
  simp at this; omega

set_option maxRecDepth 100000 in
set_option maxHeartbeats 1000000 in
theorem sane_c (w : World) (hT : Tab w) : Calls Tryd.prog 10 #[] w fun e w' => e = .returned (.bool true) ∧ Below w.heap.size w w' := by
  have HT := Lib.hid hT
  clear hT
  have HS := Lib.hid (show Strs (w.alloc (.cells #[.string sa, .string sb, .string sc] 9)) (.slice (some ⟨w.heap.size, 0, none⟩) 3 3) ex3 from strs_three w sa sb sc)
  have HB := Lib.hid (show Below w.heap.size w (w.alloc (.cells #[.string sa, .string sb, .string sc] 9)) from (Below.refl _ w).alloc (Nat.le_refl _) _)
  go_enter Tryd.func10, Tryd.ntmps10
  go_wp2_with fail
  refine (proof_c ex3 _ 2 _ (by decide) (by decide) HS.out short_ex3 (HT.out.below HB.out)).mono ?_
  rintro e w1 ⟨vp, rfl, hp1, hb1⟩
  have HB1 := Lib.hid (bt HB.out hb1)
  have HS1 := Lib.hid (HS.out.below hb1)
  obtain ⟨ap, np, cp, rfl, hnp, hcp, hmp, hpc⟩ := OwnS.strs hp1
  obtain rfl : np = 1 := by rw [hnp, path_abc]; rfl
  have HP1 := Lib.hid (OwnS.strs hp1)
  clear hb1 hp1 HS HB hnp hcp hmp hpc
  go_wp2_with fail
  refine (ext_c ex3 _ 1 _ (by decide) (by decide) (by decide) HS1.out short_ex3 (HT.out.below HB1.out)).mono ?_
  rintro e w2 ⟨vx, rfl, hx2, hb2⟩
  have HB2 := Lib.hid (bt HB1.out hb2)
  have HS2 := Lib.hid (HS1.out.below hb2)
  have HP2 := Lib.hid (HP1.out.below hb2)
  obtain ⟨ax, nx, cx, rfl, hnx, hcx, hmx, hxc⟩ := OwnS.strs hx2
  obtain rfl : nx = 2 := by rw [hnx, beg_abc]; rfl
  have HX2 := Lib.hid (OwnS.strs hx2)
  clear hb2 hx2 HB1 HS1 HP1 hnx hcx hmx hxc
  go_wp2_with fail
  refine (proof_bad ex3 _ 3 _ (by decide) (.inr (by decide)) HS2.out).mono ?_
  rintro e w2 ⟨rfl, rfl⟩
  go_wp2_with fail
  refine (root_c 3 ex3 _ _ (by decide) HS2.out short_ex3 (HT.out.below HB2.out)).mono ?_
  rintro e w3 ⟨rfl, hb3⟩
  have HB3 := Lib.hid (bt HB2.out hb3)
  have HS3 := Lib.hid (HS2.out.below hb3)
  have HP3 := Lib.hid (HP2.out.below hb3)
  have HX3 := Lib.hid (HX2.out.below hb3)
  clear hb3 HB2 HS2 HP2 HX2
  go_wp2_with fail
  refine (sum_c ⟨#[]⟩ _ (show 0 ≤ 1000000000 by omega) (HT.out.below HB3.out)).mono ?_
  rintro e w4 ⟨rfl, hb4⟩
  have HB4 := Lib.hid (bt HB3.out hb4)
  have HS4 := Lib.hid (HS3.out.below hb4)
  have HP4 := Lib.hid (HP3.out.below hb4)
  have HX4 := Lib.hid (HX3.out.below hb4)
  clear hb4 HB3 HS3 HP3 HX3
  go_wp2_with fail
  refine (hex_c _ _ (by rw [dg.size]; omega)).mono ?_
  rintro e w5 ⟨rfl, hb5⟩
  rw [hex_f1]
  have HB5 := Lib.hid (bt HB4.out hb5)
  have HS5 := Lib.hid (HS4.out.below hb5)
  have HP5 := Lib.hid (HP4.out.below hb5)
  have HX5 := Lib.hid (HX4.out.below hb5)
  clear hb5 HB4 HS4 HP4 HX4
  have q1 : (hex1.toList == [101, 51, 98, 48, 99, 52, 52, 50, 57, 56, 102, 99, 49, 99, 49, 52, 57, 97, 102, 98, 102, 52, 99, 56, 57, 57, 54, 102, 98, 57, 50, 52, 50, 55, 97, 101, 52, 49, 101, 52, 54, 52, 57, 98, 57, 51, 52, 99, 97, 52, 57, 53, 57, 57, 49, 98, 55, 56, 53, 50, 98, 56, 53, 53]) = true := beq_iff_eq.2 (by rw [ByteArray.toList_eq]; rfl)
  have q2 : (hex2.toList == [98, 97, 55, 56, 49, 54, 98, 102, 56, 102, 48, 49, 99, 102, 101, 97, 52, 49, 52, 49, 52, 48, 100, 101, 53, 100, 97, 101, 50, 50, 50, 51, 98, 48, 48, 51, 54, 49, 97, 51, 57, 54, 49, 55, 55, 97, 57, 99, 98, 52, 49, 48, 102, 102, 54, 49, 102, 50, 48, 48, 49, 53, 97, 100]) = true := beq_iff_eq.2 (by rw [ByteArray.toList_eq]; rfl)
  go_wp2_with fail
  refine (sum_c ⟨#[97, 98, 99]⟩ _ (show 3 ≤ 1000000000 by omega) (HT.out.below HB5.out)).mono ?_
  rintro e w6 ⟨rfl, hb6⟩
  have HB6 := Lib.hid (bt HB5.out hb6)
  have HS6 := Lib.hid (HS5.out.below hb6)
  have HP6 := Lib.hid (HP5.out.below hb6)
  have HX6 := Lib.hid (HX5.out.below hb6)
  clear hb6 HB5 HS5 HP5 HX5
  go_wp2_with fail
  refine (hex_c _ _ (by rw [dg.size]; omega)).mono ?_
  rintro e w7 ⟨rfl, hb7⟩
  rw [hex_f2]
  have HB7 := Lib.hid (bt HB6.out hb7)
  have HS7 := Lib.hid (HS6.out.below hb7)
  have HP7 := Lib.hid (HP6.out.below hb7)
  have HX7 := Lib.hid (HX6.out.below hb7)
  clear hb7 HB6 HS6 HP6 HX6
  go_wp2_with fail
  refine (verify_c (dg.root ex3) 3 2 sc _ (dg.path ex3 2) _ (by decide) (by decide) (by decide) (by decide) (by decide) HP7.out (short_areD (dg.path_areD _ _)) (HT.out.below HB7.out)).mono ?_
  rintro e w8 ⟨rfl, hb8⟩
  rw [ver_c]
  have HB8 := Lib.hid (bt HB7.out hb8)
  have HS8 := Lib.hid (HS7.out.below hb8)
  have HP8 := Lib.hid (HP7.out.below hb8)
  have HX8 := Lib.hid (HX7.out.below hb8)
  clear hb8 HB7 HS7 HP7 HX7
  go_wp2_with fail
  refine (verify_c (dg.root ex3) 3 2 sd _ (dg.path ex3 2) _ (by decide) (by decide) (by decide) (by decide) (by decide) HP8.out (short_areD (dg.path_areD _ _)) (HT.out.below HB8.out)).mono ?_
  rintro e w9 ⟨rfl, hb9⟩
  rw [ver_d]
  have HB9 := Lib.hid (bt HB8.out hb9)
  have HS9 := Lib.hid (HS8.out.below hb9)
  have HX9 := Lib.hid (HX8.out.below hb9)
  clear hb9 HB8 HS8 HP8 HX8
  go_wp2_with fail
  refine (root_c 3 [sa] _ _ (by decide) (HS9.out.cut 1 (by omega)) (short_ex3.take 1) (HT.out.below HB9.out)).mono ?_
  rintro e w10 ⟨rfl, hb10⟩
  have HB10 := Lib.hid (bt HB9.out hb10)
  have HS10 := Lib.hid (HS9.out.below hb10)
  have HX10 := Lib.hid (HX9.out.below hb10)
  clear hb10 HB9 HS9 HX9
  go_wp2_with fail
  refine (verifyExt_c (dg.root [sa]) 1 (dg.root ex3) 3 _ (dg.beg ex3 1 true) _ (by decide) (by decide) (by decide) (by decide) (by rw [dg.root_size]; decide) (by rw [dg.root_size]; decide) HX10.out (short_areD (dg.beg_areD _ _ _)) (HT.out.below HB10.out)).mono ?_
  rintro e w11 ⟨rfl, hb11⟩
  rw [ext_a]
  have HB11 := Lib.hid (bt HB10.out hb11)
  have HS11 := Lib.hid (HS10.out.below hb11)
  have HX11 := Lib.hid (HX10.out.below hb11)
  clear hb11 HB10 HS10 HX10
  go_wp2_with fail
  refine (root_c 3 [sa, sb] _ _ (by decide) (HS11.out.cut 2 (by omega)) (short_ex3.take 2) (HT.out.below HB11.out)).mono ?_
  rintro e w12 ⟨rfl, hb12⟩
  have HB12 := Lib.hid (bt HB11.out hb12)
  have HX12 := Lib.hid (HX11.out.below hb12)
  clear hb12 HB11 HS11 HX11
  go_wp2_with fail
  refine (verifyExt_c (dg.root [sa, sb]) 1 (dg.root ex3) 3 _ (dg.beg ex3 1 true) _ (by decide) (by decide) (by decide) (by decide) (by rw [dg.root_size]; decide) (by rw [dg.root_size]; decide) HX12.out (short_areD (dg.beg_areD _ _ _)) (HT.out.below HB12.out)).mono ?_
  rintro e w13 ⟨rfl, hb13⟩
  rw [ext_b]
  go_wp2_with fail
  go_ret
  exact ⟨rfl, bt HB12.out hb13⟩
end Go.Proofs.YtkmiodlehmocnaaDoor
