/- PLAIN: the fixed examples of the law's first function. No walk stands in it. -/
import Derived.Test.YtpapfegbodolgaaDoorS1
import Derived.Test.YtpapfegbodolgaaDoorP7
import Derived.Test.YtpapfegbodolgaaDoorLD
set_option linter.unusedSimpArgs false
set_option linter.unusedVariables false
set_option linter.unnecessarySimpa false
namespace Go.Proofs.YtpapfegbodolgaaDoor
open Go.RowKit
set_option maxRecDepth 100000
theorem y_la : sha [0, 0, 0, 0, 0, 0, 0, 0, 0, 0, 0, 0, 0, 0, 0, 0, 0, 0, 0, 0, 0, 0, 0, 0, 0, 0, 0, 0, 0, 0, 0, 0, 0, 0, 1, 0, 0, 0, 0, 0, 0, 0, 0, 0, 0, 0, 0, 0, 0, 0, 0, 0, 0, 0, 0, 0, 0, 0, 0, 0, 0, 0, 0, 0, 0, 0] = [19, 63, 47, 178, 185, 136, 79, 33, 44, 185, 129, 135, 30, 58, 51, 189, 221, 149, 196, 15, 198, 90, 67, 161, 171, 33, 193, 1, 29, 26, 72, 199] := by decide +kernel
theorem y_sc : sha [2, 0, 0, 0, 0, 0, 0, 0, 0, 0, 0, 0, 0, 0, 0, 0, 0, 0, 0, 0, 0, 0, 0, 0, 0, 0, 0, 0, 0, 0, 0, 0, 0, 2, 2, 6, 4, 4, 14, 0, 0] = [82, 33, 72, 159, 147, 106, 190, 221, 205, 83, 37, 209, 236, 186, 15, 230, 187, 164, 15, 108, 54, 99, 98, 98, 157, 34, 126, 6, 132, 210, 144, 188] := by decide +kernel
theorem y_lb : sha [0, 2, 82, 33, 72, 159, 147, 106, 190, 221, 205, 83, 37, 209, 236, 186, 15, 230, 187, 164, 15, 108, 54, 99, 98, 98, 157, 34, 126, 6, 132, 210, 144, 188, 2, 0, 0, 0, 0, 0, 0, 0, 0, 0, 0, 0, 0, 0, 0, 0, 0, 0, 0, 0, 0, 0, 0, 0, 0, 0, 0, 0, 0, 0, 0, 0] = [200, 237, 221, 63, 238, 170, 249, 30, 122, 166, 31, 64, 116, 216, 87, 205, 235, 92, 116, 120, 35, 171, 23, 100, 148, 111, 58, 135, 195, 85, 159, 190] := by decide +kernel
theorem y_r : sha [1, 19, 63, 47, 178, 185, 136, 79, 33, 44, 185, 129, 135, 30, 58, 51, 189, 221, 149, 196, 15, 198, 90, 67, 161, 171, 33, 193, 1, 29, 26, 72, 199, 200, 237, 221, 63, 238, 170, 249, 30, 122, 166, 31, 64, 116, 216, 87, 205, 235, 92, 116, 120, 35, 171, 23, 100, 148, 111, 58, 135, 195, 85, 159, 190] = [229, 47, 121, 52, 135, 84, 134, 146, 58, 83, 128, 228, 215, 26, 244, 219, 252, 248, 185, 129, 204, 215, 8, 142, 144, 227, 39, 143, 113, 193, 209, 176] := by decide +kernel
theorem y_x : sha [1, 19, 63, 47, 178, 185, 136, 79, 33, 44, 185, 129, 135, 30, 58, 51, 189, 221, 149, 196, 15, 198, 90, 67, 161, 171, 33, 193, 1, 29, 26, 72, 199, 19, 63, 47, 178, 185, 136, 79, 33, 44, 185, 129, 135, 30, 58, 51, 189, 221, 149, 196, 15, 198, 90, 67, 161, 171, 33, 193, 1, 29, 26, 72, 199] = [63, 243, 53, 214, 177, 9, 123, 181, 219, 31, 200, 72, 161, 79, 122, 72, 136, 88, 231, 220, 92, 183, 205, 241, 221, 22, 222, 128, 49, 166, 123, 45] := by decide +kernel

theorem zr_nums : nums zr32 = [0, 0, 0, 0, 0, 0, 0, 0, 0, 0, 0, 0, 0, 0, 0, 0, 0, 0, 0, 0, 0, 0, 0, 0, 0, 0, 0, 0, 0, 0, 0, 0] := by decide +kernel
theorem st_nums (n : Int) : nums (stS n) = stN n := by
  refine strOf'_nums fun b hb => ?_
  simp only [stN, List.mem_append, List.mem_cons, List.not_mem_nil, or_false, List.mem_replicate] at hb
  rcases hb with (rfl | rfl | rfl | rfl | rfl | rfl | rfl | rfl) | ⟨-, rfl⟩ <;> omega
theorem st1_nums : nums (stS 1) = [1, 0, 0, 0, 0, 0, 0, 0, 0, 0, 0, 0, 0, 0, 0, 0, 0, 0, 0, 0, 0, 0, 0, 0, 0, 0, 0, 0, 0, 0, 0, 0] := (st_nums 1).trans (by decide)
theorem st2_nums : nums (stS 2) = [2, 0, 0, 0, 0, 0, 0, 0, 0, 0, 0, 0, 0, 0, 0, 0, 0, 0, 0, 0, 0, 0, 0, 0, 0, 0, 0, 0, 0, 0, 0, 0] := (st_nums 2).trans (by decide)
theorem encI0 : encI 0 = ⟨#[0]⟩ := by decide +kernel
theorem encI1 : encI 1 = ⟨#[2]⟩ := by decide +kernel
theorem zr_of : strOf' (List.replicate 32 0) = zr32 := by decide +kernel

/-- The record and the heads of the examples. -/
def rX : MRec := ⟨1, [chg 7]⟩
def hX0 : MHead := ⟨0, zr32, stS 1⟩
def hX1 : MHead := nxH hX0 1 [chg 7] (stS 2)
theorem rx_nums : nums (encRecS 1 [chg 7]) = [2, 2, 6, 4, 4, 14, 0, 0] := by decide +kernel
theorem hok_x0 : Hok hX0 := ⟨⟨by decide, by decide⟩, zr32_size, stS_size 1⟩
theorem nx_x : NxOk hX0 1 [chg 7] (stS 2) := ⟨by decide, hok_x0, rfl, stS_size 2⟩
theorem hok_x1 : Hok hX1 := nx_ok nx_x
theorem nx_no (st : ByteArray) : ¬ NxOk hX1 1 [chg 7] st := fun h => absurd h.2.2.1 (by show ¬ (1 : Int) = 1 + 1; decide)
theorem enc_x0 : nums (encH hX0) = [0, 0, 0, 0, 0, 0, 0, 0, 0, 0, 0, 0, 0, 0, 0, 0, 0, 0, 0, 0, 0, 0, 0, 0, 0, 0, 0, 0, 0, 0, 0, 0, 0, 1, 0, 0, 0, 0, 0, 0, 0, 0, 0, 0, 0, 0, 0, 0, 0, 0, 0, 0, 0, 0, 0, 0, 0, 0, 0, 0, 0, 0, 0, 0, 0] := by
  show nums (encI 0 ++ zr32 ++ stS 1) = _
  rw [nums_append, nums_append, zr_nums, st1_nums, encI0]; rfl
theorem chain_x : nums hX1.c = [82, 33, 72, 159, 147, 106, 190, 221, 205, 83, 37, 209, 236, 186, 15, 230, 187, 164, 15, 108, 54, 99, 98, 98, 157, 34, 126, 6, 132, 210, 144, 188] := by
  show nums (dg.chain zr32 (encRecS 1 [chg 7])) = _
  rw [Dig.chain, num_f, Dig.chainS, nums_append, nums_append, zr_nums, rx_nums]
  exact y_sc
theorem enc_x1 : nums (encH hX1) = [2, 82, 33, 72, 159, 147, 106, 190, 221, 205, 83, 37, 209, 236, 186, 15, 230, 187, 164, 15, 108, 54, 99, 98, 98, 157, 34, 126, 6, 132, 210, 144, 188, 2, 0, 0, 0, 0, 0, 0, 0, 0, 0, 0, 0, 0, 0, 0, 0, 0, 0, 0, 0, 0, 0, 0, 0, 0, 0, 0, 0, 0, 0, 0, 0] := by
  show nums (encI 1 ++ hX1.c ++ stS 2) = _
  rw [nums_append, nums_append, chain_x, st2_nums, encI1]; rfl
theorem encx_ne : dg.node (dg.leaf (encH hX0)) (dg.leaf (encH hX0)) ≠ dg.root [encH hX0, encH hX1] := by
  intro h
  have := congrArg nums h
  rw [dg.root_two (by simp), show ([encH hX0, encH hX1] : List ByteArray).length = 2 from rfl, spl2] at this
  simp only [List.take_succ_cons, List.take_zero, List.drop_succ_cons, List.drop_zero] at this
  rw [dg.root_one, dg.root_one, num_node, num_node, num_leaf, num_leaf, enc_x0, enc_x1] at this
  simp only [List.cons_append, List.nil_append] at this
  rw [y_la, y_lb] at this
  simp only [List.cons_append, List.nil_append] at this
  rw [y_x, y_r] at this
  exact absurd this (by decide)
theorem path_x : dg.path [encH hX0, encH hX1] 1 = [dg.leaf (encH hX0)] := by
  rw [dg.path_ge (by simp) (by rw [show ([encH hX0, encH hX1] : List ByteArray).length = 2 from rfl, spl2]; exact Nat.le_refl _), show ([encH hX0, encH hX1] : List ByteArray).length = 2 from rfl, spl2]
  simp only [List.take_succ_cons, List.take_zero, List.drop_succ_cons, List.drop_zero]
  rw [dg.path_one (by simp), dg.root_one]; rfl
theorem ver_path (L : List ByteArray) (i : Nat) (hi : i < L.length) : dg.verify (dg.root L) L.length i (L.getD i ⟨#[]⟩) (dg.path L i) = true := by
  have h := dg.val_path L i hi
  unfold Dig.verify
  rw [if_neg (by rw [dg.path_areD]; simp; omega), Int.toNat_natCast, Int.toNat_natCast, h]
  simp
theorem ver_x1 : verH (dg.root [encH hX0, encH hX1]) 1 hX1 (dg.path [encH hX0, encH hX1] 1) = true := by
  unfold verH
  rw [if_pos ⟨by decide, by decide, hok_x1, by decide⟩]
  exact ver_path [encH hX0, encH hX1] 1 (by decide)
theorem ver_x0 : verH (dg.root [encH hX0, encH hX1]) 1 hX0 (dg.path [encH hX0, encH hX1] 1) = false := by
  unfold verH
  rw [if_pos ⟨by decide, by decide, hok_x0, by decide⟩]
  unfold Dig.verify
  rw [if_neg (by rw [dg.path_areD]; simp [show hX0.p = 0 from rfl]), show (((1 : Int) + 1).toNat) = 2 from rfl, show (hX0.p.toNat) = 0 from rfl, path_x,
    show [dg.leaf (encH hX0)] = [] ++ [dg.leaf (encH hX0)] from rfl, dg.val_lt _ _ _ (by decide) (by rw [spl2]; decide), spl2, dg.val_one]
  simp [encx_ne]
theorem flw_x1 : flw hX0 [rX] hX1 = true := by
  unfold flw
  refine decide_eq_true ⟨hok_x0, hok_x1, ?_⟩
  show folR (stS 2) hX0 [rX] = some hX1
  unfold folR
  rw [if_pos (show NxOk hX0 rX.pos rX.chs (stS 2) from nx_x)]
  rfl
theorem flw_x0 : flw hX0 [] hX1 = false := by
  unfold flw
  refine decide_eq_false fun h => ?_
  have := h.2.2
  simp only [folR, Option.some.injEq] at this
  exact absurd (congrArg MHead.p this) (by show ¬ (0 : Int) = 1; decide)

/-- What a valid head's encoding is read as. -/
theorem encH_list (h : MHead) : (encH h).data.toList = encInt h.p ++ (h.c.data.toList ++ h.s.data.toList) := by
  simp [encH, encI]
theorem enc_dec {h : MHead} (k : Hok h) : decH (encH h) = (h, 0) := by
  obtain ⟨⟨h0, h1⟩, h2, h3⟩ := id k
  have e : decInt (encH h).data.toList = some (h.p, (encInt h.p).length) := by
    rw [encH_list]; exact decInt_enc h.p _ (by omega) (by omega)
  have es : (encI h.p).size = (encInt h.p).length := rfl
  have r : rdH (encH h) h.p (encInt h.p).length = h := by
    have e1 : (encH h).extract (encInt h.p).length ((encInt h.p).length + 32) = h.c := by
      rw [encH, ByteArray.append_assoc, ByteArray.extract_append, ← es]
      have a1 : (encI h.p).extract (encI h.p).size ((encI h.p).size + 32) = ByteArray.empty := by
        simp
      rw [a1, Nat.sub_self, Nat.add_sub_cancel_left, ByteArray.extract_append, ← h2]
      simp
    have e2 : (encH h).extract ((encInt h.p).length + 32) (encH h).size = h.s := by
      have g : ∀ x y : ByteArray, (x ++ y).extract x.size (x ++ y).size = y := fun x y => by
        rw [ByteArray.extract_append, ByteArray.size_append]
        have a2 : x.extract x.size (x.size + y.size) = ByteArray.empty := by simp
        rw [a2]; simp
      have := g (encI h.p ++ h.c) h.s
      rwa [show (encI h.p ++ h.c).size = (encInt h.p).length + 32 from by rw [ByteArray.size_append, es, h2]] at this
    unfold rdH
    rw [e1, e2]
  unfold decH
  rw [e]
  simp only
  rw [if_pos (show (encH h).size = (encInt h.p).length + 64 by rw [encH, ByteArray.size_append, ByteArray.size_append, es]; omega), r, if_pos k]
theorem decH_x : decH (encH hX1) = (hX1, 0) := enc_dec hok_x1
theorem encx_size : (encH hX1).size = 65 := by
  show (encI 1 ++ hX1.c ++ stS 2).size = 65
  rw [ByteArray.size_append, ByteArray.size_append, encI1, stS_size, hok_x1.2.1]; rfl
theorem empty_x : (⟨#[0]⟩ : ByteArray) ++ zr32 ++ stS 1 = encH hX0 := by
  show _ = encI 0 ++ zr32 ++ stS 1
  rw [encI0]
theorem getX : ([hX0] : List MHead).getD ([] : List MRec).length hdZ = hX0 := rfl
end Go.Proofs.YtpapfegbodolgaaDoor
