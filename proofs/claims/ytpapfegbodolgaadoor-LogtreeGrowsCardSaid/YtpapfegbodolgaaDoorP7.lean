/- MERGED: DS4, DS5, DT15, DT16, DT17. -/
import Derived.Test.YtpapfegbodolgaaDoorP4
import Derived.Test.YtpapfegbodolgaaDoorDT8
import Derived.Test.YtpapfegbodolgaaDoorDT14
import Derived.Test.YtpapfegbodolgaaDoorP6
section
set_option linter.unusedVariables false
set_option linter.unusedSimpArgs false
namespace Go.Proofs.YtpapfegbodolgaaDoor
set_option maxRecDepth 100000
theorem x_la : sha [0, 97] = [2, 42, 105, 121, 230, 218, 183, 170, 90, 228, 195, 229, 228, 95, 126, 151, 113, 18, 167, 230, 53, 147, 130, 13, 190, 193, 236, 115, 138, 36, 249, 60] := by decide +kernel
theorem x_lb : sha [0, 98] = [87, 235, 53, 97, 93, 71, 243, 78, 199, 20, 202, 205, 245, 253, 116, 96, 138, 94, 142, 16, 39, 36, 232, 11, 36, 178, 135, 192, 194, 123, 106, 49] := by decide +kernel
theorem x_lc : sha [0, 99] = [89, 127, 203, 49, 40, 45, 52, 101, 76, 32, 13, 52, 24, 252, 165, 112, 92, 100, 142, 191, 50, 110, 199, 61, 141, 222, 241, 24, 65, 248, 118, 216] := by decide +kernel
theorem x_ld : sha [0, 100] = [208, 112, 220, 91, 141, 169, 174, 167, 220, 15, 90, 212, 194, 157, 137, 150, 82, 0, 5, 156, 154, 12, 236, 163, 171, 213, 218, 36, 146, 220, 183, 29] := by decide +kernel
theorem x_ab : sha [1, 2, 42, 105, 121, 230, 218, 183, 170, 90, 228, 195, 229, 228, 95, 126, 151, 113, 18, 167, 230, 53, 147, 130, 13, 190, 193, 236, 115, 138, 36, 249, 60, 87, 235, 53, 97, 93, 71, 243, 78, 199, 20, 202, 205, 245, 253, 116, 96, 138, 94, 142, 16, 39, 36, 232, 11, 36, 178, 135, 192, 194, 123, 106, 49] = [177, 55, 152, 95, 244, 132, 251, 96, 13, 185, 49, 7, 199, 123, 3, 101, 200, 13, 120, 245, 180, 41, 222, 208, 253, 151, 54, 29, 7, 121, 153, 235] := by decide +kernel
theorem x_r : sha [1, 177, 55, 152, 95, 244, 132, 251, 96, 13, 185, 49, 7, 199, 123, 3, 101, 200, 13, 120, 245, 180, 41, 222, 208, 253, 151, 54, 29, 7, 121, 153, 235, 89, 127, 203, 49, 40, 45, 52, 101, 76, 32, 13, 52, 24, 252, 165, 112, 92, 100, 142, 191, 50, 110, 199, 61, 141, 222, 241, 24, 65, 248, 118, 216] = [54, 100, 46, 115, 194, 84, 10, 177, 33, 227, 166, 191, 149, 69, 176, 162, 73, 130, 205, 131, 14, 177, 61, 60, 209, 157, 227, 206, 108, 2, 30, 193] := by decide +kernel
theorem x_rd : sha [1, 177, 55, 152, 95, 244, 132, 251, 96, 13, 185, 49, 7, 199, 123, 3, 101, 200, 13, 120, 245, 180, 41, 222, 208, 253, 151, 54, 29, 7, 121, 153, 235, 208, 112, 220, 91, 141, 169, 174, 167, 220, 15, 90, 212, 194, 157, 137, 150, 82, 0, 5, 156, 154, 12, 236, 163, 171, 213, 218, 36, 146, 220, 183, 29] = [11, 137, 49, 181, 17, 196, 191, 58, 231, 206, 86, 31, 156, 18, 116, 111, 70, 5, 244, 46, 236, 117, 24, 141, 22, 184, 218, 186, 37, 48, 72, 132] := by decide +kernel
theorem x_b2 : sha [1, 177, 55, 152, 95, 244, 132, 251, 96, 13, 185, 49, 7, 199, 123, 3, 101, 200, 13, 120, 245, 180, 41, 222, 208, 253, 151, 54, 29, 7, 121, 153, 235, 87, 235, 53, 97, 93, 71, 243, 78, 199, 20, 202, 205, 245, 253, 116, 96, 138, 94, 142, 16, 39, 36, 232, 11, 36, 178, 135, 192, 194, 123, 106, 49] = [174, 64, 140, 162, 195, 118, 124, 82, 232, 115, 100, 129, 196, 94, 120, 216, 153, 5, 120, 176, 239, 140, 226, 106, 139, 116, 103, 128, 205, 233, 151, 16] := by decide +kernel
theorem x_r2 : sha [1, 174, 64, 140, 162, 195, 118, 124, 82, 232, 115, 100, 129, 196, 94, 120, 216, 153, 5, 120, 176, 239, 140, 226, 106, 139, 116, 103, 128, 205, 233, 151, 16, 89, 127, 203, 49, 40, 45, 52, 101, 76, 32, 13, 52, 24, 252, 165, 112, 92, 100, 142, 191, 50, 110, 199, 61, 141, 222, 241, 24, 65, 248, 118, 216] = [179, 47, 200, 233, 115, 55, 22, 14, 104, 174, 6, 157, 155, 157, 219, 50, 253, 112, 219, 46, 13, 228, 29, 87, 29, 255, 220, 190, 234, 6, 61, 139] := by decide +kernel
end Go.Proofs.YtpapfegbodolgaaDoor
end

section
set_option linter.unusedSimpArgs false
set_option linter.unusedVariables false
namespace Go.Proofs.YtpapfegbodolgaaDoor

theorem num_f (s : ByteArray) : nums (dg.f s) = sha (nums s) := strOf'_nums (bytes_lt _)
theorem num_leaf (s : ByteArray) : nums (dg.leaf s) = sha ([0] ++ nums s) := by
  rw [Dig.leaf, num_f, Dig.leafS, nums_append]; rfl
theorem num_node (a b : ByteArray) : nums (dg.node a b) = sha ([1] ++ nums a ++ nums b) := by
  rw [Dig.node, num_f, Dig.nodeS, nums_append, nums_append]; rfl
abbrev sa : ByteArray := ⟨#[97]⟩
abbrev sb : ByteArray := ⟨#[98]⟩
abbrev scD : ByteArray := ⟨#[99]⟩
abbrev sd : ByteArray := ⟨#[100]⟩
def ex3 : List ByteArray := [sa, sb, scD]
theorem spl3 : spl 3 = 2 := by decide
theorem spl2 : spl 2 = 1 := by decide
theorem root_ab : dg.root [sa, sb] = dg.node (dg.leaf sa) (dg.leaf sb) := by
  rw [dg.root_two (by simp), show ([sa, sb] : List ByteArray).length = 2 from rfl, spl2]
  simp only [List.take_succ_cons, List.take_zero, List.drop_succ_cons, List.drop_zero]
  rw [dg.root_one, dg.root_one]
theorem root_abc : dg.root ex3 = dg.node (dg.root [sa, sb]) (dg.leaf scD) := by
  unfold ex3
  rw [dg.root_two (by simp), show ([sa, sb, scD] : List ByteArray).length = 3 from rfl, spl3]
  simp only [List.take_succ_cons, List.take_zero, List.drop_succ_cons, List.drop_zero]
  rw [dg.root_one]
theorem path_abc : dg.path ex3 2 = [dg.root [sa, sb]] := by
  unfold ex3
  rw [dg.path_ge (by simp) (by rw [show ([sa, sb, scD] : List ByteArray).length = 3 from rfl, spl3]; exact Nat.le_refl _), show ([sa, sb, scD] : List ByteArray).length = 3 from rfl, spl3]
  simp only [List.take_succ_cons, List.take_zero, List.drop_succ_cons, List.drop_zero]
  rw [dg.path_one (by simp)]; rfl
theorem beg_abc : dg.beg ex3 1 true = [dg.leaf sb, dg.leaf scD] := by
  unfold ex3
  rw [dg.beg_le true (by simp) (by simp) (by rw [show ([sa, sb, scD] : List ByteArray).length = 3 from rfl, spl3]; decide), show ([sa, sb, scD] : List ByteArray).length = 3 from rfl, spl3]
  simp only [List.take_succ_cons, List.take_zero, List.drop_succ_cons, List.drop_zero]
  rw [dg.beg_le true (by simp) (by simp) (by rw [show ([sa, sb] : List ByteArray).length = 2 from rfl, spl2]; exact Nat.le_refl _), show ([sa, sb] : List ByteArray).length = 2 from rfl, spl2]
  simp only [List.take_succ_cons, List.take_zero, List.drop_succ_cons, List.drop_zero]
  rw [dg.beg_all (by rfl)]
  simp only [dg.root_one]
  rfl
theorem num_ab : nums (dg.root [sa, sb]) = sha ([1] ++ sha [0, 97] ++ sha [0, 98]) := by rw [root_ab, num_node, num_leaf, num_leaf]; rfl
theorem ne_d : dg.node (dg.root [sa, sb]) (dg.leaf sd) ≠ dg.root ex3 := by
  intro h
  have := congrArg nums h
  rw [root_abc, num_node, num_node, num_ab, num_leaf, num_leaf] at this
  rw [show [0] ++ nums sd = [0, 100] from rfl, show [0] ++ nums scD = [0, 99] from rfl, x_la, x_lb, x_lc, x_ld] at this
  simp only [List.cons_append, List.nil_append] at this
  rw [x_ab] at this
  simp only [List.cons_append, List.nil_append] at this
  rw [x_r, x_rd] at this
  exact absurd this (by decide)
theorem ne_b : dg.node (dg.node (dg.root [sa, sb]) (dg.leaf sb)) (dg.leaf scD) ≠ dg.root ex3 := by
  intro h
  have := congrArg nums h
  rw [root_abc, num_node, num_node, num_node, num_ab, num_leaf, num_leaf] at this
  rw [show [0] ++ nums sb = [0, 98] from rfl, show [0] ++ nums scD = [0, 99] from rfl, x_la, x_lb, x_lc] at this
  simp only [List.cons_append, List.nil_append] at this
  rw [x_ab] at this
  simp only [List.cons_append, List.nil_append] at this
  rw [x_r, x_b2] at this
  simp only [List.cons_append, List.nil_append] at this
  rw [x_r2] at this
  exact absurd this (by decide)
theorem ver_c : dg.verify (dg.root ex3) 3 2 scD (dg.path ex3 2) = true := by
  have h := dg.val_path ex3 2 (by decide)
  unfold Dig.verify
  rw [if_neg (by rw [dg.path_areD]; simp), show ((3 : Int).toNat) = ex3.length from rfl, show ((2 : Int).toNat) = 2 from rfl, show scD = ex3.getD 2 ⟨#[]⟩ from rfl, h]
  simp
theorem ver_d : dg.verify (dg.root ex3) 3 2 sd (dg.path ex3 2) = false := by
  unfold Dig.verify
  rw [if_neg (by rw [dg.path_areD]; simp), show ((3 : Int).toNat) = 3 from rfl, show ((2 : Int).toNat) = 2 from rfl, path_abc,
    show [dg.root [sa, sb]] = [] ++ [dg.root [sa, sb]] from rfl, dg.val_ge _ _ _ (by decide) (by rw [spl3]; exact Nat.le_refl _), spl3, dg.val_one]
  simp [ne_d]
theorem ext_a : dg.verifyExt (dg.root [sa]) 1 (dg.root ex3) 3 (dg.beg ex3 1 true) = true := by
  have h := dg.two_beg ex3 1 true (dg.root [sa]) (by decide) (by decide) (fun _ => rfl)
  unfold Dig.verifyExt
  rw [if_neg (by rw [dg.beg_areD]; simp [areD, dg.root_size]), if_neg (by decide), show ((3 : Int).toNat) = ex3.length from rfl, show ((1 : Int).toNat) = 1 from rfl, h]
  simp [ex3]
theorem ext_b : dg.verifyExt (dg.root [sa, sb]) 1 (dg.root ex3) 3 (dg.beg ex3 1 true) = false := by
  unfold Dig.verifyExt
  rw [if_neg (by rw [dg.beg_areD]; simp [areD, dg.root_size]), if_neg (by decide), show ((3 : Int).toNat) = 3 from rfl, show ((1 : Int).toNat) = 1 from rfl, beg_abc,
    show [dg.leaf sb, dg.leaf scD] = [dg.leaf sb] ++ [dg.leaf scD] from rfl, dg.two_le _ _ _ _ (by decide) (by decide) (by rw [spl3]; decide), spl3,
    show [dg.leaf sb] = [] ++ [dg.leaf sb] from rfl, dg.two_le _ _ _ _ (by decide) (by decide) (by rw [spl2]; exact Nat.le_refl _), spl2, dg.two_whole]
  simp [ne_b]
end Go.Proofs.YtpapfegbodolgaaDoor
end

section
set_option linter.unusedSimpArgs false
set_option linter.unusedVariables false
namespace Go.Proofs.YtpapfegbodolgaaDoor
open Go.RowKit

def hexAll : ByteArray := ⟨#[48, 49, 50, 51, 52, 53, 54, 55, 56, 57, 97, 98, 99, 100, 101, 102]⟩
/-- The digits of the first k bytes. -/
def hexTo (l : List Nat) : Nat → ByteArray
  | 0 => ⟨#[]⟩
  | k + 1 => hexTo l k ++ hexAll.extract (l.getD k 0 / 16) (l.getD k 0 / 16 + 1) ++ hexAll.extract (l.getD k 0 % 16) (l.getD k 0 % 16 + 1)

end Go.Proofs.YtpapfegbodolgaaDoor
end

section
set_option linter.unusedSimpArgs false
set_option linter.unusedVariables false
namespace Go.Proofs.YtpapfegbodolgaaDoor
open Go.RowKit

def hex1 : ByteArray := ⟨#[101, 51, 98, 48, 99, 52, 52, 50, 57, 56, 102, 99, 49, 99, 49, 52, 57, 97, 102, 98, 102, 52, 99, 56, 57, 57, 54, 102, 98, 57, 50, 52, 50, 55, 97, 101, 52, 49, 101, 52, 54, 52, 57, 98, 57, 51, 52, 99, 97, 52, 57, 53, 57, 57, 49, 98, 55, 56, 53, 50, 98, 56, 53, 53]⟩
def hex2 : ByteArray := ⟨#[98, 97, 55, 56, 49, 54, 98, 102, 56, 102, 48, 49, 99, 102, 101, 97, 52, 49, 52, 49, 52, 48, 100, 101, 53, 100, 97, 101, 50, 50, 50, 51, 98, 48, 48, 51, 54, 49, 97, 51, 57, 54, 49, 55, 55, 97, 57, 99, 98, 52, 49, 48, 102, 102, 54, 49, 102, 50, 48, 48, 49, 53, 97, 100]⟩
set_option maxRecDepth 100000 in
theorem hex_nil : hexTo [227, 176, 196, 66, 152, 252, 28, 20, 154, 251, 244, 200, 153, 111, 185, 36, 39, 174, 65, 228, 100, 155, 147, 76, 164, 149, 153, 27, 120, 82, 184, 85] 32 = hex1 := by decide +kernel
set_option maxRecDepth 100000 in
theorem hex_abc : hexTo [186, 120, 22, 191, 143, 1, 207, 234, 65, 65, 64, 222, 93, 174, 34, 35, 176, 3, 97, 163, 150, 23, 122, 156, 180, 16, 255, 97, 242, 0, 21, 173] 32 = hex2 := by decide +kernel
theorem hex_f1 : hexTo (nums (dg.f ⟨#[]⟩)) (dg.f ⟨#[]⟩).size = hex1 := by rw [num_f, dg.size, show nums ⟨#[]⟩ = [] from rfl, sha_nil, hex_nil]
theorem hex_f2 : hexTo (nums (dg.f ⟨#[97, 98, 99]⟩)) (dg.f ⟨#[97, 98, 99]⟩).size = hex2 := by rw [num_f, dg.size, show nums ⟨#[97, 98, 99]⟩ = [97, 98, 99] from rfl, sha_abc, hex_abc]

theorem strs_three (w : World) (a b c : ByteArray) : Strs (w.alloc (.cells #[.string a, .string b, .string c] 9)) (.slice (some ⟨w.heap.size, 0, none⟩) 3 3) [a, b, c] := by
  refine ⟨_, 3, 3, rfl, rfl, Nat.le_refl _, by unfold maxLen; omega, fun _ => ⟨w.heap.size, 0, rfl, by simp, fun j hj => ?_⟩⟩
  have := heap_alloc_new w (.cells #[.string a, .string b, .string c] 9)
  match j, hj with
  | 0, _ => rw [cell_of_row _ _ _ _ _ _ this]; rfl
  | 1, _ => rw [cell_of_row _ _ _ _ _ _ this]; rfl
  | 2, _ => rw [cell_of_row _ _ _ _ _ _ this]; rfl

theorem Strs.cut {w : World} {b o n cap : Nat} {L : List ByteArray} (h : Strs w (.slice (some ⟨b, o, none⟩) n cap) L) (k : Nat) (hk : k ≤ n) : Strs w (.slice (some ⟨b, o, none⟩) k cap) (L.take k) := by
  obtain ⟨a, n', cap', he, hn, hc, hm, h⟩ := h
  simp only [Value.slice.injEq] at he
  obtain ⟨rfl, rfl, rfl⟩ := he
  refine ⟨_, k, cap, rfl, by simp; omega, by omega, hm, fun h1 => ?_⟩
  obtain ⟨b', o', he, hb, hcell⟩ := h (by omega)
  simp only [Option.some.injEq, Addr.mk.injEq] at he
  obtain ⟨rfl, rfl, _⟩ := he
  exact ⟨b, o, rfl, hb, fun j hj => by rw [hcell j (by omega)]; simp [List.getD, List.getElem?_take, hj]⟩
theorem short_ex3 : Short ex3 := fun x hx => by
  simp only [ex3, List.mem_cons, List.not_mem_nil, or_false] at hx
  rcases hx with rfl | rfl | rfl <;> decide
theorem short_areD {L : List ByteArray} (h : areD L = true) : Short L := fun x hx => by
  have := List.all_eq_true.1 h x hx
  simp at this; omega

end Go.Proofs.YtpapfegbodolgaaDoor
end

section
set_option linter.unusedSimpArgs false
set_option linter.unusedVariables false
namespace Go.Proofs.YtpapfegbodolgaaDoor
open Go.RowKit

/-- A slice of texts as it came in. -/
def InS (w : World) (v : Value) (L : List ByteArray) : Prop := ∃ a n cap, v = .slice a n cap ∧ n = L.length ∧ n ≤ maxLen ∧ (1 ≤ n → ∃ b o, a = some ⟨b, o, none⟩ ∧ b < w.heap.size ∧ ∀ j, j < n → w.cell? ⟨b, o + j, none⟩ = some (.string (L.getD j ⟨#[]⟩)))
theorem InS.below {w w' : World} {v : Value} {L : List ByteArray} (h : InS w v L) (hb : Below w.heap.size w w') : InS w' v L := by
  obtain ⟨a, n, cap, rfl, hn, hm, h⟩ := h
  refine ⟨a, n, cap, rfl, hn, hm, fun h1 => ?_⟩
  obtain ⟨b, o, rfl, hbl, hcell⟩ := h h1
  exact ⟨b, o, rfl, Nat.lt_of_lt_of_le hbl hb.size, fun j hj => (hb.cell (p := ⟨b, o + j, none⟩) hbl).trans (hcell j hj)⟩

/-- A text cut to 60 bytes; the first n texts of a list, each cut. -/
def cut60 (s : ByteArray) : ByteArray := s.extract 0 (min (s.size : Int) 60).toNat
theorem cut60_size (s : ByteArray) : (cut60 s).size ≤ 60 := by unfold cut60; rw [ByteArray.size_extract]; omega
def fewL (L : List ByteArray) (n : Nat) : List ByteArray := (L.take n).map cut60
theorem fewL_length (L : List ByteArray) (n : Nat) : (fewL L n).length = min n L.length := by simp [fewL]
theorem fewL_short (L : List ByteArray) (n : Nat) : Short (fewL L n) := fun x hx => by
  simp only [fewL, List.mem_map] at hx
  obtain ⟨y, _, rfl⟩ := hx
  exact Nat.le_trans (cut60_size y) (by decide)
theorem fewL_size {L : List ByteArray} {n : Nat} {x : ByteArray} (hx : x ∈ fewL L n) : x.size ≤ 60 := by
  simp only [fewL, List.mem_map] at hx
  obtain ⟨y, _, rfl⟩ := hx
  exact cut60_size y
theorem fewL_succ (L : List ByteArray) {k : Nat} (hk : k < L.length) : fewL L (k + 1) = fewL L k ++ [cut60 (L.getD k ⟨#[]⟩)] := by
  unfold fewL
  rw [List.take_add_one, List.map_append, List.getElem?_eq_getElem hk, List.getD_eq_getElem?_getD, List.getElem?_eq_getElem hk]; rfl

def binN (n : Nat) : Nat := if n = 0 then 0 else n.log2 + 1
theorem binN_half (n : Nat) (h : 1 ≤ n) : binN n = binN (n / 2) + 1 := by
  unfold binN
  rw [if_neg (by omega)]
  conv => lhs; rw [Nat.log2_def]
  by_cases h2 : 2 ≤ n
  · rw [if_pos h2, if_neg (by omega)]
  · rw [if_neg h2, if_pos (by omega)]

theorem spl_top {n k j : Nat} (h2 : 2 ≤ n) (hk : k = 2 ^ j) (h1 : k < n) (h3 : n ≤ 2 * k) : k = spl n := by
  unfold spl
  rw [hk]
  congr 1
  have : (n - 1).log2 = j := by
    rw [Nat.log2_eq_iff (by omega)]
    rw [Nat.pow_succ]
    omega
  exact this.symm

end Go.Proofs.YtpapfegbodolgaaDoor
end
