/- PLAIN MATHEMATICS: the fixed examples of the laws. -/
import Derived.Test.YtkmiodlehmocnaaDoorT8
import Derived.Test.YtkmiodlehmocnaaDoorS4
set_option linter.unusedVariables false
namespace Go.Proofs.YtkmiodlehmocnaaDoor

theorem num_f (s : ByteArray) : nums (dg.f s) = sha (nums s) := strOf'_nums (bytes_lt _)
theorem num_leaf (s : ByteArray) : nums (dg.leaf s) = sha ([0] ++ nums s) := by
  rw [Dig.leaf, num_f, Dig.leafS, nums_append]; rfl
theorem num_node (a b : ByteArray) : nums (dg.node a b) = sha ([1] ++ nums a ++ nums b) := by
  rw [Dig.node, num_f, Dig.nodeS, nums_append, nums_append]; rfl
abbrev sa : ByteArray := ⟨#[97]⟩
abbrev sb : ByteArray := ⟨#[98]⟩
abbrev sc : ByteArray := ⟨#[99]⟩
abbrev sd : ByteArray := ⟨#[100]⟩
def ex3 : List ByteArray := [sa, sb, sc]
theorem spl3 : spl 3 = 2 := by decide
theorem spl2 : spl 2 = 1 := by decide
theorem root_ab : dg.root [sa, sb] = dg.node (dg.leaf sa) (dg.leaf sb) := by
  rw [dg.root_two (by simp), show ([sa, sb] : List ByteArray).length = 2 from rfl, spl2]
  simp only [List.take_succ_cons, List.take_zero, List.drop_succ_cons, List.drop_zero]
  rw [dg.root_one, dg.root_one]
theorem root_abc : dg.root ex3 = dg.node (dg.root [sa, sb]) (dg.leaf sc) := by
  unfold ex3
  rw [dg.root_two (by simp), show ([sa, sb, sc] : List ByteArray).length = 3 from rfl, spl3]
  simp only [List.take_succ_cons, List.take_zero, List.drop_succ_cons, List.drop_zero]
  rw [dg.root_one]
theorem path_abc : dg.path ex3 2 = [dg.root [sa, sb]] := by
  unfold ex3
  rw [dg.path_ge (by simp) (by rw [show ([sa, sb, sc] : List ByteArray).length = 3 from rfl, spl3]; exact Nat.le_refl _), show ([sa, sb, sc] : List ByteArray).length = 3 from rfl, spl3]
  simp only [List.take_succ_cons, List.take_zero, List.drop_succ_cons, List.drop_zero]
  rw [dg.path_one (by simp)]; rfl
theorem beg_abc : dg.beg ex3 1 true = [dg.leaf sb, dg.leaf sc] := by
  unfold ex3
  rw [dg.beg_le true (by simp) (by simp) (by rw [show ([sa, sb, sc] : List ByteArray).length = 3 from rfl, spl3]; decide), show ([sa, sb, sc] : List ByteArray).length = 3 from rfl, spl3]
  simp only [List.take_succ_cons, List.take_zero, List.drop_succ_cons, List.drop_zero]
  rw [dg.beg_le true (by simp) (by simp) (by rw [show ([sa, sb] : List ByteArray).length = 2 from rfl, spl2]; exact Nat.le_refl _), show ([sa, sb] : List ByteArray).length = 2 from rfl, spl2]
  simp only [List.take_succ_cons, List.take_zero, List.drop_succ_cons, List.drop_zero]
  rw [dg.beg_all (by rfl)]
  simp only [dg.root_one]
  rfl
theorem num_ab : nums (dg.root [sa, sb]) = sha ([1] ++ sha [0, 97] ++ sha [0, 98]) := by rw [root_ab, num_node, num_leaf, num_leaf]; rfl
theorem ne_d : dg.node (dg.root [sa, sb]) (dg.leaf sd) ≠ dg.root ex3 := by
  intro h
  have := congrArg nums h
  rw [root_abc, num_node, num_node, num_ab, num_leaf, num_leaf] at this
  rw [show [0] ++ nums sd = [0, 100] from rfl, show [0] ++ nums sc = [0, 99] from rfl, x_la, x_lb, x_lc, x_ld] at this
  simp only [List.cons_append, List.nil_append] at this
  rw [x_ab] at this
  simp only [List.cons_append, List.nil_append] at this
  rw [x_r, x_rd] at this
  exact absurd this (by decide)
theorem ne_b : dg.node (dg.node (dg.root [sa, sb]) (dg.leaf sb)) (dg.leaf sc) ≠ dg.root ex3 := by
  intro h
  have := congrArg nums h
  rw [root_abc, num_node, num_node, num_node, num_ab, num_leaf, num_leaf] at this
  rw [show [0] ++ nums sb = [0, 98] from rfl, show [0] ++ nums sc = [0, 99] from rfl, x_la, x_lb, x_lc] at this
  simp only [List.cons_append, List.nil_append] at this
  rw [x_ab] at this
  simp only [List.cons_append, List.nil_append] at this
  rw [x_r, x_b2] at this
  simp only [List.cons_append, List.nil_append] at this
  rw [x_r2] at this
  exact absurd this (by decide)
theorem ver_c : dg.verify (dg.root ex3) 3 2 sc (dg.path ex3 2) = true := by
  have h := dg.val_path ex3 2 (by decide)
  unfold Dig.verify
  rw [if_neg (by rw [dg.path_areD]; simp), show ((3 : Int).toNat) = ex3.length from rfl, show ((2 : Int).toNat) = 2 from rfl, show sc = ex3.getD 2 ⟨#[]⟩ from rfl, h]
  simp
theorem ver_d : dg.verify (dg.root ex3) 3 2 sd (dg.path ex3 2) = false := by
  unfold Dig.verify
  rw [if_neg (by rw [dg.path_areD]; simp), show ((3 : Int).toNat) = 3 from rfl, show ((2 : Int).toNat) = 2 from rfl, path_abc,
    show [dg.root [sa, sb]] = [] ++ [dg.root [sa, sb]] from rfl, dg.val_ge _ _ _ (by decide) (by rw [spl3]; exact Nat.le_refl _), spl3, dg.val_one]
  simp [ne_d]
theorem ext_a : dg.verifyExt (dg.root [sa]) 1 (dg.root ex3) 3 (dg.beg ex3 1 true) = true := by
  have h := dg.two_beg ex3 1 true (dg.root [sa]) (by decide) (by decide) (fun _ => rfl)
  unfold Dig.verifyExt
  rw [if_neg (by rw [dg.beg_areD]; simp [areD, dg.root_size]), if_neg (by decide), show ((3 : Int).toNat) = ex3.length from rfl, show ((1 : Int).toNat) = 1 from rfl, h]
  simp [ex3]
theorem ext_b : dg.verifyExt (dg.root [sa, sb]) 1 (dg.root ex3) 3 (dg.beg ex3 1 true) = false := by
  unfold Dig.verifyExt
  rw [if_neg (by rw [dg.beg_areD]; simp [areD, dg.root_size]), if_neg (by decide), show ((3 : Int).toNat) = 3 from rfl, show ((1 : Int).toNat) = 1 from rfl, beg_abc,
    show [dg.leaf sb, dg.leaf sc] = [dg.leaf sb] ++ [dg.leaf sc] from rfl, dg.two_le _ _ _ _ (by decide) (by decide) (by rw [spl3]; decide), spl3,
    show [dg.leaf sb] = [] ++ [dg.leaf sb] from rfl, dg.two_le _ _ _ _ (by decide) (by decide) (by rw [spl2]; exact Nat.le_refl _), spl2, dg.two_whole]
  simp [ne_b]
end Go.Proofs.YtkmiodlehmocnaaDoor
