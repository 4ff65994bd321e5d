/- WHAT THE LAWS NEED: extensions that are accepted; joined lists. -/
import Derived.Test.YtpapfegbodolgaaDoorP7
set_option linter.unusedSimpArgs false
set_option linter.unusedVariables false
namespace Go.Proofs.YtpapfegbodolgaaDoor
open Go.RowKit

/-- The extension of a beginning. -/
def extL (M : List ByteArray) (m : Nat) : List ByteArray := if m = 0 then [] else dg.beg M m true
theorem ext_accept (M : List ByteArray) (m : Nat) (hm : m ≤ M.length) : dg.verifyExt (dg.root (M.take m)) m (dg.root M) M.length (extL M m) = true := by
  unfold Dig.verifyExt extL
  by_cases h0 : m = 0
  · subst h0
    rw [if_neg (by simp [areD, dg.root_size]), if_pos rfl]
    simp
  · rw [if_neg h0, if_neg (by rw [dg.beg_areD]; simp [areD, dg.root_size]; omega), if_neg (by omega), Int.toNat_natCast, Int.toNat_natCast, dg.two_beg M m true _ (by omega) hm (fun _ => rfl)]
    simp
theorem own_empty (w : World) (B : Nat) (hB : B ≤ w.heap.size) : OwnS (w.alloc (.cells #[] 9)) B (.slice (some ⟨w.heap.size, 0, none⟩) 0 0) [] :=
  ⟨rfl, .inr ⟨w.heap.size, 0, #[], rfl, hB, heap_alloc_new w _, Nat.le_refl _, by unfold maxLen; omega, rfl, rfl⟩⟩
/-- A slice of one's ownDg that is not empty. -/
theorem OwnS.form {w : World} {B : Nat} {v : Value} {L : List ByteArray} (h : OwnS w B v L) (h1 : L ≠ []) : ∃ g cap, v = .slice (some ⟨g, 0, none⟩) L.length cap ∧ B ≤ g ∧ g < w.heap.size := by
  rcases h.2 with ⟨_, h0⟩ | ⟨g, cap, cur, hv, hB, hg, _⟩
  · exact (h1 (List.length_eq_zero_iff.1 h0)).elim
  · exact ⟨g, cap, hv, hB, (Array.getElem?_eq_some_iff.1 hg).1⟩
theorem OwnS.cells {w : World} {B g n cap : Nat} {L : List ByteArray} (h : OwnS w B (.slice (some ⟨g, 0, none⟩) n cap) L) : ∀ j u, (strV L)[j]? = some u → w.cell? ((⟨g, 0, none⟩ : Addr).add j) = some u :=
  World.ownsRow.cells h (g := g) rfl
theorem strV_one (L : List ByteArray) : ∀ u ∈ strV L, u.oneCell' = true := by
  intro u hu
  simp only [strV, List.mem_map] at hu
  obtain ⟨x, _, rfl⟩ := hu
  rfl
theorem strV_length (L : List ByteArray) : (strV L).length = L.length := by simp [strV]
theorem strV_append (L M : List ByteArray) : strV (L ++ M) = strV L ++ strV M := by simp [strV]
theorem below_app2 {B : Nat} {a w w1 : World} {l : List Value} {n : Nat} {v : Value} {e : TypeId} (hB : Below B a w) (hown : w.ownsRow B e 1 v n l) (hs : B ≤ w.heap.size)
    (hg : w.grownBy w1 v.ownBlock) : Below B a w1 := by
  refine hB.grown hg hs ?_
  intro k hk
  rcases hown.2 with ⟨rfl, _⟩ | ⟨g, cap, cur, rfl, _, hgb, _⟩
  · simp [Value.ownBlock] at hk
  · simp [Value.ownBlock] at hk
    omega
theorem cell_add {w : World} {g : Nat} {v : Value} {j : Nat} (h : w.cell? ⟨g, j, none⟩ = some v) : w.cell? ((⟨g, 0, none⟩ : Addr).add j) = some v := by
  rw [show (⟨g, 0, none⟩ : Addr).add j = ⟨g, j, none⟩ from by unfold Addr.add; split <;> simp_all]; exact h
end Go.Proofs.YtpapfegbodolgaaDoor
