/- PLAIN: the pairs of a join. -/
import Derived.Test.YtcffofjialihaaaED
set_option linter.unusedVariables false
set_option linter.unusedSimpArgs false
namespace Go.Proofs.Ytcffofjialihaaa
open Go.RowKit Go.Sort Go.ChangeMaps Go.MapKept

/-- A row and its partner. -/
def partR (L : List MRow) (o y : Int) (r : MRow) : List MRow := match look L o (vget r y) with | some p => [r, p] | none => []
theorem look_filter (L : List MRow) (o k : Int) : firstM o k (L.filter (selT o)) = look L o k := by
  unfold firstM look
  rw [List.find?_filter]
  congr 1
  funext r
  simp only [selT, atk]
  by_cases h1 : r.t = o <;> by_cases h2 : r.k = k <;> simp [h1, h2]
theorem pairs_rows {q : MQ} (hv : validB q = true) (hk : q.kind = 7) (L M : List MRow) : resM q M (L.filter (selT q.other)) = ⟨M.flatMap (partR L q.other q.by_), 0, false⟩ := by
  unfold resM
  rw [if_neg (by rw [hv]; decide), if_neg (by omega), if_neg (by omega), if_neg (by omega), if_neg (by omega), if_pos hk]
  congr 1
  have e : pairR ((L.filter (selT q.other)).foldl (keyS q.other) []) q.by_ = partR L q.other q.by_ := by
    funext r
    unfold pairR partR
    rw [lookK_fold, look_filter]
    rfl
  rw [e]
theorem partR_len (L : List MRow) (o y : Int) (r : MRow) : (partR L o y r).length = 0 ∨ (partR L o y r).length = 2 := by
  unfold partR
  split <;> simp
theorem parts_len (L : List MRow) (o y : Int) : ∀ M : List MRow, (M.flatMap (partR L o y)).length % 2 = 0 ∧ (M.flatMap (partR L o y)).length ≤ 2 * M.length
  | [] => by simp
  | r :: M => by
    have h := parts_len L o y M
    have h1 := partR_len L o y r
    rw [List.flatMap_cons, List.length_append, List.length_cons]
    omega
theorem flat_cut {f : MRow → List MRow} {M : List MRow} {k : Nat} (hk : k < M.length) : M.flatMap f = (M.take k).flatMap f ++ (f (M.getD k rowZ) ++ (M.drop (k + 1)).flatMap f) := by
  conv => lhs; rw [← List.take_append_drop k M]
  rw [List.flatMap_append, List.drop_eq_getElem_cons hk, List.flatMap_cons, List.getD_eq_getElem?_getD, List.getElem?_eq_getElem hk]
  rfl
theorem flat_succ {f : MRow → List MRow} {M : List MRow} {k : Nat} (hk : k < M.length) : (M.take (k + 1)).flatMap f = (M.take k).flatMap f ++ f (M.getD k rowZ) := by
  rw [take_snoc' (d := rowZ) hk, List.flatMap_append]
  simp
theorem flat_two {f : MRow → List MRow} {M : List MRow} {k : Nat} (hk : k < M.length) {r p : MRow} (hf : f (M.getD k rowZ) = [r, p]) {a : Nat} (ha : ((M.take k).flatMap f).length = a) :
    a + 2 ≤ (M.flatMap f).length ∧ (M.flatMap f).getD a rowZ = r ∧ (M.flatMap f).getD (a + 1) rowZ = p ∧ ((M.take (k + 1)).flatMap f).length = a + 2 := by
  rw [flat_succ hk, flat_cut hk, hf, List.length_append, ha]
  refine ⟨by simp [ha], ?_, ?_, by simp [ha]⟩
  · rw [List.getD_eq_getElem?_getD, List.getElem?_append_right (by omega), ha]
    simp
  · rw [List.getD_eq_getElem?_getD, List.getElem?_append_right (by omega), ha, show a + 1 - a = 1 by omega]
    simp
theorem flat_none {f : MRow → List MRow} {M : List MRow} {k : Nat} (hk : k < M.length) (hf : f (M.getD k rowZ) = []) : ((M.take (k + 1)).flatMap f).length = ((M.take k).flatMap f).length := by
  rw [flat_succ hk, hf, List.append_nil]
end Go.Proofs.Ytcffofjialihaaa
