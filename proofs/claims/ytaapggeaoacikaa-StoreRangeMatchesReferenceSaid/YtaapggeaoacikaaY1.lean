/- PLAIN: putting a row in its place. -/
import Derived.Test.YtaapggeaoacikaaX7
import Derived.Test.YtaapggeaoacikaaL1
set_option linter.unusedVariables false
set_option linter.unusedSimpArgs false
namespace Go.Proofs.Ytaapggeaoacikaa
open Go.RowKit Go.Sort Go.ChangeMaps Go.MapKept

theorem rle_le {col : Int} {x y : MRow} (h : rle col x y) : vget x col ≤ vget y col := by unfold rle at h; omega
theorem sort_insert {L : List MRow} (hL : Srt L) {sel : MRow → Bool} {t : Int} (ht : ∀ r, sel r = true → r.t = t) {col : Int} {k : Nat} (hk : k < L.length) {r : MRow} (hr : L.getD k rowZ = r) (hs : sel r = true)
    {M : List MRow} (h : SortOf (L.take k) sel col M) {j : Nat} (hj : j ≤ M.length) (h1 : ∀ x ∈ M.drop j, vget r col < vget x col) (h2 : j = 0 ∨ vget (M.getD (j - 1) rowZ) col ≤ vget r col) :
    SortOf (L.take (k + 1)) sel col (M.take j ++ (r :: M.drop j)) := by
  have htk : L.take (k + 1) = L.take k ++ [r] := by rw [← hr]; exact take_snoc' hk
  refine ⟨?_, ?_⟩
  · have e1 : (M.take j ++ (r :: M.drop j)).Perm (r :: M) := by
      refine List.perm_middle.trans ?_
      rw [List.take_append_drop]
    rw [htk, List.filter_append, List.filter_cons_of_pos hs, List.filter_nil]
    exact e1.trans ((h.1.cons r).trans (List.perm_append_comm (l₁ := [r])))
  · have hM := h.2
    have hsp : M.take j ++ M.drop j = M := List.take_append_drop _ _
    rw [← hsp, List.pairwise_append] at hM
    obtain ⟨p1, p2, p3⟩ := hM
    have hbefore : ∀ x ∈ M.take j, rle col x r := by
      intro x hx
      have hxm : x ∈ M := List.mem_of_mem_take hx
      obtain ⟨x1, x2⟩ := List.mem_filter.1 (h.1.mem_iff.1 hxm)
      have hrlt : rlt x r := by
        have := hL
        rw [← List.take_append_drop k L, Srt, List.pairwise_append] at this
        refine this.2.2 x x1 r ?_
        rw [List.getD_eq_getElem?_getD, List.getElem?_eq_getElem hk, Option.getD_some] at hr
        rw [List.drop_eq_getElem_cons hk, ← hr]
        exact List.mem_cons_self
      have hxt := ht x x2
      have hrt := ht r hs
      have hle : vget x col ≤ vget r col := by
        rcases h2 with h2 | h2
        · rw [h2] at hx; simp at hx
        · refine Int.le_trans ?_ h2
          obtain ⟨i, hi, e⟩ := List.getElem_of_mem hx
          rw [List.length_take] at hi
          have e2 : M[i]'(by omega) = x := by rw [← e, List.getElem_take]
          have e3 : M.getD (j - 1) rowZ = M[j - 1]'(by omega) := by rw [List.getD_eq_getElem?_getD, List.getElem?_eq_getElem (by omega), Option.getD_some]
          rw [e3, ← e2]
          rcases Nat.lt_or_ge i (j - 1) with hlt | hge
          · exact rle_le (List.pairwise_iff_getElem.1 h.2 i (j - 1) (by omega) (by omega) hlt)
          · have : i = j - 1 := by omega
            subst this
            exact Int.le_refl _
      unfold rlt at hrlt
      unfold rle
      omega
    rw [List.pairwise_append]
    refine ⟨p1, List.pairwise_cons.2 ⟨fun x hx => .inl (h1 x hx), p2⟩, fun x hx y hy => ?_⟩
    rcases List.mem_cons.1 hy with rfl | hy
    · exact hbefore x hx
    · exact p3 x hx y hy
theorem sort_skip {L : List MRow} {sel : MRow → Bool} {col : Int} {k : Nat} (hk : k < L.length) {r : MRow} (hr : L.getD k rowZ = r) (hs : sel r = false) {M : List MRow} (h : SortOf (L.take k) sel col M) : SortOf (L.take (k + 1)) sel col M := by
  have htk : L.take (k + 1) = L.take k ++ [r] := by rw [← hr]; exact take_snoc' hk
  unfold SortOf
  rw [htk, List.filter_append, List.filter_cons_of_neg (by rw [hs]; exact Bool.false_ne_true), List.filter_nil, List.append_nil]
  exact h
end Go.Proofs.Ytaapggeaoacikaa
