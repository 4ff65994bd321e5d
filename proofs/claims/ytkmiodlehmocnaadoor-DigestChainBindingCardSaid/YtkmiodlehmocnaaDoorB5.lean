/- THE CHAIN: the texts of which Sum is computed; two lists with one head. -/
import Derived.Test.YtkmiodlehmocnaaDoorB4
set_option linter.unusedVariables false
set_option linter.unusedSimpArgs false
namespace Go.Proofs.YtkmiodlehmocnaaDoor
open Go.RowKit

theorem snoc_ind {P : List ByteArray → Prop} (h0 : P []) (h1 : ∀ L x, P L → P (L ++ [x])) (L : List ByteArray) : P L := by
  have h : ∀ R : List ByteArray, P R.reverse := fun R => by
    induction R with
    | nil => exact h0
    | cons x R ih => rw [List.reverse_cons]; exact h1 _ _ ih
  have h2 := h L.reverse
  rwa [List.reverse_reverse] at h2
theorem snoc_or (L : List ByteArray) : L = [] ∨ ∃ Q x, L = Q ++ [x] := by
  by_cases h : L = []
  · exact .inl h
  · exact .inr (snoc_of h)
theorem app_inj {p q x y : ByteArray} (h : p.size = q.size) (e : p ++ x = q ++ y) : p = q ∧ x = y := by
  have e2 := congrArg (fun b => b.data.toList) e
  simp only [ByteArray.data_append, Array.toList_append] at e2
  obtain ⟨e3, e4⟩ := List.append_inj e2 (by rw [Array.length_toList, Array.length_toList]; exact h)
  exact ⟨ext_list e3, ext_list e4⟩
def z32 : ByteArray := strOf' (List.replicate 32 0)
theorem z32_size : z32.size = 32 := by unfold z32; rw [strOf'_size]; rfl
def step (p : List ByteArray × ByteArray) (x : ByteArray) : List ByteArray × ByteArray := (Dig.chainS p.2 x :: p.1, dg.chain p.2 x)
def hds (L : List ByteArray) : List ByteArray × ByteArray := L.foldl step ([], z32)
theorem hds_snoc (L : List ByteArray) (x : ByteArray) : hds (L ++ [x]) = step (hds L) x := by simp [hds]
theorem hds_nil : hds [] = ([], z32) := rfl
theorem hds_length (L : List ByteArray) : (hds L).1.length = L.length := by
  induction L using snoc_ind with
  | h0 => rfl
  | h1 L x ih => rw [hds_snoc]; simp [step, ih]
theorem hds_size (L : List ByteArray) : (hds L).2.size = 32 := by
  induction L using snoc_ind with
  | h0 => exact z32_size
  | h1 L x _ => rw [hds_snoc]; exact dg.size _
theorem hds_short (L : List ByteArray) : (∀ x ∈ L, x.size ≤ 60) → ∀ x ∈ (hds L).1, x.size ≤ 100 := by
  induction L using snoc_ind with
  | h0 => intro _ x hx; simp [hds_nil] at hx
  | h1 L x ih =>
    intro h y hy
    rw [hds_snoc] at hy
    simp only [step, List.mem_cons] at hy
    rcases hy with rfl | hy
    · have h1 := hds_size L
      have h2 := h x (by simp)
      unfold Dig.chainS
      rw [ByteArray.size_append, ByteArray.size_append, h1]
      have : (b1 2).size = 1 := rfl
      omega
    · exact ih (fun z hz => h z (by simp [hz])) y hy
theorem chainS_inj {a b x y : ByteArray} (ha : a.size = 32) (hb : b.size = 32) (h : Dig.chainS a x = Dig.chainS b y) : a = b ∧ x = y := by
  unfold Dig.chainS at h
  rw [ByteArray.append_assoc, ByteArray.append_assoc] at h
  exact app_inj (by rw [ha, hb]) (app_inj rfl h).2
theorem coll_cons {A B : List ByteArray} {x y : ByteArray} (h : Coll A B) : Coll (x :: A) (y :: B) := by
  obtain ⟨i, h1, h2, h3, h4⟩ := h
  exact ⟨i + 1, by simp; omega, by simp; omega, by simpa using h3, by simpa using h4⟩
theorem coll_head {A B : List ByteArray} {x y : ByteArray} (h : x ≠ y) (hf : dg.f x = dg.f y) : Coll (x :: A) (y :: B) := ⟨0, by simp, by simp, by simpa using h, by simpa using hf⟩
/-- The longer list's text behind the shorter list. -/
def Zero (X Y : List ByteArray) : Prop := X.length ≠ Y.length ∧ dg.f ((if X.length < Y.length then Y else X).getD (min X.length Y.length) ⟨#[]⟩) = z32
theorem chain_binds : ∀ (n : Nat) (A B : List ByteArray), A.length ≤ n → A ≠ B → (hds A).2 = (hds B).2 → Coll (hds A).1 (hds B).1 ∨ Zero (hds A).1 (hds B).1
  | 0, A, B, hn, hne, h => by
    have hA : A = [] := List.length_eq_zero_iff.1 (by omega)
    subst hA
    rcases snoc_or B with rfl | ⟨B', b, rfl⟩
    · exact absurd rfl hne
    · rw [hds_snoc] at h ⊢
      exact .inr ⟨by simp [hds_nil, step], by simp [hds_nil, step]; exact h.symm⟩
  | n + 1, A, B, hn, hne, h => by
    rcases snoc_or A with rfl | ⟨A', a, rfl⟩
    · exact chain_binds 0 _ B (by simp) hne h
    · rcases snoc_or B with rfl | ⟨B', b, rfl⟩
      · rw [hds_snoc] at h ⊢
        exact .inr ⟨by simp [hds_nil, step], by simp [hds_nil, step]; exact h⟩
      · rw [hds_snoc, hds_snoc] at h ⊢
        simp only [step] at h ⊢
        by_cases he : Dig.chainS (hds A').2 a = Dig.chainS (hds B').2 b
        · obtain ⟨e1, rfl⟩ := chainS_inj (hds_size _) (hds_size _) he
          rcases chain_binds n A' B' (by simp at hn; omega) (fun e => hne (by rw [e])) e1 with h1 | ⟨h1, h2⟩
          · exact .inl (coll_cons h1)
          · refine .inr ⟨by simpa using h1, ?_⟩
            rw [← h2]
            congr 1
            rw [List.length_cons, List.length_cons, Nat.succ_min_succ]
            by_cases hlt : (hds A').1.length < (hds B').1.length
            · rw [if_pos hlt, if_pos (by omega)]; simp
            · rw [if_neg hlt, if_neg (by omega)]; simp
        · exact .inl (coll_head he h)
end Go.Proofs.YtkmiodlehmocnaaDoor
