/- THE SIDES OF AN EXTENSION: two beginnings of one length. -/
import Derived.Test.YtkmiodlehmocnaaDoorB8
set_option linter.unusedVariables false
set_option linter.unusedSimpArgs false
namespace Go.Proofs.YtkmiodlehmocnaaDoor
open Go.RowKit

def sidesL (old : ByteArray) (m n : Nat) (p : List ByteArray) (whole : Bool) : List ByteArray :=
  if m = n then []
  else if h1 : n ≤ 1 then []
  else if p = [] then []
  else if m ≤ spl n then Dig.nodeS (dg.two old m (spl n) p.dropLast whole).2.1 (p.getLast?.getD ⟨#[]⟩) :: sidesL old m (spl n) p.dropLast whole
  else Dig.nodeS (p.getLast?.getD ⟨#[]⟩) (dg.two old (m - spl n) (n - spl n) p.dropLast false).2.1 :: sidesL old (m - spl n) (n - spl n) p.dropLast false
termination_by n
decreasing_by
  all_goals have := spl_lt (n := n) (by omega); have := spl_pos n; omega
theorem sidesL_eq (old : ByteArray) (m : Nat) (p : List ByteArray) (b : Bool) : sidesL old m m p b = [] := by rw [sidesL, if_pos rfl]
theorem sidesL_le (old : ByteArray) {m n : Nat} (p : List ByteArray) (x : ByteArray) (b : Bool) (hm : m < n) (h : 2 ≤ n) (hk : m ≤ spl n) :
    sidesL old m n (p ++ [x]) b = Dig.nodeS (dg.two old m (spl n) p b).2.1 x :: sidesL old m (spl n) p b := by
  rw [sidesL, if_neg (by omega), dif_neg (by omega), if_neg (by simp), if_pos hk]; simp
theorem sidesL_gt (old : ByteArray) {m n : Nat} (p : List ByteArray) (x : ByteArray) (b : Bool) (hm : m < n) (h : 2 ≤ n) (hk : spl n < m) :
    sidesL old m n (p ++ [x]) b = Dig.nodeS x (dg.two old (m - spl n) (n - spl n) p false).2.1 :: sidesL old (m - spl n) (n - spl n) p false := by
  rw [sidesL, if_neg (by omega), dif_neg (by omega), if_neg (by simp), if_neg (by omega)]; simp
/-- What it is to be accepted, at one level. -/
theorem two_cases {old : ByteArray} {m n : Nat} {p : List ByteArray} {b : Bool} (hm1 : 1 ≤ m) (hmn : m ≤ n) (h : (dg.two old m n p b).2.2 = true) :
    (m = n ∧ b = true ∧ p = []) ∨ (m = n ∧ b = false ∧ ∃ x, p = [x]) ∨ (m < n ∧ 2 ≤ n ∧ ∃ q x, p = q ++ [x]) := by
  rcases snoc_or p with rfl | ⟨q, x, rfl⟩
  · by_cases e : m = n
    · cases b
      · rw [Dig.two_nil _ old (.inr rfl)] at h; cases h
      · exact .inl ⟨e, rfl, rfl⟩
    · rw [Dig.two_nil _ old (.inl e)] at h; cases h
  · by_cases e : m = n
    · subst e
      cases b
      · rw [Dig.two_last] at h
        have hq : q = [] := by simpa using h
        exact .inr (.inl ⟨rfl, rfl, x, by rw [hq]; rfl⟩)
      · rw [Dig.two_whole] at h
        simp at h
    · exact .inr (.inr ⟨by omega, by omega, q, x, rfl⟩)
theorem two_true_size (n : Nat) : ∀ (old : ByteArray) (m : Nat) (p : List ByteArray) (b : Bool), 1 ≤ m → m ≤ n → old.size = 32 → areD p = true → (dg.two old m n p b).2.2 = true → (dg.two old m n p b).2.1.size = 32 := by
  intro old m p b h1 hmn ho ap h
  rcases two_cases h1 hmn h with ⟨rfl, rfl, rfl⟩ | ⟨rfl, rfl, x, rfl⟩ | ⟨hlt, h2, q, x, rfl⟩
  · rw [Dig.two_whole]; exact ho
  · rw [show [x] = [] ++ [x] from rfl, Dig.two_last]
    exact (areD_snoc (p := []) ap).2
  · by_cases hk : m ≤ spl n
    · rw [Dig.two_le _ old q x b hlt h2 hk]; exact dg.size _
    · rw [Dig.two_gt _ old q x b hlt h2 (by omega)]; exact dg.size _
theorem sides_binds (n : Nat) : ∀ (a c : ByteArray) (m : Nat) (p q : List ByteArray) (b : Bool), 1 ≤ m → m ≤ n → a.size = 32 → c.size = 32 → areD p = true → areD q = true →
    (dg.two a m n p b).2.2 = true → (dg.two c m n q b).2.2 = true → (dg.two a m n p b).2.1 = (dg.two c m n q b).2.1 → (dg.two a m n p b).1 ≠ (dg.two c m n q b).1 → Coll (sidesL a m n p b) (sidesL c m n q b) := by
  induction n using Nat.strongRecOn with
  | ind n ih =>
    intro a c m p q b h1 hmn ha hc ap aq hp hq he hne
    rcases two_cases h1 hmn hp with ⟨rfl, rfl, rfl⟩ | ⟨rfl, rfl, x, rfl⟩ | ⟨hlt, h2, p', x, rfl⟩
    · rw [Dig.two_whole, Dig.two_whole] at he hne
      exact absurd he hne
    · rcases two_cases h1 hmn hq with ⟨_, h, _⟩ | ⟨_, _, y, rfl⟩ | ⟨h, _⟩
      · cases h
      · rw [show [x] = [] ++ [x] from rfl, show [y] = [] ++ [y] from rfl, Dig.two_last, Dig.two_last] at he hne
        exact absurd he hne
      · omega
    · rcases two_cases h1 hmn hq with ⟨h, _, _⟩ | ⟨h, _, _⟩ | ⟨_, _, q', y, rfl⟩
      · omega
      · omega
      · have hs := spl_lt h2
        have hpos := spl_pos n
        obtain ⟨ap', hx⟩ := areD_snoc ap
        obtain ⟨aq', hy⟩ := areD_snoc aq
        by_cases hk : m ≤ spl n
        · rw [Dig.two_le _ a p' x b hlt h2 hk] at hp he hne
          rw [Dig.two_le _ c q' y b hlt h2 hk] at hq he hne
          rw [sidesL_le a p' x b hlt h2 hk, sidesL_le c q' y b hlt h2 hk]
          simp only [] at hp hq he hne
          by_cases hn : Dig.nodeS (dg.two a m (spl n) p' b).2.1 x = Dig.nodeS (dg.two c m (spl n) q' b).2.1 y
          · have e := (nodeS_inj (by rw [two_true_size _ a m p' b h1 hk ha ap' hp, two_true_size _ c m q' b h1 hk hc aq' hq]) hn).1
            exact coll_cons (ih _ hs a c m p' q' b h1 hk ha hc ap' aq' hp hq e hne)
          · exact coll_head hn he
        · rw [Dig.two_gt _ a p' x b hlt h2 (by omega)] at hp he hne
          rw [Dig.two_gt _ c q' y b hlt h2 (by omega)] at hq he hne
          rw [sidesL_gt a p' x b hlt h2 (by omega), sidesL_gt c q' y b hlt h2 (by omega)]
          simp only [] at hp hq he hne
          by_cases hn : Dig.nodeS x (dg.two a (m - spl n) (n - spl n) p' false).2.1 = Dig.nodeS y (dg.two c (m - spl n) (n - spl n) q' false).2.1
          · obtain ⟨exy, e⟩ := nodeS_inj (by rw [hx, hy]) hn
            subst exy
            exact coll_cons (ih _ (by omega) a c (m - spl n) p' q' false (by omega) (by omega) ha hc ap' aq' hp hq e (fun h => hne (by rw [h])))
          · exact coll_head hn he
theorem sidesL_len (n : Nat) : ∀ (old : ByteArray) (m : Nat) (p : List ByteArray) (b : Bool), (sidesL old m n p b).length ≤ p.length := by
  induction n using Nat.strongRecOn with
  | ind n ih =>
    intro old m p b
    by_cases e : m = n
    · rw [sidesL, if_pos e]; simp
    by_cases h1 : n ≤ 1
    · rw [sidesL, if_neg e, dif_pos h1]; simp
    rcases snoc_or p with rfl | ⟨q, x, rfl⟩
    · rw [sidesL, if_neg e, dif_neg h1, if_pos rfl]; simp
    · have hs := spl_lt (n := n) (by omega)
      have hpos := spl_pos n
      by_cases hk : m ≤ spl n
      · rw [sidesL, if_neg e, dif_neg h1, if_neg (by simp), if_pos hk]
        have := ih _ hs old m q b
        simp; omega
      · rw [sidesL, if_neg e, dif_neg h1, if_neg (by simp), if_neg hk]
        have := ih (n - spl n) (by omega) old (m - spl n) q false
        simp; omega
theorem sidesL_short (n : Nat) : ∀ (old : ByteArray) (m : Nat) (p : List ByteArray) (b : Bool), 1 ≤ m → m ≤ n → old.size = 32 → areD p = true → (dg.two old m n p b).2.2 = true → ∀ y ∈ sidesL old m n p b, y.size ≤ 100 := by
  induction n using Nat.strongRecOn with
  | ind n ih =>
    intro old m p b h1 hmn ho ap h y hy
    rcases two_cases h1 hmn h with ⟨rfl, rfl, rfl⟩ | ⟨rfl, rfl, x, rfl⟩ | ⟨hlt, h2, q, x, rfl⟩
    · rw [sidesL_eq] at hy; cases hy
    · rw [sidesL_eq] at hy; cases hy
    · have hs := spl_lt h2
      have hpos := spl_pos n
      obtain ⟨aq, hx⟩ := areD_snoc ap
      by_cases hk : m ≤ spl n
      · rw [Dig.two_le _ old q x b hlt h2 hk] at h
        rw [sidesL_le old q x b hlt h2 hk, List.mem_cons] at hy
        rcases hy with rfl | hy
        · have := two_true_size _ old m q b h1 hk ho aq h
          rw [nodeS_size]; omega
        · exact ih _ hs old m q b h1 hk ho aq h y hy
      · rw [Dig.two_gt _ old q x b hlt h2 (by omega)] at h
        rw [sidesL_gt old q x b hlt h2 (by omega), List.mem_cons] at hy
        rcases hy with rfl | hy
        · have := two_true_size _ old (m - spl n) q false (by omega) (by omega) ho aq h
          rw [nodeS_size]; omega
        · exact ih _ (by omega) old (m - spl n) q false (by omega) (by omega) ho aq h y hy
end Go.Proofs.YtkmiodlehmocnaaDoor
