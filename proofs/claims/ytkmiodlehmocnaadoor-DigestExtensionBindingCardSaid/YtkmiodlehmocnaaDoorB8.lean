/- THE WAY OF A PROOF: two entries for one place. -/
import Derived.Test.YtkmiodlehmocnaaDoorB5
set_option linter.unusedVariables false
set_option linter.unusedSimpArgs false
namespace Go.Proofs.YtkmiodlehmocnaaDoor
open Go.RowKit

def ways (n i : Nat) (s : ByteArray) (p : List ByteArray) : List ByteArray :=
  if h1 : n ≤ 1 then [Dig.leafS s]
  else if p = [] then [Dig.leafS s]
  else if i < spl n then Dig.nodeS (dg.val (spl n) i s p.dropLast).1 (p.getLast?.getD ⟨#[]⟩) :: ways (spl n) i s p.dropLast
  else Dig.nodeS (p.getLast?.getD ⟨#[]⟩) (dg.val (n - spl n) (i - spl n) s p.dropLast).1 :: ways (n - spl n) (i - spl n) s p.dropLast
termination_by n
decreasing_by
  all_goals have := spl_lt (n := n) (by omega); have := spl_pos n; omega
theorem ways_one (i : Nat) (s : ByteArray) (p : List ByteArray) : ways 1 i s p = [Dig.leafS s] := by rw [ways, dif_pos (by omega)]
theorem ways_lt {n i : Nat} (s : ByteArray) (p : List ByteArray) (x : ByteArray) (h : 2 ≤ n) (hi : i < spl n) : ways n i s (p ++ [x]) = Dig.nodeS (dg.val (spl n) i s p).1 x :: ways (spl n) i s p := by
  rw [ways, dif_neg (by omega), if_neg (by simp), if_pos hi]; simp
theorem ways_ge {n i : Nat} (s : ByteArray) (p : List ByteArray) (x : ByteArray) (h : 2 ≤ n) (hi : spl n ≤ i) : ways n i s (p ++ [x]) = Dig.nodeS x (dg.val (n - spl n) (i - spl n) s p).1 :: ways (n - spl n) (i - spl n) s p := by
  rw [ways, dif_neg (by omega), if_neg (by simp), if_neg (by omega)]; simp
theorem leafS_inj {x y : ByteArray} (h : Dig.leafS x = Dig.leafS y) : x = y := (app_inj rfl h).2
theorem nodeS_inj {a b x y : ByteArray} (ha : a.size = b.size) (h : Dig.nodeS a x = Dig.nodeS b y) : a = b ∧ x = y := by
  unfold Dig.nodeS at h
  rw [ByteArray.append_assoc, ByteArray.append_assoc] at h
  exact app_inj ha (app_inj rfl h).2
theorem areD_snoc {p : List ByteArray} {x : ByteArray} (h : areD (p ++ [x]) = true) : areD p = true ∧ x.size = 32 := by
  rw [areD_append, areD_one] at h
  simpa using h
theorem val_true_size (n : Nat) : ∀ (i : Nat) (s : ByteArray) (p : List ByteArray), (dg.val n i s p).2 = true → (dg.val n i s p).1.size = 32 := by
  intro i s p h
  by_cases h1 : n ≤ 1
  · rw [Dig.val, dif_pos h1]; exact dg.size _
  · rcases snoc_or p with rfl | ⟨q, x, rfl⟩
    · rw [Dig.val_nil _ i s (by omega)] at h; cases h
    · by_cases hi : i < spl n
      · rw [Dig.val_lt _ s q x (by omega) hi]; exact dg.size _
      · rw [Dig.val_ge _ s q x (by omega) (by omega)]; exact dg.size _
theorem ways_binds (n : Nat) : ∀ (i : Nat) (s t : ByteArray) (p q : List ByteArray), (dg.val n i s p).2 = true → (dg.val n i t q).2 = true → (dg.val n i s p).1 = (dg.val n i t q).1 → s ≠ t → areD p = true → areD q = true → Coll (ways n i s p) (ways n i t q) := by
  induction n using Nat.strongRecOn with
  | ind n ih =>
    intro i s t p q hp hq he hne ap aq
    by_cases h1 : n ≤ 1
    · rw [ways, dif_pos h1, ways, dif_pos h1]
      rw [Dig.val, dif_pos h1, Dig.val, dif_pos h1] at he
      exact coll_head (fun e => hne (leafS_inj e)) he
    · have hlt := spl_lt (n := n) (by omega)
      have hpos := spl_pos n
      rcases snoc_or p with rfl | ⟨p', x, rfl⟩
      · rw [Dig.val_nil _ i s (by omega)] at hp; cases hp
      · rcases snoc_or q with rfl | ⟨q', y, rfl⟩
        · rw [Dig.val_nil _ i t (by omega)] at hq; cases hq
        · obtain ⟨ap', hx⟩ := areD_snoc ap
          obtain ⟨aq', hy⟩ := areD_snoc aq
          by_cases hi : i < spl n
          · rw [Dig.val_lt _ s p' x (by omega) hi] at hp he
            rw [Dig.val_lt _ t q' y (by omega) hi] at hq he
            rw [ways_lt s p' x (by omega) hi, ways_lt t q' y (by omega) hi]
            by_cases hn : Dig.nodeS (dg.val (spl n) i s p').1 x = Dig.nodeS (dg.val (spl n) i t q').1 y
            · have e := (nodeS_inj (by rw [val_true_size _ _ _ _ hp, val_true_size _ _ _ _ hq]) hn).1
              exact coll_cons (ih _ hlt i s t p' q' hp hq e hne ap' aq')
            · exact coll_head hn he
          · rw [Dig.val_ge _ s p' x (by omega) (by omega)] at hp he
            rw [Dig.val_ge _ t q' y (by omega) (by omega)] at hq he
            rw [ways_ge s p' x (by omega) (by omega), ways_ge t q' y (by omega) (by omega)]
            by_cases hn : Dig.nodeS x (dg.val (n - spl n) (i - spl n) s p').1 = Dig.nodeS y (dg.val (n - spl n) (i - spl n) t q').1
            · have e := (nodeS_inj (by rw [hx, hy]) hn).2
              exact coll_cons (ih _ (by omega) (i - spl n) s t p' q' hp hq e hne ap' aq')
            · exact coll_head hn he
theorem leafS_size (s : ByteArray) : (Dig.leafS s).size = s.size + 1 := by
  unfold Dig.leafS
  rw [ByteArray.size_append]
  have : (b1 0).size = 1 := rfl
  omega
theorem nodeS_size (a b : ByteArray) : (Dig.nodeS a b).size = a.size + b.size + 1 := by
  unfold Dig.nodeS
  rw [ByteArray.size_append, ByteArray.size_append]
  have : (b1 1).size = 1 := rfl
  omega
theorem ways_short (n : Nat) : ∀ (i : Nat) (s : ByteArray) (p : List ByteArray), s.size ≤ 60 → areD p = true → ∀ y ∈ ways n i s p, y.size ≤ 100 := by
  induction n using Nat.strongRecOn with
  | ind n ih =>
    intro i s p hs ap y hy
    by_cases h1 : n ≤ 1
    · rw [ways, dif_pos h1, List.mem_singleton] at hy
      rw [hy, leafS_size]; omega
    · have hlt := spl_lt (n := n) (by omega)
      have hpos := spl_pos n
      rcases snoc_or p with rfl | ⟨p', x, rfl⟩
      · rw [ways, dif_neg h1, if_pos rfl, List.mem_singleton] at hy
        rw [hy, leafS_size]; omega
      · obtain ⟨ap', hx⟩ := areD_snoc ap
        by_cases hi : i < spl n
        · rw [ways_lt s p' x (by omega) hi, List.mem_cons] at hy
          rcases hy with rfl | hy
          · have := dg.val_size (spl n) i s p'
            rw [nodeS_size]; omega
          · exact ih _ hlt i s p' hs ap' y hy
        · rw [ways_ge s p' x (by omega) (by omega), List.mem_cons] at hy
          rcases hy with rfl | hy
          · have := dg.val_size (n - spl n) (i - spl n) s p'
            rw [nodeS_size]; omega
          · exact ih _ (by omega) (i - spl n) s p' hs ap' y hy
theorem ways_length (n : Nat) : ∀ (i : Nat) (s : ByteArray) (p : List ByteArray), (ways n i s p).length ≤ p.length + 1 := by
  induction n using Nat.strongRecOn with
  | ind n ih =>
    intro i s p
    by_cases h1 : n ≤ 1
    · rw [ways, dif_pos h1]; simp
    · have hlt := spl_lt (n := n) (by omega)
      have hpos := spl_pos n
      rcases snoc_or p with rfl | ⟨p', x, rfl⟩
      · rw [ways, dif_neg h1, if_pos rfl]; simp
      · by_cases hi : i < spl n
        · rw [ways_lt s p' x (by omega) hi]
          have := ih _ hlt i s p'
          simp; omega
        · rw [ways_ge s p' x (by omega) (by omega)]
          have := ih (n - spl n) (by omega) (i - spl n) s p'
          simp; omega
theorem ways_ne (n i : Nat) (s : ByteArray) (p : List ByteArray) : ways n i s p ≠ [] := by
  rw [ways]
  split
  · simp
  · split
    · simp
    · split <;> simp
end Go.Proofs.YtkmiodlehmocnaaDoor
