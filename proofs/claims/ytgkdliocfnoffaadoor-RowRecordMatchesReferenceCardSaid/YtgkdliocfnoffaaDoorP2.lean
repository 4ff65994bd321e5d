/- PLAIN: changes turned round; exchanging, repeating the changes of a valid record. -/
import Derived.Test.YtgkdliocfnoffaaDoorN3
set_option linter.unusedVariables false
set_option linter.unusedSimpArgs false
namespace Go.Proofs.YtgkdliocfnoffaaDoor

/-- A change turned round. -/
def turn (c : MCh) : MCh := ⟨c.t, c.k, c.has, c.n, c.had, c.o⟩
theorem vside_turn (c : MCh) (h : Bool) (v : V3) : VSide (turn c) h v ↔ VSide c h v := Iff.rfl
theorem vch_turn (c : MCh) : VCh (turn c) ↔ VCh c := by
  unfold VCh
  constructor
  · rintro ⟨h1, h2, h3, h4⟩
    exact ⟨h1.symm, fun h => h2 ⟨h.2.1, h.1, h.2.2.symm⟩, h4, h3⟩
  · rintro ⟨h1, h2, h3, h4⟩
    exact ⟨h1.symm, fun h => h2 ⟨h.2.1, h.1, h.2.2.symm⟩, h4, h3⟩
theorem getD_map_turn (L : List MCh) (k : Nat) : (L.map turn).getD k chZ = turn (L.getD k chZ) := by
  simp only [List.getD_eq_getElem?_getD, List.getElem?_map]
  cases L[k]? <;> rfl
theorem vrec_turn (p : Int) (L : List MCh) : VRec p (L.map turn) ↔ VRec p L := by
  unfold VRec VGo
  simp only [List.length_map, getD_map_turn, vch_turn]
  exact Iff.rfl

theorem prec_trans {a b c : MCh} (h : Prec a b) (k : Prec b c) : Prec a c := by unfold Prec at *; omega
theorem prec_irr {a : MCh} (h : Prec a a) : False := by unfold Prec at h; omega
theorem vrec_mono {p : Int} {L : List MCh} (h : VRec p L) (a : Nat) : ∀ d, a + d + 1 < L.length → Prec (L.getD a chZ) (L.getD (a + d + 1) chZ)
  | 0, hd => by have := (h.2.2 (a + 1) (by omega)).2 (by omega); rw [Nat.add_sub_cancel] at this; exact this
  | d + 1, hd => prec_trans (vrec_mono h a d (by omega)) (by have := (h.2.2 (a + d + 1 + 1) (by omega)).2 (by omega); rw [Nat.add_sub_cancel] at this; exact this)
theorem vrec_lt {p : Int} {L : List MCh} (h : VRec p L) (a b : Nat) (hab : a < b) (hb : b < L.length) : Prec (L.getD a chZ) (L.getD b chZ) := by
  obtain ⟨d, rfl⟩ : ∃ d, b = a + d + 1 := ⟨b - a - 1, by omega⟩
  exact vrec_mono h a d hb
/-- Two changes exchanged. -/
def swap (L : List MCh) (i k : Nat) : List MCh := (L.set i (L.getD k chZ)).set k (L.getD i chZ)
theorem swap_len (L : List MCh) (i k : Nat) : (swap L i k).length = L.length := by simp [swap]
theorem getD_set_same (L : List MCh) (i : Nat) (x : MCh) (h : i < L.length) : (L.set i x).getD i chZ = x := by
  simp [List.getD_eq_getElem?_getD, h]
theorem getD_set_ne (L : List MCh) (i j : Nat) (x : MCh) (h : i ≠ j) : (L.set i x).getD j chZ = L.getD j chZ := by
  simp [List.getD_eq_getElem?_getD, List.getElem?_set, h]
theorem swap_k (L : List MCh) (i k : Nat) (hk : k < L.length) : (swap L i k).getD k chZ = L.getD i chZ :=
  getD_set_same _ _ _ (by simpa using hk)
theorem swap_i (L : List MCh) (i k : Nat) (hi : i < L.length) (h : k ≠ i) : (swap L i k).getD i chZ = L.getD k chZ := by
  rw [swap, getD_set_ne _ _ _ _ h, getD_set_same _ _ _ hi]
theorem swap_eq (L : List MCh) (i : Nat) (hi : i < L.length) : swap L i i = L := by
  apply List.ext_getElem (by simp [swap])
  intro j h1 h2
  simp only [swap, List.getElem_set]
  split
  · rename_i h; subst h; simp [List.getD_eq_getElem?_getD, h2]
  · rfl
theorem vrec_swap {p : Int} {L : List MCh} (h : VRec p L) (i k : Nat) (hi : i < L.length) (hk : k < L.length) : VRec p (swap L i k) ↔ i = k := by
  constructor
  · intro hs
    rcases Nat.lt_trichotomy i k with hlt | heq | hgt
    · have h1 := vrec_lt h i k hlt hk
      have h2 := vrec_lt hs i k hlt (by rwa [swap_len])
      rw [swap_i L i k hi (by omega), swap_k L i k hk] at h2
      exact (prec_irr (prec_trans h1 h2)).elim
    · exact heq
    · have h1 := vrec_lt h k i hgt hi
      have h2 := vrec_lt hs k i hgt (by rwa [swap_len])
      rw [swap_i L i k hi (by omega), swap_k L i k hk] at h2
      exact (prec_irr (prec_trans h1 h2)).elim
  · rintro rfl; rwa [swap_eq L i hi]
theorem vrec_twice {p : Int} {L : List MCh} (n : Nat) (hn : L.length = n + 1) : ¬ VRec p (L ++ [L.getD n chZ]) := by
  intro h
  have := (h.2.2 (n + 1) (by simp [hn])).2 (by omega)
  rw [Nat.add_sub_cancel] at this
  have e1 : (L ++ [L.getD n chZ]).getD n chZ = L.getD n chZ := by simp [List.getD_eq_getElem?_getD, List.getElem?_append, hn]
  have e2 : (L ++ [L.getD n chZ]).getD (n + 1) chZ = L.getD n chZ := by simp [List.getD_eq_getElem?_getD, List.getElem?_append, hn]
  rw [e1, e2] at this
  exact prec_irr this
theorem vrec_zero (L : List MCh) : ¬ VRec 0 L := fun h => by have := h.1; omega
end Go.Proofs.YtgkdliocfnoffaaDoor
