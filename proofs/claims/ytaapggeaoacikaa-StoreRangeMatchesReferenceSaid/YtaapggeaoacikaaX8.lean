/- LISTS OF CHANGES AND OF RECORDS that a call owns. -/
import Derived.Test.YtaapggeaoacikaaL2
import Derived.Test.YtaapggeaoacikaaX7
set_option linter.unusedVariables false
set_option linter.unusedSimpArgs false
namespace Go.Proofs.Ytaapggeaoacikaa
open Go.RowKit Go.Sort Go.ChangeMaps Go.MapKept

def ccl (c : MCh) : List Value := (chCells c).toList
theorem ccl_len (c : MCh) : (ccl c).length = 10 := rfl
def flatC (M : List MCh) : List Value := M.flatMap ccl
theorem flatC_len (M : List MCh) : (flatC M).length = M.length * 10 := by
  induction M with
  | nil => rfl
  | cons r M ih => rw [flatC, List.flatMap_cons, List.length_append, ccl_len, List.length_cons, ← flatC, ih]; omega
theorem flatC_app (M N : List MCh) : flatC (M ++ N) = flatC M ++ flatC N := by simp [flatC]
theorem flatC_get (M : List MCh) : ∀ i j, i < M.length → j < 10 → (flatC M)[i * 10 + j]? = (ccl (M.getD i chZ))[j]? := by
  induction M with
  | nil => intro i j h; simp at h
  | cons r M ih =>
    intro i j hi hj
    rw [flatC, List.flatMap_cons, ← flatC]
    cases i with
    | zero =>
      rw [List.getElem?_append_left (by rw [ccl_len]; omega)]
      simp
    | succ i =>
      rw [List.getElem?_append_right (by rw [ccl_len]; omega), ccl_len, show (i + 1) * 10 + j - 10 = i * 10 + j by omega, ih i j (by simpa using hi) hj]
      simp
theorem ccl_one (c : MCh) : ∀ v ∈ ccl c, v.oneCell' = true := by
  intro v hv
  simp [ccl, chCells] at hv
  rcases hv with rfl | rfl | rfl | rfl | rfl | rfl | rfl | rfl | rfl | rfl <;> rfl
theorem flatC_one (N : List MCh) : ∀ u ∈ flatC N, u.oneCell' = true := by
  intro u hu
  obtain ⟨r, _, hr⟩ := List.mem_flatMap.1 hu
  exact ccl_one r u hr

/-- A slice of the call's own that holds a list of changes. -/
def OwnC (W : World) (base : Nat) (v : Value) (M : List MCh) : Prop := W.ownsRow base 57 10 v M.length (flatC M)
theorem OwnC.nil (W : World) (base : Nat) : OwnC W base (.slice none 0 0) [] := ⟨rfl, .inl ⟨rfl, rfl⟩⟩
theorem OwnC.chS {W : World} {base : Nat} {v : Value} {M : List MCh} (h : OwnC W base v M) : ChS W v M := by
  obtain ⟨hl, h⟩ := h
  rcases h with ⟨rfl, h0⟩ | ⟨g, cap, cur, rfl, hg, hb, h1, h2, h3, h4⟩
  · obtain rfl := List.length_eq_zero_iff.1 h0
    exact ⟨none, 0, 0, rfl, rfl, Nat.le_refl _, by omega, fun h => by omega⟩
  · refine ⟨_, _, cap, rfl, rfl, h1, by unfold maxLen at h2; omega, fun _ => ⟨g, 0, rfl, lt_of_block hb, fun i hi j hj => ?_⟩⟩
    have h5 := flatC_get M i j hi hj
    rw [← h4, List.getElem?_take_of_lt (by omega), Array.getElem?_toList] at h5
    unfold ccl at h5
    rw [Array.getElem?_toList] at h5
    rw [← h5]
    simp [World.cell?, hb]
theorem OwnC.kept {F : Nat → Prop} {W W' : World} {base : Nat} {v : Value} {M : List MCh} (h : OwnC W base v M) (k : Kept F W W') (hF : ∀ i, v.ownBlock = some i → ¬ F i) : OwnC W' base v M := by
  obtain ⟨hl, h⟩ := h
  exact ⟨hl, h.imp id fun ⟨g, cap, cur, e, hg, hb, r⟩ => ⟨g, cap, cur, e, hg, (k.block g (lt_of_block hb) (hF g (by rw [e]; rfl))).trans hb, r⟩⟩
theorem OwnC.below {W W' : World} {base : Nat} {v : Value} {M : List MCh} (h : OwnC W base v M) (k : Below W.heap.size W W') : OwnC W' base v M := h.kept (F := fun _ => False) (Kept.of_below k) (fun _ _ => id)
theorem OwnC.mono {W : World} {base base' : Nat} {v : Value} {M : List MCh} (h : OwnC W base v M) (hb : base' ≤ base) : OwnC W base' v M := by
  obtain ⟨hl, h⟩ := h
  exact ⟨hl, h.imp id fun ⟨g, cap, cur, e, hg, r⟩ => ⟨g, cap, cur, e, by omega, r⟩⟩
/-- What block a value owns, and of what type its cells are. -/
theorem own_type {W : World} {base : Nat} {e : TypeId} {s n : Nat} {v : Value} {xs : List Value} (h : W.ownsRow base e s v n xs) {g : Nat} (hg : v.ownBlock = some g) : base ≤ g ∧ ∃ cur, W.heap[g]? = some (.cells cur e (0, 0)) := by
  rcases h.2 with ⟨rfl, _⟩ | ⟨g', cap, cur, rfl, hb, hbk, _⟩
  · simp [Value.ownBlock] at hg
  · simp [Value.ownBlock] at hg
    subst hg
    exact ⟨hb, cur, hbk⟩
theorem type_ne {W : World} {g g' : Nat} {c c' : Array Value} {t t' : TypeId} {f f' : Nat × Nat} (h : W.heap[g]? = some (.cells c t f)) (h' : W.heap[g']? = some (.cells c' t' f')) (ht : t ≠ t') : g ≠ g' := by
  rintro rfl
  rw [h] at h'
  simp at h'
  exact ht h'.2.1

def flatQ (Q : List (MRec × Value)) : List Value := Q.flatMap fun q => [.int .i64 q.1.pos, q.2]
theorem flatQ_len (Q : List (MRec × Value)) : (flatQ Q).length = Q.length * 2 := by
  induction Q with
  | nil => rfl
  | cons r M ih => rw [flatQ, List.flatMap_cons, List.length_append, List.length_cons, ← flatQ, ih]; simp; omega
theorem flatQ_app (M N : List (MRec × Value)) : flatQ (M ++ N) = flatQ M ++ flatQ N := by simp [flatQ]
def qZ : MRec × Value := (recZ, .slice none 0 0)
theorem flatQ_get (M : List (MRec × Value)) : ∀ i j, i < M.length → j < 2 → (flatQ M)[i * 2 + j]? = ([.int .i64 (M.getD i qZ).1.pos, (M.getD i qZ).2] : List Value)[j]? := by
  induction M with
  | nil => intro i j h; simp at h
  | cons r M ih =>
    intro i j hi hj
    rw [flatQ, List.flatMap_cons, ← flatQ]
    cases i with
    | zero =>
      rw [List.getElem?_append_left (by simp; omega)]
      simp
    | succ i =>
      rw [List.getElem?_append_right (by simp; omega), show (i + 1) * 2 + j - ([Value.int .i64 r.1.pos, r.2] : List Value).length = i * 2 + j by simp; omega, ih i j (by simpa using hi) hj]
      simp
/-- The records of a log in memory. -/
def OwnQ (W : World) (base : Nat) (v : Value) (Q : List (MRec × Value)) : Prop := W.ownsRow base 32 2 v Q.length (flatQ Q)
theorem OwnQ.nil (W : World) (base : Nat) : OwnQ W base (.slice none 0 0) [] := ⟨rfl, .inl ⟨rfl, rfl⟩⟩
theorem OwnQ.kept {F : Nat → Prop} {W W' : World} {base : Nat} {v : Value} {M : List (MRec × Value)} (h : OwnQ W base v M) (k : Kept F W W') (hF : ∀ i, v.ownBlock = some i → ¬ F i) : OwnQ W' base v M := by
  obtain ⟨hl, h⟩ := h
  exact ⟨hl, h.imp id fun ⟨g, cap, cur, e, hg, hb, r⟩ => ⟨g, cap, cur, e, hg, (k.block g (lt_of_block hb) (hF g (by rw [e]; rfl))).trans hb, r⟩⟩
theorem OwnQ.below {W W' : World} {base : Nat} {v : Value} {M : List (MRec × Value)} (h : OwnQ W base v M) (k : Below W.heap.size W W') : OwnQ W' base v M := h.kept (F := fun _ => False) (Kept.of_below k) (fun _ _ => id)
theorem OwnQ.recS {W : World} {base : Nat} {v : Value} {Q : List (MRec × Value)} (h : OwnQ W base v Q) (hc : ∀ q ∈ Q, ∃ b, OwnC W b q.2 q.1.chs) : RecS W v (Q.map Prod.fst) := by
  obtain ⟨hl, h⟩ := h
  rcases h with ⟨rfl, h0⟩ | ⟨g, cap, cur, rfl, hg, hb, h1, h2, h3, h4⟩
  · obtain rfl := List.length_eq_zero_iff.1 h0
    exact ⟨none, 0, 0, rfl, rfl, Nat.le_refl _, by omega, fun h => by omega⟩
  · refine ⟨_, _, cap, rfl, by simp, h1, by unfold maxLen at h2; omega, fun _ => ⟨g, 0, rfl, lt_of_block hb, fun i hi => ?_⟩⟩
    have hm : Q.getD i qZ ∈ Q := getD_mem hi
    have hmap : (Q.map Prod.fst).getD i recZ = (Q.getD i qZ).1 := by
      rw [List.getD_eq_getElem?_getD, List.getD_eq_getElem?_getD, List.getElem?_map, List.getElem?_eq_getElem hi]
      rfl
    have hget : ∀ j, j < 2 → W.cell? ⟨g, 0 + i * 2 + j, none⟩ = ([.int .i64 (Q.getD i qZ).1.pos, (Q.getD i qZ).2] : List Value)[j]? := fun j hj => by
      have h5 := flatQ_get Q i j hi hj
      rw [← h4, List.getElem?_take_of_lt (by omega), Array.getElem?_toList] at h5
      rw [← h5]
      simp [World.cell?, hb]
    obtain ⟨b, hb2⟩ := hc _ hm
    rw [hmap]
    exact ⟨hget 0 (by omega), _, hget 1 (by omega), hb2.chS⟩
end Go.Proofs.Ytaapggeaoacikaa
