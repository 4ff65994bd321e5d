/- LISTS OF ROWS IN MEMORY: read, owned, sorted. -/
import Derived.Test.YtaapggeaoacikaaK7
import Derived.Sort.OwnSorted
set_option linter.unusedVariables false
set_option linter.unusedSimpArgs false
namespace Go.Proofs.Ytaapggeaoacikaa
open Go.RowKit Go.Sort Go.ChangeMaps Go.MapKept

instance : Inhabited MRow := ⟨rowZ⟩
def rcl (r : MRow) : List Value := [.int .i64 r.t, .int .i64 r.k, .int .i64 r.v.a, .int .i64 r.v.b, .int .i64 r.v.c]
def flat (M : List MRow) : List Value := M.flatMap rcl
theorem rcl_len (r : MRow) : (rcl r).length = 5 := rfl
theorem flat_len (M : List MRow) : (flat M).length = M.length * 5 := by
  induction M with
  | nil => rfl
  | cons r M ih => rw [flat, List.flatMap_cons, List.length_append, rcl_len, List.length_cons, ← flat, ih]; omega
theorem flat_app (M N : List MRow) : flat (M ++ N) = flat M ++ flat N := by simp [flat]
theorem flat_get (M : List MRow) : ∀ i j, i < M.length → j < 5 → (flat M)[i * 5 + j]? = (rcl (M.getD i rowZ))[j]? := by
  induction M with
  | nil => intro i j h; simp at h
  | cons r M ih =>
    intro i j hi hj
    rw [flat, List.flatMap_cons, ← flat]
    cases i with
    | zero =>
      rw [List.getElem?_append_left (by rw [rcl_len]; omega)]
      simp
    | succ i =>
      rw [List.getElem?_append_right (by rw [rcl_len]; omega), rcl_len, show (i + 1) * 5 + j - 5 = i * 5 + j by omega, ih i j (by simpa using hi) hj]
      simp
theorem rcl_one (r : MRow) : ∀ v ∈ rcl r, v.oneCell' = true := by
  intro v hv
  simp [rcl] at hv
  rcases hv with rfl | rfl | rfl | rfl | rfl <;> rfl

/-- A row's cells from an offset on. -/
def RwO (W : World) (b o : Nat) (r : MRow) : Prop := ∀ j : Nat, j < 5 → W.cell? ⟨b, o + j, none⟩ = (rcl r)[j]?
/-- A slice that reads as a list of rows. -/
def RowS (W : World) (v : Value) (M : List MRow) : Prop :=
  ∃ a n cap, v = .slice a n cap ∧ n = M.length ∧ n ≤ cap ∧ cap ≤ 9223372036854775807 ∧ (1 ≤ n → ∃ b o, a = some ⟨b, o, none⟩ ∧ b < W.heap.size ∧ ∀ i, i < n → RwO W b (o + i * 5) (M.getD i rowZ))
theorem RwO.cells {W : World} {b o : Nat} {r : MRow} (h : RwO W b o r) : W.cell? ⟨b, o, none⟩ = some (.int .i64 r.t) ∧ W.cell? ⟨b, o + 1, none⟩ = some (.int .i64 r.k) ∧ W.cell? ⟨b, o + 2, none⟩ = some (.int .i64 r.v.a) ∧ W.cell? ⟨b, o + 3, none⟩ = some (.int .i64 r.v.b) ∧ W.cell? ⟨b, o + 4, none⟩ = some (.int .i64 r.v.c) :=
  ⟨h 0 (by omega), h 1 (by omega), h 2 (by omega), h 3 (by omega), h 4 (by omega)⟩
theorem RwO.below {W W' : World} {b o : Nat} {r : MRow} (h : RwO W b o r) (hb : b < W.heap.size) (k : Below W.heap.size W W') : RwO W' b o r := fun j hj => by rw [(bcell k).1 b _ hb]; exact h j hj
theorem RwO.kept {F : Nat → Prop} {W W' : World} {b o : Nat} {r : MRow} (h : RwO W b o r) (k : Kept F W W') (hb : b < W.heap.size) (hf : ¬ F b) : RwO W' b o r := fun j hj => (k.cell (p := ⟨b, o + j, none⟩) hb hf).trans (h j hj)
theorem RowS.below {W W' : World} {v : Value} {M : List MRow} (h : RowS W v M) (k : Below W.heap.size W W') : RowS W' v M := by
  obtain ⟨a, n, cap, e, hn, h1, h2, h3⟩ := h
  refine ⟨a, n, cap, e, hn, h1, h2, fun h => ?_⟩
  obtain ⟨b, o, e, hb, hc⟩ := h3 h
  exact ⟨b, o, e, Nat.lt_of_lt_of_le hb k.size, fun i hi => (hc i hi).below hb k⟩
theorem rowS_nil (W : World) : RowS W (.slice none 0 0) [] := ⟨none, 0, 0, rfl, rfl, Nat.le_refl _, by omega, fun h => by omega⟩

/-- A slice of the call's own that holds a list of rows. -/
def OwnR (W : World) (base : Nat) (v : Value) (M : List MRow) : Prop := W.ownsRow base 50 5 v M.length (flat M)
theorem OwnR.nil (W : World) (base : Nat) : OwnR W base (.slice none 0 0) [] := ⟨rfl, .inl ⟨rfl, rfl⟩⟩
theorem OwnR.rowS {W : World} {base : Nat} {v : Value} {M : List MRow} (h : OwnR W base v M) : RowS W v M := by
  obtain ⟨hl, h⟩ := h
  rcases h with ⟨rfl, h0⟩ | ⟨g, cap, cur, rfl, hg, hb, h1, h2, h3, h4⟩
  · obtain rfl := List.length_eq_zero_iff.1 h0
    exact rowS_nil W
  · refine ⟨_, _, cap, rfl, rfl, h1, by unfold maxLen at h2; omega, fun _ => ⟨g, 0, rfl, lt_of_block hb, fun i hi j hj => ?_⟩⟩
    have h5 := flat_get M i j hi hj
    rw [← h4, List.getElem?_take_of_lt (by omega), Array.getElem?_toList] at h5
    rw [← h5]
    simp [World.cell?, hb]
theorem OwnR.below {W W' : World} {base : Nat} {v : Value} {M : List MRow} (h : OwnR W base v M) (k : Below W.heap.size W W') : OwnR W' base v M := by
  obtain ⟨hl, h⟩ := h
  refine ⟨hl, h.imp id fun ⟨g, cap, cur, e, hg, hb, r⟩ => ⟨g, cap, cur, e, hg, (k.block g (lt_of_block hb)).trans hb, r⟩⟩
theorem flatK_eq (M : List MRow) : (flatK rcl 5 M.toArray).toList = flat M := by
  apply List.ext_getElem?
  intro t
  by_cases ht : t < M.length * 5
  · have h1 := flat_get M (t / 5) (t % 5) (by omega) (by omega)
    rw [show t / 5 * 5 + t % 5 = t by omega] at h1
    rw [h1]
    have h2 : (flatK rcl 5 M.toArray)[t]! = (rcl (M.toArray)[t / 5]!)[t % 5]! := get_flatK rcl 5 M.toArray t (by simpa using ht)
    have hs : t < (flatK rcl 5 M.toArray).size := by simpa using ht
    rw [getElem!_pos _ t hs] at h2
    rw [Array.getElem?_toList, Array.getElem?_eq_getElem hs, h2]
    have h3 : (M.toArray)[t / 5]! = M.getD (t / 5) rowZ := by
      rw [getElem!_pos _ _ (by simp; omega), List.getD_eq_getElem?_getD, List.getElem?_eq_getElem (by omega)]
      simp
    rw [h3]
    rw [getElem!_pos _ _ (by rw [rcl_len]; omega), List.getElem?_eq_getElem (by rw [rcl_len]; omega)]
  · rw [List.getElem?_eq_none (by simp; omega), List.getElem?_eq_none (by rw [flat_len]; omega)]
theorem OwnR.holds {W : World} {base g cap : Nat} {M : List MRow} (h : OwnR W base (.slice (some ⟨g, 0, none⟩) M.length cap) M) : HoldsK rcl 5 W g 0 M.toArray ∧ g < W.heap.size ∧ base ≤ g := by
  obtain ⟨hl, h⟩ := h
  rcases h with ⟨h0, _⟩ | ⟨g', cap', cur, hv, hg, hb, h1, h2, h3, h4⟩
  · simp at h0
  · simp only [Value.slice.injEq, Option.some.injEq, Addr.mk.injEq] at hv
    obtain ⟨⟨rfl, _⟩, _, rfl⟩ := hv
    refine ⟨fun t ht => ?_, lt_of_block hb, hg⟩
    have ht' : t < M.length * 5 := by simpa using ht
    refine ⟨?_, by simp [World.frozen?, hb]⟩
    have e1 : (flatK rcl 5 M.toArray)[t]! = (flatK rcl 5 M.toArray).toList[t]'(by simpa using ht') := by rw [getElem!_pos _ t ht]; simp
    have e2 : (flat M)[t]? = some ((flatK rcl 5 M.toArray)[t]!) := by
      rw [← flatK_eq, Array.getElem?_toList, Array.getElem?_eq_getElem ht, getElem!_pos _ t ht]
    rw [← h4, List.getElem?_take_of_lt ht', Array.getElem?_toList] at e2
    simp only [World.cell?, hb, Nat.zero_add, Option.isSome_none, Bool.false_eq_true, if_false]
    exact e2
theorem heap_sortedK {W : World} {g n : Nat} {os : Array Obj} {cur : Array Value} {e : TypeId} {fr : Nat × Nat} (d : Array MRow) (hb : W.heap[g]? = some (.cells cur e fr)) :
    (sortWorldK rcl 5 W g 0 n d os).heap[g]? = some (.cells (putCells id 0 (flatK rcl 5 d) cur) e fr) := by
  have hg : g < W.heap.size := lt_of_block hb
  unfold sortWorldK putRowK
  rw [heap_grow_old _ _ (by simpa using hg)]
  simp [putRow, mapBlock, Sort.ahead, Array.getElem?_modify, hb, onCells]
theorem kept_sortedK {W : World} {g n : Nat} {os : Array Obj} (d : Array MRow) : Kept (fun k => k = g) W (sortWorldK rcl 5 W g 0 n d os) := by
  unfold sortWorldK putRowK
  refine ⟨rfl, rfl, rfl, by simp, fun k hk hne => ?_⟩
  rw [heap_grow_old _ _ (by simpa using hk)]
  have : g ≠ k := fun e => hne e.symm
  simp [putRow, mapBlock, Sort.ahead, Array.getElem?_modify, this]
theorem OwnR.sorted {W : World} {base g cap n : Nat} {M N : List MRow} {os : Array Obj} (h : OwnR W base (.slice (some ⟨g, 0, none⟩) M.length cap) M) (hl : N.length = M.length) :
    OwnR (sortWorldK rcl 5 W g 0 n N.toArray os) base (.slice (some ⟨g, 0, none⟩) M.length cap) N := by
  obtain ⟨_, h⟩ := h
  refine ⟨flat_len N, ?_⟩
  rcases h with ⟨h0, _⟩ | ⟨g', cap', cur, hv, hg, hb, h1, h2, h3, h4⟩
  · simp at h0
  · simp only [Value.slice.injEq, Option.some.injEq, Addr.mk.injEq] at hv
    obtain ⟨⟨rfl, _⟩, _, rfl⟩ := hv
    refine .inr ⟨_, cap, _, by rw [hl], hg, heap_sortedK _ hb, by omega, h2, by simp [putCells, h3], ?_⟩
    rw [← flatK_eq]
    apply List.ext_getElem?
    intro t
    by_cases ht : t < N.length * 5
    · rw [List.getElem?_take_of_lt ht, Array.getElem?_toList]
      have hts : t < (flatK rcl 5 N.toArray).size := by simpa using ht
      have htc : t < cur.size := by rw [h3]; have : N.length * 5 ≤ cap * 5 := Nat.mul_le_mul_right 5 (by omega); omega
      rw [Array.getElem?_toList, Array.getElem?_eq_getElem hts]
      simp only [putCells, Array.getElem?_mapIdx, Array.getElem?_eq_getElem htc, Option.map_some]
      have e1 := getElem!_pos (flatK rcl 5 N.toArray) t hts
      simp only [size_flatK] at hts
      simp [ht]

    · rw [List.getElem?_take_eq_none (by omega), List.getElem?_eq_none (by simp; omega)]
end Go.Proofs.Ytaapggeaoacikaa
