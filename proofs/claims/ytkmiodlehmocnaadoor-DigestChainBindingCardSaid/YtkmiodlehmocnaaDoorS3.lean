/- PLAIN MATHEMATICS: the blocks of a list of bytes. No Go and no program stands in it. -/
import Derived.Test.YtkmiodlehmocnaaDoorS1
namespace Go.Proofs.YtkmiodlehmocnaaDoor

theorem replicate_add' (a b : Nat) : List.replicate (a + b) (0 : Nat) = List.replicate a 0 ++ List.replicate b 0 := by simp
def chunk (x : List Nat) (i : Nat) : List Nat := (x.drop (64 * i)).take 64
def chunks (x : List Nat) (c : Nat) : List (List Nat) := (List.range c).map (chunk x)
theorem chunks_succ (x : List Nat) (c : Nat) : chunks x (c + 1) = chunks x c ++ [chunk x c] := by simp [chunks, List.range_succ]
theorem chunks_length (x : List Nat) (c : Nat) : (chunks x c).length = c := by simp [chunks]
theorem pad_len (l : List Nat) : (pad l).length = l.length + 9 + zeros l.length := by simp [pad, len8]; omega
theorem pad_blocks (l : List Nat) : 64 * ((pad l).length / 64) = (pad l).length := by rw [pad_len]; unfold zeros; omega
theorem chunk_len (x : List Nat) (i : Nat) (h : 64 * (i + 1) ≤ x.length) : (chunk x i).length = 64 := by simp [chunk]; omega
theorem chunk_pad (l : List Nat) (i : Nat) (h : 64 * (i + 1) ≤ l.length) : chunk (pad l) i = (l.drop (64 * i)).take 64 := by
  unfold chunk pad
  rw [List.append_assoc, List.append_assoc, List.drop_append_of_le_length (by omega), List.take_append_of_le_length (by simp; omega)]
theorem pad_one (l : List Nat) (c u : Nat) (h : l.length = 64 * c + u) (hu : u ≤ 55) : chunk (pad l) c = l.drop (64 * c) ++ [128] ++ List.replicate (55 - u) 0 ++ len8 l.length ∧ (pad l).length / 64 = c + 1 := by
  have hz : zeros l.length = 55 - u := by unfold zeros; omega
  constructor
  · unfold chunk pad
    rw [List.append_assoc, List.append_assoc, List.drop_append_of_le_length (by omega), List.take_of_length_le (by simp [len8, hz]; omega), hz]
    simp
  · rw [pad_len, hz]; omega
theorem pad_two (l : List Nat) (c u : Nat) (h : l.length = 64 * c + u) (h1 : 56 ≤ u) (h2 : u < 64) : chunk (pad l) c = l.drop (64 * c) ++ [128] ++ List.replicate (63 - u) 0 ∧ chunk (pad l) (c + 1) = List.replicate 56 0 ++ len8 l.length ∧ (pad l).length / 64 = c + 2 := by
  have hz : zeros l.length = (63 - u) + 56 := by unfold zeros; omega
  have hp : pad l = (l ++ [128] ++ List.replicate (63 - u) 0) ++ (List.replicate 56 0 ++ len8 l.length) := by
    unfold pad; rw [hz, replicate_add']; simp
  have hn : (l ++ [128] ++ List.replicate (63 - u) 0).length = 64 * (c + 1) := by simp; omega
  refine ⟨?_, ?_, ?_⟩
  · unfold chunk
    rw [hp, List.drop_append_of_le_length (by omega), List.take_append_of_le_length (by rw [List.length_drop, hn]; omega), List.take_of_length_le (by rw [List.length_drop, hn]; omega)]
    rw [List.append_assoc, List.drop_append_of_le_length (by omega), List.append_assoc]
  · unfold chunk
    rw [hp, ← hn, List.drop_left, List.take_of_length_le (by simp [len8])]
  · rw [pad_len, hz]; omega

theorem len8_length (n : Nat) : (len8 n).length = 8 := rfl
theorem len8_get (n k : Nat) (h : k < 8) : (len8 n).drop (7 - k) = (8 * n / 2 ^ (8 * k) % 256) :: (len8 n).drop (8 - k) := by
  match k, h with
  | 0, _ => simp [len8]
  | 1, _ => simp [len8]
  | 2, _ => simp [len8]
  | 3, _ => simp [len8]
  | 4, _ => simp [len8]
  | 5, _ => simp [len8]
  | 6, _ => simp [len8]
  | 7, _ => simp [len8]
  | k + 8, h => omega
/-- The block with the last k bytes of the length laid. -/
def lenB (base : List Nat) (n k : Nat) : List Nat := base.take (64 - k) ++ (len8 n).drop (8 - k)
theorem lenB_zero (base : List Nat) (n : Nat) (h : base.length = 64) : lenB base n 0 = base := by
  unfold lenB; rw [List.take_of_length_le (by omega)]; simp [len8]
theorem lenB_length (base : List Nat) (n k : Nat) (h : base.length = 64) (hk : k ≤ 8) : (lenB base n k).length = 64 := by
  simp [lenB, len8_length]; omega
theorem lenB_set (base : List Nat) (n k : Nat) (h : base.length = 64) (hk : k < 8) : (lenB base n k).set (63 - k) (8 * n / 2 ^ (8 * k) % 256) = lenB base n (k + 1) := by
  unfold lenB
  rw [show 64 - k = (63 - k) + 1 by omega, List.take_add_one, List.getElem?_eq_getElem (by omega), Option.toList_some, List.append_assoc, List.set_append_right _ _ (by simp; omega),
    show 63 - k - (base.take (63 - k)).length = 0 by simp; omega, show 64 - (k + 1) = 63 - k by omega, show 8 - (k + 1) = 7 - k by omega, len8_get n k hk]
  simp
theorem lenB_eight (base : List Nat) (n : Nat) : lenB base n 8 = base.take 56 ++ len8 n := by simp [lenB]

/-- What lies in the block once m bytes of r have been copied to place u. -/
def copied (bl : List Nat) (u : Nat) (r : List Nat) (m : Nat) : List Nat := bl.take u ++ r.take m ++ bl.drop (u + m)
theorem copied_length {bl r : List Nat} {u m : Nat} (h : bl.length = 64) (hm : m ≤ r.length) (hu : u + m ≤ 64) : (copied bl u r m).length = 64 := by
  simp [copied]; omega
theorem copied_take {bl r : List Nat} {u m : Nat} (h : bl.length = 64) (hm : m ≤ r.length) (hu : u + m ≤ 64) : (copied bl u r m).take (u + m) = bl.take u ++ r.take m := by
  unfold copied
  rw [List.take_append_of_le_length (by simp; omega), List.take_of_length_le (by simp; omega)]
/-- The stream x: of it the block holds what lies from 64 c on, u bytes; r is the next piece. -/
theorem copied_next {x bl r : List Nat} {c u m : Nat} (h : bl.length = 64) (hm : m ≤ r.length) (hu : u + m ≤ 64) (hx : 64 * c + u + r.length ≤ x.length)
    (h1 : bl.take u = (x.drop (64 * c)).take u) (h2 : (x.drop (64 * c + u)).take r.length = r) : (copied bl u r m).take (u + m) = (x.drop (64 * c)).take (u + m) := by
  rw [copied_take h hm hu, h1, List.take_add, List.drop_drop]
  congr 1
  conv => lhs; rw [← h2]
  rw [List.take_take, Nat.min_eq_left hm]
theorem rest_next {x r : List Nat} {p m : Nat} (hm : m ≤ r.length) (h2 : (x.drop p).take r.length = r) : (x.drop (p + m)).take (r.drop m).length = r.drop m := by
  conv => rhs; rw [← h2]
  rw [List.length_drop, ← List.drop_drop, List.drop_take]
theorem block_full {x bl : List Nat} {c : Nat} (h : bl.length = 64) (h1 : bl.take 64 = (x.drop (64 * c)).take 64) (hx : 64 * (c + 1) ≤ x.length) : bl = chunk (pad x) c := by
  rw [chunk_pad x c hx, ← h1, List.take_of_length_le (by omega)]
/-- The block with the mark laid and what follows cleared. -/
def marked (bl : List Nat) (u : Nat) : List Nat := bl.take u ++ [128] ++ List.replicate (63 - u) 0
theorem marked_of {bl : List Nat} {u : Nat} (h : bl.length = 64) (hu : u < 64) : (bl.set u 128).take (u + 1) ++ List.replicate (64 - (u + 1)) 0 = marked bl u := by
  unfold marked
  rw [List.take_add_one, List.getElem?_set_self (by omega), Option.toList_some, List.take_set_of_le (by omega), show 64 - (u + 1) = 63 - u by omega]
theorem marked_length {bl : List Nat} {u : Nat} (h : bl.length = 64) (hu : u < 64) : (marked bl u).length = 64 := by
  simp [marked]; omega
theorem marked_one {x bl : List Nat} {c u : Nat} (h : bl.length = 64) (hx : x.length = 64 * c + u) (hu : u ≤ 55) (h1 : bl.take u = (x.drop (64 * c)).take u) : lenB (marked bl u) x.length 8 = chunk (pad x) c := by
  rw [lenB_eight, (pad_one x c u hx hu).1]
  unfold marked
  rw [h1, List.take_of_length_le (l := x.drop (64 * c)) (by simp; omega)]
  congr 1
  rw [show 63 - u = (55 - u) + 8 by omega, replicate_add', ← List.append_assoc]
  rw [List.take_append_of_le_length (by simp; omega), List.take_of_length_le (by simp; omega)]
theorem marked_two {x bl : List Nat} {c u : Nat} (h : bl.length = 64) (hx : x.length = 64 * c + u) (hu1 : 56 ≤ u) (hu : u < 64) (h1 : bl.take u = (x.drop (64 * c)).take u) : marked bl u = chunk (pad x) c := by
  rw [(pad_two x c u hx hu1 hu).1]
  unfold marked
  rw [h1, List.take_of_length_le (l := x.drop (64 * c)) (by simp; omega)]
theorem zero_two {x : List Nat} {c u : Nat} (hx : x.length = 64 * c + u) (hu1 : 56 ≤ u) (hu : u < 64) : lenB (List.replicate 64 0) x.length 8 = chunk (pad x) (c + 1) := by
  rw [lenB_eight, (pad_two x c u hx hu1 hu).2.1]; simp

theorem blocks_fold (x : List Nat) (c : Nat) : (chunks x c).foldl compress start = blocks x c := by
  induction c with
  | zero => rfl
  | succ c ih => rw [chunks_succ, List.foldl_append, ih]; rfl
theorem pad_lt {l : List Nat} (h : ∀ x ∈ l, x < 256) : ∀ x ∈ pad l, x < 256 := by
  intro x hx
  simp only [pad, len8, List.mem_append, List.mem_cons, List.not_mem_nil, or_false, List.mem_replicate] at hx
  rcases hx with ((hx | rfl) | ⟨_, rfl⟩) | hx
  · exact h x hx
  · decide
  · decide
  · rcases hx with rfl | rfl | rfl | rfl | rfl | rfl | rfl | rfl <;> exact Nat.mod_lt _ (by decide)
theorem chunk_lt {l : List Nat} (h : ∀ x ∈ l, x < 256) (i : Nat) : ∀ x ∈ chunk l i, x < 256 := fun x hx => h x (List.mem_of_mem_drop (List.mem_of_mem_take hx))

/-- The parts, one after the other. -/
def joinN (l : List (List Nat)) (k : Nat) : List Nat := (l.take k).flatten
theorem joinN_zero (l : List (List Nat)) : joinN l 0 = [] := rfl
theorem joinN_succ (l : List (List Nat)) {k : Nat} (hk : k < l.length) : joinN l (k + 1) = joinN l k ++ l.getD k [] := by
  unfold joinN
  rw [List.take_add_one, List.flatten_append, List.getElem?_eq_getElem hk, List.getD_eq_getElem?_getD, List.getElem?_eq_getElem hk]
  simp
theorem joinN_all (l : List (List Nat)) : joinN l l.length = l.flatten := by simp [joinN]
theorem flat_split (l : List (List Nat)) (k : Nat) : l.flatten = joinN l k ++ (l.drop k).flatten := by
  have := congrArg List.flatten (List.take_append_drop k l)
  rw [List.flatten_append] at this; exact this.symm
theorem joinN_next (l : List (List Nat)) {k : Nat} (hk : k < l.length) : (l.flatten.drop (joinN l k).length).take (l.getD k []).length = l.getD k [] := by
  have h1 : l.flatten = joinN l (k + 1) ++ (l.drop (k + 1)).flatten := flat_split l (k + 1)
  rw [h1, joinN_succ l hk, List.append_assoc, List.drop_left, List.take_left]
theorem joinN_le (l : List (List Nat)) (k : Nat) : (joinN l k).length ≤ l.flatten.length := by
  have h1 := congrArg List.length (flat_split l k)
  rw [List.length_append] at h1; omega
end Go.Proofs.YtkmiodlehmocnaaDoor
