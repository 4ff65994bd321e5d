/- PLAIN: a value of a row in a row of one's own is written. -/
import Derived.Test.YtcffofjialihaaaER3
import Derived.Test.YtcffofjialihaaaFR
set_option linter.unusedVariables false
set_option linter.unusedSimpArgs false
namespace Go.Proofs.Ytcffofjialihaaa
open Go.RowKit Go.Sort Go.ChangeMaps Go.MapKept

def vset (r : MRow) (k : Nat) (z : Int) : MRow := ⟨r.t, r.k, if k = 0 then ⟨z, r.v.b, r.v.c⟩ else if k = 1 then ⟨r.v.a, z, r.v.c⟩ else ⟨r.v.a, r.v.b, z⟩⟩
def vnth (r : MRow) (k : Nat) : Int := if k = 0 then r.v.a else if k = 1 then r.v.b else r.v.c
theorem vset_wd {r : MRow} (h : r.wd) (k : Nat) {z : Int} (hz : I64 z) : (vset r k z).wd := by
  obtain ⟨h1, h2, h3, h4, h5⟩ := h
  unfold vset
  refine ⟨h1, h2, ?_⟩
  simp only
  split
  · exact ⟨hz, h4, h5⟩
  · split
    · exact ⟨h3, hz, h5⟩
    · exact ⟨h3, h4, hz⟩
theorem rcl_vset (r : MRow) {k : Nat} (hk : k < 3) (z : Int) : rcl (vset r k z) = (rcl r).set (2 + k) (.int .i64 z) := by
  obtain rfl | rfl | rfl : k = 0 ∨ k = 1 ∨ k = 2 := by omega
  all_goals rfl
theorem flat_set (M : List MRow) {i k : Nat} (hi : i < M.length) (hk : k < 3) (z : Int) : (flat M).set (i * 5 + 2 + k) (.int .i64 z) = flat (M.set i (vset (M.getD i rowZ) k z)) := by
  refine List.ext_getElem? fun m => ?_
  by_cases hm : m < M.length * 5
  · have e : m = m / 5 * 5 + m % 5 := by omega
    rw [List.getElem?_set, flat_len, e, flat_get (M.set i _) (m / 5) (m % 5) (by rw [List.length_set]; omega) (by omega), flat_get M (m / 5) (m % 5) (by omega) (by omega)]
    by_cases hmi : m / 5 = i
    · rw [hmi, show (M.set i (vset (M.getD i rowZ) k z)).getD i rowZ = vset (M.getD i rowZ) k z from by rw [List.getD_eq_getElem?_getD, List.getElem?_set_self hi]; rfl, rcl_vset _ hk, List.getElem?_set]
      have hl : (rcl (M.getD i rowZ)).length = 5 := rfl
      by_cases h : 2 + k = m % 5
      · rw [if_pos (by omega), if_pos (by omega), if_pos h, if_pos (by omega)]
      · rw [if_neg (by omega), if_neg h]
    · rw [if_neg (by omega), show (M.set i (vset (M.getD i rowZ) k z)).getD (m / 5) rowZ = M.getD (m / 5) rowZ from by rw [List.getD_eq_getElem?_getD, List.getElem?_set_ne (fun e => hmi e.symm), ← List.getD_eq_getElem?_getD]]
  · rw [List.getElem?_eq_none (by rw [List.length_set, flat_len]; omega), List.getElem?_eq_none (by rw [flat_len, List.length_set]; omega)]
theorem own_setv {w : World} {base g n cap : Nat} {M : List MRow} (h : OwnR w base (.slice (some ⟨g, 0, none⟩) n cap) M) {i k : Nat} (hi : i < M.length) (hk : k < 3) (z : Int) :
    OwnR (w.setCell ⟨g, i * 5 + 2 + k, none⟩ (.int .i64 z)) base (.slice (some ⟨g, 0, none⟩) n cap) (M.set i (vset (M.getD i rowZ) k z)) := by
  unfold OwnR at h ⊢
  obtain ⟨h0, h⟩ := h
  refine ⟨by rw [flat_len, List.length_set], ?_⟩
  rcases h with ⟨e, _⟩ | ⟨g', cap', cur, e, h1, h2, h3, h4, h5, h6⟩
  · simp at e
  · simp only [Value.slice.injEq, Option.some.injEq, Addr.mk.injEq] at e
    obtain ⟨⟨rfl, _⟩, rfl, rfl⟩ := e
    refine .inr ⟨g, cap, cur.setIfInBounds (i * 5 + 2 + k) (.int .i64 z), ?_, h1, setC_heap h2 _ _, ?_, h4, by simpa using h5, ?_⟩
    · rw [List.length_set]
    · rw [List.length_set]; exact h3
    · rw [List.length_set, Array.toList_setIfInBounds, List.take_set, h6, flat_set M hi hk]
theorem own_vcell {w : World} {base g n cap : Nat} {M : List MRow} (h : OwnR w base (.slice (some ⟨g, 0, none⟩) n cap) M) {i k : Nat} (hi : i < M.length) (hk : k < 3) :
    w.cell? ⟨g, i * 5 + 2 + k, none⟩ = some (.int .i64 (vnth (M.getD i rowZ) k)) ∧ w.frozen? ⟨g, i * 5 + 2 + k, none⟩ = false := by
  have hr := h.rowS
  constructor
  · obtain ⟨a, m, c, e, hm, _, _, hc⟩ := hr
    simp only [Value.slice.injEq] at e
    obtain ⟨rfl, rfl, rfl⟩ := e
    obtain ⟨b, o, e1, _, hcs⟩ := hc (by omega)
    simp at e1
    obtain ⟨rfl, rfl⟩ := e1
    obtain ⟨c0, c1, c2, c3, c4⟩ := (hcs i (by omega)).cells
    rw [Nat.zero_add] at c2 c3 c4
    obtain rfl | rfl | rfl : k = 0 ∨ k = 1 ∨ k = 2 := by omega
    · exact c2
    · exact c3
    · exact c4
  · unfold OwnR at h
    rcases h.2 with ⟨e, _⟩ | ⟨g', cap', cur, e, h1, h2, _⟩
    · simp at e
    · simp only [Value.slice.injEq, Option.some.injEq, Addr.mk.injEq] at e
      obtain ⟨⟨rfl, _⟩, _, _⟩ := e
      simp [World.frozen?, h2]
/-- What the law has at hand: two lists of rows of its own. -/
structure FE (w1 : World) (B3 : Nat) (w : World) (v2 v3 : Value) (m : Nat) (O3 M : List MRow) : Prop where
  old : Below w1.heap.size w1 w
  own2 : OwnR w w1.heap.size v2 M
  lt2 : ∀ i, v2.ownBlock = some i → i < B3
  own3 : OwnR w B3 v3 O3
  len : M.length = m
  wd : ∀ r ∈ M, r.wd
theorem FE.below {w1 w w' : World} {B3 : Nat} {v2 v3 : Value} {m : Nat} {O3 M : List MRow} (h : FE w1 B3 w v2 v3 m O3 M) (k : Below w.heap.size w w') : FE w1 B3 w' v2 v3 m O3 M :=
  ⟨bt h.old k, h.own2.below k, h.lt2, h.own3.below k, h.len, h.wd⟩
theorem FE.setv {w1 w : World} {B3 g n cap : Nat} {v3 : Value} {m : Nat} {O3 M : List MRow} (h : FE w1 B3 w (.slice (some ⟨g, 0, none⟩) n cap) v3 m O3 M) {i k : Nat} (hi : i < m) (hk : k < 3) {z : Int} (hz : I64 z) :
    FE w1 B3 (w.setCell ⟨g, i * 5 + 2 + k, none⟩ (.int .i64 z)) (.slice (some ⟨g, 0, none⟩) n cap) v3 m O3 (M.set i (vset (M.getD i rowZ) k z)) := by
  have hg := h.own2.own_ge (k := g) rfl
  have hl := h.lt2 g rfl
  have hiM : i < M.length := by rw [h.len]; exact hi
  refine ⟨below_setCell h.old hg _, own_setv h.own2 hiM hk z, h.lt2, h.own3.kept (F := fun j => j = g) (Kept.setCell (F := fun j => j = g) (p := ⟨g, i * 5 + 2 + k, none⟩) (Kept.refl _ _) (.inl rfl) _) (fun j hj e => by omega), by rw [List.length_set]; exact h.len, fun r hr => ?_⟩
  rcases List.mem_or_eq_of_mem_set hr with hr | rfl
  · exact h.wd r hr
  · refine vset_wd (h.wd _ ?_) k hz
    rw [List.getD_eq_getElem?_getD, List.getElem?_eq_getElem hiM, Option.getD_some]
    exact List.getElem_mem _
end Go.Proofs.Ytcffofjialihaaa
