/- QUERIES READ BY THE REFERENCE: what its Parse comes to. -/
import Derived.Test.YtmjcjgmmolmibaaDoorR6
import Derived.Test.YtmjcjgmmolmibaaDoorR4
set_option linter.unusedVariables false
set_option linter.unusedSimpArgs false
namespace Go.Proofs.YtmjcjgmmolmibaaDoor
open Go.RowKit

def rdAt (ws : List (List UInt8)) (j : Nat) : Int := readV (at_ ws j)
/-- The query that the words give, whatever they are. -/
def candQ (ws : List (List UInt8)) : Option MQ :=
  let k := kindOf (at_ ws 0)
  if k = 1 ∧ ws.length = 3 then some ⟨1, rdAt ws 1, 0, rdAt ws 2, rdAt ws 2, 0, 0⟩
  else if (k = 2 ∨ k = 3) ∧ ws.length = 5 then some ⟨k, rdAt ws 1, rdAt ws 2, rdAt ws 3, rdAt ws 4, 0, 0⟩
  else if (4 ≤ k ∧ k ≤ 6) ∧ ws.length = 7 then some ⟨k, rdAt ws 3, rdAt ws 4, rdAt ws 5, rdAt ws 6, rdAt ws 1, 0⟩
  else if k = 7 ∧ ws.length = 9 then some ⟨7, rdAt ws 5, rdAt ws 6, rdAt ws 7, rdAt ws 8, rdAt ws 1, rdAt ws 3⟩
  else none
theorem cand_words {q : MQ} (h : validB q = true) : candQ (wordsOf q) = some q := by
  obtain ⟨b1, b2, b3, b4, b5, b6⟩ := valid_bounds h
  have hk := (valid_ok h).2
  have hn := valid_nf h
  obtain ⟨k, t, c, l, hh, b, o⟩ := q
  simp only at b1 b2 b3 b4 b5 b6 hk hn
  have e1 := readV_itoa (z := t) (by omega)
  have e2 := readV_itoa (z := c) (by omega)
  have e3 := readV_itoa (z := l) (by omega)
  have e4 := readV_itoa (z := hh) (by omega)
  have e5 := readV_itoa (z := b) (by omega)
  have e6 := readV_itoa (z := o) (by omega)
  have hk2 := kind_word hk
  unfold candQ
  have e0 : at_ (wordsOf ⟨k, t, c, l, hh, b, o⟩) 0 = wordOf k := rfl
  rw [e0, hk2]
  rcases hn with ⟨rfl, rfl, rfl, rfl, rfl⟩ | ⟨hk3, rfl, rfl⟩ | ⟨hk3, rfl⟩ | rfl
  · simp [wordsOf, rest, rdAt, at_, e1, e3]
  · have : ¬ k = 1 := by omega
    simp [wordsOf, rest, rdAt, at_, hk3, this, e1, e2, e3, e4]
  · have n1 : ¬ k = 1 := by omega
    have n2 : ¬ (k = 2 ∨ k = 3) := by omega
    have n3 : ¬ k = 7 := by omega
    have n4 : 4 ≤ k ∧ k ≤ 6 := by omega
    simp [wordsOf, rest, rdAt, at_, hk3, n1, n2, n3, n4, e1, e2, e3, e4, e5]
  · simp [wordsOf, rest, rdAt, at_, e1, e2, e3, e4, e5, e6]
theorem parse_none {L : List UInt8} (h : ∀ q, validB q = true → line q ≠ L) : parse L = none := by
  cases hp : parse L with
  | none => rfl
  | some q => exact absurd (parse_some hp).2 (h q (parse_some hp).1)
theorem parse_long {L : List UInt8} (h : 100 < L.length) : parse L = none := parse_none fun q hv e => by
  have := line_len hv
  rw [e] at this
  omega
theorem parse_nocand {L : List UInt8} (h : candQ (spl L) = none) : parse L = none := parse_none fun q hv e => by
  rw [← e, spl_line, cand_words hv] at h
  cases h
theorem parse_cand {L : List UInt8} {q : MQ} (h : candQ (spl L) = some q) : parse L = if validB q = true ∧ line q = L then some q else none := by
  split
  · rename_i hv
    rw [← hv.2, parse_line hv.1]
  · rename_i hv
    refine parse_none fun p hp e => ?_
    rw [← e, spl_line, cand_words hp] at h
    cases h
    exact hv ⟨hp, e⟩

/-- The kind that the first k - 1 rounds find. -/
def kk (h : List UInt8) (k : Nat) : Int := if kindOf h < k then kindOf h else 0
theorem kind_rg (h : List UInt8) : 0 ≤ kindOf h ∧ kindOf h ≤ 7 := by
  by_cases e : kindOf h = 0
  · omega
  · have := (word_kind e).2; omega
theorem kk_one (h : List UInt8) : kk h 1 = 0 := by
  unfold kk
  have := kind_rg h
  split <;> omega
theorem kk_last (h : List UInt8) : kk h 8 = kindOf h := by
  unfold kk
  have := kind_rg h
  split <;> omega
theorem kk_hit {h : List UInt8} {k : Nat} (hk : 1 ≤ k ∧ k ≤ 7) (e : h = wordOf k) : kk h (k + 1) = k := by
  have : kindOf h = k := by rw [e]; exact kind_word (by omega)
  unfold kk
  rw [this, if_pos (by omega)]
theorem kk_miss {h : List UInt8} {k : Nat} (hk : 1 ≤ k) (e : h ≠ wordOf k) : kk h (k + 1) = kk h k := by
  have hne : kindOf h ≠ k := fun e2 => e (by
    have := (word_kind (w := h) (by omega)).1
    rw [e2] at this
    exact this.symm)
  unfold kk
  split <;> split <;> omega

abbrev qC (q : MQ) : Array Value := #[.int .i64 q.kind, .int .i64 q.table, .int .i64 q.column, .int .i64 q.low, .int .i64 q.high, .int .i64 q.by_, .int .i64 q.other]
/-- What Parse has come to. -/
structure PSt (W : World) (qb : Nat) (v : Value) (ws : List (List UInt8)) (q : MQ) (w : World) : Prop where
  r : w.heap[W.heap.size]? = some (.cells qz 23 (0, 0))
  o : OwnS w (W.heap.size + 1) v ws
  q : w.heap[qb]? = some (.cells (qC q) 23 (0, 0))
  b : Below W.heap.size W w
  ne : qb ≠ W.heap.size
  gq : W.heap.size ≤ qb
theorem PSt.below {W : World} {qb : Nat} {v : Value} {ws : List (List UInt8)} {q : MQ} {w w' : World} (h : PSt W qb v ws q w) (k : Below w.heap.size w w') : PSt W qb v ws q w' :=
  ⟨(k.block _ (lt_of_heap h.r)).trans h.r, h.o.below k, (k.block _ (lt_of_heap h.q)).trans h.q, bt h.b k, h.ne, h.gq⟩
theorem OwnS.ne23 {w : World} {base : Nat} {v : Value} {ws : List (List UInt8)} (h : OwnS w base v ws) {lb : Nat} {c : Array Value} (hb : w.heap[lb]? = some (.cells c 23 (0, 0))) : v.ownBlock ≠ some lb := by
  intro e
  rcases h.2 with ⟨rfl, _⟩ | ⟨g, cap, cur, rfl, _, hg, _⟩
  · cases e
  · simp [Value.ownBlock] at e
    subst e
    rw [hb] at hg
    simp at hg
theorem PSt.set {W : World} {qb : Nat} {v : Value} {ws : List (List UInt8)} {q : MQ} {w : World} (h : PSt W qb v ws q w) (j : Nat) (u : Value) (p : MQ) (hp : (qC q).setIfInBounds j u = qC p) : PSt W qb v ws p (w.setCell ⟨qb, j, none⟩ u) := by
  obtain ⟨r, o, hq, b, ne, gq⟩ := h
  refine ⟨(Below.heap_setCell w ⟨qb, j, none⟩ u _ (Ne.symm ne)).trans r, o.keep fun g hg => Below.heap_setCell w ⟨qb, j, none⟩ u g (fun e => o.ne23 hq (by rw [hg, e])), ?_, below_setCell b gq _, ne, gq⟩
  rw [← hp]
  exact setCell_heap hq j u
theorem PSt.qat {W : World} {qb : Nat} {v : Value} {ws : List (List UInt8)} {q : MQ} {w : World} (h : PSt W qb v ws q w) : QAt w qb q ∧ ∀ j, w.frozen? ⟨qb, j, none⟩ = false := by
  refine ⟨?_, fun j => by simp [World.frozen?, h.q]⟩
  constructor <;> simp [World.cell?, h.q]
end Go.Proofs.YtmjcjgmmolmibaaDoor
