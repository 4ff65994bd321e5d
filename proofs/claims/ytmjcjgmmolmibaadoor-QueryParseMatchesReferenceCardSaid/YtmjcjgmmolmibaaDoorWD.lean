/- WALKS: Print. -/
import Derived.Test.YtmjcjgmmolmibaaDoorW7
import Derived.Test.YtmjcjgmmolmibaaDoorW5
set_option linter.unusedVariables false
set_option linter.unusedSimpArgs false
namespace Go.Proofs.YtmjcjgmmolmibaaDoor
open Go.RowKit

/-- What Print's closures are to spell. -/
theorem printClo {a : Addr} {B : World} {lb qb : Nat} (hL : Lw a B) : SpCloP (fun w s => PrI B lb qb w s ∧ MQ.Ok' s.q) (fun _ => False) a qb ⟨lb, 0, none⟩ ⟨lb, 0, none⟩ pw pn where
  q := fun w s h => ⟨h.1.q, h.1.fq⟩
  low := fun w s h => by
    obtain ⟨⟨⟨v, hv, ho⟩, q, fq, b, gl, gq, ne⟩, hk⟩ := h
    refine ⟨⟨⟨v, (Below.heap_setCell w ⟨qb, 4, none⟩ _ lb (Ne.symm ne)).trans hv, ho.keep fun g hg => Below.heap_setCell w ⟨qb, 4, none⟩ _ g (by have := (ho.block hg).1; simp only; omega)⟩, set_cell q 4 (by decide) s.q.low, fun j => by rw [World.frozen?_setCell]; exact fq j, below_setCell b gq _, gl, gq, ne⟩, fun j => ?_⟩
    have h0 := hk j
    have h3 := hk 3
    match j, h0 with
    | 0, h0 => exact h0
    | 1, h0 => exact h0
    | 2, h0 => exact h0
    | 3, h0 => exact h0
    | 4, h0 => exact h3
    | 5, h0 => exact h0
    | j + 6, h0 => exact h0
  word := fun w s x h hl => (printW_any a h.1 (by omega) x).mono fun e w' hh => ⟨hh.1, hh.2, h.2⟩
  num := fun w s j h hl hj => (printN_any hL h.1 (by omega) h.2 j hj).mono fun e w' hh => ⟨hh.1, hh.2, h.2⟩
  kw := fun s x s' h => by
    simp only [pw, Option.some.injEq] at h
    subst h
    exact ⟨rfl, by simp⟩
  kn := fun s j s' hj h => by
    simp only [pn, Option.some.injEq] at h
    subst h
    exact ⟨rfl, by simp⟩
theorem ok_get {q : MQ} (h : q.Ok) : MQ.Ok' q := by
  obtain ⟨h0, h1, h2, h3, h4, h5, h6⟩ := h
  intro j
  match j with
  | 0 => exact h0
  | 1 => exact h1
  | 2 => exact h2
  | 3 => exact h3
  | 4 => exact h4
  | 5 => exact h5
  | j + 6 => exact h6

set_option maxRecDepth 100000 in
set_option maxHeartbeats 1000000 in
theorem print_bad (q : MQ) (W : World) (hv : validB q = false) : Calls Tryd.prog 10 #[qV q] W fun e w' => e = .returned (.tuple #[.string ⟨#[]⟩, .int .i64 50]) ∧ Below W.heap.size W w' := by
  obtain ⟨k, t, c, l, h, b, o⟩ := q
  have HC := Lib.hid (valid_any ⟨k, t, c, l, h, b, o⟩ (W.alloc (.cells #[.int .i64 k, .int .i64 t, .int .i64 c, .int .i64 l, .int .i64 h, .int .i64 b, .int .i64 o] 23)))
  rw [hv] at HC
  clear hv
  unfold qV at *
  go_enter Tryd.func10, Tryd.ntmps10
  go_wp2_with fail
  (with_reducible refine HC.out.mono ?_)
  rintro e w1 ⟨rfl, hb1⟩
  have HB := Lib.hid (bt (ba W _) hb1)
  clear hb1
  go_wp2_with fail
  go_ret2
  exact ⟨rfl, HB.out⟩

theorem ownS_one {w : World} {base : Nat} {x : List UInt8} (hb : base ≤ w.heap.size) : OwnS (w.alloc (.cells #[.string (bstr x)] 9)) base (.slice (some ⟨w.heap.size, 0, none⟩) 1 1) [x] :=
  ⟨by simp [strs], .inr ⟨w.heap.size, 1, #[.string (bstr x)], rfl, hb, heap_alloc_new w _, Nat.le_refl _, by decide, by simp, by simp [strs]⟩⟩

set_option maxRecDepth 100000 in
set_option maxHeartbeats 1000000 in
theorem print_ok (a : Addr) (q : MQ) (W : World) (hL : Lw a W) (hv : validB q = true) : Calls Tryd.prog 10 #[qV q] W fun e w' => e = .returned (.tuple #[.string (bstr (line q)), .int .i64 0]) ∧ Below W.heap.size W w' := by
  obtain ⟨ho, hk⟩ := valid_ok hv
  have HSp := Lib.hid (print_spell hv)
  have HLn := Lib.hid (line_len hv)
  obtain ⟨k, t, c, l, h, b, o⟩ := q
  simp only at hk
  have HOk := Lib.hid (ok_get ho)
  have HC := Lib.hid (valid_any ⟨k, t, c, l, h, b, o⟩ (W.alloc (.cells #[.int .i64 k, .int .i64 t, .int .i64 c, .int .i64 l, .int .i64 h, .int .i64 b, .int .i64 o] 23)))
  rw [hv] at HC
  have HQ0 := Lib.hid (QAt.new W ⟨k, t, c, l, h, b, o⟩)
  have HLw := Lib.hid hL
  obtain ⟨n, rfl⟩ : ∃ n : Nat, k = n := ⟨k.toNat, by omega⟩
  have hn7 : n ≤ 7 := by omega
  have hn8 : n < 8 := by omega
  clear hv ho hk hL
  unfold qV at *
  go_enter Tryd.func10, Tryd.ntmps10
  go_wp2_with fail
  (with_reducible refine HC.out.mono ?_)
  rintro e w1 ⟨rfl, hb1⟩
  have HB1 := Lib.hid (bt (ba W _) hb1)
  have HQ1 := Lib.hid (HQ0.out.below hb1)
  have hz1 : W.heap.size < w1.heap.size := by have := hb1.size; simp at this; omega
  have c0 := HQ1.out.c0
  have g0 : w1.cell? ⟨0, n, none⟩ = some (.string (bstr (wordOf n))) := by
    have := (HLw.out.below HB1.out).word (k := (n : Int)) (by omega)
    simpa using this
  have HF : Hid (∀ j, w1.frozen? ⟨W.heap.size, j, none⟩ = false) := Lib.hid (fun j => (hb1.frozen (p := ⟨W.heap.size, j, none⟩) (by simp)).trans (by simp [go_sem]))
  clear hb1
  have HW2 : Hid (Below w1.heap.size w1 ((w1.alloc (.cells #[.string (bstr (wordOf n))] 9)).alloc (.cells #[.slice (some ⟨w1.heap.size, 0, none⟩) 1 1] 35))) := Lib.hid (bt (ba _ _) (ba _ _))
  have HP : Hid (PrI W (w1.heap.size + 1) W.heap.size ((w1.alloc (.cells #[.string (bstr (wordOf n))] 9)).alloc (.cells #[.slice (some ⟨w1.heap.size, 0, none⟩) 1 1] 35)) ⟨[wordOf n], ⟨n, t, c, l, h, b, o⟩⟩) := Lib.hid (by
    refine ⟨⟨.slice (some ⟨w1.heap.size, 0, none⟩) 1 1, ?_, ?_⟩, HQ1.out.below HW2.out, fun j => (HW2.out.frozen (p := ⟨W.heap.size, j, none⟩) (by simp only; omega)).trans (HF.out j), bt HB1.out HW2.out, by omega, Nat.le_refl _, by omega⟩
    · have := heap_alloc_new (w1.alloc (.cells #[.string (bstr (wordOf n))] 9)) (.cells #[.slice (some ⟨w1.heap.size, 0, none⟩) 1 1] 35)
      rwa [World.size_alloc] at this
    · exact (ownS_one (x := wordOf n) (by omega)).below (ba _ _))
  have HS := Lib.hid (spellP_any (printClo (a := a) HLw.out) _ _ ⟨HP.out, HOk.out⟩ (by simp))
  rw [HSp.out] at HS
  go_wp2_with fail
  clear c0 g0
  (with_reducible refine HS.out.mono ?_)
  rintro e w3 ⟨rfl, hp3, _⟩
  obtain ⟨v, hv, ho⟩ := hp3.v
  have HB3 := Lib.hid hp3.b
  obtain ⟨va, vn, vc, rfl⟩ := ho.form
  obtain ⟨d0, _⟩ := one_cell hv
  have hne : (wordsOf ⟨n, t, c, l, h, b, o⟩).length ≠ 0 := by simp [wordsOf]
  obtain ⟨g, rfl⟩ : ∃ g, va = some ⟨g, 0, none⟩ := by
    rcases ho.2 with ⟨_, h0⟩ | ⟨g, cap, cur, e, _⟩
    · exact absurd h0 hne
    · simp at e
      exact ⟨g, e.1⟩
  obtain ⟨e1, e2, e3, e4⟩ := ho.cells
  subst e1
  have hjl : (Lib.join (wordsOf ⟨n, t, c, l, h, b, o⟩) [32]).length ≤ 1000 := by have := HLn.out; unfold line at this; omega
  have hwl : (wordsOf ⟨n, t, c, l, h, b, o⟩).length ≤ 1000 := by
    have : (rest ⟨n, t, c, l, h, b, o⟩).length ≤ 8 := by
      unfold rest
      repeat' split
      all_goals simp
    simp [wordsOf]
    omega
  have HJ := Lib.hid (join_any g vc (wordsOf ⟨n, t, c, l, h, b, o⟩) w3 e4 e3 e2 hwl hjl)
  clear hp3 hv ho hne e2 e3 e4 hjl hwl HSp
  obtain ⟨wl, Hwl⟩ : ∃ wl, Hid ((wordsOf ⟨n, t, c, l, h, b, o⟩).length = wl) := ⟨_, Lib.hid rfl⟩
  rw [Hwl.out] at d0 HJ
  go_wp2_with fail
  (with_reducible refine HJ.out.mono ?_)
  rintro e w4 ⟨rfl, hb4⟩
  have HB4 := Lib.hid (bt HB3.out hb4)
  clear hb4
  go_wp2_with fail
  go_ret2
  exact ⟨rfl, HB4.out⟩

theorem print_any (a : Addr) (q : MQ) (W : World) (hL : Lw a W) : Calls Tryd.prog 10 #[qV q] W fun e w' => e = .returned (.tuple #[.string (if validB q then bstr (line q) else ⟨#[]⟩), .int .i64 (if validB q then 0 else 50)]) ∧ Below W.heap.size W w' := by
  cases hv : validB q with
  | true => exact print_ok a q W hL hv
  | false => exact print_bad q W hv
end Go.Proofs.YtmjcjgmmolmibaaDoor
