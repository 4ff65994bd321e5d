/- A PARAMETER that is a query. -/
import Derived.Test.YtcffofjialihaaaFA
set_option linter.unusedVariables false
set_option linter.unusedSimpArgs false
set_option maxRecDepth 100000
namespace Go.Proofs.Ytcffofjialihaaa
open Go.ChangeShapes Go.WideShapes Go.ChangeAt Go.RowKit

theorem open_q {H : Type} {enc : TypeId × Value → H} {w : World} {base : Nat} {sp : Nat → Bool} {held : Bool} {r : Reach} {b0 : Nat} {v : Value} {d : DataW H} {p : List MemPlace}
    (hval : Value.okWide Try.prog w r b0 23 v) (hd : DataW.Trod enc Try.prog w base sp held 23 v d p) : ∃ q : MQ, v = qV q ∧ q.Ok := by
  obtain ⟨cs, rfl, hsz, _⟩ : ∃ cs, v = .agg cs ∧ cs.size = Try.prog.cellsOf 23 ∧ Row.okWide Try.prog w r b0 23 cs := by
    simpa [Value.okWide, Try.underlying23] using hval
  obtain ⟨fuel, hf⟩ := hd
  obtain ⟨l⟩ := cs
  change DataW.trod enc Try.prog w base sp held fuel 23 l = _ at hf
  have c3 : Try.prog.cellsOf 3 = 1 := by kernel_rfl
  obtain ⟨xs, m, rfl, _, hl, hn, hel⟩ := DataW.trod_struct Try.underlying23 hf
  have hl7 : l.length = 7 := by simpa using hsz.trans (by kernel_rfl)
  obtain ⟨q0, q1, q2, q3, q4, q5, q6, rfl⟩ : ∃ a b c d e f g, l = [a, b, c, d, e, f, g] := match l, hl7 with | [a, b, c, d, e, f, g], _ => ⟨a, b, c, d, e, f, g, rfl⟩
  have g : ∀ {fuel : Nat} {c : Value} {x : DataW H × List MemPlace}, DataW.trod enc Try.prog w base sp held fuel 3 [c] = some x → ∃ n, c = .int .i64 n ∧ I64 n := by
    intro fuel c x h
    obtain ⟨n, e, _, hw⟩ := DataW.trod_int Try.underlying3 h
    exact ⟨n, by simpa using e, bounds_i64 hw⟩
  have h0 := hel 0 _ rfl
  have h1 := hel 1 _ rfl
  have h2 := hel 2 _ rfl
  have h3 := hel 3 _ rfl
  have h4 := hel 4 _ rfl
  have h5 := hel 5 _ rfl
  have h6 := hel 6 _ rfl
  rw [List.getElem?_eq_getElem (by rw [hn]; decide)] at h0 h1 h2 h3 h4 h5 h6
  change DataW.trod enc Try.prog w base sp held m 3 (List.take (Try.prog.cellsOf 3) (List.drop 0 _)) = _ at h0
  change DataW.trod enc Try.prog w base sp held m 3 (List.take (Try.prog.cellsOf 3) (List.drop 1 _)) = _ at h1
  change DataW.trod enc Try.prog w base sp held m 3 (List.take (Try.prog.cellsOf 3) (List.drop 2 _)) = _ at h2
  change DataW.trod enc Try.prog w base sp held m 3 (List.take (Try.prog.cellsOf 3) (List.drop 3 _)) = _ at h3
  change DataW.trod enc Try.prog w base sp held m 3 (List.take (Try.prog.cellsOf 3) (List.drop 4 _)) = _ at h4
  change DataW.trod enc Try.prog w base sp held m 3 (List.take (Try.prog.cellsOf 3) (List.drop 5 _)) = _ at h5
  change DataW.trod enc Try.prog w base sp held m 3 (List.take (Try.prog.cellsOf 3) (List.drop 6 _)) = _ at h6
  simp only [c3] at h0 h1 h2 h3 h4 h5 h6
  obtain ⟨k, rfl, i0⟩ := g (c := q0) (by simpa using h0)
  obtain ⟨t, rfl, i1⟩ := g (c := q1) (by simpa using h1)
  obtain ⟨c, rfl, i2⟩ := g (c := q2) (by simpa using h2)
  obtain ⟨l, rfl, i3⟩ := g (c := q3) (by simpa using h3)
  obtain ⟨h, rfl, i4⟩ := g (c := q4) (by simpa using h4)
  obtain ⟨b, rfl, i5⟩ := g (c := q5) (by simpa using h5)
  obtain ⟨o, rfl, i6⟩ := g (c := q6) (by simpa using h6)
  exact ⟨⟨k, t, c, l, h, b, o⟩, rfl, i0, i1, i2, i3, i4, i5, i6⟩
end Go.Proofs.Ytcffofjialihaaa
