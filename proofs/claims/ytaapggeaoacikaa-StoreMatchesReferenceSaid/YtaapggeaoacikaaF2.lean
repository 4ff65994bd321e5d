/- A PARAMETER that is an array of three integers. -/
import Derived.Test.YtaapggeaoacikaaF0
set_option linter.unusedVariables false
set_option linter.unusedSimpArgs false
set_option maxRecDepth 100000
namespace Go.Proofs.Ytaapggeaoacikaa
open Go.ChangeShapes Go.WideShapes Go.ChangeAt Go.RowKit

theorem c48 : Try.prog.cellsOf 48 = 3 := by kernel_rfl
theorem open_arr3 {H : Type} {enc : TypeId × Value → H} {w : World} {base : Nat} {sp : Nat → Bool} {held : Bool} {r : Reach} {b0 : Nat} {v : Value} {d : DataW H} {p : List MemPlace}
    (hval : Value.okWide Try.prog w r b0 48 v) (hd : DataW.Trod enc Try.prog w base sp held 48 v d p) : ∃ a : V3, v = v3V a ∧ (I64 a.a ∧ I64 a.b ∧ I64 a.c) := by
  obtain ⟨cs, rfl, hsz, _⟩ : ∃ cs, v = .agg cs ∧ cs.size = Try.prog.cellsOf 48 ∧ Row.okWide Try.prog w r b0 48 cs := by
    simpa [Value.okWide, Try.underlying48] using hval
  rw [c48] at hsz
  obtain ⟨l⟩ := cs
  obtain ⟨q0, q1, q2, rfl⟩ : ∃ a b c, l = [a, b, c] := match l, hsz with | [a, b, c], _ => ⟨a, b, c, rfl⟩
  obtain ⟨fuel, hf⟩ := hd
  obtain ⟨xs, m, rfl, _, _, hn, hel⟩ := DataW.trod_array Try.underlying48 hf
  have h0 := hel 0 (by omega)
  have h1 := hel 1 (by omega)
  have h2 := hel 2 (by omega)
  rw [List.getElem?_eq_getElem (by omega), c3] at h0 h1 h2
  obtain ⟨a, rfl, ha⟩ := int_of (c := q0) (by simpa [Value.cells] using h0)
  obtain ⟨b, rfl, hb⟩ := int_of (c := q1) (by simpa [Value.cells] using h1)
  obtain ⟨c, rfl, hc⟩ := int_of (c := q2) (by simpa [Value.cells] using h2)
  exact ⟨⟨a, b, c⟩, rfl, ha, hb, hc⟩
end Go.Proofs.Ytaapggeaoacikaa
