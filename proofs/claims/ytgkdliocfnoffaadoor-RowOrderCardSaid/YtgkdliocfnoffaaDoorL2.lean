/- ROWS AND CHANGES, out of a parameter. -/
import Derived.Test.YtgkdliocfnoffaaDoorL1
import Derived.Deep.Strs
import Derived.Deep.Slices
set_option linter.unusedVariables false
set_option maxRecDepth 100000
namespace Go.Proofs.YtgkdliocfnoffaaDoor
open Go.ChangeShapes Go.WideShapes Go.ChangeAt Go.RowKit

theorem c3 : Tryd.prog.cellsOf 3 = 1 := by kernel_rfl
theorem c4 : Tryd.prog.cellsOf 4 = 1 := by kernel_rfl
theorem c22 : Tryd.prog.cellsOf 22 = 3 := by kernel_rfl
theorem c24 : Tryd.prog.cellsOf 24 = 5 := by kernel_rfl
theorem c42 : Tryd.prog.cellsOf 42 = 10 := by kernel_rfl

def V3.wd (v : V3) : Prop := I64 v.a ∧ I64 v.b ∧ I64 v.c
def MRow.wd (r : MRow) : Prop := I64 r.t ∧ I64 r.k ∧ r.v.wd

section
variable {H : Type} {enc : TypeId × Value → H} {w : World} {base : Nat} {sp : Nat → Bool} {held : Bool}
theorem int_of {fuel : Nat} {c : Value} {x : DataW H × List MemPlace} (h : DataW.trod enc Tryd.prog w base sp held fuel 3 [c] = some x) : ∃ n, c = .int .i64 n ∧ I64 n := by
  obtain ⟨n, e, _, hw⟩ := DataW.trod_int Tryd.underlying3 h
  exact ⟨n, by simpa using e, bounds_i64 hw⟩
theorem bool_of {fuel : Nat} {c : Value} {x : DataW H × List MemPlace} (h : DataW.trod enc Tryd.prog w base sp held fuel 4 [c] = some x) : ∃ b, c = .bool b := by
  obtain ⟨n, e, _⟩ := DataW.trod_bool Tryd.underlying4 h
  exact ⟨n, by simpa using e⟩
theorem v3_of {fuel : Nat} {c0 c1 c2 : Value} {x : DataW H × List MemPlace} (h : DataW.trod enc Tryd.prog w base sp held fuel 22 [c0, c1, c2] = some x) : ∃ v : V3, c0 = .int .i64 v.a ∧ c1 = .int .i64 v.b ∧ c2 = .int .i64 v.c ∧ v.wd := by
  obtain ⟨xs, m, rfl, _, _, hn, hel⟩ := DataW.trod_array Tryd.underlying22 h
  have h0 := hel 0 (by omega)
  have h1 := hel 1 (by omega)
  have h2 := hel 2 (by omega)
  rw [List.getElem?_eq_getElem (by omega), c3] at h0 h1 h2
  obtain ⟨a, rfl, ha⟩ := int_of (c := c0) (by simpa using h0)
  obtain ⟨b, rfl, hb⟩ := int_of (c := c1) (by simpa using h1)
  obtain ⟨c, rfl, hc⟩ := int_of (c := c2) (by simpa using h2)
  exact ⟨⟨a, b, c⟩, rfl, rfl, rfl, ha, hb, hc⟩
theorem row_of {fuel : Nat} {cs : List Value} {x : DataW H × List MemPlace} (h : DataW.trod enc Tryd.prog w base sp held fuel 24 cs = some x) : ∃ r : MRow, cs = [.int .i64 r.t, .int .i64 r.k, .int .i64 r.v.a, .int .i64 r.v.b, .int .i64 r.v.c] ∧ r.wd := by
  obtain ⟨xs, m, rfl, _, hl, hn, hel⟩ := DataW.trod_struct Tryd.underlying24 h
  rw [c24] at hl
  obtain ⟨q0, q1, q2, q3, q4, rfl⟩ : ∃ a b c d e, cs = [a, b, c, d, e] := match cs, hl with | [a, b, c, d, e], _ => ⟨a, b, c, d, e, rfl⟩
  have h0 := hel 0 _ rfl
  have h1 := hel 1 _ rfl
  have h2 := hel 2 _ rfl
  rw [List.getElem?_eq_getElem (by rw [hn]; decide)] at h0 h1 h2
  change DataW.trod enc Tryd.prog w base sp held m 3 (List.take (Tryd.prog.cellsOf 3) (List.drop 0 _)) = _ at h0
  change DataW.trod enc Tryd.prog w base sp held m 3 (List.take (Tryd.prog.cellsOf 3) (List.drop 1 _)) = _ at h1
  change DataW.trod enc Tryd.prog w base sp held m 22 (List.take (Tryd.prog.cellsOf 22) (List.drop 2 _)) = _ at h2
  simp only [c3, c22] at h0 h1 h2
  obtain ⟨a, rfl, ha⟩ := int_of (c := q0) (by simpa using h0)
  obtain ⟨b, rfl, hb⟩ := int_of (c := q1) (by simpa using h1)
  obtain ⟨v, rfl, rfl, rfl, hv⟩ := v3_of (c0 := q2) (c1 := q3) (c2 := q4) (by simpa using h2)
  exact ⟨⟨a, b, v⟩, rfl, ha, hb, hv⟩
theorem ch_of {fuel : Nat} {cs : List Value} {x : DataW H × List MemPlace} (h : DataW.trod enc Tryd.prog w base sp held fuel 42 cs = some x) : ∃ c : MCh, cs = (chCells c).toList ∧ I64 c.t ∧ I64 c.k ∧ c.o.wd ∧ c.n.wd := by
  obtain ⟨xs, m, rfl, _, hl, hn, hel⟩ := DataW.trod_struct Tryd.underlying42 h
  rw [c42] at hl
  obtain ⟨q0, q1, q2, q3, q4, q5, q6, q7, q8, q9, rfl⟩ : ∃ a b c d e f g i j k, cs = [a, b, c, d, e, f, g, i, j, k] := match cs, hl with | [a, b, c, d, e, f, g, i, j, k], _ => ⟨a, b, c, d, e, f, g, i, j, k, rfl⟩
  have h0 := hel 0 _ rfl
  have h1 := hel 1 _ rfl
  have h2 := hel 2 _ rfl
  have h3 := hel 3 _ rfl
  have h4 := hel 4 _ rfl
  have h5 := hel 5 _ rfl
  rw [List.getElem?_eq_getElem (by rw [hn]; decide)] at h0 h1 h2 h3 h4 h5
  change DataW.trod enc Tryd.prog w base sp held m 3 (List.take (Tryd.prog.cellsOf 3) (List.drop 0 _)) = _ at h0
  change DataW.trod enc Tryd.prog w base sp held m 3 (List.take (Tryd.prog.cellsOf 3) (List.drop 1 _)) = _ at h1
  change DataW.trod enc Tryd.prog w base sp held m 4 (List.take (Tryd.prog.cellsOf 4) (List.drop 2 _)) = _ at h2
  change DataW.trod enc Tryd.prog w base sp held m 22 (List.take (Tryd.prog.cellsOf 22) (List.drop 3 _)) = _ at h3
  change DataW.trod enc Tryd.prog w base sp held m 4 (List.take (Tryd.prog.cellsOf 4) (List.drop 6 _)) = _ at h4
  change DataW.trod enc Tryd.prog w base sp held m 22 (List.take (Tryd.prog.cellsOf 22) (List.drop 7 _)) = _ at h5
  simp only [c3, c22, c4] at h0 h1 h2 h3 h4 h5
  obtain ⟨t, rfl, ht⟩ := int_of (c := q0) (by simpa using h0)
  obtain ⟨k, rfl, hk⟩ := int_of (c := q1) (by simpa using h1)
  obtain ⟨b, rfl⟩ := bool_of (c := q2) (by simpa using h2)
  obtain ⟨o, rfl, rfl, rfl, ho⟩ := v3_of (c0 := q3) (c1 := q4) (c2 := q5) (by simpa using h3)
  obtain ⟨g, rfl⟩ := bool_of (c := q6) (by simpa using h4)
  obtain ⟨v, rfl, rfl, rfl, hv⟩ := v3_of (c0 := q7) (c1 := q8) (c2 := q9) (by simpa using h5)
  exact ⟨⟨t, k, b, o, g, v⟩, rfl, ht, hk, ho, hv⟩
end

theorem agg_of {w : World} {r : Reach} {b0 : Nat} {t : TypeId} {v : Value} {fs : Array Field} (ht : Tryd.prog.underlying t = some (.struct fs)) (hval : Value.okWide Tryd.prog w r b0 t v) : ∃ cs, v = .agg cs ∧ v.cells = cs := by
  obtain ⟨cs, rfl, _⟩ : ∃ cs, v = .agg cs ∧ cs.size = Tryd.prog.cellsOf t ∧ Row.okWide Tryd.prog w r b0 t cs := by
    simpa [Value.okWide, ht] using hval
  exact ⟨cs, rfl, rfl⟩
theorem open_row {H : Type} {enc : TypeId × Value → H} {w : World} {base : Nat} {sp : Nat → Bool} {held : Bool} {r : Reach} {b0 : Nat} {v : Value} {d : DataW H} {p : List MemPlace}
    (hval : Value.okWide Tryd.prog w r b0 24 v) (hd : DataW.Trod enc Tryd.prog w base sp held 24 v d p) : ∃ x : MRow, v = rowV x ∧ x.wd := by
  obtain ⟨cs, rfl, hcs⟩ := agg_of Tryd.underlying24 hval
  obtain ⟨fuel, hf⟩ := hd
  rw [hcs] at hf
  obtain ⟨x, e, hx⟩ := row_of hf
  exact ⟨x, by rw [show cs = cs.toList.toArray by simp, e], hx⟩
theorem open_ch {H : Type} {enc : TypeId × Value → H} {w : World} {base : Nat} {sp : Nat → Bool} {held : Bool} {r : Reach} {b0 : Nat} {v : Value} {d : DataW H} {p : List MemPlace}
    (hval : Value.okWide Tryd.prog w r b0 42 v) (hd : DataW.Trod enc Tryd.prog w base sp held 42 v d p) : ∃ c : MCh, v = chV c ∧ I64 c.t ∧ I64 c.k ∧ c.o.wd ∧ c.n.wd := by
  obtain ⟨cs, rfl, hcs⟩ := agg_of Tryd.underlying42 hval
  obtain ⟨fuel, hf⟩ := hd
  rw [hcs] at hf
  obtain ⟨x, e, hx⟩ := ch_of hf
  exact ⟨x, by rw [show cs = cs.toList.toArray by simp, e]; rfl, hx⟩
end Go.Proofs.YtgkdliocfnoffaaDoor
