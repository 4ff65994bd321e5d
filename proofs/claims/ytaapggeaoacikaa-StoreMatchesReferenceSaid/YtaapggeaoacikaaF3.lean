/- LISTS OF RECORDS, out of a parameter. -/
import Derived.Test.YtaapggeaoacikaaF2
import Derived.Test.YtaapggeaoacikaaR1
set_option linter.unusedVariables false
set_option linter.unusedSimpArgs false
set_option maxRecDepth 100000
namespace Go.Proofs.Ytaapggeaoacikaa
open Go.ChangeShapes Go.WideShapes Go.ChangeAt Go.RowKit

theorem c4 : Try.prog.cellsOf 4 = 1 := by kernel_rfl
theorem c50 : Try.prog.cellsOf 50 = 5 := by kernel_rfl
theorem c57 : Try.prog.cellsOf 57 = 10 := by kernel_rfl
theorem c30 : Try.prog.cellsOf 30 = 1 := by kernel_rfl
theorem c32 : Try.prog.cellsOf 32 = 2 := by kernel_rfl
def V3.wd (v : V3) : Prop := I64 v.a ∧ I64 v.b ∧ I64 v.c
def MRow.wd (r : MRow) : Prop := I64 r.t ∧ I64 r.k ∧ r.v.wd

section
variable {H : Type} {enc : TypeId × Value → H} {w : World} {base : Nat} {sp : Nat → Bool} {held : Bool}
theorem bool_of {fuel : Nat} {c : Value} {x : DataW H × List MemPlace} (h : DataW.trod enc Try.prog w base sp held fuel 4 [c] = some x) : ∃ b, c = .bool b := by
  obtain ⟨n, e, _⟩ := DataW.trod_bool Try.underlying4 h
  exact ⟨n, by simpa using e⟩
theorem v3_of {fuel : Nat} {c0 c1 c2 : Value} {x : DataW H × List MemPlace} (h : DataW.trod enc Try.prog w base sp held fuel 48 [c0, c1, c2] = some x) : ∃ v : V3, c0 = .int .i64 v.a ∧ c1 = .int .i64 v.b ∧ c2 = .int .i64 v.c ∧ v.wd := by
  obtain ⟨xs, m, rfl, _, _, hn, hel⟩ := DataW.trod_array Try.underlying48 h
  have h0 := hel 0 (by omega)
  have h1 := hel 1 (by omega)
  have h2 := hel 2 (by omega)
  rw [List.getElem?_eq_getElem (by omega), c3] at h0 h1 h2
  obtain ⟨a, rfl, ha⟩ := int_of (c := c0) (by simpa using h0)
  obtain ⟨b, rfl, hb⟩ := int_of (c := c1) (by simpa using h1)
  obtain ⟨c, rfl, hc⟩ := int_of (c := c2) (by simpa using h2)
  exact ⟨⟨a, b, c⟩, rfl, rfl, rfl, ha, hb, hc⟩
theorem row_of {fuel : Nat} {cs : List Value} {x : DataW H × List MemPlace} (h : DataW.trod enc Try.prog w base sp held fuel 50 cs = some x) : ∃ r : MRow, cs = [.int .i64 r.t, .int .i64 r.k, .int .i64 r.v.a, .int .i64 r.v.b, .int .i64 r.v.c] ∧ r.wd := by
  obtain ⟨xs, m, rfl, _, hl, hn, hel⟩ := DataW.trod_struct Try.underlying50 h
  rw [c50] at hl
  obtain ⟨q0, q1, q2, q3, q4, rfl⟩ : ∃ a b c d e, cs = [a, b, c, d, e] := match cs, hl with | [a, b, c, d, e], _ => ⟨a, b, c, d, e, rfl⟩
  have h0 := hel 0 _ rfl
  have h1 := hel 1 _ rfl
  have h2 := hel 2 _ rfl
  rw [List.getElem?_eq_getElem (by rw [hn]; decide)] at h0 h1 h2
  change DataW.trod enc Try.prog w base sp held m 3 (List.take (Try.prog.cellsOf 3) (List.drop 0 _)) = _ at h0
  change DataW.trod enc Try.prog w base sp held m 3 (List.take (Try.prog.cellsOf 3) (List.drop 1 _)) = _ at h1
  change DataW.trod enc Try.prog w base sp held m 48 (List.take (Try.prog.cellsOf 48) (List.drop 2 _)) = _ at h2
  simp only [c3, c48] at h0 h1 h2
  obtain ⟨a, rfl, ha⟩ := int_of (c := q0) (by simpa using h0)
  obtain ⟨b, rfl, hb⟩ := int_of (c := q1) (by simpa using h1)
  obtain ⟨v, rfl, rfl, rfl, hv⟩ := v3_of (c0 := q2) (c1 := q3) (c2 := q4) (by simpa using h2)
  exact ⟨⟨a, b, v⟩, rfl, ha, hb, hv⟩
theorem ch_of {fuel : Nat} {cs : List Value} {x : DataW H × List MemPlace} (h : DataW.trod enc Try.prog w base sp held fuel 57 cs = some x) : ∃ c : MCh, cs = (chCells c).toList ∧ I64 c.t ∧ I64 c.k ∧ c.o.wd ∧ c.n.wd := by
  obtain ⟨xs, m, rfl, _, hl, hn, hel⟩ := DataW.trod_struct Try.underlying57 h
  rw [c57] at hl
  obtain ⟨q0, q1, q2, q3, q4, q5, q6, q7, q8, q9, rfl⟩ : ∃ a b c d e f g i j k, cs = [a, b, c, d, e, f, g, i, j, k] := match cs, hl with | [a, b, c, d, e, f, g, i, j, k], _ => ⟨a, b, c, d, e, f, g, i, j, k, rfl⟩
  have h0 := hel 0 _ rfl
  have h1 := hel 1 _ rfl
  have h2 := hel 2 _ rfl
  have h3 := hel 3 _ rfl
  have h4 := hel 4 _ rfl
  have h5 := hel 5 _ rfl
  rw [List.getElem?_eq_getElem (by rw [hn]; decide)] at h0 h1 h2 h3 h4 h5
  change DataW.trod enc Try.prog w base sp held m 3 (List.take (Try.prog.cellsOf 3) (List.drop 0 _)) = _ at h0
  change DataW.trod enc Try.prog w base sp held m 3 (List.take (Try.prog.cellsOf 3) (List.drop 1 _)) = _ at h1
  change DataW.trod enc Try.prog w base sp held m 4 (List.take (Try.prog.cellsOf 4) (List.drop 2 _)) = _ at h2
  change DataW.trod enc Try.prog w base sp held m 48 (List.take (Try.prog.cellsOf 48) (List.drop 3 _)) = _ at h3
  change DataW.trod enc Try.prog w base sp held m 4 (List.take (Try.prog.cellsOf 4) (List.drop 6 _)) = _ at h4
  change DataW.trod enc Try.prog w base sp held m 48 (List.take (Try.prog.cellsOf 48) (List.drop 7 _)) = _ at h5
  simp only [c3, c48, c4] at h0 h1 h2 h3 h4 h5
  obtain ⟨t, rfl, ht⟩ := int_of (c := q0) (by simpa using h0)
  obtain ⟨k, rfl, hk⟩ := int_of (c := q1) (by simpa using h1)
  obtain ⟨b, rfl⟩ := bool_of (c := q2) (by simpa using h2)
  obtain ⟨o, rfl, rfl, rfl, ho⟩ := v3_of (c0 := q3) (c1 := q4) (c2 := q5) (by simpa using h3)
  obtain ⟨g, rfl⟩ := bool_of (c := q6) (by simpa using h4)
  obtain ⟨v, rfl, rfl, rfl, hv⟩ := v3_of (c0 := q7) (c1 := q8) (c2 := q9) (by simpa using h5)
  exact ⟨⟨t, k, b, o, g, v⟩, rfl, ht, hk, ho, hv⟩
end

theorem agg_of {w : World} {r : Reach} {b0 : Nat} {t : TypeId} {v : Value} {fs : Array Field} (ht : Try.prog.underlying t = some (.struct fs)) (hval : Value.okWide Try.prog w r b0 t v) : ∃ cs, v = .agg cs ∧ v.cells = cs := by
  obtain ⟨cs, rfl, _⟩ : ∃ cs, v = .agg cs ∧ cs.size = Try.prog.cellsOf t ∧ Row.okWide Try.prog w r b0 t cs := by
    simpa [Value.okWide, ht] using hval
  exact ⟨cs, rfl, rfl⟩
theorem chI_of {H : Type} {enc : TypeId × Value → H} {w : World} {held : Bool} {fuel : Nat} {v : Value} {x : DataW H × List MemPlace}
    (h : DataW.trod enc Try.prog w 0 (fun _ => true) held fuel 30 [v] = some x) : ∃ L, ChS w v L := by
  rcases Go.Deep.open_slice Try.underlying30 h with ⟨e, _⟩ | ⟨a, len, cap, m, n, D, Pl, e, _, hl, hm, hm2, _, hel⟩
  · obtain rfl : v = .slice none 0 0 := by simpa using e
    exact ⟨[], none, 0, 0, rfl, rfl, Nat.le_refl _, by omega, fun h => by omega⟩
  · obtain rfl : v = .slice (some a) len cap := by simpa using e
    rw [if_pos rfl] at hm2
    subst hm2
    rw [c57] at hel
    have hch : ∀ i, i < len → ∃ c : MCh, ∀ j : Nat, j < 10 → w.cell? ((a.add (i * 10)).add j) = (chCells c)[j]? := fun i hi => by
      obtain ⟨cs, hcs, ht⟩ := hel i (by omega)
      obtain ⟨c, rfl, _⟩ := ch_of ht
      obtain ⟨_, _, hc⟩ := World.cells?_some hcs
      exact ⟨c, fun j hj => by rw [hc j hj]; simp⟩
    have hf : ∃ f : Nat → MCh, ∀ i, i < len → ∀ j : Nat, j < 10 → w.cell? ((a.add (i * 10)).add j) = (chCells (f i))[j]? :=
      ⟨fun i => if h : i < len then (hch i h).choose else chZ, fun i hi => by simpa [hi] using (hch i hi).choose_spec⟩
    obtain ⟨f, hf⟩ := hf
    refine ⟨(List.range len).map f, some a, len, m, rfl, by simp, hl, by unfold maxLen at hm; omega, fun h1 => ?_⟩
    obtain ⟨b, off, spot⟩ := a
    have h00 := hf 0 (by omega) 0 (by omega)
    have hu : (chCells (f 0))[0]? = some (.int .i64 (f 0).t) := rfl
    rw [hu] at h00
    have hspot : spot = none := by simpa [Addr.add] using World.cell?_spot h00
    subst hspot
    refine ⟨b, off, rfl, by simpa [Addr.add] using World.block_lt_of_cell? w _ h00, fun i hi j hj => ?_⟩
    have := hf i hi j hj
    rw [show ((⟨b, off, none⟩ : Addr).add (i * 10)).add j = ⟨b, off + i * 10 + j, none⟩ from by rw [Addr.add_lit, Addr.add_lit]]  at this
    rw [this]
    simp [List.getD, hi]
theorem rec_of {H : Type} {enc : TypeId × Value → H} {w : World} {held : Bool} {fuel : Nat} {cs : List Value} {x : DataW H × List MemPlace}
    (h : DataW.trod enc Try.prog w 0 (fun _ => true) held fuel 32 cs = some x) : ∃ p v L, cs = [.int .i64 p, v] ∧ I64 p ∧ ChS w v L := by
  obtain ⟨xs, m, rfl, _, hl, hn, hel⟩ := DataW.trod_struct Try.underlying32 h
  rw [c32] at hl
  obtain ⟨q0, q1, rfl⟩ : ∃ a b, cs = [a, b] := match cs, hl with | [a, b], _ => ⟨a, b, rfl⟩
  have h0 := hel 0 _ rfl
  have h1 := hel 1 _ rfl
  rw [List.getElem?_eq_getElem (by rw [hn]; decide)] at h0 h1
  change DataW.trod enc Try.prog w 0 (fun _ => true) held m 3 (List.take (Try.prog.cellsOf 3) (List.drop 0 _)) = _ at h0
  change DataW.trod enc Try.prog w 0 (fun _ => true) held m 30 (List.take (Try.prog.cellsOf 30) (List.drop 1 _)) = _ at h1
  simp only [c3, c30] at h0 h1
  obtain ⟨p, rfl, hp⟩ := int_of (c := q0) (by simpa using h0)
  obtain ⟨L, hL⟩ := chI_of (v := q1) (by simpa using h1)
  exact ⟨p, q1, L, rfl, hp, hL⟩

theorem recAt_of {H : Type} {enc : TypeId × Value → H} {w : World} {held : Bool} {fuel : Nat} {cs : List Value} {x : DataW H × List MemPlace}
    (h : DataW.trod enc Try.prog w 0 (fun _ => true) held fuel 32 cs = some x) : ∃ r : MRec, I64 r.pos ∧ ∃ v, cs = [.int .i64 r.pos, v] ∧ ChS w v r.chs := by
  obtain ⟨p, v, L, e, hp, hL⟩ := rec_of h
  exact ⟨⟨p, L⟩, hp, v, e, hL⟩
/-- **A list of records, whatever they are.** -/
theorem open_recs {H : Type} {enc : TypeId × Value → H} {w : World} {r : Reach} {b0 : Nat} {v : Value} {d : DataW H} {p : List MemPlace}
    (hval : Value.okWide Try.prog w r b0 23 v) (hd : DataW.Trod enc Try.prog w 0 (fun _ => true) true 23 v d p) : ∃ R, RecS w v R := by
  obtain ⟨a0, len0, cap0, rfl⟩ := okWide_slice Try.underlying23 hval
  obtain ⟨fuel, h⟩ := hd
  rcases Go.Deep.open_slice Try.underlying23 h with ⟨e, _⟩ | ⟨a, len, cap, m, n, D, Pl, e, _, hl, hm, hm2, _, hel⟩
  · simp [Value.cells] at e
    obtain ⟨rfl, rfl, rfl⟩ := e
    exact ⟨[], none, 0, 0, rfl, rfl, Nat.le_refl _, by omega, fun h => by omega⟩
  · simp [Value.cells] at e
    obtain ⟨rfl, rfl, rfl⟩ := e
    rw [if_pos rfl] at hm2
    subst hm2
    rw [c32] at hel
    have hch : ∀ i, i < len0 → ∃ r : MRec, w.cell? ((a.add (i * 2)).add 0) = some (.int .i64 r.pos) ∧ ∃ v, w.cell? ((a.add (i * 2)).add 1) = some v ∧ ChS w v r.chs := fun i hi => by
      obtain ⟨cs, hcs, ht⟩ := hel i (by omega)
      obtain ⟨r, hp, v, e, hL⟩ := recAt_of ht
      obtain ⟨_, hlen, hc⟩ := World.cells?_some hcs
      subst e
      exact ⟨r, by rw [hc 0 (by omega)]; rfl, v, by rw [hc 1 (by omega)]; rfl, hL⟩
    have hf : ∃ f : Nat → MRec, ∀ i, i < len0 → w.cell? ((a.add (i * 2)).add 0) = some (.int .i64 (f i).pos) ∧ ∃ v, w.cell? ((a.add (i * 2)).add 1) = some v ∧ ChS w v (f i).chs :=
      ⟨fun i => if h : i < len0 then (hch i h).choose else recZ, fun i hi => by simpa [hi] using (hch i hi).choose_spec⟩
    obtain ⟨f, hf⟩ := hf
    refine ⟨(List.range len0).map f, some a, len0, _, rfl, by simp, hl, by unfold maxLen at hm; omega, fun h1 => ?_⟩
    obtain ⟨b, off, spot⟩ := a
    have h00 := (hf 0 (by omega)).1
    have hspot : spot = none := by simpa [Addr.add] using World.cell?_spot h00
    subst hspot
    refine ⟨b, off, rfl, by simpa [Addr.add] using World.block_lt_of_cell? w _ h00, fun i hi => ?_⟩
    obtain ⟨h0, v, h1', hL⟩ := hf i hi
    rw [show ((⟨b, off, none⟩ : Addr).add (i * 2)).add 0 = ⟨b, off + i * 2, none⟩ from by rw [Addr.add_lit, Addr.add_lit]; rfl] at h0
    rw [show ((⟨b, off, none⟩ : Addr).add (i * 2)).add 1 = ⟨b, off + i * 2 + 1, none⟩ from by rw [Addr.add_lit, Addr.add_lit]] at h1'
    have e : ((List.range len0).map f).getD i recZ = f i := by simp [List.getD, hi]
    rw [e]
    exact ⟨h0, v, h1', hL⟩
end Go.Proofs.Ytaapggeaoacikaa
