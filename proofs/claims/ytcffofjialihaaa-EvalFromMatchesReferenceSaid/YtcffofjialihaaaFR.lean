/- PARAMETERS that are lists of rows, and a result. -/
import Derived.Test.YtcffofjialihaaaFQ
set_option linter.unusedVariables false
set_option linter.unusedSimpArgs false
set_option maxRecDepth 100000
namespace Go.Proofs.Ytcffofjialihaaa
open Go.ChangeShapes Go.WideShapes Go.ChangeAt Go.RowKit

theorem c4 : Try.prog.cellsOf 4 = 1 := by kernel_rfl
theorem c31 : Try.prog.cellsOf 31 = 5 := by kernel_rfl
theorem c25 : Try.prog.cellsOf 25 = 1 := by kernel_rfl
theorem c27 : Try.prog.cellsOf 27 = 3 := by kernel_rfl
def V3.wd (v : V3) : Prop := I64 v.a ∧ I64 v.b ∧ I64 v.c
def MRow.wd (r : MRow) : Prop := I64 r.t ∧ I64 r.k ∧ r.v.wd

section
variable {H : Type} {enc : TypeId × Value → H} {w : World} {base : Nat} {sp : Nat → Bool} {held : Bool}
theorem bool_of {fuel : Nat} {c : Value} {x : DataW H × List MemPlace} (h : DataW.trod enc Try.prog w base sp held fuel 4 [c] = some x) : ∃ b, c = .bool b := by
  obtain ⟨n, e, _⟩ := DataW.trod_bool Try.underlying4 h
  exact ⟨n, by simpa using e⟩
theorem v3_of {fuel : Nat} {c0 c1 c2 : Value} {x : DataW H × List MemPlace} (h : DataW.trod enc Try.prog w base sp held fuel 29 [c0, c1, c2] = some x) : ∃ v : V3, c0 = .int .i64 v.a ∧ c1 = .int .i64 v.b ∧ c2 = .int .i64 v.c ∧ v.wd := by
  obtain ⟨xs, m, rfl, _, _, hn, hel⟩ := DataW.trod_array Try.underlying29 h
  have h0 := hel 0 (by omega)
  have h1 := hel 1 (by omega)
  have h2 := hel 2 (by omega)
  rw [List.getElem?_eq_getElem (by omega), c3] at h0 h1 h2
  obtain ⟨a, rfl, ha⟩ := int_of (c := c0) (by simpa using h0)
  obtain ⟨b, rfl, hb⟩ := int_of (c := c1) (by simpa using h1)
  obtain ⟨c, rfl, hc⟩ := int_of (c := c2) (by simpa using h2)
  exact ⟨⟨a, b, c⟩, rfl, rfl, rfl, ha, hb, hc⟩
theorem row_of {fuel : Nat} {cs : List Value} {x : DataW H × List MemPlace} (h : DataW.trod enc Try.prog w base sp held fuel 31 cs = some x) : ∃ r : MRow, cs = [.int .i64 r.t, .int .i64 r.k, .int .i64 r.v.a, .int .i64 r.v.b, .int .i64 r.v.c] ∧ r.wd := by
  obtain ⟨xs, m, rfl, _, hl, hn, hel⟩ := DataW.trod_struct Try.underlying31 h
  rw [c31] at hl
  obtain ⟨q0, q1, q2, q3, q4, rfl⟩ : ∃ a b c d e, cs = [a, b, c, d, e] := match cs, hl with | [a, b, c, d, e], _ => ⟨a, b, c, d, e, rfl⟩
  have h0 := hel 0 _ rfl
  have h1 := hel 1 _ rfl
  have h2 := hel 2 _ rfl
  rw [List.getElem?_eq_getElem (by rw [hn]; decide)] at h0 h1 h2
  change DataW.trod enc Try.prog w base sp held m 3 (List.take (Try.prog.cellsOf 3) (List.drop 0 _)) = _ at h0
  change DataW.trod enc Try.prog w base sp held m 3 (List.take (Try.prog.cellsOf 3) (List.drop 1 _)) = _ at h1
  change DataW.trod enc Try.prog w base sp held m 29 (List.take (Try.prog.cellsOf 29) (List.drop 2 _)) = _ at h2
  simp only [c3, c29] at h0 h1 h2
  obtain ⟨a, rfl, ha⟩ := int_of (c := q0) (by simpa using h0)
  obtain ⟨b, rfl, hb⟩ := int_of (c := q1) (by simpa using h1)
  obtain ⟨v, rfl, rfl, rfl, hv⟩ := v3_of (c0 := q2) (c1 := q3) (c2 := q4) (by simpa using h2)
  exact ⟨⟨a, b, v⟩, rfl, ha, hb, hv⟩
end

theorem rowsI_of {H : Type} {enc : TypeId × Value → H} {w : World} {held : Bool} {fuel : Nat} {v : Value} {x : DataW H × List MemPlace}
    (h : DataW.trod enc Try.prog w 0 (fun _ => true) held fuel 25 [v] = some x) : ∃ L, RowS w v L ∧ (∀ r ∈ L, r.wd) ∧ ((v = .slice none 0 0 ∧ L = []) ∨ (∃ ad, v = .slice (some ad) 0 0 ∧ L = []) ∨ ∃ b o n c, v = .slice (some ⟨b, o, none⟩) n c) := by
  rcases Go.Deep.open_slice Try.underlying25 h with ⟨e, _⟩ | ⟨a, len, cap, m, n, D, Pl, e, _, hl, hm, hm2, _, hel⟩
  · obtain rfl : v = .slice none 0 0 := by simpa using e
    exact ⟨[], ⟨none, 0, 0, rfl, rfl, Nat.le_refl _, by omega, fun h => by omega⟩, fun r hr => by simp at hr, .inl ⟨rfl, rfl⟩⟩
  · obtain rfl : v = .slice (some a) len cap := by simpa using e
    rw [if_pos rfl] at hm2
    subst hm2
    rw [c31] at hel
    have hch : ∀ i, i < len → ∃ r : MRow, r.wd ∧ ∀ j : Nat, j < 5 → w.cell? ((a.add (i * 5)).add j) = (rcl r)[j]? := fun i hi => by
      obtain ⟨cs, hcs, ht⟩ := hel i (by omega)
      obtain ⟨c, rfl, hwd⟩ := row_of ht
      obtain ⟨_, _, hc⟩ := World.cells?_some hcs
      exact ⟨c, hwd, fun j hj => by rw [hc j hj]; simp [rcl]⟩
    have hf : ∃ f : Nat → MRow, ∀ i, i < len → (f i).wd ∧ ∀ j : Nat, j < 5 → w.cell? ((a.add (i * 5)).add j) = (rcl (f i))[j]? :=
      ⟨fun i => if h : i < len then (hch i h).choose else rowZ, fun i hi => by simpa [hi] using (hch i hi).choose_spec⟩
    obtain ⟨f, hf⟩ := hf
    refine ⟨(List.range len).map f, ⟨some a, len, m, rfl, by simp, hl, by unfold maxLen at hm; omega, fun h1 => ?_⟩, fun r hr => ?_, ?_⟩
    · obtain ⟨b, off, spot⟩ := a
      have h00 := (hf 0 (by omega)).2 0 (by omega)
      have hu : (rcl (f 0))[0]? = some (.int .i64 (f 0).t) := rfl
      rw [hu] at h00
      have hspot : spot = none := by simpa [Addr.add] using World.cell?_spot h00
      subst hspot
      refine ⟨b, off, rfl, by simpa [Addr.add] using World.block_lt_of_cell? w _ h00, fun i hi j hj => ?_⟩
      have := (hf i hi).2 j hj
      rw [show ((⟨b, off, none⟩ : Addr).add (i * 5)).add j = ⟨b, off + i * 5 + j, none⟩ from by rw [Addr.add_lit, Addr.add_lit]] at this
      rw [this]
      simp [List.getD, hi]
    · obtain ⟨i, hi, rfl⟩ := List.mem_map.1 hr
      exact (hf i (List.mem_range.1 hi)).1
    · by_cases hm0 : m = 0
      · subst hm0
        obtain rfl : len = 0 := by omega
        exact .inr (.inl ⟨a, rfl, rfl⟩)
      · obtain ⟨b, off, spot⟩ := a
        obtain ⟨cs, hcs, ht⟩ := hel 0 (by omega)
        obtain ⟨c, rfl, _⟩ := row_of ht
        obtain ⟨_, _, hc⟩ := World.cells?_some hcs
        have h00 : w.cell? (((⟨b, off, spot⟩ : Addr).add (0 * 5)).add 0) = some (.int .i64 c.t) := by rw [hc 0 (by omega)]; simp
        have hspot : spot = none := by simpa [Addr.add] using World.cell?_spot h00
        subst hspot
        exact .inr (.inr ⟨b, off, _, _, rfl⟩)
theorem open_rows {H : Type} {enc : TypeId × Value → H} {w : World} {r : Reach} {b0 : Nat} {v : Value} {d : DataW H} {p : List MemPlace}
    (hval : Value.okWide Try.prog w r b0 25 v) (hd : DataW.Trod enc Try.prog w 0 (fun _ => true) true 25 v d p) : ∃ L, RowS w v L ∧ (∀ r ∈ L, r.wd) ∧ ((v = .slice none 0 0 ∧ L = []) ∨ (∃ ad, v = .slice (some ad) 0 0 ∧ L = []) ∨ ∃ b o n c, v = .slice (some ⟨b, o, none⟩) n c) := by
  obtain ⟨a0, len0, cap0, rfl⟩ := okWide_slice Try.underlying25 hval
  obtain ⟨fuel, h⟩ := hd
  exact rowsI_of (v := .slice a0 len0 cap0) h
theorem open_res {H : Type} {enc : TypeId × Value → H} {w : World} {r : Reach} {b0 : Nat} {v : Value} {d : DataW H} {p : List MemPlace}
    (hval : Value.okWide Try.prog w r b0 27 v) (hd : DataW.Trod enc Try.prog w 0 (fun _ => true) true 27 v d p) : ∃ u z f T, v = resV u z f ∧ I64 z ∧ RowS w u T ∧ ((u = .slice none 0 0 ∧ T = []) ∨ (∃ ad, u = .slice (some ad) 0 0 ∧ T = []) ∨ ∃ b o n c, u = .slice (some ⟨b, o, none⟩) n c) := by
  obtain ⟨cs, rfl, hsz, _⟩ : ∃ cs, v = .agg cs ∧ cs.size = Try.prog.cellsOf 27 ∧ Row.okWide Try.prog w r b0 27 cs := by
    simpa [Value.okWide, Try.underlying27] using hval
  obtain ⟨fuel, hf⟩ := hd
  obtain ⟨l⟩ := cs
  change DataW.trod enc Try.prog w 0 (fun _ => true) true fuel 27 l = _ at hf
  obtain ⟨xs, m, rfl, _, hl, hn, hel⟩ := DataW.trod_struct Try.underlying27 hf
  have hl3 : l.length = 3 := by simpa using hsz.trans c27
  obtain ⟨q0, q1, q2, rfl⟩ : ∃ a b c, l = [a, b, c] := match l, hl3 with | [a, b, c], _ => ⟨a, b, c, rfl⟩
  have h0 := hel 0 _ rfl
  have h1 := hel 1 _ rfl
  have h2 := hel 2 _ rfl
  rw [List.getElem?_eq_getElem (by rw [hn]; decide)] at h0 h1 h2
  change DataW.trod enc Try.prog w 0 (fun _ => true) true m 25 (List.take (Try.prog.cellsOf 25) (List.drop 0 _)) = _ at h0
  change DataW.trod enc Try.prog w 0 (fun _ => true) true m 3 (List.take (Try.prog.cellsOf 3) (List.drop 1 _)) = _ at h1
  change DataW.trod enc Try.prog w 0 (fun _ => true) true m 4 (List.take (Try.prog.cellsOf 4) (List.drop 2 _)) = _ at h2
  simp only [c3, c4, c25] at h0 h1 h2
  obtain ⟨T, hT, _, hsh⟩ := rowsI_of (v := q0) (by simpa using h0)
  obtain ⟨z, rfl, hz⟩ := int_of (c := q1) (by simpa using h1)
  obtain ⟨f, rfl⟩ := bool_of (c := q2) (by simpa using h2)
  exact ⟨q0, z, f, T, rfl, hz, hT, hsh⟩
end Go.Proofs.Ytcffofjialihaaa
