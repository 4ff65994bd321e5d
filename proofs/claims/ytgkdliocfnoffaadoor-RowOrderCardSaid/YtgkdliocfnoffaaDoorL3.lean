/- RECORDS, out of a parameter. -/
import Derived.Test.YtgkdliocfnoffaaDoorL2
import Derived.Test.YtgkdliocfnoffaaDoorB5
set_option linter.unusedVariables false
set_option linter.unusedSimpArgs false
set_option maxRecDepth 100000
namespace Go.Proofs.YtgkdliocfnoffaaDoor
open Go.ChangeShapes Go.WideShapes Go.ChangeAt Go.RowKit

theorem c35 : Tryd.prog.cellsOf 35 = 1 := by kernel_rfl
theorem c37 : Tryd.prog.cellsOf 37 = 2 := by kernel_rfl
theorem chI_of {H : Type} {enc : TypeId × Value → H} {w : World} {held : Bool} {fuel : Nat} {v : Value} {x : DataW H × List MemPlace}
    (h : DataW.trod enc Tryd.prog w 0 (fun _ => true) held fuel 35 [v] = some x) : ∃ L, ChI w v L := by
  rcases Go.Deep.open_slice Tryd.underlying35 h with ⟨e, _⟩ | ⟨a, len, cap, m, n, D, Pl, e, _, hl, hm, hm2, _, hel⟩
  · obtain rfl : v = .slice none 0 0 := by simpa using e
    exact ⟨[], none, 0, 0, rfl, rfl, Nat.le_refl _, Nat.zero_le _, fun _ => rfl, fun h => by omega⟩
  · obtain rfl : v = .slice (some a) len cap := by simpa using e
    rw [if_pos rfl] at hm2
    subst hm2
    rw [c42] at hel
    have hch : ∀ i, i < len → ∃ c : MCh, ∀ j : Nat, j < 10 → w.cell? ((a.add (i * 10)).add j) = (chCells c)[j]? := fun i hi => by
      obtain ⟨cs, hcs, ht⟩ := hel i (by omega)
      obtain ⟨c, rfl, _⟩ := ch_of ht
      obtain ⟨_, _, hc⟩ := World.cells?_some hcs
      exact ⟨c, fun j hj => by rw [hc j hj]; simp⟩
    have hf : ∃ f : Nat → MCh, ∀ i, i < len → ∀ j : Nat, j < 10 → w.cell? ((a.add (i * 10)).add j) = (chCells (f i))[j]? :=
      ⟨fun i => if h : i < len then (hch i h).choose else chZ, fun i hi => by simpa [hi] using (hch i hi).choose_spec⟩
    obtain ⟨f, hf⟩ := hf
    refine ⟨(List.range len).map f, some a, len, m, rfl, by simp, hl, hm, (fun h => absurd h (by simp)), fun h1 => ?_⟩
    obtain ⟨b, off, spot⟩ := a
    have h00 := hf 0 (by omega) 0 (by omega)
    obtain ⟨u, hu, _⟩ := chCells_some (f 0) 0 (by omega)
    rw [hu] at h00
    have hspot : spot = none := by simpa [Addr.add] using World.cell?_spot h00
    subst hspot
    refine ⟨b, off, rfl, by simpa [Addr.add] using World.block_lt_of_cell? w _ h00, fun i hi j hj => ?_⟩
    have := hf i hi j hj
    rw [show ((⟨b, off, none⟩ : Addr).add (i * 10)).add j = ⟨b, off + i * 10 + j, none⟩ from by rw [Addr.add_lit, Addr.add_lit]]  at this
    rw [this]
    simp [List.getD, hi]
theorem rec_of {H : Type} {enc : TypeId × Value → H} {w : World} {held : Bool} {fuel : Nat} {cs : List Value} {x : DataW H × List MemPlace}
    (h : DataW.trod enc Tryd.prog w 0 (fun _ => true) held fuel 37 cs = some x) : ∃ p v L, cs = [.int .i64 p, v] ∧ I64 p ∧ ChI w v L := by
  obtain ⟨xs, m, rfl, _, hl, hn, hel⟩ := DataW.trod_struct Tryd.underlying37 h
  rw [c37] at hl
  obtain ⟨q0, q1, rfl⟩ : ∃ a b, cs = [a, b] := match cs, hl with | [a, b], _ => ⟨a, b, rfl⟩
  have h0 := hel 0 _ rfl
  have h1 := hel 1 _ rfl
  rw [List.getElem?_eq_getElem (by rw [hn]; decide)] at h0 h1
  change DataW.trod enc Tryd.prog w 0 (fun _ => true) held m 3 (List.take (Tryd.prog.cellsOf 3) (List.drop 0 _)) = _ at h0
  change DataW.trod enc Tryd.prog w 0 (fun _ => true) held m 35 (List.take (Tryd.prog.cellsOf 35) (List.drop 1 _)) = _ at h1
  simp only [c3, c35] at h0 h1
  obtain ⟨p, rfl, hp⟩ := int_of (c := q0) (by simpa using h0)
  obtain ⟨L, hL⟩ := chI_of (v := q1) (by simpa using h1)
  exact ⟨p, q1, L, rfl, hp, hL⟩
theorem open_rec {H : Type} {enc : TypeId × Value → H} {w : World} {held : Bool} {r : Reach} {b0 : Nat} {v : Value} {d : DataW H} {p : List MemPlace}
    (hval : Value.okWide Tryd.prog w r b0 37 v) (hd : DataW.Trod enc Tryd.prog w 0 (fun _ => true) held 37 v d p) : ∃ k u L, v = .agg #[.int .i64 k, u] ∧ ChI w u L := by
  obtain ⟨cs, rfl, hcs⟩ := agg_of Tryd.underlying37 hval
  obtain ⟨fuel, hf⟩ := hd
  rw [hcs] at hf
  obtain ⟨k, u, L, e, _, hL⟩ := rec_of hf
  exact ⟨k, u, L, by rw [show cs = cs.toList.toArray by simp, e], hL⟩
end Go.Proofs.YtgkdliocfnoffaaDoor
