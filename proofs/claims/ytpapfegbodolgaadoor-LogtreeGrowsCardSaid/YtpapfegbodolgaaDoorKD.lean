/- LISTS OF LISTS OF INTEGERS, out of a parameter. -/
import Derived.Test.YtpapfegbodolgaaDoorP9
import Derived.Test.YtpapfegbodolgaaDoorT1
set_option linter.unusedVariables false
set_option linter.unnecessarySimpa false
set_option linter.unusedSimpArgs false
set_option maxRecDepth 100000
namespace Go.Proofs.YtpapfegbodolgaaDoor
open Go.ChangeShapes Go.WideShapes Go.ChangeAt Go.RowKit

theorem c75 : Tryd.prog.cellsOf 75 = 1 := by kernel_rfl
theorem ints_of {H : Type} {enc : TypeId × Value → H} {w : World} {held : Bool} {fuel : Nat} {v : Value} {x : DataW H × List MemPlace}
    (h : DataW.trod enc Tryd.prog w 0 (fun _ => true) held fuel 75 [v] = some x) : ∃ L, NumS w v L := by
  rcases Go.Deep.open_slice1 Tryd.underlying75 c3 h with ⟨e, _⟩ | ⟨a, len, cap, m, n, V, D, Pl, e, _, hl, hm, hm2, _, hel⟩
  · obtain rfl : v = .slice none 0 0 := by simpa using e
    exact ⟨[], none, 0, 0, rfl, rfl, Nat.le_refl _, by omega, (fun h => by omega), fun _ h => by cases h⟩
  · obtain rfl : v = .slice (some a) len cap := by simpa using e
    rw [if_pos rfl] at hm2
    subst hm2
    have hch : ∀ i, i < len → ∃ c : Int, w.cell? (a.add i) = some (.int .i64 c) ∧ I64 c := fun i hi => by
      obtain ⟨h1, h2⟩ := hel i (by omega)
      obtain ⟨c, e, hI⟩ := int_of h2
      exact ⟨c, by rw [h1, e], hI⟩
    have hf : ∃ f : Nat → Int, ∀ i, i < len → w.cell? (a.add i) = some (.int .i64 (f i)) ∧ I64 (f i) :=
      ⟨fun i => if h : i < len then (hch i h).choose else 0, fun i hi => by simpa [hi] using (hch i hi).choose_spec⟩
    obtain ⟨f, hf⟩ := hf
    refine ⟨(List.range len).map f, some a, len, m, rfl, by simp, hl, hm, fun h1 => ?_, fun x hx => ?_⟩
    · obtain ⟨b, off, spot⟩ := a
      have h00 := (hf 0 (by omega)).1
      have hspot : spot = none := by simpa [Addr.add] using World.cell?_spot h00
      subst hspot
      refine ⟨b, off, rfl, by simpa [Addr.add] using World.block_lt_of_cell? w _ h00, fun i hi => ?_⟩
      have := (hf i hi).1
      rw [Addr.add_lit] at this
      rw [this]
      simp [List.getD, hi]
    · obtain ⟨i, hi, rfl⟩ := List.mem_map.1 hx
      exact (hf i (List.mem_range.1 hi)).2
theorem iss_of {H : Type} {enc : TypeId × Value → H} {w : World} {held : Bool} {fuel : Nat} {v : Value} {x : DataW H × List MemPlace}
    (h : DataW.trod enc Tryd.prog w 0 (fun _ => true) held fuel 31 [v] = some x) : ∃ X, NumSS w v X := by
  rcases Go.Deep.open_slice1 Tryd.underlying31 c75 h with ⟨e, _⟩ | ⟨a, len, cap, m, n, V, D, Pl, e, _, hl, hm, hm2, _, hel⟩
  · obtain rfl : v = .slice none 0 0 := by simpa using e
    exact ⟨[], none, 0, 0, rfl, rfl, Nat.le_refl _, by omega, fun h => by omega⟩
  · obtain rfl : v = .slice (some a) len cap := by simpa using e
    rw [if_pos rfl] at hm2
    subst hm2
    have hch : ∀ i, i < len → ∃ (L : List Int), NumS w (V i) L := fun i hi => ints_of (hel i (by omega)).2
    have hf : ∃ f : Nat → List Int, ∀ i, i < len → NumS w (V i) (f i) :=
      ⟨fun i => if h : i < len then (hch i h).choose else [], fun i hi => by simpa [hi] using (hch i hi).choose_spec⟩
    obtain ⟨f, hf⟩ := hf
    refine ⟨(List.range len).map f, some a, len, m, rfl, by simp, hl, hm, fun h1 => ?_⟩
    obtain ⟨b, off, spot⟩ := a
    have h00 := (hel 0 (by omega)).1
    have hspot : spot = none := by simpa [Addr.add] using World.cell?_spot h00
    subst hspot
    refine ⟨b, off, rfl, by simpa [Addr.add] using World.block_lt_of_cell? w _ h00, fun i hi => ?_⟩
    have hu := (hel i (by omega)).1
    rw [Addr.add_lit] at hu
    refine ⟨V i, hu, ?_⟩
    rw [show ((List.range len).map f).getD i [] = f i by simp [List.getD, hi]]
    exact hf i hi
theorem open_iss {H : Type} {enc : TypeId × Value → H} {w : World} {held : Bool} {r : Reach} {b0 : Nat} {v : Value} {d : DataW H} {p : List MemPlace}
    (hval : Value.okWide Tryd.prog w r b0 31 v) (hd : DataW.Trod enc Tryd.prog w 0 (fun _ => true) held 31 v d p) : ∃ X, NumSS w v X := by
  obtain ⟨a, n, cap, rfl⟩ := okWide_slice Tryd.underlying31 hval
  obtain ⟨fuel, hf⟩ := hd
  exact iss_of hf
end Go.Proofs.YtpapfegbodolgaaDoor
