/- LISTS OF RECORDS in memory. -/
import Derived.Test.YtaapggeaoacikaaK11
set_option linter.unusedVariables false
set_option linter.unusedSimpArgs false
namespace Go.Proofs.Ytaapggeaoacikaa
open Go.RowKit Go.Sort Go.ChangeMaps Go.MapKept

/-- The two cells of a record. -/
def RecAt (w : World) (b o : Nat) (r : MRec) : Prop :=
  w.cell? ⟨b, o, none⟩ = some (.int .i64 r.pos) ∧ ∃ v, w.cell? ⟨b, o + 1, none⟩ = some v ∧ ChS w v r.chs
/-- A slice that reads as a list of records. -/
def RecS (w : World) (v : Value) (R : List MRec) : Prop :=
  ∃ a n cap, v = .slice a n cap ∧ n = R.length ∧ n ≤ cap ∧ cap ≤ 9223372036854775807 ∧ (1 ≤ n → ∃ b o, a = some ⟨b, o, none⟩ ∧ b < w.heap.size ∧ ∀ i, i < n → RecAt w b (o + i * 2) (R.getD i recZ))
theorem RecAt.below {w w' : World} {b o : Nat} {r : MRec} (h : RecAt w b o r) (hb : b < w.heap.size) (k : Below w.heap.size w w') : RecAt w' b o r := by
  obtain ⟨h0, v, h1, h2⟩ := h
  exact ⟨(k.cell (p := ⟨b, o, none⟩) hb).trans h0, v, (k.cell (p := ⟨b, o + 1, none⟩) hb).trans h1, h2.below k⟩
theorem RecS.below {w w' : World} {v : Value} {R : List MRec} (h : RecS w v R) (k : Below w.heap.size w w') : RecS w' v R := by
  obtain ⟨a, n, cap, e, hn, h1, h2, h3⟩ := h
  refine ⟨a, n, cap, e, hn, h1, h2, fun hh => ?_⟩
  obtain ⟨b, o, ea, hb, hc⟩ := h3 hh
  exact ⟨b, o, ea, Nat.lt_of_lt_of_le hb k.size, fun i hi => (hc i hi).below hb k⟩
theorem Chn.len {R : List MRec} (h : Chn R) : R.length ≤ 10000 := by
  rcases Nat.eq_zero_or_pos R.length with e | e
  · omega
  · have := h (R.length - 1) (by omega)
    have h1 := this.1.1
    have h2 := this.2.1
    omega
end Go.Proofs.Ytaapggeaoacikaa
