/- WALKS: sane of the laws. -/
import Derived.Test.YtgkdliocfnoffaaDoorQ4
set_option linter.unusedVariables false
namespace Go.Proofs.YtgkdliocfnoffaaDoor
open Go.RowKit Go.Sort

def sc : MCh := ⟨1, 5, false, ⟨0, 0, 0⟩, true, ⟨7, -3, 9⟩⟩
theorem sane1 : encRowS ⟨1, 5, ⟨7, -3, 9⟩⟩ = ⟨#[2, 10, 14, 5, 18]⟩ := by decide +kernel
theorem sane2 : encRecS 4 [sc] = ⟨#[8, 2, 2, 10, 4, 14, 5, 18]⟩ := by decide +kernel
theorem sane3 : decRec ⟨#[8, 2, 2, 10, 4, 14, 5, 18]⟩ = (⟨4, [sc]⟩, 0) := by decide +kernel
theorem sane4 : decRow ⟨#[]⟩ = (⟨0, 0, V3.zero⟩, 10) := by decide +kernel
theorem sane5 : decRec ⟨#[8, 2, 2, 10, 0]⟩ = (recZ, 30) := by decide +kernel
theorem sane6 : VRec 4 [sc] := by decide +kernel
theorem sane7 : VRow ⟨1, 5, ⟨7, -3, 9⟩⟩ := by decide +kernel
theorem sane8 : VCh sc := by decide +kernel
theorem sane9 : ¬ VRec 4 [] := by decide +kernel

/-- The errors, and that they lie below. -/
def Errs (w : World) : Prop := ∃ a0 a1, ErrW w a0 a1 ∧ 1 < w.heap.size ∧ a0.block < w.heap.size ∧ a1.block < w.heap.size
theorem Errs.below {w w' : World} (h : Errs w) (hb : Below w.heap.size w w') : Errs w' := by
  obtain ⟨a0, a1, h1, h2, h3, h4⟩ := h
  have := hb.size
  exact ⟨a0, a1, h1.below (by omega) h2 h3 h4 hb, by omega, by omega, by omega⟩
theorem decode_e (s : ByteArray) (w : World) (hs : s.size ≤ maxLen) (hE : Errs w) : Calls Tryd.prog 15 #[.string s] w fun e w' => e = .returned (decRowV s) ∧ Below w.heap.size w w' := by
  obtain ⟨a0, a1, h1, h2⟩ := hE
  exact decode_any s a0 a1 w hs h1 h2
theorem decodeR_e (s : ByteArray) (w : World) (hs : s.size ≤ maxLen) (hE : Errs w) {x : MRec} {c : Int} (hd : decRec s = (x, c)) : Calls Tryd.prog 31 #[.string s] w fun e w' => ∃ v, e = .returned (.tuple #[.agg #[.int .i64 x.pos, v], .int .i64 c]) ∧ ChS w' v x.chs ∧ Below w.heap.size w w' := by
  obtain ⟨a0, a1, h1, h2⟩ := hE
  refine (decodeRecord_any s a0 a1 w hs h1 h2).mono ?_
  rintro e w' ⟨v, h⟩
  rw [hd] at h
  exact ⟨v, h⟩

/-- What sane lays. -/
structure Sn (W : World) (b : Nat) : Prop where
  r0 : W.cell? ⟨b, 0, none⟩ = some (.int .i64 1)
  r1 : W.cell? ⟨b, 1, none⟩ = some (.int .i64 5)
  r2 : W.cell? ⟨b, 2, none⟩ = some (.int .i64 7)
  r3 : W.cell? ⟨b, 3, none⟩ = some (.int .i64 (-3))
  r4 : W.cell? ⟨b, 4, none⟩ = some (.int .i64 9)
  c : ChAt W (b + 1) 0 sc
  e : ChAt W (b + 1 + 1) 0 sc
  x0 : W.cell? ⟨b + 1 + 1 + 1, 0, none⟩ = some (.int .i64 4)
  x1 : W.cell? ⟨b + 1 + 1 + 1, 1, none⟩ = some (.slice (some ⟨b + 1 + 1, 0, none⟩) 1 1)
  sz : b + 1 + 1 + 1 < W.heap.size
theorem Sn.below {W W' : World} {b : Nat} (h : Sn W b) (k : Below W.heap.size W W') : Sn W' b := by
  obtain ⟨hc, hf⟩ := bcell k
  have hz := h.sz
  exact ⟨by rw [hc _ _ (by omega)]; exact h.r0, by rw [hc _ _ (by omega)]; exact h.r1, by rw [hc _ _ (by omega)]; exact h.r2, by rw [hc _ _ (by omega)]; exact h.r3, by rw [hc _ _ (by omega)]; exact h.r4,
    h.c.below (by omega) k, h.e.below (by omega) k, by rw [hc _ _ (by omega)]; exact h.x0, by rw [hc _ _ (by omega)]; exact h.x1, Nat.lt_of_lt_of_le hz k.size⟩
theorem Sn.chs {W : World} {b : Nat} (h : Sn W b) : ChS W (.slice (some ⟨b + 1 + 1, 0, none⟩) 1 1) [sc] :=
  ⟨_, 1, 1, rfl, rfl, Nat.le_refl _, by omega, fun _ => ⟨_, _, rfl, by have := h.sz; omega, fun i hi => by
    have : i = 0 := by omega
    subst this; exact h.e⟩⟩
theorem two_below {W W' : World} {b : Nat} {u v : Value} (h0 : W.cell? ⟨b, 0, none⟩ = some u) (h1 : W.cell? ⟨b, 1, none⟩ = some v) (k : Below W.heap.size W W') : W'.cell? ⟨b, 0, none⟩ = some u ∧ W'.cell? ⟨b, 1, none⟩ = some v := by
  have hl := World.block_lt_of_cell? W _ h0
  obtain ⟨hc, _⟩ := bcell k
  exact ⟨by rw [hc _ _ hl]; exact h0, by rw [hc _ _ hl]; exact h1⟩
end Go.Proofs.YtgkdliocfnoffaaDoor
