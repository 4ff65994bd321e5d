/- WALKS: readChange. -/
import Derived.Test.YtgkdliocfnoffaaDoorR2
import Derived.Test.YtgkdliocfnoffaaDoorG1
set_option linter.unusedVariables false
namespace Go.Proofs.YtgkdliocfnoffaaDoor
open Go.RowKit Go.Sort

/-- The reader at an offset, all else as it stood. -/
def RK (s : ByteArray) (rb k : Nat) (w w' : World) : Prop := RdAt w' rb s k ∧ Kx rb w w'
theorem RK.rd {s : ByteArray} {rb k : Nat} {w w' : World} (h : RK s rb k w w') : RdAt w' rb s k := h.1
theorem RK.kx {s : ByteArray} {rb k : Nat} {w w' : World} (h : RK s rb k w w') : Kx rb w w' := h.2
theorem RK.set {s : ByteArray} {rb k : Nat} {w w' : World} (h : RK s rb k w w') {b : Nat} (hb : w.heap.size ≤ b) (hne : ¬ b = rb) (o : Nat) (v : Value) : RK s rb k w (w'.setCell ⟨b, o, none⟩ v) := ⟨h.1.setOther hne o v, h.2.setNew hb o v⟩
theorem ROut.rk {α : Type} {s : ByteArray} {rb : Nat} {a0 a1 : Addr} {w : World} {enc : α → Value} {r : Except Bool (α × Nat)} {e : Ending} {w' : World} {a : α} {k : Nat} (hr : Hid (r = .ok (a, k))) (h1 : e = .returned (enc a)) (h2 : RK s rb k w w') : ROut s rb a0 a1 w enc r e w' := ROut.ok hr h1 h2.1 h2.2

theorem RK.setRow {s : ByteArray} {rb k : Nat} {w w' : World} (h : RK s rb k w w') {g : Nat} (hb : w.heap.size ≤ g) (hne : ¬ g = rb) (cs : Array Value) : RK s rb k w (w'.setRow g cs) := by
  obtain ⟨⟨h0, h1, h2⟩, h3⟩ := h
  refine ⟨⟨?_, ?_, ?_⟩, ⟨h3.os, h3.tape, h3.output, by simpa using h3.size, fun j hj hj2 => (setRow_other w' g j cs (by omega)).trans (h3.block j hj hj2)⟩⟩
  · rw [cell_setRow_other _ _ _ _ (fun e => hne e.symm)]; exact h0
  · rw [cell_setRow_other _ _ _ _ (fun e => hne e.symm)]; exact h1
  · have e := setRow_other w' g rb cs (fun e => hne e.symm)
    simp only [World.frozen?, e] at h2 ⊢; exact h2
def rdChT (t k m : Int) : Rd MCh := if m < 1 ∨ 3 < m then Rd.bad else
  (rdIf (decide (m = 1 ∨ m = 3))).bind fun o => (rdIf (decide (m = 2 ∨ m = 3))).bind fun n => Rd.ret ⟨t, k, decide (m = 1 ∨ m = 3), o, decide (m = 2 ∨ m = 3), n⟩
theorem rdCh_eq : rdCh = Rd.get fun t => Rd.get fun k => Rd.get fun m => rdChT t k m := rfl
theorem rdChT_bad (L : List UInt8) (t k m : Int) (j : Nat) (h : m < 1 ∨ 3 < m) : (rdChT t k m).run L j = .error true := by unfold rdChT; rw [if_pos h]; rfl
theorem rdChT_1 (t k : Int) : rdChT t k 1 = rd3.bind fun o => Rd.ret ⟨t, k, true, o, false, V3.zero⟩ := rfl
theorem rdChT_2 (t k : Int) : rdChT t k 2 = rd3.bind fun n => Rd.ret ⟨t, k, false, V3.zero, true, n⟩ := rfl
theorem rdChT_3 (t k : Int) : rdChT t k 3 = rd3.bind fun o => rd3.bind fun n => Rd.ret ⟨t, k, true, o, true, n⟩ := rfl

end Go.Proofs.YtgkdliocfnoffaaDoor
