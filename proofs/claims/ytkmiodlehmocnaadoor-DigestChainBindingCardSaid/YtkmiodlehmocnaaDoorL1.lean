/- WHAT THE LISTED TABLES GIVE THE WALKS; the start of the witnesses. -/
import Derived.Test.YtkmiodlehmocnaaDoorRows
import Derived.Test.YtkmiodlehmocnaaDoorL0
import Derived.Test.YtkmiodlehmocnaaDoorT6
namespace Go.Proofs.YtkmiodlehmocnaaDoor
open Go.ChangeShapes Go.WideShapes Go.ChangeAt Go.RowKit

def theLaid : List (String × DataW Unit) := [("cachetier/digest.initial", Rows.laid_cachetier_digest_initial), ("cachetier/digest.constants", Rows.laid_cachetier_digest_constants)]
theorem own : ownKnob Tryd.prog.godebug = none := by kernel_rfl
theorem laidOut : laidOutB Tryd.prog = true := by kernel_rfl
theorem gIni : Tryd.prog.globalNamed "cachetier/digest.initial" = some 0 := by kernel_rfl
theorem gCon : Tryd.prog.globalNamed "cachetier/digest.constants" = some 1 := by kernel_rfl
theorem tIni : (Tryd.prog.globals[0]?).map (·.type) = some 58 := by kernel_rfl
theorem tCon : (Tryd.prog.globals[1]?).map (·.type) = some 72 := by kernel_rfl
theorem c47 : Tryd.prog.cellsOf 47 = 1 := by kernel_rfl
theorem c58 : Tryd.prog.cellsOf 58 = 8 := by kernel_rfl
theorem c72 : Tryd.prog.cellsOf 72 = 64 := by kernel_rfl

theorem door_met (os : Os) (args : Array Value) : laidMetH Tryd.prog theLaid ((World.doorLaid Tryd.prog 400 os).forCall (fun _ _ => 0) ⟨#[], args, []⟩).memory :=
  laidMetH_of_parts3 (fuel := 8) (laidMet_of_run' 8 (by kernel_rfl) (by kernel_rfl)) (by kernel_rfl) (by kernel_rfl)

theorem var_heap {P : Program} {w : World} {n : String} {g : Nat} {cs : Array Value} (hg : P.globalNamed n = some g) (h : w.var? P n = some cs) : ∃ t f, w.heap[g]? = some (.cells cs t f) := by
  simp only [World.var?, hg, Option.bind_some] at h
  split at h
  · rename_i c t f hc
    exact ⟨t, f, by rw [hc]; cases h; rfl⟩
  · cases h

/-- A table of words, out of its reading. -/
theorem words_of {W : World} {f : Nat} {T : TypeId} {cs : Array Value} {tab : List Nat} {p : List MemPlace} (hu : Tryd.prog.underlying T = some (.array tab.length 47)) (hc : Tryd.prog.cellsOf T = tab.length)
    (hd : DataW.trod (fun (_ : TypeId × Value) => ()) Tryd.prog W 0 (fun _ => true) false f T cs.toList = some ((.agg (tab.map fun (n : Nat) => .lit (.int .u32 (n : Int)))), p)) : cs = (wordsV tab).toArray := by
  obtain ⟨xs, m, rfl, hx, hlen, hn, hel⟩ := DataW.trod_array hu hd
  rw [hc] at hlen
  simp only [Prod.mk.injEq] at hx
  have hx2 : (tab.map fun (n : Nat) => (DataW.lit (.int .u32 (n : Int)) : DataW Unit)) = xs.map (·.1) := by injection hx.1
  apply Array.ext'
  apply List.ext_getElem?
  intro i
  by_cases hi : i < tab.length
  · have h0 := hel i hi
    rw [List.getElem?_eq_getElem (by omega), c47, Nat.mul_one] at h0
    obtain ⟨k, e1, e2, _⟩ := DataW.trod_int Tryd.underlying47 h0
    have hk : (xs.map (·.1))[i]? = some (.lit (.int .u32 k)) := by
      rw [List.getElem?_map, List.getElem?_eq_getElem (by omega), Option.map_some, e2]
    rw [← hx2, List.getElem?_map, List.getElem?_eq_getElem hi] at hk
    have hk2 : ((tab[i] : Nat) : Int) = k := by simpa using hk
    have h1 := congrArg (fun l => l[0]?) e1
    have hci : cs.toList[i]? = some (.int .u32 k) := by simpa [List.getElem?_take, List.getElem?_drop] using h1
    rw [hci, ← hk2]
    simp [wordsV, wordV, hi]
  · rw [List.getElem?_eq_none (by omega), List.getElem?_eq_none (by simp [wordsV]; omega)]

theorem tab_of_laid {W : World} (h : laidMetH Tryd.prog theLaid W) : Tab W := by
  rw [MakeChecks.laidMetH_plain _ _ _ (by kernel_rfl)] at h
  obtain ⟨ps, ⟨g0, t0, cs0, f0, p0, q0, hg0, ht0, hv0, hd0, h1, _⟩, _⟩ := h
  obtain ⟨g1, t1, cs1, f1, p1, q1, hg1, ht1, hv1, hd1, _, _⟩ := h1
  obtain rfl := Option.some.inj (gIni.symm.trans hg0)
  obtain rfl := Option.some.inj (gCon.symm.trans hg1)
  obtain rfl := Option.some.inj (tIni.symm.trans ht0)
  obtain rfl := Option.some.inj (tCon.symm.trans ht1)
  obtain ⟨a0, b0, hh0⟩ := var_heap gIni hv0
  obtain ⟨a1, b1, hh1⟩ := var_heap gCon hv1
  have e0 : cs0 = (wordsV start.list).toArray := words_of (tab := start.list) Tryd.underlying58 c58 (by rw [hd0]; rfl)
  have e1 : cs1 = (wordsV kTab).toArray := words_of (tab := kTab) Tryd.underlying72 c72 (by rw [hd1]; rfl)
  subst e0 e1
  exact ⟨a0, b0, a1, b1, hh0, hh1⟩
end Go.Proofs.YtkmiodlehmocnaaDoor
