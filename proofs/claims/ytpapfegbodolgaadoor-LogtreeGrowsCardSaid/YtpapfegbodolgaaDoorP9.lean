/- MERGED: KA, KB, KC. -/
import Derived.Test.YtpapfegbodolgaaDoorRL0
import Derived.Test.YtpapfegbodolgaaDoorP2
import Derived.Deep.Strs
import Derived.Deep.Slices
import Derived.Test.YtpapfegbodolgaaDoorRows
import Derived.Test.YtpapfegbodolgaaDoorDT6
import Derived.Test.YtpapfegbodolgaaDoorLP
section
set_option linter.unusedSimpArgs false
set_option linter.unusedVariables false
set_option maxRecDepth 100000
namespace Go.Proofs.YtpapfegbodolgaaDoor
open Go.ChangeShapes Go.WideShapes Go.ChangeAt Go.RowKit

theorem c3 : Tryd.prog.cellsOf 3 = 1 := by kernel_rfl
theorem c4 : Tryd.prog.cellsOf 4 = 1 := by kernel_rfl
theorem c22 : Tryd.prog.cellsOf 55 = 3 := by kernel_rfl
theorem c24 : Tryd.prog.cellsOf 111 = 5 := by kernel_rfl
theorem c42 : Tryd.prog.cellsOf 57 = 10 := by kernel_rfl

def V3.wd (v : V3) : Prop := I64 v.a ∧ I64 v.b ∧ I64 v.c
def MRow.wd (r : MRow) : Prop := I64 r.t ∧ I64 r.k ∧ r.v.wd

section
variable {H : Type} {enc : TypeId × Value → H} {w : World} {base : Nat} {sp : Nat → Bool} {held : Bool}
theorem int_of {fuel : Nat} {c : Value} {x : DataW H × List MemPlace} (h : DataW.trod enc Tryd.prog w base sp held fuel 3 [c] = some x) : ∃ n, c = .int .i64 n ∧ I64 n := by
  obtain ⟨n, e, _, hw⟩ := DataW.trod_int Tryd.underlying3 h
  exact ⟨n, by simpa using e, bounds_i64 hw⟩
theorem bool_of {fuel : Nat} {c : Value} {x : DataW H × List MemPlace} (h : DataW.trod enc Tryd.prog w base sp held fuel 4 [c] = some x) : ∃ b, c = .bool b := by
  obtain ⟨n, e, _⟩ := DataW.trod_bool Tryd.underlying4 h
  exact ⟨n, by simpa using e⟩
theorem v3_of {fuel : Nat} {c0 c1 c2 : Value} {x : DataW H × List MemPlace} (h : DataW.trod enc Tryd.prog w base sp held fuel 55 [c0, c1, c2] = some x) : ∃ v : V3, c0 = .int .i64 v.a ∧ c1 = .int .i64 v.b ∧ c2 = .int .i64 v.c ∧ v.wd := by
  obtain ⟨xs, m, rfl, _, _, hn, hel⟩ := DataW.trod_array Tryd.underlying55 h
  have h0 := hel 0 (by omega)
  have h1 := hel 1 (by omega)
  have h2 := hel 2 (by omega)
  rw [List.getElem?_eq_getElem (by omega), c3] at h0 h1 h2
  obtain ⟨a, rfl, ha⟩ := int_of (c := c0) (by simpa using h0)
  obtain ⟨b, rfl, hb⟩ := int_of (c := c1) (by simpa using h1)
  obtain ⟨c, rfl, hc⟩ := int_of (c := c2) (by simpa using h2)
  exact ⟨⟨a, b, c⟩, rfl, rfl, rfl, ha, hb, hc⟩
theorem row_of {fuel : Nat} {cs : List Value} {x : DataW H × List MemPlace} (h : DataW.trod enc Tryd.prog w base sp held fuel 111 cs = some x) : ∃ r : MRow, cs = [.int .i64 r.t, .int .i64 r.k, .int .i64 r.v.a, .int .i64 r.v.b, .int .i64 r.v.c] ∧ r.wd := by
  obtain ⟨xs, m, rfl, _, hl, hn, hel⟩ := DataW.trod_struct Tryd.underlying111 h
  rw [c24] at hl
  obtain ⟨q0, q1, q2, q3, q4, rfl⟩ : ∃ a b c d e, cs = [a, b, c, d, e] := match cs, hl with | [a, b, c, d, e], _ => ⟨a, b, c, d, e, rfl⟩
  have h0 := hel 0 _ rfl
  have h1 := hel 1 _ rfl
  have h2 := hel 2 _ rfl
  rw [List.getElem?_eq_getElem (by rw [hn]; decide)] at h0 h1 h2
  change DataW.trod enc Tryd.prog w base sp held m 3 (List.take (Tryd.prog.cellsOf 3) (List.drop 0 _)) = _ at h0
  change DataW.trod enc Tryd.prog w base sp held m 3 (List.take (Tryd.prog.cellsOf 3) (List.drop 1 _)) = _ at h1
  change DataW.trod enc Tryd.prog w base sp held m 55 (List.take (Tryd.prog.cellsOf 55) (List.drop 2 _)) = _ at h2
  simp only [c3, c22] at h0 h1 h2
  obtain ⟨a, rfl, ha⟩ := int_of (c := q0) (by simpa using h0)
  obtain ⟨b, rfl, hb⟩ := int_of (c := q1) (by simpa using h1)
  obtain ⟨v, rfl, rfl, rfl, hv⟩ := v3_of (c0 := q2) (c1 := q3) (c2 := q4) (by simpa using h2)
  exact ⟨⟨a, b, v⟩, rfl, ha, hb, hv⟩
theorem ch_of {fuel : Nat} {cs : List Value} {x : DataW H × List MemPlace} (h : DataW.trod enc Tryd.prog w base sp held fuel 57 cs = some x) : ∃ c : MCh, cs = (chCells c).toList ∧ I64 c.t ∧ I64 c.k ∧ c.o.wd ∧ c.n.wd := by
  obtain ⟨xs, m, rfl, _, hl, hn, hel⟩ := DataW.trod_struct Tryd.underlying57 h
  rw [c42] at hl
  obtain ⟨q0, q1, q2, q3, q4, q5, q6, q7, q8, q9, rfl⟩ : ∃ a b c d e f g i j k, cs = [a, b, c, d, e, f, g, i, j, k] := match cs, hl with | [a, b, c, d, e, f, g, i, j, k], _ => ⟨a, b, c, d, e, f, g, i, j, k, rfl⟩
  have h0 := hel 0 _ rfl
  have h1 := hel 1 _ rfl
  have h2 := hel 2 _ rfl
  have h3 := hel 3 _ rfl
  have h4 := hel 4 _ rfl
  have h5 := hel 5 _ rfl
  rw [List.getElem?_eq_getElem (by rw [hn]; decide)] at h0 h1 h2 h3 h4 h5
  change DataW.trod enc Tryd.prog w base sp held m 3 (List.take (Tryd.prog.cellsOf 3) (List.drop 0 _)) = _ at h0
  change DataW.trod enc Tryd.prog w base sp held m 3 (List.take (Tryd.prog.cellsOf 3) (List.drop 1 _)) = _ at h1
  change DataW.trod enc Tryd.prog w base sp held m 4 (List.take (Tryd.prog.cellsOf 4) (List.drop 2 _)) = _ at h2
  change DataW.trod enc Tryd.prog w base sp held m 55 (List.take (Tryd.prog.cellsOf 55) (List.drop 3 _)) = _ at h3
  change DataW.trod enc Tryd.prog w base sp held m 4 (List.take (Tryd.prog.cellsOf 4) (List.drop 6 _)) = _ at h4
  change DataW.trod enc Tryd.prog w base sp held m 55 (List.take (Tryd.prog.cellsOf 55) (List.drop 7 _)) = _ at h5
  simp only [c3, c22, c4] at h0 h1 h2 h3 h4 h5
  obtain ⟨t, rfl, ht⟩ := int_of (c := q0) (by simpa using h0)
  obtain ⟨k, rfl, hk⟩ := int_of (c := q1) (by simpa using h1)
  obtain ⟨b, rfl⟩ := bool_of (c := q2) (by simpa using h2)
  obtain ⟨o, rfl, rfl, rfl, ho⟩ := v3_of (c0 := q3) (c1 := q4) (c2 := q5) (by simpa using h3)
  obtain ⟨g, rfl⟩ := bool_of (c := q6) (by simpa using h4)
  obtain ⟨v, rfl, rfl, rfl, hv⟩ := v3_of (c0 := q7) (c1 := q8) (c2 := q9) (by simpa using h5)
  exact ⟨⟨t, k, b, o, g, v⟩, rfl, ht, hk, ho, hv⟩
end

theorem agg_of {w : World} {r : Reach} {b0 : Nat} {t : TypeId} {v : Value} {fs : Array Field} (ht : Tryd.prog.underlying t = some (.struct fs)) (hval : Value.okWide Tryd.prog w r b0 t v) : ∃ cs, v = .agg cs ∧ v.cells = cs := by
  obtain ⟨cs, rfl, _⟩ : ∃ cs, v = .agg cs ∧ cs.size = Tryd.prog.cellsOf t ∧ Row.okWide Tryd.prog w r b0 t cs := by
    simpa [Value.okWide, ht] using hval
  exact ⟨cs, rfl, rfl⟩
theorem open_row {H : Type} {enc : TypeId × Value → H} {w : World} {base : Nat} {sp : Nat → Bool} {held : Bool} {r : Reach} {b0 : Nat} {v : Value} {d : DataW H} {p : List MemPlace}
    (hval : Value.okWide Tryd.prog w r b0 111 v) (hd : DataW.Trod enc Tryd.prog w base sp held 111 v d p) : ∃ x : MRow, v = rowV x ∧ x.wd := by
  obtain ⟨cs, rfl, hcs⟩ := agg_of Tryd.underlying111 hval
  obtain ⟨fuel, hf⟩ := hd
  rw [hcs] at hf
  obtain ⟨x, e, hx⟩ := row_of hf
  exact ⟨x, by rw [show cs = cs.toList.toArray by simp, e], hx⟩
theorem open_ch {H : Type} {enc : TypeId × Value → H} {w : World} {base : Nat} {sp : Nat → Bool} {held : Bool} {r : Reach} {b0 : Nat} {v : Value} {d : DataW H} {p : List MemPlace}
    (hval : Value.okWide Tryd.prog w r b0 57 v) (hd : DataW.Trod enc Tryd.prog w base sp held 57 v d p) : ∃ c : MCh, v = chV c ∧ I64 c.t ∧ I64 c.k ∧ c.o.wd ∧ c.n.wd := by
  obtain ⟨cs, rfl, hcs⟩ := agg_of Tryd.underlying57 hval
  obtain ⟨fuel, hf⟩ := hd
  rw [hcs] at hf
  obtain ⟨x, e, hx⟩ := ch_of hf
  exact ⟨x, by rw [show cs = cs.toList.toArray by simp, e]; rfl, hx⟩
end Go.Proofs.YtpapfegbodolgaaDoor
end

section
set_option linter.unusedVariables false
set_option linter.unnecessarySimpa false
set_option linter.unusedSimpArgs false
namespace Go.Proofs.YtpapfegbodolgaaDoor
open Go.ChangeShapes Go.WideShapes Go.ChangeAt Go.RowKit

def theLaid : List (String × DataW Unit) := [("cachetier/digest.initial", Rows.laid_cachetier_digest_initial), ("cachetier/digest.constants", Rows.laid_cachetier_digest_constants)]
theorem own : ownKnob Tryd.prog.godebug = none := by kernel_rfl
theorem laidOut : laidOutB Tryd.prog = true := by kernel_rfl
theorem gIni : Tryd.prog.globalNamed "cachetier/digest.initial" = some 0 := by kernel_rfl
theorem gCon : Tryd.prog.globalNamed "cachetier/digest.constants" = some 1 := by kernel_rfl
theorem tIni : (Tryd.prog.globals[0]?).map (·.type) = some 142 := by kernel_rfl
theorem tCon : (Tryd.prog.globals[1]?).map (·.type) = some 156 := by kernel_rfl
theorem c47 : Tryd.prog.cellsOf 101 = 1 := by kernel_rfl
theorem c58 : Tryd.prog.cellsOf 142 = 8 := by kernel_rfl
theorem c72 : Tryd.prog.cellsOf 156 = 64 := by kernel_rfl

theorem door_met (os : Os) (args : Array Value) : laidMetH Tryd.prog theLaid ((World.doorLaid Tryd.prog 400 os).forCall (fun _ _ => 0) ⟨#[], args, []⟩).memory :=
  laidMetH_of_parts3 (fuel := 8) (laidMet_of_run' 8 (by kernel_rfl) (by kernel_rfl)) (by kernel_rfl) (by kernel_rfl)

theorem var_heap {P : Program} {w : World} {n : String} {g : Nat} {cs : Array Value} (hg : P.globalNamed n = some g) (h : w.var? P n = some cs) : ∃ t f, w.heap[g]? = some (.cells cs t f) := by
  simp only [World.var?, hg, Option.bind_some] at h
  split at h
  · rename_i c t f hc
    exact ⟨t, f, by rw [hc]; cases h; rfl⟩
  · cases h

/-- A table of words, out of its reading. -/
theorem words_of {W : World} {f : Nat} {T : TypeId} {cs : Array Value} {tab : List Nat} {p : List MemPlace} (hu : Tryd.prog.underlying T = some (.array tab.length 101)) (hc : Tryd.prog.cellsOf T = tab.length)
    (hd : DataW.trod (fun (_ : TypeId × Value) => ()) Tryd.prog W 0 (fun _ => true) false f T cs.toList = some ((.agg (tab.map fun (n : Nat) => .lit (.int .u32 (n : Int)))), p)) : cs = (wordsV tab).toArray := by
  obtain ⟨xs, m, rfl, hx, hlen, hn, hel⟩ := DataW.trod_array hu hd
  rw [hc] at hlen
  simp only [Prod.mk.injEq] at hx
  have hx2 : (tab.map fun (n : Nat) => (DataW.lit (.int .u32 (n : Int)) : DataW Unit)) = xs.map (·.1) := by injection hx.1
  apply Array.ext'
  apply List.ext_getElem?
  intro i
  by_cases hi : i < tab.length
  · have h0 := hel i hi
    rw [List.getElem?_eq_getElem (by omega), c47, Nat.mul_one] at h0
    obtain ⟨k, e1, e2, _⟩ := DataW.trod_int Tryd.underlying101 h0
    have hk : (xs.map (·.1))[i]? = some (.lit (.int .u32 k)) := by
      rw [List.getElem?_map, List.getElem?_eq_getElem (by omega), Option.map_some, e2]
    rw [← hx2, List.getElem?_map, List.getElem?_eq_getElem hi] at hk
    have hk2 : ((tab[i] : Nat) : Int) = k := by simpa using hk
    have h1 := congrArg (fun l => l[0]?) e1
    have hci : cs.toList[i]? = some (.int .u32 k) := by simpa [List.getElem?_take, List.getElem?_drop] using h1
    rw [hci, ← hk2]
    simp [wordsV, wordV, hi]
  · rw [List.getElem?_eq_none (by omega), List.getElem?_eq_none (by simp [wordsV]; omega)]

theorem tab_of_laid {W : World} (h : laidMetH Tryd.prog theLaid W) : Tab W := by
  rw [MakeChecks.laidMetH_plain _ _ _ (by kernel_rfl)] at h
  obtain ⟨ps, ⟨g0, t0, cs0, f0, p0, q0, hg0, ht0, hv0, hd0, h1, _⟩, _⟩ := h
  obtain ⟨g1, t1, cs1, f1, p1, q1, hg1, ht1, hv1, hd1, _, _⟩ := h1
  obtain rfl := Option.some.inj (gIni.symm.trans hg0)
  obtain rfl := Option.some.inj (gCon.symm.trans hg1)
  obtain rfl := Option.some.inj (tIni.symm.trans ht0)
  obtain rfl := Option.some.inj (tCon.symm.trans ht1)
  obtain ⟨a0, b0, hh0⟩ := var_heap gIni hv0
  obtain ⟨a1, b1, hh1⟩ := var_heap gCon hv1
  have e0 : cs0 = (wordsV start.list).toArray := words_of (tab := start.list) Tryd.underlying142 c58 (by rw [hd0]; rfl)
  have e1 : cs1 = (wordsV kTab).toArray := words_of (tab := kTab) Tryd.underlying156 c72 (by rw [hd1]; rfl)
  subst e0 e1
  exact ⟨a0, b0, a1, b1, hh0, hh1⟩
end Go.Proofs.YtpapfegbodolgaaDoor
end

section
set_option linter.unusedVariables false
set_option linter.unnecessarySimpa false
set_option linter.unusedSimpArgs false
set_option maxRecDepth 100000
namespace Go.Proofs.YtpapfegbodolgaaDoor
open Go.ChangeShapes Go.WideShapes Go.ChangeAt Go.RowKit

theorem c9 : Tryd.prog.cellsOf 9 = 1 := by kernel_rfl
theorem c23 : Tryd.prog.cellsOf 23 = 3 := by kernel_rfl
theorem str_of {H : Type} {enc : TypeId × Value → H} {w : World} {base : Nat} {sp : Nat → Bool} {held : Bool} {fuel : Nat} {c : Value} {x : DataW H × List MemPlace} (h : DataW.trod enc Tryd.prog w base sp held fuel 9 [c] = some x) : ∃ s : ByteArray, c = .string s ∧ s.size ≤ maxLen := by
  obtain ⟨s, e, _, hs⟩ := DataW.trod_string Tryd.underlying9 h
  exact ⟨s, by simpa using e, hs⟩
theorem open_head {H : Type} {enc : TypeId × Value → H} {w : World} {base : Nat} {sp : Nat → Bool} {held : Bool} {r : Reach} {b0 : Nat} {v : Value} {d : DataW H} {p : List MemPlace}
    (hval : Value.okWide Tryd.prog w r b0 23 v) (hd : DataW.Trod enc Tryd.prog w base sp held 23 v d p) : ∃ x : MHead, v = headV x ∧ I64 x.p ∧ x.c.size ≤ maxLen ∧ x.s.size ≤ maxLen := by
  obtain ⟨cs, rfl, hcs⟩ := agg_of Tryd.underlying23 hval
  obtain ⟨fuel, hf⟩ := hd
  rw [hcs] at hf
  obtain ⟨xs, m, rfl, _, hl, hn, hel⟩ := DataW.trod_struct Tryd.underlying23 hf
  rw [c23] at hl
  obtain ⟨q0, q1, q2, hq⟩ : ∃ a b c, cs.toList = [a, b, c] := match cs.toList, hl with | [a, b, c], _ => ⟨a, b, c, rfl⟩
  have h0 := hel 0 _ rfl
  have h1 := hel 1 _ rfl
  have h2 := hel 2 _ rfl
  rw [List.getElem?_eq_getElem (by rw [hn]; decide)] at h0 h1 h2
  change DataW.trod enc Tryd.prog w base sp held m 3 (List.take (Tryd.prog.cellsOf 3) (List.drop 0 _)) = _ at h0
  change DataW.trod enc Tryd.prog w base sp held m 9 (List.take (Tryd.prog.cellsOf 9) (List.drop 1 _)) = _ at h1
  change DataW.trod enc Tryd.prog w base sp held m 9 (List.take (Tryd.prog.cellsOf 9) (List.drop 2 _)) = _ at h2
  simp only [c3, c9, hq] at h0 h1 h2
  obtain ⟨a, rfl, ha⟩ := int_of (c := q0) (by simpa using h0)
  obtain ⟨b, rfl, hb⟩ := str_of (c := q1) (by simpa using h1)
  obtain ⟨c, rfl, hc⟩ := str_of (c := q2) (by simpa using h2)
  exact ⟨⟨a, b, c⟩, by rw [show cs = cs.toList.toArray by simp, hq], ha, hb, hc⟩
end Go.Proofs.YtpapfegbodolgaaDoor
end
