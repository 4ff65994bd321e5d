/- WHAT THE LISTED VARIABLES GIVE THE WALKS; the start of the witnesses. -/
import Derived.Test.YtmjcjgmmolmibaaDoorRows
import Derived.Test.YtmjcjgmmolmibaaDoorL0
import Derived.Test.YtmjcjgmmolmibaaDoorS1
import Derived.Stop.LaidErr
import Derived.Lib.LaidTab
import Derived.Shelf.Vars
set_option linter.unusedVariables false
set_option linter.unusedSimpArgs false
set_option maxRecDepth 100000
namespace Go.Proofs.YtmjcjgmmolmibaaDoor
open Go.ChangeShapes Go.WideShapes Go.ChangeAt Go.RowKit

def theLaid : List (String × DataW Unit) := [("math/bits.deBruijn32tab", Rows.laid_math_bits_deBruijn32tab), ("math/bits.deBruijn64tab", Rows.laid_math_bits_deBruijn64tab), ("internal/strconv.uint64pow10", Rows.laid_internal_strconv_uint64pow10), ("strconv.ErrRange", Rows.laid_strconv_ErrRange), ("strconv.ErrSyntax", Rows.laid_strconv_ErrSyntax), ("cachetier/query.words", Rows.laid_cachetier_query_words), ("cachetier/query.errLine", Rows.laid_cachetier_query_errLine)]
theorem own : ownKnob Tryd.prog.godebug = none := by kernel_rfl
theorem laidOut : laidOutB Tryd.prog = true := by kernel_rfl
theorem gWords : Tryd.prog.globalNamed "cachetier/query.words" = some 0 := by kernel_rfl
theorem gErr : Tryd.prog.globalNamed "cachetier/query.errLine" = some 1 := by kernel_rfl
theorem gSyn : Tryd.prog.globalNamed "strconv.ErrSyntax" = some 4 := by kernel_rfl
theorem gRan : Tryd.prog.globalNamed "strconv.ErrRange" = some 5 := by kernel_rfl
theorem tWords : (Tryd.prog.globals[0]?).map (·.type) = some 36 := by kernel_rfl
theorem tErr : (Tryd.prog.globals[1]?).map (·.type) = some 48 := by kernel_rfl
theorem tSyn : (Tryd.prog.globals[4]?).map (·.type) = some 48 := by kernel_rfl
theorem tRan : (Tryd.prog.globals[5]?).map (·.type) = some 48 := by kernel_rfl
theorem c9 : Tryd.prog.cellsOf 9 = 1 := by kernel_rfl
theorem c36 : Tryd.prog.cellsOf 36 = 8 := by kernel_rfl
theorem c124 : Tryd.prog.cellsOf 124 = 1 := by kernel_rfl

theorem door_met (os : Os) (args : Array Value) : laidMetH Tryd.prog theLaid ((World.doorLaid Tryd.prog 400 os).forCall (fun _ _ => 0) ⟨#[], args, []⟩).memory :=
  laidMetH_of_parts3 (fuel := 8) (laidMet_of_run' 8 (by kernel_rfl) (by kernel_rfl)) (by kernel_rfl) (by kernel_rfl)

theorem star122 : "*" ++ "errors.errorString" = "*errors.errorString" := by decide
theorem row122 (u : TypeId) (h : Tryd.prog.typeName? 3 u = some "*errors.errorString") : u = 122 := typeName_ptr_named (nm := "errors.errorString") (by rw [star122]; kernel_rfl) (by kernel_rfl) (by decide) u (by rw [star122]; exact h)
theorem errorsPtr : ∃ te f, Tryd.prog.underlying 122 = some (.pointer te) ∧ Tryd.prog.underlying te = some (.struct #[f]) ∧ f.type = 9 ∧ f.offset = 0 ∧ Tryd.prog.cellsOf te = 1 := ⟨124, _, Tryd.underlying122, Tryd.underlying124, rfl, rfl, by kernel_rfl⟩
theorem max_of_shape {W : World} (h : W.ShapedOpen Tryd.prog) : ∃ m, W.cell? ⟨3, 0, none⟩ = some (.int .i64 m) :=
  cell_of_shapedOpen_int (t := 3) (zero := #[.int .i64 0]) h (of_decide_eq_true (by kernel_rfl)) (by kernel_rfl) rfl (by kernel_rfl) (by kernel_rfl) Tryd.underlying3

theorem var_heap {P : Program} {w : World} {n : String} {g : Nat} {cs : Array Value} (hg : P.globalNamed n = some g) (h : w.var? P n = some cs) : ∃ t f, w.heap[g]? = some (.cells cs t f) := by
  simp only [World.var?, hg, Option.bind_some] at h
  split at h
  · rename_i c t f hc
    exact ⟨t, f, by rw [hc]; cases h; rfl⟩
  · cases h

/-- A table of words, out of its reading. -/
theorem words_of {W : World} {f : Nat} {cs : Array Value} {p : List MemPlace}
    (hd : DataW.trod (fun (_ : TypeId × Value) => ()) Tryd.prog W 0 (fun _ => true) false f 36 cs.toList = some ((.agg (wordTab.map fun l => .lit (.string l))), p)) : cs = (wordTab.map fun l => Value.string (bstr l)).toArray := by
  obtain ⟨xs, m, rfl, hx, hlen, hn, hel⟩ := DataW.trod_array Tryd.underlying36 hd
  rw [c36] at hlen
  simp only [Prod.mk.injEq] at hx
  have hx2 : (wordTab.map fun l => (DataW.lit (.string l) : DataW Unit)) = xs.map (·.1) := by injection hx.1
  apply Array.ext'
  apply List.ext_getElem?
  intro i
  by_cases hi : i < 8
  · have h0 := hel i hi
    rw [List.getElem?_eq_getElem (by omega), c9, Nat.mul_one] at h0
    obtain ⟨k, e1, e2, _⟩ := DataW.trod_string Tryd.underlying9 h0
    have hk : (xs.map (·.1))[i]? = some (.lit (.string k.data.toList)) := by
      rw [List.getElem?_map, List.getElem?_eq_getElem (by omega), Option.map_some, e2]
    have hi2 : i < wordTab.length := hi
    rw [← hx2, List.getElem?_map, List.getElem?_eq_getElem hi2] at hk
    have hk2 : wordTab[i] = k.data.toList := by simpa using hk
    have h1 := congrArg (fun l => l[0]?) e1
    have hci : cs.toList[i]? = some (.string k) := by simpa [List.getElem?_take, List.getElem?_drop] using h1
    rw [hci]
    simp [hi2, hk2, bstr_of]
  · rw [List.getElem?_eq_none (by omega), List.getElem?_eq_none (by simp [wordTab]; omega)]

theorem lw_of_laid {W : World} (h : laidMetH Tryd.prog theLaid W) (hsh : W.ShapedOpen Tryd.prog) : ∃ a, Lw a W := by
  rw [MakeChecks.laidMetH_plain _ _ _ (by kernel_rfl)] at h
  obtain ⟨te, f, hp, he, hft, hfo, hc⟩ := errorsPtr
  have h2 := h.tail.tail
  have h3 := h2.tail
  have h4 := h3.tail
  have h5 := h4.tail
  have h6 := h5.tail
  have hpow : Lib.TabIs Tryd.prog W "internal/strconv.uint64pow10" .u64 Lib.pow10Tab :=
    Lib.tabIs_of_head (t := 98) (e := 86) (n := 20) gPow (by kernel_rfl) Tryd.underlying98 Tryd.underlying86 (by kernel_rfl) (by kernel_rfl) h2
  obtain ⟨a3, s3, hv3, _⟩ := laid_sentinel h3 gRan tRan Tryd.underlying48 row122 hp he hft hfo Tryd.underlying9 hc c9
  obtain ⟨a4, s4, hv4, _⟩ := laid_sentinel h4 gSyn tSyn Tryd.underlying48 row122 hp he hft hfo Tryd.underlying9 hc c9
  have hw : ∃ t f, W.heap[0]? = some (.cells (wordTab.map fun l => Value.string (bstr l)).toArray t f) := by
    obtain ⟨ps, ⟨g0, t0, cs0, f0, p0, q0, hg0, ht0, hv0, hd0, _, _⟩, _⟩ := h5
    obtain rfl := Option.some.inj (gWords.symm.trans hg0)
    obtain rfl := Option.some.inj (tWords.symm.trans ht0)
    have e := words_of (by rw [hd0]; rfl)
    rw [e] at hv0
    exact var_heap gWords hv0
  have hE : ∃ a c t, W.cell? ⟨1, 0, none⟩ = some (errV a) ∧ W.heap[a.block]? = some (.cells c t (0, 0)) := by
    obtain ⟨ps, ⟨g0, t0, cs0, f0, p0, q0, hg0, ht0, hv0, hd0, _, e0⟩, _, hrows⟩ := h6
    obtain rfl := Option.some.inj (gErr.symm.trans hg0)
    obtain rfl := Option.some.inj (tErr.symm.trans ht0)
    subst e0
    obtain ⟨l0⟩ := cs0
    have ok0 : ∀ u v, l0 = [.iface u v] → Value.okWide Tryd.prog W .any 0 u v := fun u v e => by
      subst e
      exact (hrows 1 0 (by simp [MemPlace.row])).2 u v (by simpa using World.var?_cell gErr hv0 0)
    obtain ⟨a0, s0, rfl, hc0, hs0, hz0, rfl⟩ := errorString_of_trod Tryd.underlying48 row122 hp he hft hfo Tryd.underlying9 hc c9 hd0 ok0
    obtain ⟨c0, t0, hb0⟩ := (hrows a0.block a0.off (by simp [MemPlace.row])).1
    exact ⟨a0, c0, t0, by simpa using World.var?_cell gErr hv0 0, hb0⟩
  obtain ⟨a, c, t, he1, he2⟩ := hE
  exact ⟨a, hw, he1, ⟨c, t, he2⟩, max_of_shape hsh, ⟨_, _, by simpa using World.var?_cell gSyn hv4 0⟩, ⟨_, _, by simpa using World.var?_cell gRan hv3 0⟩, hpow⟩

/-- A query, out of a parameter. -/
theorem open_q {H : Type} {enc : TypeId × Value → H} {w : World} {base : Nat} {sp : Nat → Bool} {held : Bool} {r : Reach} {b0 : Nat} {v : Value} {d : DataW H} {p : List MemPlace}
    (hval : Value.okWide Tryd.prog w r b0 23 v) (hd : DataW.Trod enc Tryd.prog w base sp held 23 v d p) : ∃ q : MQ, v = qV q ∧ q.Ok := by
  obtain ⟨cs, rfl, hsz, _⟩ : ∃ cs, v = .agg cs ∧ cs.size = Tryd.prog.cellsOf 23 ∧ Row.okWide Tryd.prog w r b0 23 cs := by
    simpa [Value.okWide, Tryd.underlying23] using hval
  obtain ⟨fuel, hf⟩ := hd
  obtain ⟨l⟩ := cs
  change DataW.trod enc Tryd.prog w base sp held fuel 23 l = _ at hf
  have c3 : Tryd.prog.cellsOf 3 = 1 := by kernel_rfl
  obtain ⟨xs, m, rfl, _, hl, hn, hel⟩ := DataW.trod_struct Tryd.underlying23 hf
  have hl7 : l.length = 7 := by simpa using hsz.trans (by kernel_rfl)
  obtain ⟨q0, q1, q2, q3, q4, q5, q6, rfl⟩ : ∃ a b c d e f g, l = [a, b, c, d, e, f, g] := match l, hl7 with | [a, b, c, d, e, f, g], _ => ⟨a, b, c, d, e, f, g, rfl⟩
  have g : ∀ {fuel : Nat} {c : Value} {x : DataW H × List MemPlace}, DataW.trod enc Tryd.prog w base sp held fuel 3 [c] = some x → ∃ n, c = .int .i64 n ∧ I64 n := by
    intro fuel c x h
    obtain ⟨n, e, _, hw⟩ := DataW.trod_int Tryd.underlying3 h
    exact ⟨n, by simpa using e, bounds_i64 hw⟩
  have h0 := hel 0 _ rfl
  have h1 := hel 1 _ rfl
  have h2 := hel 2 _ rfl
  have h3 := hel 3 _ rfl
  have h4 := hel 4 _ rfl
  have h5 := hel 5 _ rfl
  have h6 := hel 6 _ rfl
  rw [List.getElem?_eq_getElem (by rw [hn]; decide)] at h0 h1 h2 h3 h4 h5 h6
  change DataW.trod enc Tryd.prog w base sp held m 3 (List.take (Tryd.prog.cellsOf 3) (List.drop 0 _)) = _ at h0
  change DataW.trod enc Tryd.prog w base sp held m 3 (List.take (Tryd.prog.cellsOf 3) (List.drop 1 _)) = _ at h1
  change DataW.trod enc Tryd.prog w base sp held m 3 (List.take (Tryd.prog.cellsOf 3) (List.drop 2 _)) = _ at h2
  change DataW.trod enc Tryd.prog w base sp held m 3 (List.take (Tryd.prog.cellsOf 3) (List.drop 3 _)) = _ at h3
  change DataW.trod enc Tryd.prog w base sp held m 3 (List.take (Tryd.prog.cellsOf 3) (List.drop 4 _)) = _ at h4
  change DataW.trod enc Tryd.prog w base sp held m 3 (List.take (Tryd.prog.cellsOf 3) (List.drop 5 _)) = _ at h5
  change DataW.trod enc Tryd.prog w base sp held m 3 (List.take (Tryd.prog.cellsOf 3) (List.drop 6 _)) = _ at h6
  simp only [c3] at h0 h1 h2 h3 h4 h5 h6
  obtain ⟨k, rfl, i0⟩ := g (c := q0) (by simpa using h0)
  obtain ⟨t, rfl, i1⟩ := g (c := q1) (by simpa using h1)
  obtain ⟨c, rfl, i2⟩ := g (c := q2) (by simpa using h2)
  obtain ⟨l, rfl, i3⟩ := g (c := q3) (by simpa using h3)
  obtain ⟨h, rfl, i4⟩ := g (c := q4) (by simpa using h4)
  obtain ⟨b, rfl, i5⟩ := g (c := q5) (by simpa using h5)
  obtain ⟨o, rfl, i6⟩ := g (c := q6) (by simpa using h6)
  exact ⟨⟨k, t, c, l, h, b, o⟩, rfl, i0, i1, i2, i3, i4, i5, i6⟩
end Go.Proofs.YtmjcjgmmolmibaaDoor
