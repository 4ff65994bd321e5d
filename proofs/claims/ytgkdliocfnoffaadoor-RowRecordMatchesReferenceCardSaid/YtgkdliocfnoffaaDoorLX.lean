/- The law frame, the seat's table, the openers of arguments. -/
import Derived.WalkKit
import Derived.ProofKit
import Derived.LaidMore
import Derived.OpenShut
import Derived.ShutString
import Derived.Stop.Joined
import Derived.SizedLaws
import Derived.SliceStrings
import Derived.Deep.RegionHeld
import Derived.Test.YtgkdliocfnoffaaDoorRows
import Derived.Test.YtgkdliocfnoffaaDoorS2
import Derived.Stop.LaidTwo
import Derived.Deep.Strs
import Derived.Deep.Slices
import Derived.Test.YtgkdliocfnoffaaDoorB5
namespace Go.Proofs.YtgkdliocfnoffaaDoor
open Go.ChangeShapes Go.WideShapes Go.ChangeAt Go.RowKit

theorem trodAll_below {H : Type} {enc : TypeId × Value → H} {P : Program} (hl : laidOutB P = true) {W W' : World} (hb : Below W.heap.size W W') :
    ∀ {ts : List TypeId} {vs : List Value} {ds : List (DataW H)} {ps : List MemPlace}, ts.all (fun t => P.readableRec t && decide (t < P.types.size)) = true →
      DataW.TrodAll enc P W 0 (fun _ => true) true ts vs ds ps → (∀ x ∈ ps, x.block < W.heap.size) → DataW.TrodAll enc P W' 0 (fun b => decide (b < W.heap.size)) true ts vs ds ps
  | [], vs, ds, ps, _, h, _ => by
    obtain ⟨rfl, rfl, rfl⟩ := trodAll_nil h
    exact trodAll_mk0
  | t :: ts, vs, ds, ps, hr, h, hlt => by
    obtain ⟨v, vs', d, ds', p, q, rfl, rfl, rfl, h0, h1⟩ := trodAll_cons h
    simp only [List.all_cons, Bool.and_eq_true, decide_eq_true_eq] at hr
    exact trodAll_cons_mk (Below.trod hl hr.1.1 hr.1.2 h0 hb (fun x hx => hlt x (by simp [hx]))) (trodAll_below hl hb hr.2 h1 (fun x hx => hlt x (by simp [hx])))

theorem trodAll_length {H : Type} {enc : TypeId × Value → H} {P : Program} {W : World} {base : Nat} {sp : Nat → Bool} {held : Bool} :
    ∀ {ts : List TypeId} {vs : List Value} {ds : List (DataW H)} {ps : List MemPlace}, DataW.TrodAll enc P W base sp held ts vs ds ps → ds.length = ts.length
  | [], vs, ds, ps, h => by obtain ⟨rfl, rfl, rfl⟩ := trodAll_nil h; rfl
  | t :: ts, vs, ds, ps, h => by
    obtain ⟨v, vs', d, ds', p, q, rfl, rfl, rfl, h0, h1⟩ := trodAll_cons h
    simp [trodAll_length h1]

/-- What a law's specification says, at readings of its parameters. -/
def LawSpec (s : ChangeSpec) (n : Nat) : Prop := s.vars = [] ∧ ∀ (H : Type) (ds : List (DataW H)), ds.length = n → s.fn H (ds ++ []) = { results := [.lit (.bool true)], args := ds }

set_option linter.unusedVariables false in
/-- **THE FRAME**: the walk answers true and leaves all that lay as it lay: then the row's step. -/
theorem law_lifted {C : Checked} {os : Os} {fid : FuncId} {fn : Func} {s : ChangeSpec} {H : Type} {enc : TypeId × Value → H} (laid : List (String × DataW Unit)) (tb : TypeId)
    (own : ownKnob C.prog.godebug = none) (started : os.Started) (noInit : C.prog.inits.idxOf? fid = none) (hfn : C.prog.funcs[fid]? = some fn)
    (hl : laidOutB C.prog = true) (hs : LawSpec s fn.params.toList.length) (hr : fn.params.toList.all (fun t => C.prog.readableRec t && decide (t < C.prog.types.size)) = true)
    (hres : fn.resultTypes = #[tb]) (htb : C.prog.underlying tb = some .bool)
    (witness : ∃ (w : World) (tape : Tape) (i : Input), w.os = os ∧ (w.forCall tape i).Shaped C.prog ∧ i.vars = [] ∧ Input.okWide C.prog (w.forCall tape i) .any w.heap.size fid i ∧
      ((s.pre enc C.prog fn [] false (w.forCall tape i).memory i.args ∧ laidMetH C.prog laid (w.forCall tape i).memory) ∧ sizedMet enc C.prog fn (OpenSpec.ofChange s) false (w.forCall tape i).memory i.args) ∧ ({} : Assume).holds C.prog (lone (Frame.enter C.prog fid i.args .normal) [] (w.forCall tape i)))
    (walk : ∀ (W : World) (base : Nat) (args : Array Value) (ds : List (DataW H)) (p : List MemPlace),
      (∀ (j : Nat) t v, fn.params[j]? = some t → args[j]? = some v → Value.okWide C.prog W .any base t v) →
      DataW.TrodAll enc C.prog W 0 (fun _ => true) true fn.params.toList args.toList ds p → (∀ x ∈ p, x.block < W.heap.size) →
      (DataW.weightsEach C.prog (fn.params.toList ++ []) (ds ++ [])).all (· ≤ reachBytes) = true → laidMetH C.prog laid W →
      Calls C.prog fid args W fun e W' => e = .returned (.bool true) ∧ Below W.heap.size W W') :
    ReturnsInHanded {} C os fid .any (fun w args => (s.pre enc C.prog fn [] false w args ∧ laidMetH C.prog laid w) ∧ sizedMet enc C.prog fn (OpenSpec.ofChange s) false w args)
      (s.post enc C.prog fn false true false false) := by
  refine returnsInHanded_of_change_and (C := C) (X := fun w _ => laidMetH C.prog laid w) (fun _ _ _ hh h => h.of_heap hh) own started noInit hfn witness ?_
  intro W base args ds gs before hval hW _ hsz hL _
  have hW' := hW
  obtain ⟨p, q, hA, hV, rfl, _, _⟩ := hW
  rw [hs.1] at hV
  obtain ⟨rfl, rfl⟩ := trodVars_none hV
  have hlt : ∀ x ∈ p, x.block < W.heap.size := fun x hx => by
    have := hW'.lt x (by simp [hx])
    simpa using this
  have hvt : s.plain.varTypes C.prog = [] := by
    simp [DataSpec.varTypes, ChangeSpec.plain, hs.1]
  rw [hvt] at hsz
  refine (walk W base args ds p hval hA hlt hsz hL).mono fun e W' ⟨he, hb⟩ => ?_
  refine ⟨.bool true, he, ds, [], p ++ [], [], p, [], hW', ?_, ?_, ?_, hb.frame _, fun h => by cases h⟩
  · rw [hs.2 H ds (trodAll_length hA), hres]
    exact trodAll_mk1 (shut_bool htb _)
  · rw [hs.2 H ds (trodAll_length hA)]
    exact trodAll_below hl hb hr hA hlt
  · rw [hs.2 H ds (trodAll_length hA), hs.1]; rfl

/-- AN ARRAY OF TWO STRINGS BY VALUE, opened. -/
theorem open_strs2 {H : Type} {enc : TypeId × Value → H} {P : Program} {w : World} {base : Nat} {sp : Nat → Bool} {held : Bool} {r : Reach} {b0 : Nat} {t e : TypeId} {v : Value} {d : DataW H} {p : List MemPlace}
    (ht : P.underlying t = some (.array 2 e)) (he : P.underlying e = some .string) (hc : P.cellsOf t = 2) (hce : P.cellsOf e = 1)
    (hval : Value.okWide P w r b0 t v) (hd : DataW.Trod enc P w base sp held t v d p) :
    ∃ s0 s1 : ByteArray, v = .agg #[.string s0, .string s1] ∧ s0.size ≤ maxLen ∧ s1.size ≤ maxLen := by
  obtain ⟨cs, rfl, hsz, _⟩ : ∃ cs, v = .agg cs ∧ cs.size = P.cellsOf t ∧ Row.okWide P w r b0 t cs := by
    simpa [Value.okWide, ht] using hval
  rw [hc] at hsz
  obtain ⟨l⟩ := cs
  obtain ⟨c0, c1, rfl⟩ : ∃ a b, l = [a, b] := match l, hsz with | [a, b], _ => ⟨a, b, rfl⟩
  obtain ⟨fuel, hf⟩ := hd
  obtain ⟨xs, m, rfl, hx, _, hn, hel⟩ := DataW.trod_array ht hf
  have h0 := hel 0 (by omega)
  have h1 := hel 1 (by omega)
  rw [List.getElem?_eq_getElem (by omega), hce] at h0 h1
  obtain ⟨s0, e0, _, w0⟩ := DataW.trod_string he h0
  obtain ⟨s1, e1, _, w1⟩ := DataW.trod_string he h1
  simp [Value.cells] at e0 e1
  subst e0 e1
  exact ⟨s0, s1, rfl, w0, w1⟩

/-- A SLICE OF ints, opened: nil or not. -/
theorem open_intslice {H : Type} {enc : TypeId × Value → H} {P : Program} {w : World} {r : Reach} {b0 : Nat} {t e : TypeId} {v : Value} {d : DataW H} {p : List MemPlace}
    (ht : P.underlying t = some (.slice e)) (he : P.underlying e = some (.int .i64)) (hc : P.cellsOf e = 1)
    (hval : Value.okWide P w r b0 t v) (hd : DataW.Trod enc P w 0 (fun _ => true) true t v d p) :
    ∃ (a : Option Addr) (len cap : Nat) (z : Nat → Int), v = .slice a len cap ∧ len ≤ maxLen ∧
      (1 ≤ len → ∃ b o, a = some ⟨b, o, none⟩ ∧ b < w.heap.size ∧ ∀ j, j < len → w.cell? ⟨b, o + j, none⟩ = some (.int .i64 (z j))) ∧ (∀ j, j < len → -9223372036854775808 ≤ z j ∧ z j ≤ 9223372036854775807) := by
  obtain ⟨a, len, cap, rfl⟩ := okWide_slice ht hval
  obtain ⟨fuel, hf⟩ := hd
  rcases open_ints ht he hc hf with ⟨hcs, hx⟩ | ⟨a', len', cap', zs, hcs, _, hl, hm, hz, hx, hcell, hwz⟩
  · simp [Value.cells] at hcs
    obtain ⟨rfl, rfl, rfl⟩ := hcs
    exact ⟨none, 0, 0, fun _ => 0, rfl, by unfold maxLen; omega, by omega, by omega⟩
  · simp [Value.cells] at hcs
    obtain ⟨rfl, rfl, rfl⟩ := hcs
    simp only [if_true] at hz
    refine ⟨_, len, cap, fun j => zs.getD j 0, rfl, Nat.le_trans hl hm, fun h1 => ?_, fun j hj => ?_⟩
    · obtain ⟨b, off, spot⟩ := a'
      have hspot : spot = none := by simpa [Addr.add] using World.cell?_spot (hcell 0 (by omega))
      subst hspot
      refine ⟨b, off, rfl, World.block_lt_of_cell? w _ (hcell 0 (by omega)), fun j hj => ?_⟩
      have := hcell j (by omega)
      rw [show (⟨b, off, none⟩ : Addr).add j = ⟨b, off + j, none⟩ from by unfold Addr.add; split <;> simp_all] at this
      exact this
    · have hm2 : zs.getD j 0 ∈ zs := by
        rw [List.getD_eq_getElem?_getD, List.getElem?_eq_getElem (by omega)]
        exact List.getElem_mem _
      exact bounds_i64 (hwz _ hm2)

/-- A SLICE OF strings, opened: nil or not. -/
theorem open_strslice {H : Type} {enc : TypeId × Value → H} {P : Program} {w : World} {r : Reach} {b0 : Nat} {t e : TypeId} {v : Value} {d : DataW H} {p : List MemPlace}
    (ht : P.underlying t = some (.slice e)) (he : P.underlying e = some .string) (hc : P.cellsOf e = 1)
    (hval : Value.okWide P w r b0 t v) (hd : DataW.Trod enc P w 0 (fun _ => true) true t v d p) :
    ∃ (a : Option Addr) (len cap : Nat) (z : Nat → ByteArray), v = .slice a len cap ∧ len ≤ maxLen ∧
      (1 ≤ len → ∃ b o, a = some ⟨b, o, none⟩ ∧ b < w.heap.size ∧ ∀ j, j < len → w.cell? ⟨b, o + j, none⟩ = some (.string (z j))) ∧ (∀ j, j < len → (z j).size ≤ maxLen) := by
  obtain ⟨a, len, cap, rfl⟩ := okWide_slice ht hval
  obtain ⟨fuel, hf⟩ := hd
  rcases open_strings ht he hc hf with ⟨hcs, hx⟩ | ⟨a', len', cap', zs, hcs, _, hl, hm, hz, hx, hcell, hwz⟩
  · simp [Value.cells] at hcs
    obtain ⟨rfl, rfl, rfl⟩ := hcs
    exact ⟨none, 0, 0, fun _ => ByteArray.empty, rfl, by unfold maxLen; omega, by omega, by omega⟩
  · simp [Value.cells] at hcs
    obtain ⟨rfl, rfl, rfl⟩ := hcs
    simp only [if_true] at hz
    refine ⟨_, len, cap, fun j => zs.getD j ByteArray.empty, rfl, Nat.le_trans hl hm, fun h1 => ?_, fun j hj => ?_⟩
    · obtain ⟨b, off, spot⟩ := a'
      have hspot : spot = none := by simpa [Addr.add] using World.cell?_spot (hcell 0 (by omega))
      subst hspot
      refine ⟨b, off, rfl, World.block_lt_of_cell? w _ (hcell 0 (by omega)), fun j hj => ?_⟩
      have := hcell j (by omega)
      rw [show (⟨b, off, none⟩ : Addr).add j = ⟨b, off + j, none⟩ from by unfold Addr.add; split <;> simp_all] at this
      exact this
    · have hm2 : zs.getD j ByteArray.empty ∈ zs := by
        rw [List.getD_eq_getElem?_getD, List.getElem?_eq_getElem (by omega)]
        exact List.getElem_mem _
      exact hwz _ hm2
end Go.Proofs.YtgkdliocfnoffaaDoor
namespace Go.Proofs.YtgkdliocfnoffaaDoor
open Go.ChangeShapes Go.WideShapes Go.ChangeAt Go.RowKit

def theLaid : List (String × DataW Unit) := [("cachetier/row.errWire", Rows.laid_cachetier_row_errWire), ("cachetier/row.errRange", Rows.laid_cachetier_row_errRange)]
theorem own : ownKnob Tryd.prog.godebug = none := by kernel_rfl
theorem laidOut : laidOutB Tryd.prog = true := by kernel_rfl
theorem gWire : Tryd.prog.globalNamed "cachetier/row.errWire" = some 0 := by kernel_rfl
theorem gRange : Tryd.prog.globalNamed "cachetier/row.errRange" = some 1 := by kernel_rfl
theorem tWire : (Tryd.prog.globals[0]?).map (·.type) = some 58 := by kernel_rfl
theorem tRange : (Tryd.prog.globals[1]?).map (·.type) = some 58 := by kernel_rfl

theorem door_met (os : Os) (args : Array Value) : laidMetH Tryd.prog theLaid ((World.doorLaid Tryd.prog 400 os).forCall (fun _ _ => 0) ⟨#[], args, []⟩).memory :=
  laidMetH_of_parts3 (fuel := 8) (laidMet_of_run' 8 (by kernel_rfl) (by kernel_rfl)) (by kernel_rfl) (by kernel_rfl)

theorem star116 : "*" ++ "errors.errorString" = "*errors.errorString" := by decide
theorem row116 (u : TypeId) (h : Tryd.prog.typeName? 3 u = some "*errors.errorString") : u = 116 := typeName_ptr_named (nm := "errors.errorString") (by rw [star116]; kernel_rfl) (by kernel_rfl) (by decide) u (by rw [star116]; exact h)
theorem errorsPtr : ∃ te f, Tryd.prog.underlying 116 = some (.pointer te) ∧ Tryd.prog.underlying te = some (.struct #[f]) ∧ f.type = 9 ∧ f.offset = 0 ∧ Tryd.prog.cellsOf te = 1 := ⟨139, _, Tryd.underlying116, Tryd.underlying139, rfl, rfl, by kernel_rfl⟩

theorem errs_of_laid {W : World} (h : laidMetH Tryd.prog theLaid W) : Errs W := by
  rw [MakeChecks.laidMetH_plain _ _ _ (by kernel_rfl)] at h
  obtain ⟨te, f, hp, he, hft, hfo, hc⟩ := errorsPtr
  obtain ⟨a0, a1, s0, s1, c0, c1, t0, t1, hv0, hv1, hc0, hs0, hz0, hc1, hs1, hz1, hne, hb0, hb1⟩ := laid_sentinels2 h gWire tWire gRange tRange Tryd.underlying58 row116 hp he hft hfo Tryd.underlying9 hc (by kernel_rfl)
  have e0 : W.cell? ⟨0, 0, none⟩ = some (errV a0) := by simpa using World.var?_cell gWire hv0 0
  have e1 : W.cell? ⟨1, 0, none⟩ = some (errV a1) := by simpa using World.var?_cell gRange hv1 0
  exact ⟨a0, a1, ⟨e0, e1, hne, ⟨_, _, hb0⟩, ⟨_, _, hb1⟩⟩, World.block_lt_of_cell? W _ e1, World.block_lt_of_cell? W _ hc0, World.block_lt_of_cell? W _ hc1⟩
end Go.Proofs.YtgkdliocfnoffaaDoor
set_option linter.unusedVariables false
set_option maxRecDepth 100000
namespace Go.Proofs.YtgkdliocfnoffaaDoor
open Go.ChangeShapes Go.WideShapes Go.ChangeAt Go.RowKit

theorem c3 : Tryd.prog.cellsOf 3 = 1 := by kernel_rfl
theorem c4 : Tryd.prog.cellsOf 4 = 1 := by kernel_rfl
theorem c22 : Tryd.prog.cellsOf 22 = 3 := by kernel_rfl
theorem c24 : Tryd.prog.cellsOf 24 = 5 := by kernel_rfl
theorem c42 : Tryd.prog.cellsOf 42 = 10 := by kernel_rfl

def V3.wd (v : V3) : Prop := I64 v.a ∧ I64 v.b ∧ I64 v.c
def MRow.wd (r : MRow) : Prop := I64 r.t ∧ I64 r.k ∧ r.v.wd

section
variable {H : Type} {enc : TypeId × Value → H} {w : World} {base : Nat} {sp : Nat → Bool} {held : Bool}
theorem int_of {fuel : Nat} {c : Value} {x : DataW H × List MemPlace} (h : DataW.trod enc Tryd.prog w base sp held fuel 3 [c] = some x) : ∃ n, c = .int .i64 n ∧ I64 n := by
  obtain ⟨n, e, _, hw⟩ := DataW.trod_int Tryd.underlying3 h
  exact ⟨n, by simpa using e, bounds_i64 hw⟩
theorem bool_of {fuel : Nat} {c : Value} {x : DataW H × List MemPlace} (h : DataW.trod enc Tryd.prog w base sp held fuel 4 [c] = some x) : ∃ b, c = .bool b := by
  obtain ⟨n, e, _⟩ := DataW.trod_bool Tryd.underlying4 h
  exact ⟨n, by simpa using e⟩
theorem v3_of {fuel : Nat} {c0 c1 c2 : Value} {x : DataW H × List MemPlace} (h : DataW.trod enc Tryd.prog w base sp held fuel 22 [c0, c1, c2] = some x) : ∃ v : V3, c0 = .int .i64 v.a ∧ c1 = .int .i64 v.b ∧ c2 = .int .i64 v.c ∧ v.wd := by
  obtain ⟨xs, m, rfl, _, _, hn, hel⟩ := DataW.trod_array Tryd.underlying22 h
  have h0 := hel 0 (by omega)
  have h1 := hel 1 (by omega)
  have h2 := hel 2 (by omega)
  rw [List.getElem?_eq_getElem (by omega), c3] at h0 h1 h2
  obtain ⟨a, rfl, ha⟩ := int_of (c := c0) (by simpa using h0)
  obtain ⟨b, rfl, hb⟩ := int_of (c := c1) (by simpa using h1)
  obtain ⟨c, rfl, hc⟩ := int_of (c := c2) (by simpa using h2)
  exact ⟨⟨a, b, c⟩, rfl, rfl, rfl, ha, hb, hc⟩
theorem row_of {fuel : Nat} {cs : List Value} {x : DataW H × List MemPlace} (h : DataW.trod enc Tryd.prog w base sp held fuel 24 cs = some x) : ∃ r : MRow, cs = [.int .i64 r.t, .int .i64 r.k, .int .i64 r.v.a, .int .i64 r.v.b, .int .i64 r.v.c] ∧ r.wd := by
  obtain ⟨xs, m, rfl, _, hl, hn, hel⟩ := DataW.trod_struct Tryd.underlying24 h
  rw [c24] at hl
  obtain ⟨q0, q1, q2, q3, q4, rfl⟩ : ∃ a b c d e, cs = [a, b, c, d, e] := match cs, hl with | [a, b, c, d, e], _ => ⟨a, b, c, d, e, rfl⟩
  have h0 := hel 0 _ rfl
  have h1 := hel 1 _ rfl
  have h2 := hel 2 _ rfl
  rw [List.getElem?_eq_getElem (by rw [hn]; decide)] at h0 h1 h2
  change DataW.trod enc Tryd.prog w base sp held m 3 (List.take (Tryd.prog.cellsOf 3) (List.drop 0 _)) = _ at h0
  change DataW.trod enc Tryd.prog w base sp held m 3 (List.take (Tryd.prog.cellsOf 3) (List.drop 1 _)) = _ at h1
  change DataW.trod enc Tryd.prog w base sp held m 22 (List.take (Tryd.prog.cellsOf 22) (List.drop 2 _)) = _ at h2
  simp only [c3, c22] at h0 h1 h2
  obtain ⟨a, rfl, ha⟩ := int_of (c := q0) (by simpa using h0)
  obtain ⟨b, rfl, hb⟩ := int_of (c := q1) (by simpa using h1)
  obtain ⟨v, rfl, rfl, rfl, hv⟩ := v3_of (c0 := q2) (c1 := q3) (c2 := q4) (by simpa using h2)
  exact ⟨⟨a, b, v⟩, rfl, ha, hb, hv⟩
theorem ch_of {fuel : Nat} {cs : List Value} {x : DataW H × List MemPlace} (h : DataW.trod enc Tryd.prog w base sp held fuel 42 cs = some x) : ∃ c : MCh, cs = (chCells c).toList ∧ I64 c.t ∧ I64 c.k ∧ c.o.wd ∧ c.n.wd := by
  obtain ⟨xs, m, rfl, _, hl, hn, hel⟩ := DataW.trod_struct Tryd.underlying42 h
  rw [c42] at hl
  obtain ⟨q0, q1, q2, q3, q4, q5, q6, q7, q8, q9, rfl⟩ : ∃ a b c d e f g i j k, cs = [a, b, c, d, e, f, g, i, j, k] := match cs, hl with | [a, b, c, d, e, f, g, i, j, k], _ => ⟨a, b, c, d, e, f, g, i, j, k, rfl⟩
  have h0 := hel 0 _ rfl
  have h1 := hel 1 _ rfl
  have h2 := hel 2 _ rfl
  have h3 := hel 3 _ rfl
  have h4 := hel 4 _ rfl
  have h5 := hel 5 _ rfl
  rw [List.getElem?_eq_getElem (by rw [hn]; decide)] at h0 h1 h2 h3 h4 h5
  change DataW.trod enc Tryd.prog w base sp held m 3 (List.take (Tryd.prog.cellsOf 3) (List.drop 0 _)) = _ at h0
  change DataW.trod enc Tryd.prog w base sp held m 3 (List.take (Tryd.prog.cellsOf 3) (List.drop 1 _)) = _ at h1
  change DataW.trod enc Tryd.prog w base sp held m 4 (List.take (Tryd.prog.cellsOf 4) (List.drop 2 _)) = _ at h2
  change DataW.trod enc Tryd.prog w base sp held m 22 (List.take (Tryd.prog.cellsOf 22) (List.drop 3 _)) = _ at h3
  change DataW.trod enc Tryd.prog w base sp held m 4 (List.take (Tryd.prog.cellsOf 4) (List.drop 6 _)) = _ at h4
  change DataW.trod enc Tryd.prog w base sp held m 22 (List.take (Tryd.prog.cellsOf 22) (List.drop 7 _)) = _ at h5
  simp only [c3, c22, c4] at h0 h1 h2 h3 h4 h5
  obtain ⟨t, rfl, ht⟩ := int_of (c := q0) (by simpa using h0)
  obtain ⟨k, rfl, hk⟩ := int_of (c := q1) (by simpa using h1)
  obtain ⟨b, rfl⟩ := bool_of (c := q2) (by simpa using h2)
  obtain ⟨o, rfl, rfl, rfl, ho⟩ := v3_of (c0 := q3) (c1 := q4) (c2 := q5) (by simpa using h3)
  obtain ⟨g, rfl⟩ := bool_of (c := q6) (by simpa using h4)
  obtain ⟨v, rfl, rfl, rfl, hv⟩ := v3_of (c0 := q7) (c1 := q8) (c2 := q9) (by simpa using h5)
  exact ⟨⟨t, k, b, o, g, v⟩, rfl, ht, hk, ho, hv⟩
end

theorem agg_of {w : World} {r : Reach} {b0 : Nat} {t : TypeId} {v : Value} {fs : Array Field} (ht : Tryd.prog.underlying t = some (.struct fs)) (hval : Value.okWide Tryd.prog w r b0 t v) : ∃ cs, v = .agg cs ∧ v.cells = cs := by
  obtain ⟨cs, rfl, _⟩ : ∃ cs, v = .agg cs ∧ cs.size = Tryd.prog.cellsOf t ∧ Row.okWide Tryd.prog w r b0 t cs := by
    simpa [Value.okWide, ht] using hval
  exact ⟨cs, rfl, rfl⟩
theorem open_row {H : Type} {enc : TypeId × Value → H} {w : World} {base : Nat} {sp : Nat → Bool} {held : Bool} {r : Reach} {b0 : Nat} {v : Value} {d : DataW H} {p : List MemPlace}
    (hval : Value.okWide Tryd.prog w r b0 24 v) (hd : DataW.Trod enc Tryd.prog w base sp held 24 v d p) : ∃ x : MRow, v = rowV x ∧ x.wd := by
  obtain ⟨cs, rfl, hcs⟩ := agg_of Tryd.underlying24 hval
  obtain ⟨fuel, hf⟩ := hd
  rw [hcs] at hf
  obtain ⟨x, e, hx⟩ := row_of hf
  exact ⟨x, by rw [show cs = cs.toList.toArray by simp, e], hx⟩
theorem open_ch {H : Type} {enc : TypeId × Value → H} {w : World} {base : Nat} {sp : Nat → Bool} {held : Bool} {r : Reach} {b0 : Nat} {v : Value} {d : DataW H} {p : List MemPlace}
    (hval : Value.okWide Tryd.prog w r b0 42 v) (hd : DataW.Trod enc Tryd.prog w base sp held 42 v d p) : ∃ c : MCh, v = chV c ∧ I64 c.t ∧ I64 c.k ∧ c.o.wd ∧ c.n.wd := by
  obtain ⟨cs, rfl, hcs⟩ := agg_of Tryd.underlying42 hval
  obtain ⟨fuel, hf⟩ := hd
  rw [hcs] at hf
  obtain ⟨x, e, hx⟩ := ch_of hf
  exact ⟨x, by rw [show cs = cs.toList.toArray by simp, e]; rfl, hx⟩
end Go.Proofs.YtgkdliocfnoffaaDoor
set_option linter.unusedVariables false
set_option linter.unusedSimpArgs false
set_option maxRecDepth 100000
namespace Go.Proofs.YtgkdliocfnoffaaDoor
open Go.ChangeShapes Go.WideShapes Go.ChangeAt Go.RowKit

theorem c35 : Tryd.prog.cellsOf 35 = 1 := by kernel_rfl
theorem c37 : Tryd.prog.cellsOf 37 = 2 := by kernel_rfl
theorem chI_of {H : Type} {enc : TypeId × Value → H} {w : World} {held : Bool} {fuel : Nat} {v : Value} {x : DataW H × List MemPlace}
    (h : DataW.trod enc Tryd.prog w 0 (fun _ => true) held fuel 35 [v] = some x) : ∃ L, ChI w v L := by
  rcases Go.Deep.open_slice Tryd.underlying35 h with ⟨e, _⟩ | ⟨a, len, cap, m, n, D, Pl, e, _, hl, hm, hm2, _, hel⟩
  · obtain rfl : v = .slice none 0 0 := by simpa using e
    exact ⟨[], none, 0, 0, rfl, rfl, Nat.le_refl _, Nat.zero_le _, fun _ => rfl, fun h => by omega⟩
  · obtain rfl : v = .slice (some a) len cap := by simpa using e
    rw [if_pos rfl] at hm2
    subst hm2
    rw [c42] at hel
    have hch : ∀ i, i < len → ∃ c : MCh, ∀ j : Nat, j < 10 → w.cell? ((a.add (i * 10)).add j) = (chCells c)[j]? := fun i hi => by
      obtain ⟨cs, hcs, ht⟩ := hel i (by omega)
      obtain ⟨c, rfl, _⟩ := ch_of ht
      obtain ⟨_, _, hc⟩ := World.cells?_some hcs
      exact ⟨c, fun j hj => by rw [hc j hj]; simp⟩
    have hf : ∃ f : Nat → MCh, ∀ i, i < len → ∀ j : Nat, j < 10 → w.cell? ((a.add (i * 10)).add j) = (chCells (f i))[j]? :=
      ⟨fun i => if h : i < len then (hch i h).choose else chZ, fun i hi => by simpa [hi] using (hch i hi).choose_spec⟩
    obtain ⟨f, hf⟩ := hf
    refine ⟨(List.range len).map f, some a, len, m, rfl, by simp, hl, hm, (fun h => absurd h (by simp)), fun h1 => ?_⟩
    obtain ⟨b, off, spot⟩ := a
    have h00 := hf 0 (by omega) 0 (by omega)
    obtain ⟨u, hu, _⟩ := chCells_some (f 0) 0 (by omega)
    rw [hu] at h00
    have hspot : spot = none := by simpa [Addr.add] using World.cell?_spot h00
    subst hspot
    refine ⟨b, off, rfl, by simpa [Addr.add] using World.block_lt_of_cell? w _ h00, fun i hi j hj => ?_⟩
    have := hf i hi j hj
    rw [show ((⟨b, off, none⟩ : Addr).add (i * 10)).add j = ⟨b, off + i * 10 + j, none⟩ from by rw [Addr.add_lit, Addr.add_lit]]  at this
    rw [this]
    simp [List.getD, hi]
theorem rec_of {H : Type} {enc : TypeId × Value → H} {w : World} {held : Bool} {fuel : Nat} {cs : List Value} {x : DataW H × List MemPlace}
    (h : DataW.trod enc Tryd.prog w 0 (fun _ => true) held fuel 37 cs = some x) : ∃ p v L, cs = [.int .i64 p, v] ∧ I64 p ∧ ChI w v L := by
  obtain ⟨xs, m, rfl, _, hl, hn, hel⟩ := DataW.trod_struct Tryd.underlying37 h
  rw [c37] at hl
  obtain ⟨q0, q1, rfl⟩ : ∃ a b, cs = [a, b] := match cs, hl with | [a, b], _ => ⟨a, b, rfl⟩
  have h0 := hel 0 _ rfl
  have h1 := hel 1 _ rfl
  rw [List.getElem?_eq_getElem (by rw [hn]; decide)] at h0 h1
  change DataW.trod enc Tryd.prog w 0 (fun _ => true) held m 3 (List.take (Tryd.prog.cellsOf 3) (List.drop 0 _)) = _ at h0
  change DataW.trod enc Tryd.prog w 0 (fun _ => true) held m 35 (List.take (Tryd.prog.cellsOf 35) (List.drop 1 _)) = _ at h1
  simp only [c3, c35] at h0 h1
  obtain ⟨p, rfl, hp⟩ := int_of (c := q0) (by simpa using h0)
  obtain ⟨L, hL⟩ := chI_of (v := q1) (by simpa using h1)
  exact ⟨p, q1, L, rfl, hp, hL⟩
theorem open_rec {H : Type} {enc : TypeId × Value → H} {w : World} {held : Bool} {r : Reach} {b0 : Nat} {v : Value} {d : DataW H} {p : List MemPlace}
    (hval : Value.okWide Tryd.prog w r b0 37 v) (hd : DataW.Trod enc Tryd.prog w 0 (fun _ => true) held 37 v d p) : ∃ k u L, v = .agg #[.int .i64 k, u] ∧ ChI w u L := by
  obtain ⟨cs, rfl, hcs⟩ := agg_of Tryd.underlying37 hval
  obtain ⟨fuel, hf⟩ := hd
  rw [hcs] at hf
  obtain ⟨k, u, L, e, _, hL⟩ := rec_of hf
  exact ⟨k, u, L, by rw [show cs = cs.toList.toArray by simp, e], hL⟩
end Go.Proofs.YtgkdliocfnoffaaDoor
