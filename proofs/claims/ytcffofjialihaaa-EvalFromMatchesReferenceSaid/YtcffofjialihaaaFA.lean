/- THE FRAME OF A LAW's ROW (a plain one), and what a parameter of this seat's laws is. -/
import Derived.Test.YtcffofjialihaaaRows
import Derived.Test.YtcffofjialihaaaEL
import Derived.WalkKit
import Derived.ProofKit
import Derived.OpenShut
import Derived.Deep.Strs
import Derived.Deep.Slices
set_option linter.unusedVariables false
set_option linter.unusedSimpArgs false
set_option maxRecDepth 100000
namespace Go.Proofs.Ytcffofjialihaaa
open Go.ChangeShapes Go.WideShapes Go.ChangeAt Go.RowKit

theorem own : ownKnob Try.prog.godebug = none := by kernel_rfl
theorem trodAll_below {H : Type} {enc : TypeId × Value → H} {P : Program} (hl : laidOutB P = true) {W W' : World} (hb : Below W.heap.size W W') :
    ∀ {ts : List TypeId} {vs : List Value} {ds : List (DataW H)} {ps : List MemPlace}, ts.all (fun t => P.readableRec t && decide (t < P.types.size)) = true →
      DataW.TrodAll enc P W 0 (fun _ => true) true ts vs ds ps → (∀ x ∈ ps, x.block < W.heap.size) → DataW.TrodAll enc P W' 0 (fun b => decide (b < W.heap.size)) true ts vs ds ps
  | [], vs, ds, ps, _, h, _ => by
    obtain ⟨rfl, rfl, rfl⟩ := trodAll_nil h
    exact trodAll_mk0
  | t :: ts, vs, ds, ps, hr, h, hlt => by
    obtain ⟨v, vs', d, ds', p, q, rfl, rfl, rfl, h0, h1⟩ := trodAll_cons h
    simp only [List.all_cons, Bool.and_eq_true, decide_eq_true_eq] at hr
    exact trodAll_cons_mk (Below.trod hl hr.1.1 hr.1.2 h0 hb (fun x hx => hlt x (by simp [hx]))) (trodAll_below hl hb hr.2 h1 (fun x hx => hlt x (by simp [hx])))
theorem trodAll_length {H : Type} {enc : TypeId × Value → H} {P : Program} {W : World} {base : Nat} {sp : Nat → Bool} {held : Bool} :
    ∀ {ts : List TypeId} {vs : List Value} {ds : List (DataW H)} {ps : List MemPlace}, DataW.TrodAll enc P W base sp held ts vs ds ps → ds.length = ts.length
  | [], vs, ds, ps, h => by obtain ⟨rfl, rfl, rfl⟩ := trodAll_nil h; rfl
  | t :: ts, vs, ds, ps, h => by
    obtain ⟨v, vs', d, ds', p, q, rfl, rfl, rfl, h0, h1⟩ := trodAll_cons h
    simp [trodAll_length h1]
/-- What a law's specification says, at readings of its parameters. -/
def LawSpec (s : ChangeSpec) (n : Nat) : Prop := s.vars = [] ∧ ∀ (H : Type) (ds : List (DataW H)), ds.length = n → s.fn H (ds ++ []) = { results := [.lit (.bool true)], args := ds }

theorem law_post {H : Type} {enc : TypeId × Value → H} {P : Program} {fn : Func} {s : ChangeSpec} {W W' : World} {args : Array Value} {ds gs : List (DataW H)} {before : List MemPlace} (tb : TypeId)
    (hl : laidOutB P = true) (hs : LawSpec s fn.params.toList.length) (hr : fn.params.toList.all (fun t => P.readableRec t && decide (t < P.types.size)) = true) (hres : fn.resultTypes = #[tb]) (htb : P.underlying tb = some .bool)
    (hW : DataW.Whole enc P fn.params.toList s.vars false W args.toList ds gs before) (hb : Below W.heap.size W W') : s.post enc P fn false true false false W args (.bool true) W' := by
  have hW' := hW
  obtain ⟨p, q, hA, hV, rfl, _, _⟩ := hW
  rw [hs.1] at hV
  obtain ⟨rfl, rfl⟩ := trodVars_none hV
  have hlt : ∀ x ∈ p, x.block < W.heap.size := fun x hx => by
    have := hW'.lt x (by simp [hx])
    simpa using this
  refine ⟨ds, [], p ++ [], [], p, [], hW', ?_, ?_, ?_, hb.frame _, fun h => by cases h⟩
  · rw [hs.2 H ds (trodAll_length hA), hres]
    exact trodAll_mk1 (shut_bool htb _)
  · rw [hs.2 H ds (trodAll_length hA)]
    exact trodAll_below hl hb hr hA hlt
  · rw [hs.2 H ds (trodAll_length hA), hs.1]; rfl

theorem len2 {α : Type} {l : List α} (h : l.length = 2) : ∃ a b, l = [a, b] := match l, h with | [a, b], _ => ⟨a, b, rfl⟩
theorem len3 {α : Type} {l : List α} (h : l.length = 3) : ∃ a b c, l = [a, b, c] := match l, h with | [a, b, c], _ => ⟨a, b, c, rfl⟩
theorem len4 {α : Type} {l : List α} (h : l.length = 4) : ∃ a b c d, l = [a, b, c, d] := match l, h with | [a, b, c, d], _ => ⟨a, b, c, d, rfl⟩
theorem len6 {α : Type} {l : List α} (h : l.length = 6) : ∃ a b c d e f, l = [a, b, c, d, e, f] := match l, h with | [a, b, c, d, e, f], _ => ⟨a, b, c, d, e, f, rfl⟩
theorem c3 : Try.prog.cellsOf 3 = 1 := by kernel_rfl
theorem c24 : Try.prog.cellsOf 24 = 4 := by kernel_rfl
theorem len5 {α : Type} {l : List α} (h : l.length = 5) : ∃ a b c d e, l = [a, b, c, d, e] := match l, h with | [a, b, c, d, e], _ => ⟨a, b, c, d, e, rfl⟩
theorem int_of {H : Type} {enc : TypeId × Value → H} {w : World} {base : Nat} {sp : Nat → Bool} {held : Bool} {fuel : Nat} {c : Value} {x : DataW H × List MemPlace} (h : DataW.trod enc Try.prog w base sp held fuel 3 [c] = some x) : ∃ n, c = .int .i64 n ∧ I64 n := by
  obtain ⟨n, e, _, hw⟩ := DataW.trod_int Try.underlying3 h
  exact ⟨n, by simpa using e, bounds_i64 hw⟩
theorem four_of {H : Type} {enc : TypeId × Value → H} {w : World} {base : Nat} {sp : Nat → Bool} {held : Bool} {fuel : Nat} {cs : List Value} {x : DataW H × List MemPlace} (hl : cs.length = 4) (h : DataW.trod enc Try.prog w base sp held fuel 24 cs = some x) : ∀ j, j < 4 → ∃ z, I64 z ∧ cs[j]? = some (.int .i64 z) := by
  obtain ⟨xs, m, rfl, _, _, hn, hel⟩ := DataW.trod_array Try.underlying24 h
  intro j hj
  have h0 := hel j (by omega)
  rw [List.getElem?_eq_getElem (by omega), c3] at h0
  have hd : (cs.drop (j * 1)).take 1 = [cs[j]] := by
    rw [Nat.mul_one, List.drop_eq_getElem_cons (by omega)]
    rfl
  rw [hd] at h0
  obtain ⟨z, e, hz⟩ := int_of h0
  exact ⟨z, hz, by rw [List.getElem?_eq_getElem (by omega), e]⟩
/-- **A list of lists of four integers.** -/
theorem open_xs {H : Type} {enc : TypeId × Value → H} {w : World} {r : Reach} {b0 : Nat} {v : Value} {d : DataW H} {p : List MemPlace}
    (hval : Value.okWide Try.prog w r b0 38 v) (hd : DataW.Trod enc Try.prog w 0 (fun _ => true) true 38 v d p) : ∃ n, XS4 w v n := by
  obtain ⟨a0, len0, cap0, rfl⟩ := okWide_slice Try.underlying38 hval
  obtain ⟨fuel, h⟩ := hd
  rcases Go.Deep.open_slice Try.underlying38 h with ⟨e, _⟩ | ⟨a, len, cap, m, n, D, Pl, e, _, hl, hm, hm2, _, hel⟩
  · simp [Value.cells] at e
    obtain ⟨rfl, rfl, rfl⟩ := e
    exact ⟨0, none, 0, rfl, Nat.le_refl _, by omega, fun h => by omega⟩
  · simp [Value.cells] at e
    obtain ⟨rfl, rfl, rfl⟩ := e
    rw [if_pos rfl] at hm2
    subst hm2
    rw [c24] at hel
    have hch : ∀ i j, i < len0 → j < 4 → ∃ z, I64 z ∧ w.cell? ((a.add (i * 4)).add j) = some (.int .i64 z) := fun i j hi hj => by
      obtain ⟨cs, hcs, ht⟩ := hel i (by omega)
      obtain ⟨_, hlen, hc⟩ := World.cells?_some hcs
      obtain ⟨z, hz, e⟩ := four_of (by simpa using hlen) ht j hj
      exact ⟨z, hz, by rw [hc j hj]; simpa using e⟩
    refine ⟨len0, some a, _, rfl, hl, by unfold maxLen at hm; omega, fun h1 => ?_⟩
    obtain ⟨b, off, spot⟩ := a
    obtain ⟨z0, _, h00⟩ := hch 0 0 (by omega) (by omega)
    have hspot : spot = none := by simpa [Addr.add] using World.cell?_spot h00
    subst hspot
    refine ⟨b, off, rfl, by simpa [Addr.add] using World.block_lt_of_cell? w _ h00, fun i j hi hj => ?_⟩
    obtain ⟨z, hz, hc⟩ := hch i j hi hj
    rw [show ((⟨b, off, none⟩ : Addr).add (i * 4)).add j = ⟨b, off + i * 4 + j, none⟩ from by rw [Addr.add_lit, Addr.add_lit]] at hc
    exact ⟨z, hz, hc⟩

theorem open_arr4 {H : Type} {enc : TypeId × Value → H} {w : World} {base : Nat} {sp : Nat → Bool} {held : Bool} {r : Reach} {b0 : Nat} {v : Value} {d : DataW H} {p : List MemPlace}
    (hval : Value.okWide Try.prog w r b0 24 v) (hd : DataW.Trod enc Try.prog w base sp held 24 v d p) : ∃ x : X4, v = x4V x ∧ x.Ok := by
  obtain ⟨cs, rfl, hsz, _⟩ : ∃ cs, v = .agg cs ∧ cs.size = Try.prog.cellsOf 24 ∧ Row.okWide Try.prog w r b0 24 cs := by
    simpa [Value.okWide, Try.underlying24] using hval
  rw [c24] at hsz
  obtain ⟨l⟩ := cs
  obtain ⟨q0, q1, q2, q3, rfl⟩ : ∃ a b c d, l = [a, b, c, d] := match l, hsz with | [a, b, c, d], _ => ⟨a, b, c, d, rfl⟩
  obtain ⟨fuel, hf⟩ := hd
  obtain ⟨xs, m, rfl, _, _, hn, hel⟩ := DataW.trod_array Try.underlying24 hf
  have h0 := hel 0 (by omega)
  have h1 := hel 1 (by omega)
  have h2 := hel 2 (by omega)
  have h3 := hel 3 (by omega)
  rw [List.getElem?_eq_getElem (by omega), c3] at h0 h1 h2 h3
  obtain ⟨a, rfl, ha⟩ := int_of (c := q0) (by simpa [Value.cells] using h0)
  obtain ⟨b, rfl, hb⟩ := int_of (c := q1) (by simpa [Value.cells] using h1)
  obtain ⟨c, rfl, hc⟩ := int_of (c := q2) (by simpa [Value.cells] using h2)
  obtain ⟨e, rfl, he⟩ := int_of (c := q3) (by simpa [Value.cells] using h3)
  exact ⟨⟨a, b, c, e⟩, rfl, ha, hb, hc, he⟩
theorem c29 : Try.prog.cellsOf 29 = 3 := by kernel_rfl
theorem open_arr3 {H : Type} {enc : TypeId × Value → H} {w : World} {base : Nat} {sp : Nat → Bool} {held : Bool} {r : Reach} {b0 : Nat} {v : Value} {d : DataW H} {p : List MemPlace}
    (hval : Value.okWide Try.prog w r b0 29 v) (hd : DataW.Trod enc Try.prog w base sp held 29 v d p) : ∃ a : V3, v = v3V a ∧ (I64 a.a ∧ I64 a.b ∧ I64 a.c) := by
  obtain ⟨cs, rfl, hsz, _⟩ : ∃ cs, v = .agg cs ∧ cs.size = Try.prog.cellsOf 29 ∧ Row.okWide Try.prog w r b0 29 cs := by
    simpa [Value.okWide, Try.underlying29] using hval
  rw [c29] at hsz
  obtain ⟨l⟩ := cs
  obtain ⟨q0, q1, q2, rfl⟩ : ∃ a b c, l = [a, b, c] := match l, hsz with | [a, b, c], _ => ⟨a, b, c, rfl⟩
  obtain ⟨fuel, hf⟩ := hd
  obtain ⟨xs, m, rfl, _, _, hn, hel⟩ := DataW.trod_array Try.underlying29 hf
  have h0 := hel 0 (by omega)
  have h1 := hel 1 (by omega)
  have h2 := hel 2 (by omega)
  rw [List.getElem?_eq_getElem (by omega), c3] at h0 h1 h2
  obtain ⟨a, rfl, ha⟩ := int_of (c := q0) (by simpa [Value.cells] using h0)
  obtain ⟨b, rfl, hb⟩ := int_of (c := q1) (by simpa [Value.cells] using h1)
  obtain ⟨c, rfl, hc⟩ := int_of (c := q2) (by simpa [Value.cells] using h2)
  exact ⟨⟨a, b, c⟩, rfl, ha, hb, hc⟩

theorem c23 : Try.prog.cellsOf 23 = 7 := by kernel_rfl
end Go.Proofs.Ytcffofjialihaaa
