/- A7, EL, FA, FR -/
import Derived.Test.YtgbnjjgnihjfgaaProg
import Derived.WalkKit
import Derived.Below
import Derived.Lib.Hide
import Derived.Laws.StructEq
import Derived.Lib.QuietBelow
import Derived.Deep.RegionHeld3
import Derived.Deep.RegionWith
import Derived.IntWalk
import Derived.BigQuiet
import Derived.Maps.RangeWalk
import Derived.DeepKeys4
import Derived.OneCell
import Derived.StillTail
import Derived.Deep.CutRange
import Derived.Outline
import Derived.WalkSpells
import Derived.Carry
import Derived.Shelf.SlGeneric
import Derived.Shelf.SlSortCmp.WholeK
import Derived.Shelf.SlicesG.Cmp
import Derived.Ground.SlsfProg
import Derived.Ground.SlgcProg
import Derived.Sort.OwnSorted
import Derived.Deep.AppendLies
import Derived.Shelf.SlSortCmp.NoneTotal
import Derived.Deep.QuietTactic
import Derived.Laws.AppendOwnNone
import Derived.Laws.EntriesVeiled
import Derived.Lib.SliceRun
import Derived.Deep.Cut
import Derived.Laws.ResultCell
import Derived.ArgAppend
import Derived.Laws.Rows
import Derived.Great.BuildSlice
import Derived.Great.Frames
import Derived.Deep.DeepCutAuto
import Derived.Test.YtgbnjjgnihjfgaaWFAD
import Derived.Test.YtgbnjjgnihjfgaaWFAB
import Derived.Test.YtgbnjjgnihjfgaaWFAC
import Derived.Test.YtgbnjjgnihjfgaaWFAA
import Derived.Test.YtgbnjjgnihjfgaaRows
import Derived.ProofKit
import Derived.OpenShut
import Derived.Deep.Strs
import Derived.Deep.Slices
section
section
set_option linter.unusedVariables false
set_option linter.unusedSimpArgs false
namespace Go.Proofs.Ytgbnjjgnihjfgaa
open Go.RowKit Go.Sort Go.ChangeMaps Go.MapKept

set_option maxRecDepth 100000 in
set_option maxHeartbeats 1000000 in
theorem pick7_any (c n : Int) (W : World) (hc : I64 c) (hn : 1 ≤ n) (hn2 : n ≤ 1000000) : Calls Try.prog 68 #[.int .i64 c, .int .i64 n] W fun e w' => e = .returned (.int .i64 (pk c n)) ∧ W = w' := by
  unfold I64 at hc
  have hn0 : (n == 0) = false := by simp; omega
  by_cases h : c < 0
  · have d1 : decide (c < 0) = true := decide_eq_true h
    have hp : pk c n = (-(c + 1)) % n := by unfold pk; rw [if_pos h]
    rw [hp]
    have ht : Int.tmod (-(c + 1)) n = (-(c + 1)) % n := Int.tmod_eq_emod_of_nonneg (by omega)
    have h3 := Int.emod_nonneg (-(c + 1)) (show n ≠ 0 by omega)
    have h4 := Int.emod_lt_of_pos (-(c + 1)) (show 0 < n by omega)
    go_enter Try.func68, Try.ntmps68
    go_wp2_with fail
    go_ret
    exact ⟨rfl, rfl⟩
  · have d1 : decide (c < 0) = false := decide_eq_false h
    have hp : pk c n = c % n := by unfold pk; rw [if_neg h]
    rw [hp]
    have ht : Int.tmod c n = c % n := Int.tmod_eq_emod_of_nonneg (by omega)
    have h3 := Int.emod_nonneg c (show n ≠ 0 by omega)
    have h4 := Int.emod_lt_of_pos c (show 0 < n by omega)
    go_enter Try.func68, Try.ntmps68
    go_wp2_with fail
    go_ret
    exact ⟨rfl, rfl⟩
end Go.Proofs.Ytgbnjjgnihjfgaa
end

section
set_option linter.unusedVariables false
set_option linter.unusedSimpArgs false
namespace Go.Proofs.Ytgbnjjgnihjfgaa
open Go.RowKit Go.Sort Go.ChangeMaps Go.MapKept

def eM : List MRow := [⟨0, 5, ⟨10, 2, 7⟩⟩, ⟨0, 6, ⟨10, 9, 7⟩⟩, ⟨0, 7, ⟨12, 1, 8⟩⟩, ⟨1, 2, ⟨30, 31, 32⟩⟩, ⟨1, 9, ⟨40, 41, 42⟩⟩]
instance (col : Int) (x y : MRow) : Decidable (rle col x y) := by unfold rle; infer_instance
abbrev qC (q : MQ) : Array Value := #[.int .i64 q.kind, .int .i64 q.table, .int .i64 q.column, .int .i64 q.low, .int .i64 q.high, .int .i64 q.by_, .int .i64 q.other]
theorem qAt_of {w : World} {b : Nat} {q : MQ} (h : w.heap[b]? = some (.cells (qC q) 29 (0, 0))) : QAt w b q := by
  constructor <;> simp [World.cell?, h]
/-- What sane has at hand: a state, a query in a variable, results in variables. -/
structure SEv (w0 w : World) (b1 : Nat) (m1 : Option Nat) (qb : Nat) (q : MQ) (A : List (Nat × Value × Int × Bool)) (B : List (Value × List MRow)) : Prop where
  st : StAt w b1 m1 eM 1
  nb : qb ≠ b1
  nm : m1 ≠ some qb
  qblk : w.heap[qb]? = some (.cells (qC q) 29 (0, 0))
  res : ∀ x ∈ A, w.heap[x.1]? = some (.cells (resC x.2.1 x.2.2.1 x.2.2.2) 46 (0, 0)) ∧ x.1 ≠ qb
  rows : ∀ x ∈ B, OwnR w (qb + 1) x.1 x.2
  old : Below w0.heap.size w0 w
  ge : w0.heap.size ≤ qb
section
variable {w0 w w' : World} {b1 qb : Nat} {m1 : Option Nat} {q : MQ} {A : List (Nat × Value × Int × Bool)} {B : List (Value × List MRow)}
theorem SEv.below (h : SEv w0 w b1 m1 qb q A B) (k : Below w.heap.size w w') : SEv w0 w' b1 m1 qb q A B :=
  ⟨h.st.below k, h.nb, h.nm, (k.block _ (lt_of_block h.qblk)).trans h.qblk, fun x hx => ⟨(k.block _ (lt_of_block (h.res x hx).1)).trans (h.res x hx).1, (h.res x hx).2⟩, fun x hx => (h.rows x hx).below k, bt h.old k, h.ge⟩
theorem SEv.set (h : SEv w0 w b1 m1 qb q A B) {j : Nat} {u : Value} {q' : MQ} (hq : (qC q).setIfInBounds j u = qC q') : SEv w0 (w.setCell ⟨qb, j, none⟩ u) b1 m1 qb q' A B := by
  have k : Kept (fun i => i = qb) w (w.setCell ⟨qb, j, none⟩ u) := Kept.setCell (F := fun i => i = qb) (p := ⟨qb, j, none⟩) (Kept.refl _ _) (.inl rfl) u
  refine ⟨h.st.kept k (fun i hf e => ?_), h.nb, h.nm, by rw [setC_heap h.qblk j u, hq], fun x hx => ⟨(k.block _ (lt_of_block (h.res x hx).1) (h.res x hx).2).trans (h.res x hx).1, (h.res x hx).2⟩, fun x hx => (h.rows x hx).kept k (fun i hi e => by omega), h.old.trans (k.below h.old.size (fun i e => by have := h.ge; omega)), h.ge⟩
  subst e
  rcases hf with e | e
  · exact h.nb e
  · exact h.nm e
end
end Go.Proofs.Ytgbnjjgnihjfgaa
end

section
set_option linter.unusedVariables false
set_option linter.unusedSimpArgs false
namespace Go.Proofs.Ytgbnjjgnihjfgaa
open Go.RowKit Go.Sort Go.ChangeMaps Go.MapKept

structure X4 where
  a : Int
  b : Int
  c : Int
  d : Int
def X4.Ok (x : X4) : Prop := I64 x.a ∧ I64 x.b ∧ I64 x.c ∧ I64 x.d
theorem tdiv_i64 {a n : Int} (h : I64 a) (hn : 2 ≤ n) : I64 (Int.tdiv a n) := by
  unfold I64 at *
  rcases Int.le_total 0 a with h0 | h0
  · have h1 := Int.tdiv_nonneg h0 (show 0 ≤ n by omega)
    have h2 : Int.tdiv a n ≤ a := by
      rw [Int.tdiv_eq_ediv_of_nonneg h0]
      exact Int.ediv_le_self _ h0
    omega
  · have e : Int.tdiv a n = -(Int.tdiv (-a) n) := by rw [Int.neg_tdiv, Int.neg_neg]
    have h0' : 0 ≤ -a := by omega
    have h1 := Int.tdiv_nonneg h0' (show 0 ≤ n by omega)
    have h2 : Int.tdiv (-a) n ≤ -a := by
      rw [Int.tdiv_eq_ediv_of_nonneg h0']
      exact Int.ediv_le_self _ h0'
    omega
end Go.Proofs.Ytgbnjjgnihjfgaa
end

section
set_option linter.unusedVariables false
set_option linter.unusedSimpArgs false
namespace Go.Proofs.Ytgbnjjgnihjfgaa
open Go.RowKit Go.Sort Go.ChangeMaps Go.MapKept


/-- What Query has at hand: its argument, its result, and the query in a variable. -/
structure QS (W w : World) (yb : Nat) (x : X4) (q : MQ) : Prop where
  old : Below W.heap.size W w
  arg : w.heap[W.heap.size]? = some (.cells #[.int .i64 x.a, .int .i64 x.b, .int .i64 x.c, .int .i64 x.d] 23 (0, 0))
  res : w.heap[W.heap.size + 1]? = some (.cells (qC ⟨0, 0, 0, 0, 0, 0, 0⟩) 29 (0, 0))
  var : w.heap[yb]? = some (.cells (qC q) 29 (0, 0))
  ge : W.heap.size + 2 ≤ yb
theorem QS.below {W w w' : World} {yb : Nat} {x : X4} {q : MQ} (h : QS W w yb x q) (k : Below w.heap.size w w') : QS W w' yb x q :=
  ⟨bt h.old k, (k.block _ (lt_of_block h.arg)).trans h.arg, (k.block _ (lt_of_block h.res)).trans h.res, (k.block _ (lt_of_block h.var)).trans h.var, h.ge⟩
theorem QS.set {W w : World} {yb : Nat} {x : X4} {q q' : MQ} (h : QS W w yb x q) {j : Nat} {u : Value} (hq : (qC q).setIfInBounds j u = qC q') : QS W (w.setCell ⟨yb, j, none⟩ u) yb x q' := by
  have hg := h.ge
  exact ⟨below_setCell h.old (by show W.heap.size ≤ yb; omega) u, (Below.heap_setCell _ _ _ _ (by show W.heap.size ≠ yb; omega)).trans h.arg, (Below.heap_setCell _ _ _ _ (by show W.heap.size + 1 ≠ yb; omega)).trans h.res, by rw [setC_heap h.var j u, hq], hg⟩
theorem QS.args {W w : World} {yb : Nat} {x : X4} {q : MQ} (h : QS W w yb x q) : w.cell? ⟨W.heap.size, 0, none⟩ = some (.int .i64 x.a) ∧ w.cell? ⟨W.heap.size, 1, none⟩ = some (.int .i64 x.b) ∧ w.cell? ⟨W.heap.size, 2, none⟩ = some (.int .i64 x.c) ∧ w.cell? ⟨W.heap.size, 3, none⟩ = some (.int .i64 x.d) :=
  ⟨by simp [World.cell?, h.arg], by simp [World.cell?, h.arg], by simp [World.cell?, h.arg], by simp [World.cell?, h.arg]⟩
theorem QS.frz {W w : World} {yb : Nat} {x : X4} {q : MQ} (h : QS W w yb x q) (j : Nat) : w.frozen? ⟨yb, j, none⟩ = false := by simp [World.frozen?, h.var]

end Go.Proofs.Ytgbnjjgnihjfgaa
end

section
set_option linter.unusedVariables false
set_option linter.unusedSimpArgs false
namespace Go.Proofs.Ytgbnjjgnihjfgaa
open Go.RowKit Go.Sort Go.ChangeMaps Go.MapKept

/-- A slice that reads as n lists of four integers. -/
def XS4 (w : World) (v : Value) (n : Nat) : Prop :=
  ∃ a cap, v = .slice a n cap ∧ n ≤ cap ∧ cap ≤ 9223372036854775807 ∧ (1 ≤ n → ∃ b o, a = some ⟨b, o, none⟩ ∧ b < w.heap.size ∧ ∀ i j, i < n → j < 4 → ∃ z, I64 z ∧ w.cell? ⟨b, o + i * 4 + j, none⟩ = some (.int .i64 z))
theorem XS4.below {w w1 : World} {v : Value} {n : Nat} (h : XS4 w v n) (hb1 : Below w.heap.size w w1) : XS4 w1 v n := by
  obtain ⟨a, cap, e, h1, h2, h3⟩ := h
  refine ⟨a, cap, e, h1, h2, fun hh => ?_⟩
  obtain ⟨b, o, ea, hb, hc⟩ := h3 hh
  refine ⟨b, o, ea, Nat.lt_of_lt_of_le hb hb1.size, fun i j hi hj => ?_⟩
  obtain ⟨z, hz, hcz⟩ := hc i j hi hj
  exact ⟨z, hz, (hb1.cell (p := ⟨b, o + i * 4 + j, none⟩) hb).trans hcz⟩
/-- The changes that 'changes' makes. -/
def SmallK (c : MCh) : Prop := 0 ≤ c.t ∧ c.t ≤ 1 ∧ 1 ≤ c.k ∧ c.k ≤ 12
def CgSt (W wr : World) (b : Nat) (vo : Value) (n : Nat) : Prop :=
  ∃ Q vs, RfAt wr b vs (rowsOf (Q.map Prod.fst)) Q.length ∧ OwnQ wr W.heap.size vo Q ∧ (∀ q ∈ Q, OwnC wr W.heap.size q.2 q.1.chs) ∧ Chn (Q.map Prod.fst) ∧ (∀ q ∈ Q, ∃ c, q.1.chs = [c] ∧ SmallK c) ∧ Q.length ≤ n ∧ Below W.heap.size W wr
theorem CgSt.below {W w w' : World} {b n : Nat} {vo : Value} (h : CgSt W w b vo n) (k : Below w.heap.size w w') : CgSt W w' b vo n := by
  obtain ⟨Q, vs, h1, h2, h3, h4, h5, h6, h7⟩ := h
  exact ⟨Q, vs, h1.below k, h2.below k, fun q hq => (h3 q hq).below k, h4, h5, h6, bt h7 k⟩

end Go.Proofs.Ytgbnjjgnihjfgaa
end
end

section
set_option linter.unusedVariables false
set_option linter.unusedSimpArgs false
namespace Go.Proofs.Ytgbnjjgnihjfgaa
open Go.RowKit Go.Sort Go.ChangeMaps Go.MapKept

set_option maxRecDepth 100000 in
set_option maxHeartbeats 1000000 in
theorem before_any (c : MCh) (w : World) :
    Calls Try.prog 127 #[chV c] w fun e w' => e = .returned (.tuple #[rowV (if c.had then ⟨c.t, c.k, c.o⟩ else ⟨0, 0, V3.zero⟩), .bool c.had]) ∧ Below w.heap.size w w' := by
  obtain ⟨t, k, had, ⟨oa, ob, oc⟩, has, ⟨na, nb, nc⟩⟩ := c
  cases had
  · unfold chV rowV
    go_enter Try.func127, Try.ntmps127
    go_wp2
    exact bodyPost_ret (v := .tuple #[.agg #[.int .i64 0, .int .i64 0, .int .i64 0, .int .i64 0, .int .i64 0], .bool false]) (by simp [results, Try.results127, go_sem]) rfl ⟨rfl, ((Below.refl _ w).alloc (Nat.le_refl _) _).alloc (by simp) _⟩
  · unfold chV rowV
    go_enter Try.func127, Try.ntmps127
    go_wp2_with (go_at_call 140; refine (rowOf_w _ _ _ _ _ _ _ _ _ _ _ _ _ _).mono ?_; rintro e w1 ⟨rfl, rfl⟩)
    refine bodyPost_ret (v := .tuple #[.agg #[.int .i64 t, .int .i64 k, .int .i64 oa, .int .i64 ob, .int .i64 oc], .bool true]) (by simp [results, Try.results127, go_sem]) rfl ⟨rfl, ?_⟩
    exact (((((Below.refl _ w).alloc (Nat.le_refl _) _).alloc (by simp) _).alloc (by simp; omega) _).alloc (by simp; omega) _).alloc (by simp; omega) _

end Go.Proofs.Ytgbnjjgnihjfgaa
end

section
set_option linter.unusedVariables false
set_option linter.unusedSimpArgs false
set_option maxRecDepth 100000
namespace Go.Proofs.Ytgbnjjgnihjfgaa
open Go.ChangeShapes Go.WideShapes Go.ChangeAt Go.RowKit

theorem own : ownKnob Try.prog.godebug = none := by kernel_rfl
theorem trodAll_below {H : Type} {enc : TypeId × Value → H} {P : Program} (hl : laidOutB P = true) {W W' : World} (hb : Below W.heap.size W W') :
    ∀ {ts : List TypeId} {vs : List Value} {ds : List (DataW H)} {ps : List MemPlace}, ts.all (fun t => P.readableRec t && decide (t < P.types.size)) = true →
      DataW.TrodAll enc P W 0 (fun _ => true) true ts vs ds ps → (∀ x ∈ ps, x.block < W.heap.size) → DataW.TrodAll enc P W' 0 (fun b => decide (b < W.heap.size)) true ts vs ds ps
  | [], vs, ds, ps, _, h, _ => by
    obtain ⟨rfl, rfl, rfl⟩ := trodAll_nil h
    exact trodAll_mk0
  | t :: ts, vs, ds, ps, hr, h, hlt => by
    obtain ⟨v, vs', d, ds', p, q, rfl, rfl, rfl, h0, h1⟩ := trodAll_cons h
    simp only [List.all_cons, Bool.and_eq_true, decide_eq_true_eq] at hr
    exact trodAll_cons_mk (Below.trod hl hr.1.1 hr.1.2 h0 hb (fun x hx => hlt x (by simp [hx]))) (trodAll_below hl hb hr.2 h1 (fun x hx => hlt x (by simp [hx])))
theorem trodAll_length {H : Type} {enc : TypeId × Value → H} {P : Program} {W : World} {base : Nat} {sp : Nat → Bool} {held : Bool} :
    ∀ {ts : List TypeId} {vs : List Value} {ds : List (DataW H)} {ps : List MemPlace}, DataW.TrodAll enc P W base sp held ts vs ds ps → ds.length = ts.length
  | [], vs, ds, ps, h => by obtain ⟨rfl, rfl, rfl⟩ := trodAll_nil h; rfl
  | t :: ts, vs, ds, ps, h => by
    obtain ⟨v, vs', d, ds', p, q, rfl, rfl, rfl, h0, h1⟩ := trodAll_cons h
    simp [trodAll_length h1]
/-- What a law's specification says, at readings of its parameters. -/
def LawSpec (s : ChangeSpec) (n : Nat) : Prop := s.vars = [] ∧ ∀ (H : Type) (ds : List (DataW H)), ds.length = n → s.fn H (ds ++ []) = { results := [.lit (.bool true)], args := ds }

theorem law_post {H : Type} {enc : TypeId × Value → H} {P : Program} {fn : Func} {s : ChangeSpec} {W W' : World} {args : Array Value} {ds gs : List (DataW H)} {before : List MemPlace} (tb : TypeId)
    (hl : laidOutB P = true) (hs : LawSpec s fn.params.toList.length) (hr : fn.params.toList.all (fun t => P.readableRec t && decide (t < P.types.size)) = true) (hres : fn.resultTypes = #[tb]) (htb : P.underlying tb = some .bool)
    (hW : DataW.Whole enc P fn.params.toList s.vars false W args.toList ds gs before) (hb : Below W.heap.size W W') : s.post enc P fn false true false false W args (.bool true) W' := by
  have hW' := hW
  obtain ⟨p, q, hA, hV, rfl, _, _⟩ := hW
  rw [hs.1] at hV
  obtain ⟨rfl, rfl⟩ := trodVars_none hV
  have hlt : ∀ x ∈ p, x.block < W.heap.size := fun x hx => by
    have := hW'.lt x (by simp [hx])
    simpa using this
  refine ⟨ds, [], p ++ [], [], p, [], hW', ?_, ?_, ?_, hb.frame _, fun h => by cases h⟩
  · rw [hs.2 H ds (trodAll_length hA), hres]
    exact trodAll_mk1 (shut_bool htb _)
  · rw [hs.2 H ds (trodAll_length hA)]
    exact trodAll_below hl hb hr hA hlt
  · rw [hs.2 H ds (trodAll_length hA), hs.1]; rfl

theorem len3 {α : Type} {l : List α} (h : l.length = 3) : ∃ a b c, l = [a, b, c] := match l, h with | [a, b, c], _ => ⟨a, b, c, rfl⟩
theorem c3 : Try.prog.cellsOf 3 = 1 := by kernel_rfl
theorem int_of {H : Type} {enc : TypeId × Value → H} {w : World} {base : Nat} {sp : Nat → Bool} {held : Bool} {fuel : Nat} {c : Value} {x : DataW H × List MemPlace} (h : DataW.trod enc Try.prog w base sp held fuel 3 [c] = some x) : ∃ n, c = .int .i64 n ∧ I64 n := by
  obtain ⟨n, e, _, hw⟩ := DataW.trod_int Try.underlying3 h
  exact ⟨n, by simpa using e, bounds_i64 hw⟩
theorem c29 : Try.prog.cellsOf 24 = 3 := by kernel_rfl
end Go.Proofs.Ytgbnjjgnihjfgaa
end

section
set_option linter.unusedVariables false
set_option linter.unusedSimpArgs false
set_option maxRecDepth 100000
namespace Go.Proofs.Ytgbnjjgnihjfgaa
open Go.ChangeShapes Go.WideShapes Go.ChangeAt Go.RowKit

theorem c4 : Try.prog.cellsOf 4 = 1 := by kernel_rfl
theorem c31 : Try.prog.cellsOf 33 = 5 := by kernel_rfl
theorem c25 : Try.prog.cellsOf 44 = 1 := by kernel_rfl
theorem c27 : Try.prog.cellsOf 46 = 3 := by kernel_rfl
def V3.wd (v : V3) : Prop := I64 v.a ∧ I64 v.b ∧ I64 v.c
def MRow.wd (r : MRow) : Prop := I64 r.t ∧ I64 r.k ∧ r.v.wd

section
variable {H : Type} {enc : TypeId × Value → H} {w : World} {base : Nat} {sp : Nat → Bool} {held : Bool}
theorem bool_of {fuel : Nat} {c : Value} {x : DataW H × List MemPlace} (h : DataW.trod enc Try.prog w base sp held fuel 4 [c] = some x) : ∃ b, c = .bool b := by
  obtain ⟨n, e, _⟩ := DataW.trod_bool Try.underlying4 h
  exact ⟨n, by simpa using e⟩
theorem v3_of {fuel : Nat} {c0 c1 c2 : Value} {x : DataW H × List MemPlace} (h : DataW.trod enc Try.prog w base sp held fuel 24 [c0, c1, c2] = some x) : ∃ v : V3, c0 = .int .i64 v.a ∧ c1 = .int .i64 v.b ∧ c2 = .int .i64 v.c ∧ v.wd := by
  obtain ⟨xs, m, rfl, _, _, hn, hel⟩ := DataW.trod_array Try.underlying24 h
  have h0 := hel 0 (by omega)
  have h1 := hel 1 (by omega)
  have h2 := hel 2 (by omega)
  rw [List.getElem?_eq_getElem (by omega), c3] at h0 h1 h2
  obtain ⟨a, rfl, ha⟩ := int_of (c := c0) (by simpa using h0)
  obtain ⟨b, rfl, hb⟩ := int_of (c := c1) (by simpa using h1)
  obtain ⟨c, rfl, hc⟩ := int_of (c := c2) (by simpa using h2)
  exact ⟨⟨a, b, c⟩, rfl, rfl, rfl, ha, hb, hc⟩
theorem row_of {fuel : Nat} {cs : List Value} {x : DataW H × List MemPlace} (h : DataW.trod enc Try.prog w base sp held fuel 33 cs = some x) : ∃ r : MRow, cs = [.int .i64 r.t, .int .i64 r.k, .int .i64 r.v.a, .int .i64 r.v.b, .int .i64 r.v.c] ∧ r.wd := by
  obtain ⟨xs, m, rfl, _, hl, hn, hel⟩ := DataW.trod_struct Try.underlying33 h
  rw [c31] at hl
  obtain ⟨q0, q1, q2, q3, q4, rfl⟩ : ∃ a b c d e, cs = [a, b, c, d, e] := match cs, hl with | [a, b, c, d, e], _ => ⟨a, b, c, d, e, rfl⟩
  have h0 := hel 0 _ rfl
  have h1 := hel 1 _ rfl
  have h2 := hel 2 _ rfl
  rw [List.getElem?_eq_getElem (by rw [hn]; decide)] at h0 h1 h2
  change DataW.trod enc Try.prog w base sp held m 3 (List.take (Try.prog.cellsOf 3) (List.drop 0 _)) = _ at h0
  change DataW.trod enc Try.prog w base sp held m 3 (List.take (Try.prog.cellsOf 3) (List.drop 1 _)) = _ at h1
  change DataW.trod enc Try.prog w base sp held m 24 (List.take (Try.prog.cellsOf 24) (List.drop 2 _)) = _ at h2
  simp only [c3, c29] at h0 h1 h2
  obtain ⟨a, rfl, ha⟩ := int_of (c := q0) (by simpa using h0)
  obtain ⟨b, rfl, hb⟩ := int_of (c := q1) (by simpa using h1)
  obtain ⟨v, rfl, rfl, rfl, hv⟩ := v3_of (c0 := q2) (c1 := q3) (c2 := q4) (by simpa using h2)
  exact ⟨⟨a, b, v⟩, rfl, ha, hb, hv⟩
end

theorem rowsI_of {H : Type} {enc : TypeId × Value → H} {w : World} {held : Bool} {fuel : Nat} {v : Value} {x : DataW H × List MemPlace}
    (h : DataW.trod enc Try.prog w 0 (fun _ => true) held fuel 44 [v] = some x) : ∃ L, RowS w v L ∧ (∀ r ∈ L, r.wd) ∧ ((v = .slice none 0 0 ∧ L = []) ∨ (∃ ad, v = .slice (some ad) 0 0 ∧ L = []) ∨ ∃ b o n c, v = .slice (some ⟨b, o, none⟩) n c) := by
  rcases Go.Deep.open_slice Try.underlying44 h with ⟨e, _⟩ | ⟨a, len, cap, m, n, D, Pl, e, _, hl, hm, hm2, _, hel⟩
  · obtain rfl : v = .slice none 0 0 := by simpa using e
    exact ⟨[], ⟨none, 0, 0, rfl, rfl, Nat.le_refl _, by omega, fun h => by omega⟩, fun r hr => by simp at hr, .inl ⟨rfl, rfl⟩⟩
  · obtain rfl : v = .slice (some a) len cap := by simpa using e
    rw [if_pos rfl] at hm2
    subst hm2
    rw [c31] at hel
    have hch : ∀ i, i < len → ∃ r : MRow, r.wd ∧ ∀ j : Nat, j < 5 → w.cell? ((a.add (i * 5)).add j) = (rcl r)[j]? := fun i hi => by
      obtain ⟨cs, hcs, ht⟩ := hel i (by omega)
      obtain ⟨c, rfl, hwd⟩ := row_of ht
      obtain ⟨_, _, hc⟩ := World.cells?_some hcs
      exact ⟨c, hwd, fun j hj => by rw [hc j hj]; simp [rcl]⟩
    have hf : ∃ f : Nat → MRow, ∀ i, i < len → (f i).wd ∧ ∀ j : Nat, j < 5 → w.cell? ((a.add (i * 5)).add j) = (rcl (f i))[j]? :=
      ⟨fun i => if h : i < len then (hch i h).choose else rowZ, fun i hi => by simpa [hi] using (hch i hi).choose_spec⟩
    obtain ⟨f, hf⟩ := hf
    refine ⟨(List.range len).map f, ⟨some a, len, m, rfl, by simp, hl, by unfold maxLen at hm; omega, fun h1 => ?_⟩, fun r hr => ?_, ?_⟩
    · obtain ⟨b, off, spot⟩ := a
      have h00 := (hf 0 (by omega)).2 0 (by omega)
      have hu : (rcl (f 0))[0]? = some (.int .i64 (f 0).t) := rfl
      rw [hu] at h00
      have hspot : spot = none := by simpa [Addr.add] using World.cell?_spot h00
      subst hspot
      refine ⟨b, off, rfl, by simpa [Addr.add] using World.block_lt_of_cell? w _ h00, fun i hi j hj => ?_⟩
      have := (hf i hi).2 j hj
      rw [show ((⟨b, off, none⟩ : Addr).add (i * 5)).add j = ⟨b, off + i * 5 + j, none⟩ from by rw [Addr.add_lit, Addr.add_lit]] at this
      rw [this]
      simp [List.getD, hi]
    · obtain ⟨i, hi, rfl⟩ := List.mem_map.1 hr
      exact (hf i (List.mem_range.1 hi)).1
    · by_cases hm0 : m = 0
      · subst hm0
        obtain rfl : len = 0 := by omega
        exact .inr (.inl ⟨a, rfl, rfl⟩)
      · obtain ⟨b, off, spot⟩ := a
        obtain ⟨cs, hcs, ht⟩ := hel 0 (by omega)
        obtain ⟨c, rfl, _⟩ := row_of ht
        obtain ⟨_, _, hc⟩ := World.cells?_some hcs
        have h00 : w.cell? (((⟨b, off, spot⟩ : Addr).add (0 * 5)).add 0) = some (.int .i64 c.t) := by rw [hc 0 (by omega)]; simp
        have hspot : spot = none := by simpa [Addr.add] using World.cell?_spot h00
        subst hspot
        exact .inr (.inr ⟨b, off, _, _, rfl⟩)
theorem open_res {H : Type} {enc : TypeId × Value → H} {w : World} {r : Reach} {b0 : Nat} {v : Value} {d : DataW H} {p : List MemPlace}
    (hval : Value.okWide Try.prog w r b0 46 v) (hd : DataW.Trod enc Try.prog w 0 (fun _ => true) true 46 v d p) : ∃ u z f T, v = resV u z f ∧ I64 z ∧ RowS w u T ∧ ((u = .slice none 0 0 ∧ T = []) ∨ (∃ ad, u = .slice (some ad) 0 0 ∧ T = []) ∨ ∃ b o n c, u = .slice (some ⟨b, o, none⟩) n c) := by
  obtain ⟨cs, rfl, hsz, _⟩ : ∃ cs, v = .agg cs ∧ cs.size = Try.prog.cellsOf 46 ∧ Row.okWide Try.prog w r b0 46 cs := by
    simpa [Value.okWide, Try.underlying46] using hval
  obtain ⟨fuel, hf⟩ := hd
  obtain ⟨l⟩ := cs
  change DataW.trod enc Try.prog w 0 (fun _ => true) true fuel 46 l = _ at hf
  obtain ⟨xs, m, rfl, _, hl, hn, hel⟩ := DataW.trod_struct Try.underlying46 hf
  have hl3 : l.length = 3 := by simpa using hsz.trans c27
  obtain ⟨q0, q1, q2, rfl⟩ : ∃ a b c, l = [a, b, c] := match l, hl3 with | [a, b, c], _ => ⟨a, b, c, rfl⟩
  have h0 := hel 0 _ rfl
  have h1 := hel 1 _ rfl
  have h2 := hel 2 _ rfl
  rw [List.getElem?_eq_getElem (by rw [hn]; decide)] at h0 h1 h2
  change DataW.trod enc Try.prog w 0 (fun _ => true) true m 44 (List.take (Try.prog.cellsOf 44) (List.drop 0 _)) = _ at h0
  change DataW.trod enc Try.prog w 0 (fun _ => true) true m 3 (List.take (Try.prog.cellsOf 3) (List.drop 1 _)) = _ at h1
  change DataW.trod enc Try.prog w 0 (fun _ => true) true m 4 (List.take (Try.prog.cellsOf 4) (List.drop 2 _)) = _ at h2
  simp only [c3, c4, c25] at h0 h1 h2
  obtain ⟨T, hT, _, hsh⟩ := rowsI_of (v := q0) (by simpa using h0)
  obtain ⟨z, rfl, hz⟩ := int_of (c := q1) (by simpa using h1)
  obtain ⟨f, rfl⟩ := bool_of (c := q2) (by simpa using h2)
  exact ⟨q0, z, f, T, rfl, hz, hT, hsh⟩
end Go.Proofs.Ytgbnjjgnihjfgaa
end
