/- L3, FY, EK, PM, PG, PA -/
import Derived.Test.YtgbnjjgnihjfgaaProg
import Derived.WalkKit
import Derived.Below
import Derived.Lib.Hide
import Derived.Laws.StructEq
import Derived.Lib.QuietBelow
import Derived.Deep.RegionHeld3
import Derived.Deep.RegionWith
import Derived.IntWalk
import Derived.BigQuiet
import Derived.Maps.RangeWalk
import Derived.DeepKeys4
import Derived.OneCell
import Derived.StillTail
import Derived.Deep.CutRange
import Derived.Outline
import Derived.WalkSpells
import Derived.Carry
import Derived.Shelf.SlGeneric
import Derived.Shelf.SlSortCmp.WholeK
import Derived.Shelf.SlicesG.Cmp
import Derived.Ground.SlsfProg
import Derived.Ground.SlgcProg
import Derived.Sort.OwnSorted
import Derived.Deep.AppendLies
import Derived.Shelf.SlSortCmp.NoneTotal
import Derived.Deep.QuietTactic
import Derived.Laws.AppendOwnNone
import Derived.ArgAppend
import Derived.Laws.Rows
import Derived.Great.BuildSlice
import Derived.Great.Frames
import Derived.Laws.EntriesVeiled
import Derived.Lib.SliceRun
import Derived.Deep.Cut
import Derived.Laws.ResultCell
import Derived.Deep.RegionLawGrows
import Derived.Deep.DeepCutAuto
import Derived.Test.YtgbnjjgnihjfgaaWOAF
import Derived.Test.YtgbnjjgnihjfgaaWOAG
import Derived.Test.YtgbnjjgnihjfgaaWOAD
import Derived.Test.YtgbnjjgnihjfgaaWOAB
import Derived.Test.YtgbnjjgnihjfgaaWOAA
import Derived.Test.YtgbnjjgnihjfgaaWOAE
import Derived.Test.YtgbnjjgnihjfgaaWOAC
import Derived.Test.YtgbnjjgnihjfgaaRows
import Derived.ProofKit
import Derived.OpenShut
import Derived.Deep.Strs
import Derived.Deep.Slices
section
set_option linter.unusedVariables false
set_option linter.unusedSimpArgs false
namespace Go.Proofs.Ytgbnjjgnihjfgaa
open Go.RowKit Go.Sort Go.ChangeMaps Go.MapKept

/-- A slice that reads as n lists of six integers. -/
def XS (w : World) (v : Value) (n : Nat) : Prop :=
  ∃ a cap, v = .slice a n cap ∧ n ≤ cap ∧ cap ≤ 9223372036854775807 ∧ (1 ≤ n → ∃ b o, a = some ⟨b, o, none⟩ ∧ b < w.heap.size ∧ ∀ i j, i < n → j < 6 → ∃ z, I64 z ∧ w.cell? ⟨b, o + i * 6 + j, none⟩ = some (.int .i64 z))
/-- The changes that Log makes. -/
def Small (c : MCh) : Prop := 0 ≤ c.t ∧ c.t ≤ 2 ∧ 1 ≤ c.k ∧ c.k ≤ 9 ∧ 0 ≤ c.n.a ∧ c.n.a ≤ 9
/-- What Log returns. -/
def LogOut (W : World) (n : Nat) (e : Ending) (w' : World) : Prop :=
  ∃ R u, e = .returned u ∧ RecS w' u R ∧ Chn R ∧ R.length ≤ n ∧ (∀ r ∈ R, ∀ c ∈ r.chs, Small c) ∧ Below W.heap.size W w'
theorem XS.take {w : World} {v : Value} {n : Nat} (h : XS w v n) (m : Nat) (hm : m ≤ n) : ∃ a cap, v = .slice a n cap ∧ XS w (.slice a m cap) m := by
  obtain ⟨a, cap, e, h1, h2, h3⟩ := h
  refine ⟨a, cap, e, a, cap, rfl, by omega, h2, fun hh => ?_⟩
  obtain ⟨b, o, e1, hb, hc⟩ := h3 (by omega)
  exact ⟨b, o, e1, hb, fun i j hi hj => hc i j (by omega) hj⟩
theorem XS.below {w w1 : World} {v : Value} {n : Nat} (h : XS w v n) (hb1 : Below w.heap.size w w1) : XS w1 v n := by
  obtain ⟨a, cap, e, h1, h2, h3⟩ := h
  refine ⟨a, cap, e, h1, h2, fun hh => ?_⟩
  obtain ⟨b, o, e1, hb, hc⟩ := h3 hh
  refine ⟨b, o, e1, Nat.lt_of_lt_of_le hb hb1.size, fun i j hi hj => ?_⟩
  obtain ⟨z, hz, hcell⟩ := hc i j hi hj
  exact ⟨z, hz, (hb1.cell (p := ⟨b, o + i * 6 + j, none⟩) hb).trans hcell⟩
end Go.Proofs.Ytgbnjjgnihjfgaa
end

section
set_option linter.unusedVariables false
set_option linter.unusedSimpArgs false
set_option maxRecDepth 100000
namespace Go.Proofs.Ytgbnjjgnihjfgaa
open Go.ChangeShapes Go.WideShapes Go.ChangeAt Go.RowKit

theorem c6x : Try.prog.cellsOf 117 = 6 := by kernel_rfl
theorem six_of {H : Type} {enc : TypeId × Value → H} {w : World} {base : Nat} {sp : Nat → Bool} {held : Bool} {fuel : Nat} {cs : List Value} {x : DataW H × List MemPlace} (hl : cs.length = 6) (h : DataW.trod enc Try.prog w base sp held fuel 117 cs = some x) : ∀ j, j < 6 → ∃ z, I64 z ∧ cs[j]? = some (.int .i64 z) := by
  obtain ⟨xs, m, rfl, _, _, hn, hel⟩ := DataW.trod_array Try.underlying117 h
  intro j hj
  have h0 := hel j (by omega)
  rw [List.getElem?_eq_getElem (by omega), c3] at h0
  have hd : (cs.drop (j * 1)).take 1 = [cs[j]] := by
    rw [Nat.mul_one, List.drop_eq_getElem_cons (by omega)]
    rfl
  rw [hd] at h0
  obtain ⟨z, e, hz⟩ := int_of h0
  exact ⟨z, hz, by rw [List.getElem?_eq_getElem (by omega), e]⟩
/-- **A list of lists of six integers.** -/
theorem open_xs6 {H : Type} {enc : TypeId × Value → H} {w : World} {r : Reach} {b0 : Nat} {v : Value} {d : DataW H} {p : List MemPlace}
    (hval : Value.okWide Try.prog w r b0 53 v) (hd : DataW.Trod enc Try.prog w 0 (fun _ => true) true 53 v d p) : ∃ n, XS w v n := by
  obtain ⟨a0, len0, cap0, rfl⟩ := okWide_slice Try.underlying53 hval
  obtain ⟨fuel, h⟩ := hd
  rcases Go.Deep.open_slice Try.underlying53 h with ⟨e, _⟩ | ⟨a, len, cap, m, n, D, Pl, e, _, hl, hm, hm2, _, hel⟩
  · simp [Value.cells] at e
    obtain ⟨rfl, rfl, rfl⟩ := e
    exact ⟨0, none, 0, rfl, Nat.le_refl _, by omega, fun h => by omega⟩
  · simp [Value.cells] at e
    obtain ⟨rfl, rfl, rfl⟩ := e
    rw [if_pos rfl] at hm2
    subst hm2
    rw [c6x] at hel
    have hch : ∀ i j, i < len0 → j < 6 → ∃ z, I64 z ∧ w.cell? ((a.add (i * 6)).add j) = some (.int .i64 z) := fun i j hi hj => by
      obtain ⟨cs, hcs, ht⟩ := hel i (by omega)
      obtain ⟨_, hlen, hc⟩ := World.cells?_some hcs
      obtain ⟨z, hz, e⟩ := six_of (by simpa using hlen) ht j hj
      exact ⟨z, hz, by rw [hc j hj]; simpa using e⟩
    refine ⟨len0, some a, _, rfl, hl, by unfold maxLen at hm; omega, fun h1 => ?_⟩
    obtain ⟨b, off, spot⟩ := a
    obtain ⟨z0, _, h00⟩ := hch 0 0 (by omega) (by omega)
    have hspot : spot = none := by simpa [Addr.add] using World.cell?_spot h00
    subst hspot
    refine ⟨b, off, rfl, by simpa [Addr.add] using World.block_lt_of_cell? w _ h00, fun i j hi hj => ?_⟩
    obtain ⟨z, hz, hc⟩ := hch i j hi hj
    rw [show ((⟨b, off, none⟩ : Addr).add (i * 6)).add j = ⟨b, off + i * 6 + j, none⟩ from by rw [Addr.add_lit, Addr.add_lit]] at hc
    exact ⟨z, hz, hc⟩
end Go.Proofs.Ytgbnjjgnihjfgaa
end

section
set_option linter.unusedVariables false
set_option linter.unusedSimpArgs false
namespace Go.Proofs.Ytgbnjjgnihjfgaa
open Go.RowKit Go.Sort Go.ChangeMaps Go.MapKept

/-- What a law has at hand: a state, a query in a variable, results in variables. -/
structure SEg (L : List MRow) (p : Int) (w0 w : World) (b1 : Nat) (m1 : Option Nat) (qb : Nat) (q : MQ) (A : List (Nat × Value × Int × Bool)) (B : List (Value × List MRow)) : Prop where
  st : StAt w b1 m1 L p
  nb : qb ≠ b1
  nm : m1 ≠ some qb
  qblk : w.heap[qb]? = some (.cells (qC q) 29 (0, 0))
  res : ∀ x ∈ A, w.heap[x.1]? = some (.cells (resC x.2.1 x.2.2.1 x.2.2.2) 46 (0, 0)) ∧ x.1 ≠ qb
  rows : ∀ x ∈ B, OwnR w (qb + 1) x.1 x.2
  old : Below w0.heap.size w0 w
  ge : w0.heap.size ≤ qb
section
variable {L : List MRow} {p : Int} {w0 w w' : World} {b1 qb : Nat} {m1 : Option Nat} {q : MQ} {A : List (Nat × Value × Int × Bool)} {B : List (Value × List MRow)}
theorem SEg.below (h : SEg L p w0 w b1 m1 qb q A B) (k : Below w.heap.size w w') : SEg L p w0 w' b1 m1 qb q A B :=
  ⟨h.st.below k, h.nb, h.nm, (k.block _ (lt_of_block h.qblk)).trans h.qblk, fun x hx => ⟨(k.block _ (lt_of_block (h.res x hx).1)).trans (h.res x hx).1, (h.res x hx).2⟩, fun x hx => (h.rows x hx).below k, bt h.old k, h.ge⟩
theorem SEg.set (h : SEg L p w0 w b1 m1 qb q A B) {j : Nat} {u : Value} {q' : MQ} (hq : (qC q).setIfInBounds j u = qC q') : SEg L p w0 (w.setCell ⟨qb, j, none⟩ u) b1 m1 qb q' A B := by
  have k : Kept (fun i => i = qb) w (w.setCell ⟨qb, j, none⟩ u) := Kept.setCell (F := fun i => i = qb) (p := ⟨qb, j, none⟩) (Kept.refl _ _) (.inl rfl) u
  refine ⟨h.st.kept k (fun i hf e => ?_), h.nb, h.nm, by rw [setC_heap h.qblk j u, hq], fun x hx => ⟨(k.block _ (lt_of_block (h.res x hx).1) (h.res x hx).2).trans (h.res x hx).1, (h.res x hx).2⟩, fun x hx => (h.rows x hx).kept k (fun i hi e => by omega), h.old.trans (k.below h.old.size (fun i e => by have := h.ge; omega)), h.ge⟩
  subst e
  rcases hf with e | e
  · exact h.nb e
  · exact h.nm e
end
end Go.Proofs.Ytgbnjjgnihjfgaa
end

section
set_option linter.unusedVariables false
set_option linter.unusedSimpArgs false
namespace Go.Proofs.Ytgbnjjgnihjfgaa
open Go.RowKit Go.Sort Go.ChangeMaps Go.MapKept

/-- The row before a change, the one after it; whether they are in a query's scan, and with which measure. -/
def befR (c : MCh) : MRow := if c.had then ⟨c.t, c.k, c.o⟩ else ⟨0, 0, V3.zero⟩
def aftR (c : MCh) : MRow := if c.has then ⟨c.t, c.k, c.n⟩ else ⟨0, 0, V3.zero⟩
def inQ (q : MQ) (r : MRow) (ex : Bool) : Bool := ex && selR q.table q.column q.low q.high r
def msQ (q : MQ) (r : MRow) (b : Bool) : Int := if b then vget r q.by_ else 0
def inB (q : MQ) (c : MCh) : Bool := inQ q (befR c) c.had
def inA (q : MQ) (c : MCh) : Bool := inQ q (aftR c) c.has
def msB (q : MQ) (c : MCh) : Int := msQ q (befR c) (inB q c)
def msA (q : MQ) (c : MCh) : Int := msQ q (aftR c) (inA q c)
def touchK (q : MQ) (c : MCh) : Bool :=
  if q.kind = 1 ∨ q.kind = 2 then inB q c || inA q c
  else if q.kind = 3 then inB q c != inA q c
  else if q.kind = 4 then msB q c != msA q c
  else if q.kind = 5 ∨ q.kind = 6 then inB q c != inA q c || msB q c != msA q c
  else inB q c || inA q c || decide (c.t = q.other)
/-- **A change touches a query.** -/
def touchB (q : MQ) (c : MCh) : Bool := validB q && vc c && touchK q c

/-- x put into a list ahead of the first thing that it precedes. -/
def insB {α : Type} (p : α → Bool) (x : α) (l : List α) : List α := l.take (l.findIdx p) ++ x :: l.drop (l.findIdx p)
theorem ins_perm {α : Type} (p : α → Bool) (x : α) (l : List α) : (insB p x l).Perm (x :: l) := by
  unfold insB
  refine List.perm_middle.trans ?_
  rw [List.take_append_drop]

/-- The row x comes ahead of y in the scan. -/
def precQ (q : MQ) (x y : MRow) : Bool := decide (vget x q.column < vget y q.column ∨ vget x q.column = vget y q.column ∧ x.k < y.k)
def rowsP (q : MQ) (l : List MRow) (c : MCh) : List MRow :=
  if inA q c then insB (precQ q (aftR c)) (aftR c) (l.filter fun r => !atk c.t c.k r) else l.filter fun r => !atk c.t c.k r
def cntP (v : Int) (a b : Bool) : Int := if b then wrap64 ((if a then wrap64 (v + 1) else v) - 1) else if a then wrap64 (v + 1) else v
/-- A least (greatest) value behind a change: nothing if it is not told. -/
def extP (lt : Int → Int → Bool) (v : Int) (f a b : Bool) (ma mb : Int) : Option (Int × Bool) :=
  if b && (!f || !lt v mb) then (if !a || !f || lt v ma then none else some (ma, f))
  else if a && (!f || lt ma v) then some (ma, true) else some (v, f)
/-- The pairs of which rows consist, without a single row at their end. -/
def prs : List MRow → List (MRow × MRow)
  | a :: b :: l => (a, b) :: prs l
  | _ => []
def unprs (l : List (MRow × MRow)) : List MRow := l.flatMap fun p => [p.1, p.2]
def rightP (ps : List (MRow × MRow)) (c : MCh) : Option (List (MRow × MRow)) :=
  if c.had = false then none
  else if c.has = false then some (ps.filter fun p => !decide (p.2.k = c.k))
  else some (ps.map fun p => if p.2.k = c.k then (p.1, aftR c) else p)
def leftP (q : MQ) (ps : List (MRow × MRow)) (c : MCh) : Option (List (MRow × MRow)) :=
  if inA q c = false then some (ps.filter fun p => !decide (p.1.k = c.k))
  else match ps.find? (fun p => decide (p.2.k = msA q c)) with
    | none => if inB q c && decide (msB q c = msA q c) then some (ps.filter fun p => !decide (p.1.k = c.k)) else none
    | some m => some (insB (fun p => precQ q (aftR c) p.1) (aftR c, m.2) (ps.filter fun p => !decide (p.1.k = c.k)))
/-- **The result of a query behind a change that touches it: nothing if the one before does not tell it.** -/
def patchM (q : MQ) (r : MRes) (c : MCh) : Option MRes :=
  if q.kind = 1 ∨ q.kind = 2 then some ⟨rowsP q r.rows c, r.val, r.fnd⟩
  else if q.kind = 3 then some ⟨r.rows, cntP r.val (inA q c) (inB q c), r.fnd⟩
  else if q.kind = 4 then some ⟨r.rows, wrap64 (r.val + wrap64 (msA q c - msB q c)), r.fnd⟩
  else if q.kind = 5 then (extP ltB r.val r.fnd (inA q c) (inB q c) (msA q c) (msB q c)).map fun s => ⟨r.rows, s.1, s.2⟩
  else if q.kind = 6 then (extP gtB r.val r.fnd (inA q c) (inB q c) (msA q c) (msB q c)).map fun s => ⟨r.rows, s.1, s.2⟩
  else if q.table = q.other then none
  else (if c.t = q.other then rightP (prs r.rows) c else leftP q (prs r.rows) c).map fun ps => ⟨unprs ps, r.val, r.fnd⟩
/-- One change more: the result, as long as it is told, and whether a change has touched. -/
def applyF (q : MQ) (s : Option MRes × Bool) (c : MCh) : Option MRes × Bool :=
  match s.1 with
  | none => s
  | some r => if touchB q c then (patchM q r c, true) else s
/-- **What Apply makes of a result by the changes of a record, and whether one touches.** -/
def applyM (q : MQ) (r : MRes) (cs : List MCh) : Option MRes × Bool := cs.foldl (applyF q) (some r, false)
theorem applyF_none (q : MQ) (t : Bool) : ∀ cs : List MCh, cs.foldl (applyF q) (none, t) = (none, t)
  | [] => rfl
  | c :: cs => by rw [List.foldl_cons]; exact applyF_none q t cs
theorem applyF_touch (q : MQ) : ∀ (cs : List MCh) (r : MRes) (t : Bool), (cs.foldl (applyF q) (some r, t)).2 = (t || cs.any (touchB q))
  | [], r, t => by simp
  | c :: cs, r, t => by
    rw [List.foldl_cons, List.any_cons]
    unfold applyF
    simp only
    by_cases h : touchB q c = true
    · rw [if_pos h, h]
      cases hp : patchM q r c with
      | none =>
        have := applyF_none q true cs
        unfold applyF at this
        rw [this]
        simp
      | some s =>
        have := applyF_touch q cs s true
        unfold applyF at this
        rw [this]
        simp
    · rw [if_neg h, show touchB q c = false by simpa using h]
      have := applyF_touch q cs r t
      unfold applyF at this
      rw [this]
      simp
theorem apply_touch (q : MQ) (r : MRes) (cs : List MCh) : (applyM q r cs).2 = cs.any (touchB q) := by
  unfold applyM
  rw [applyF_touch]
  simp
theorem applyF_same (q : MQ) : ∀ (cs : List MCh) (r : MRes) (t : Bool), (∀ c ∈ cs, touchB q c = false) → cs.foldl (applyF q) (some r, t) = (some r, t)
  | [], r, t, _ => rfl
  | c :: cs, r, t, h => by
    rw [List.foldl_cons]
    have h1 : applyF q (some r, t) c = (some r, t) := by unfold applyF; simp [h c (by simp)]
    rw [h1]
    exact applyF_same q cs r t fun d hd => h d (by simp [hd])
theorem apply_same {q : MQ} {r : MRes} {cs : List MCh} (h : cs.any (touchB q) = false) : applyM q r cs = (some r, false) :=
  applyF_same q cs r false fun c hc => by
    cases ht : touchB q c
    · rfl
    · rw [List.any_eq_true.2 ⟨c, hc, ht⟩] at h; cases h
end Go.Proofs.Ytgbnjjgnihjfgaa
end

section
set_option linter.unusedVariables false
set_option linter.unusedSimpArgs false
namespace Go.Proofs.Ytgbnjjgnihjfgaa
open Go.RowKit Go.Sort Go.ChangeMaps Go.MapKept

def lookG (F : List (Int × Value)) (k : Int) : Option Value := (F.find? fun p => decide (p.1 = k)).map (·.2)
theorem lookG_none {F : List (Int × Value)} {k : Int} : lookG F k = none ↔ ∀ p ∈ F, ¬ p.1 = k := by
  unfold lookG
  rw [Option.map_eq_none_iff, List.find?_eq_none]
  simp
def EntG (es : List MapEntry) (F : List (Int × Value)) : Prop := (es.map fun e => (e.key, e.val)).Perm (F.map fun p => (Value.int .i64 p.1, p.2))
/-- Block b is a map with these entries. -/
def GMap (W : World) (b : Nat) (F : List (Int × Value)) : Prop := ∃ es clock, W.heap[b]? = some (.map es clock) ∧ Stamped es clock ∧ EntG es.toList F ∧ ∀ p ∈ F, I64 p.1
theorem GMap.lt {W : World} {b : Nat} {F : List (Int × Value)} (h : GMap W b F) : b < W.heap.size := by
  obtain ⟨es, clock, hb, _⟩ := h
  exact (Array.getElem?_eq_some_iff.1 hb).1
theorem GMap.of_block {W W' : World} {b : Nat} {F : List (Int × Value)} (h : GMap W b F) (e : W'.heap[b]? = W.heap[b]?) : GMap W' b F := by
  obtain ⟨es, clock, hb, r⟩ := h
  exact ⟨es, clock, e.trans hb, r⟩
theorem GMap.below {W W' : World} {b : Nat} {F : List (Int × Value)} (h : GMap W b F) (k : Below W.heap.size W W') : GMap W' b F := h.of_block (k.block b h.lt)
theorem entG_keys {es : List MapEntry} {F : List (Int × Value)} (h : EntG es F) (hw : ∀ p ∈ F, I64 p.1) : ∀ e ∈ es, ∃ l, keyOf Try.prog 3 e.key = some l := by
  intro e he
  have hm := h.mem_iff.1 (List.mem_map.2 ⟨e, he, rfl⟩)
  obtain ⟨r, hr, hre⟩ := List.mem_map.1 hm
  simp only [Prod.mk.injEq] at hre
  rw [← hre.1]
  exact ⟨_, key_ofK (hw r hr)⟩
theorem entG_nodup {es : List MapEntry} {F : List (Int × Value)} (h : EntG es F) (hp : es.Pairwise fun x y => x.key ≠ y.key) : F.Pairwise fun r s => ¬ r.1 = s.1 := by
  have h1 : (es.map fun e => (e.key, e.val)).Pairwise fun p q => p.1 ≠ q.1 := by rw [List.pairwise_map]; exact hp
  have h2 := (h.pairwise_iff (fun {a b} (hab : a.1 ≠ b.1) => hab.symm)).1 h1
  rw [List.pairwise_map] at h2
  exact h2.imp fun {a b} hab e => hab (by simp [e])
theorem lookG_mem {F : List (Int × Value)} (hp : F.Pairwise fun r s => ¬ r.1 = s.1) {r : Int × Value} (hr : r ∈ F) : lookG F r.1 = some r.2 := by
  induction F with
  | nil => simp at hr
  | cons a F ih =>
    obtain ⟨h1, h2⟩ := List.pairwise_cons.1 hp
    unfold lookG
    rcases List.mem_cons.1 hr with e | hr
    · subst e
      rw [List.find?_cons_of_pos (by simp)]
      rfl
    · rw [List.find?_cons_of_neg (by simp only [decide_eq_true_eq]; exact h1 r hr)]
      exact ih h2 hr
/-- 'm[key]', of a key that is there; a map of type t with elements of type e. -/
theorem GMap.look {W : World} {b : Nat} {F : List (Int × Value)} (h : GMap W b F) {t e : TypeId} (ht : Try.prog.underlying t = some (.map 3 e)) {k : Int} (hk : I64 k) {v : Value} (hv : lookG F k = some v) :
    (Instr.lookup t (.map (some b)) (.int .i64 k) false).run Try.prog W = .ok v W := by
  obtain ⟨es, clock, hb, hs, he, hw⟩ := h
  have hl := key_ofK hk
  rcases lawK.find W hl es.toList (entG_keys he hw) with ⟨h1, h2⟩ | ⟨j, e0, h1, h2, h3⟩
  · exfalso
    have : lookG F k = none := lookG_none.2 fun r hr e => by
      have hm := he.mem_iff.2 (List.mem_map.2 ⟨r, hr, rfl⟩)
      obtain ⟨x, hx, hxe⟩ := List.mem_map.1 hm
      simp only [Prod.mk.injEq] at hxe
      exact h2 x hx (by rw [hxe.1, e])
    rw [this] at hv
    cases hv
  · have hm0 : e0 ∈ es.toList := List.mem_of_getElem? h2
    have hm := he.mem_iff.1 (List.mem_map.2 ⟨e0, hm0, rfl⟩)
    obtain ⟨r, hr, hre⟩ := List.mem_map.1 hm
    simp only [Prod.mk.injEq] at hre
    rw [h3] at hre
    have e1 : r.1 = k := by simpa using hre.1
    have hlk := lookG_mem (entG_nodup he ((stamped_iff es clock).1 hs).2.2) hr
    rw [e1, hv] at hlk
    have e2 : v = r.2 := by simpa using hlk
    rw [e2, hre.2]
    simp [Instr.lookup, run_underlying ht, MapKept.run_getObj_map hb, lawK.check W _ hl, h1, Result.andThen]
/-- 'm[key] = v', of a key that is not there. -/
theorem GMap.add {W : World} {b : Nat} {F : List (Int × Value)} (h : GMap W b F) {t e : TypeId} (ht : Try.prog.underlying t = some (.map 3 e)) (k : Int) (v : Value) (hk : I64 k) (hn : lookG F k = none) :
    ∃ W', (Instr.mapUpdate t (.map (some b)) (.int .i64 k) v).run Try.prog W = .ok () W' ∧ GMap W' b ((k, v) :: F) ∧ Turned W W' b := by
  obtain ⟨es, clock, hb, hs, he, hw⟩ := h
  have hn' := lookG_none.1 hn
  have hl := key_ofK hk
  rcases lawK.find W hl es.toList (entG_keys he hw) with ⟨h1, h2⟩ | ⟨j, e0, h1, h2, h3⟩
  · refine ⟨setBlock W b (.map (es.push ⟨.int .i64 k, v, clock⟩) (clock + 1)), ?_, ⟨_, _, heap_setBlock_same hb _, stamped_push hs h2, ?_, ?_⟩, ⟨es, clock, _, _, hb, rfl⟩⟩
    · simp [Instr.mapUpdate, run_underlying ht, MapKept.run_getObj_map hb, lawK.check W false hl, h1, MapKept.run_setObj_map _ hb, Result.andThen, setBlock]
    · unfold EntG
      rw [Array.toList_push, List.map_append, List.map_singleton, List.map_cons]
      exact (List.perm_append_singleton _ _).trans (List.Perm.cons _ he)
    · intro s hs
      rcases List.mem_cons.1 hs with e | hs
      · subst e; exact hk
      · exact hw s hs
  · exfalso
    have hm0 : e0 ∈ es.toList := List.mem_of_getElem? h2
    have hm := he.mem_iff.1 (List.mem_map.2 ⟨e0, hm0, rfl⟩)
    obtain ⟨s, hs, hse⟩ := List.mem_map.1 hm
    simp only [Prod.mk.injEq] at hse
    rw [h3] at hse
    have e1 : s.1 = k := by simpa using hse.1
    exact hn' s hs e1
theorem gMap_new (W : World) : GMap (W.alloc (.map #[] 0)) W.heap.size [] := ⟨#[], 0, (MapKept.heap_alloc W _).1, (stamped_iff _ _).2 ⟨by simp, by simp, by simp⟩, List.Perm.refl _, by simp⟩
section
variable {w : World} {ops : Array Oper} {rest : List Oper} {o : Oper} {a : Act} {Q : Exit → Act → World → Prop}
theorem wpList_insG (hg : o.guard = none) (t e : TypeId) (ht : Try.prog.underlying t = some (.map 3 e)) (m x v : Operand) (hop : o.op = Op.insert t m x v) (b : Nat) (F : List (Int × Value)) (k : Int) (u : Value)
    (hm : a.eval m = .map (some b)) (hx : a.eval x = .int .i64 k) (hv : a.eval v = u) (hs : GMap w b F) (hk : I64 k) (hn : lookG F k = none)
    (hK : ∀ w', GMap w' b ((k, u) :: F) → Turned w w' b → wpList Try.prog ops Q rest (a.put o.dst undef) w') : wpList Try.prog ops Q (o :: rest) a w := by
  refine wpList_plain hg fun K' hK' => ?_
  obtain ⟨w', hrun, r1, r2⟩ := hs.add ht k u hk hn
  unfold Oper.wp
  simp [execOp, hop, hm, hx, hv, hrun, Result.andThen]
  exact hK' _ _ (hK w' r1 r2)
end
end Go.Proofs.Ytgbnjjgnihjfgaa
end

section
set_option linter.unusedVariables false
set_option linter.unusedSimpArgs false
namespace Go.Proofs.Ytgbnjjgnihjfgaa
open Go.RowKit Go.Sort Go.ChangeMaps Go.MapKept

/-- A side of a change: its row, whether there is one, whether it is in the scan, its measure. -/
structure MSide where
  row : MRow
  ex : Bool
  inn : Bool
  ms : Int
def sideQ (q : MQ) (r : MRow) (ex : Bool) : MSide := ⟨r, ex, inQ q r ex, msQ q r (inQ q r ex)⟩
abbrev sideC (s : MSide) : Array Value := #[.int .i64 s.row.t, .int .i64 s.row.k, .int .i64 s.row.v.a, .int .i64 s.row.v.b, .int .i64 s.row.v.c, .bool s.ex, .bool s.inn, .int .i64 s.ms]
abbrev sideV (s : MSide) : Value := .agg (sideC s)

set_option maxRecDepth 100000 in
set_option maxHeartbeats 4000000 in
theorem side_no (k t c l h y o rt rk ra rb rc v m : Int) {qb : Nat} (W : World) (HQ0 : W.heap[qb]? = some (.cells (qC ⟨k, t, c, l, h, y, o⟩) 29 (0, 0)))
    (HV0 : ∀ w, Calls Try.prog 18 #[.agg #[.int .i64 rt, .int .i64 rk, .int .i64 ra, .int .i64 rb, .int .i64 rc], .int .i64 c] w fun e w' => e = .returned (.int .i64 v) ∧ Below w.heap.size w w')
    (HY0 : ∀ w, Calls Try.prog 18 #[.agg #[.int .i64 rt, .int .i64 rk, .int .i64 ra, .int .i64 rb, .int .i64 rc], .int .i64 y] w fun e w' => e = .returned (.int .i64 m) ∧ Below w.heap.size w w') :
    Calls Try.prog 126 #[.agg #[.int .i64 rt, .int .i64 rk, .int .i64 ra, .int .i64 rb, .int .i64 rc], .bool false, ptr qb] W fun e w' => e = .returned (.agg #[.int .i64 rt, .int .i64 rk, .int .i64 ra, .int .i64 rb, .int .i64 rc, .bool false, .bool false, .int .i64 0]) ∧ Below W.heap.size W w' := by
  have HV := Lib.hid HV0
  have HY := Lib.hid HY0
  have HQ := Lib.hid HQ0
  clear HV0 HY0 HQ0
  go_enter Try.func126, Try.ntmps126
  go_upto_region 1 with fail
  generalize hw0 : (W.alloc (.cells #[.int .i64 rt, .int .i64 rk, .int .i64 ra, .int .i64 rb, .int .i64 rc] 33)).alloc _ = w0
  have HB0 : Hid (Below W.heap.size W w0) := Lib.hid (by rw [← hw0]; exact bt (ba W _) (ba _ _))
  have HR0 : Hid (w0.heap[W.heap.size]? = some (.cells #[.int .i64 rt, .int .i64 rk, .int .i64 ra, .int .i64 rb, .int .i64 rc] 33 (0, 0))) := Lib.hid (by
    rw [← hw0]
    exact ((ba (W.alloc _) _).block _ (by simp)).trans (heap_alloc_new W _))
  have HS0 : Hid (w0.heap[W.heap.size + 1]? = some (.cells #[.int .i64 0, .int .i64 0, .int .i64 0, .int .i64 0, .int .i64 0, .bool false, .bool false, .int .i64 0] 130 (0, 0))) := Lib.hid (by
    rw [← hw0]
    have h := heap_alloc_new (W.alloc (.cells #[.int .i64 rt, .int .i64 rk, .int .i64 ra, .int .i64 rb, .int .i64 rc] 33)) (.cells #[.int .i64 0, .int .i64 0, .int .i64 0, .int .i64 0, .int .i64 0, .bool false, .bool false, .int .i64 0] 130)
    rw [World.size_alloc] at h
    exact h)
  have HQ1 := Lib.hid ((HB0.out.block _ (lt_of_block HQ.out)).trans HQ.out)
  clear hw0
  have q2 : w0.cell? ⟨qb, 2, none⟩ = some (.int .i64 c) := by simp [World.cell?, qC, HQ1.out]
  have r0 : w0.cell? ⟨W.heap.size, 0, none⟩ = some (.int .i64 rt) := by simp [World.cell?, HR0.out]
  have r1 : w0.cell? ⟨W.heap.size, 1, none⟩ = some (.int .i64 rk) := by simp [World.cell?, HR0.out]
  have r2 : w0.cell? ⟨W.heap.size, 2, none⟩ = some (.int .i64 ra) := by simp [World.cell?, HR0.out]
  have r3 : w0.cell? ⟨W.heap.size, 3, none⟩ = some (.int .i64 rb) := by simp [World.cell?, HR0.out]
  have r4 : w0.cell? ⟨W.heap.size, 4, none⟩ = some (.int .i64 rc) := by simp [World.cell?, HR0.out]
  go_wp2_with fail
  (with_reducible refine (HV.out _).mono ?_)
  rintro e w1 ⟨rfl, hb⟩
  have HB1 := Lib.hid (bt HB0.out hb)
  have HR1 := Lib.hid ((hb.block _ (lt_of_block HR0.out)).trans HR0.out)
  have HS1 := Lib.hid ((hb.block _ (lt_of_block HS0.out)).trans HS0.out)
  have HQ2 := Lib.hid ((hb.block _ (lt_of_block HQ1.out)).trans HQ1.out)
  clear hb q2 r0 r1 r2 r3 r4
  have q1 : w1.cell? ⟨qb, 1, none⟩ = some (.int .i64 t) := by simp [World.cell?, qC, HQ2.out]
  have q3 : w1.cell? ⟨qb, 3, none⟩ = some (.int .i64 l) := by simp [World.cell?, qC, HQ2.out]
  have q4 : w1.cell? ⟨qb, 4, none⟩ = some (.int .i64 h) := by simp [World.cell?, qC, HQ2.out]
  have q5 : w1.cell? ⟨qb, 5, none⟩ = some (.int .i64 y) := by simp [World.cell?, qC, HQ2.out]
  have r0 : w1.cell? ⟨W.heap.size, 0, none⟩ = some (.int .i64 rt) := by simp [World.cell?, HR1.out]
  have r1 : w1.cell? ⟨W.heap.size, 1, none⟩ = some (.int .i64 rk) := by simp [World.cell?, HR1.out]
  have r2 : w1.cell? ⟨W.heap.size, 2, none⟩ = some (.int .i64 ra) := by simp [World.cell?, HR1.out]
  have r3 : w1.cell? ⟨W.heap.size, 3, none⟩ = some (.int .i64 rb) := by simp [World.cell?, HR1.out]
  have r4 : w1.cell? ⟨W.heap.size, 4, none⟩ = some (.int .i64 rc) := by simp [World.cell?, HR1.out]
  go_wp2_with (refine wpList_store_row rfl 130 _ _ rfl (W.heap.size + 1) #[.int .i64 rt, .int .i64 rk, .int .i64 ra, .int .i64 rb, .int .i64 rc, .bool false, .bool false, .int .i64 0] rfl rfl 130 _ HS1.out (by kernel_rfl) rfl (by simp [Value.oneCell']) ?_)
  refine bodyPost_ret (v := .agg #[.int .i64 rt, .int .i64 rk, .int .i64 ra, .int .i64 rb, .int .i64 rc, .bool false, .bool false, .int .i64 0]) (results_cell_row rfl _ _ (W.heap.size + 1) 130 _ (0, 0) _ rfl (setRow_heap _ _ _ _ _ _ HS1.out) Try.underlying130 rfl (by kernel_rfl)) rfl ⟨rfl, below_row HB1.out (by omega) _⟩
set_option maxRecDepth 100000 in
set_option maxHeartbeats 4000000 in
theorem side_table (k t c l h y o rt rk ra rb rc v m : Int) {qb : Nat} (W : World) (HQ0 : W.heap[qb]? = some (.cells (qC ⟨k, t, c, l, h, y, o⟩) 29 (0, 0)))
    (HV0 : ∀ w, Calls Try.prog 18 #[.agg #[.int .i64 rt, .int .i64 rk, .int .i64 ra, .int .i64 rb, .int .i64 rc], .int .i64 c] w fun e w' => e = .returned (.int .i64 v) ∧ Below w.heap.size w w')
    (HY0 : ∀ w, Calls Try.prog 18 #[.agg #[.int .i64 rt, .int .i64 rk, .int .i64 ra, .int .i64 rb, .int .i64 rc], .int .i64 y] w fun e w' => e = .returned (.int .i64 m) ∧ Below w.heap.size w w') (h1 : ¬ rt = t) :
    Calls Try.prog 126 #[.agg #[.int .i64 rt, .int .i64 rk, .int .i64 ra, .int .i64 rb, .int .i64 rc], .bool true, ptr qb] W fun e w' => e = .returned (.agg #[.int .i64 rt, .int .i64 rk, .int .i64 ra, .int .i64 rb, .int .i64 rc, .bool true, .bool false, .int .i64 0]) ∧ Below W.heap.size W w' := by
  have HV := Lib.hid HV0
  have HY := Lib.hid HY0
  have HQ := Lib.hid HQ0
  have HG : Hid (True ∧ (¬ rt = t)) := Lib.hid ⟨trivial, h1⟩
  clear HV0 HY0 HQ0 h1
  go_enter Try.func126, Try.ntmps126
  go_upto_region 1 with fail
  generalize hw0 : (W.alloc (.cells #[.int .i64 rt, .int .i64 rk, .int .i64 ra, .int .i64 rb, .int .i64 rc] 33)).alloc _ = w0
  have HB0 : Hid (Below W.heap.size W w0) := Lib.hid (by rw [← hw0]; exact bt (ba W _) (ba _ _))
  have HR0 : Hid (w0.heap[W.heap.size]? = some (.cells #[.int .i64 rt, .int .i64 rk, .int .i64 ra, .int .i64 rb, .int .i64 rc] 33 (0, 0))) := Lib.hid (by
    rw [← hw0]
    exact ((ba (W.alloc _) _).block _ (by simp)).trans (heap_alloc_new W _))
  have HS0 : Hid (w0.heap[W.heap.size + 1]? = some (.cells #[.int .i64 0, .int .i64 0, .int .i64 0, .int .i64 0, .int .i64 0, .bool false, .bool false, .int .i64 0] 130 (0, 0))) := Lib.hid (by
    rw [← hw0]
    have h := heap_alloc_new (W.alloc (.cells #[.int .i64 rt, .int .i64 rk, .int .i64 ra, .int .i64 rb, .int .i64 rc] 33)) (.cells #[.int .i64 0, .int .i64 0, .int .i64 0, .int .i64 0, .int .i64 0, .bool false, .bool false, .int .i64 0] 130)
    rw [World.size_alloc] at h
    exact h)
  have HQ1 := Lib.hid ((HB0.out.block _ (lt_of_block HQ.out)).trans HQ.out)
  clear hw0
  have q2 : w0.cell? ⟨qb, 2, none⟩ = some (.int .i64 c) := by simp [World.cell?, qC, HQ1.out]
  have r0 : w0.cell? ⟨W.heap.size, 0, none⟩ = some (.int .i64 rt) := by simp [World.cell?, HR0.out]
  have r1 : w0.cell? ⟨W.heap.size, 1, none⟩ = some (.int .i64 rk) := by simp [World.cell?, HR0.out]
  have r2 : w0.cell? ⟨W.heap.size, 2, none⟩ = some (.int .i64 ra) := by simp [World.cell?, HR0.out]
  have r3 : w0.cell? ⟨W.heap.size, 3, none⟩ = some (.int .i64 rb) := by simp [World.cell?, HR0.out]
  have r4 : w0.cell? ⟨W.heap.size, 4, none⟩ = some (.int .i64 rc) := by simp [World.cell?, HR0.out]
  go_wp2_with fail
  (with_reducible refine (HV.out _).mono ?_)
  rintro e w1 ⟨rfl, hb⟩
  have HB1 := Lib.hid (bt HB0.out hb)
  have HR1 := Lib.hid ((hb.block _ (lt_of_block HR0.out)).trans HR0.out)
  have HS1 := Lib.hid ((hb.block _ (lt_of_block HS0.out)).trans HS0.out)
  have HQ2 := Lib.hid ((hb.block _ (lt_of_block HQ1.out)).trans HQ1.out)
  clear hb q2 r0 r1 r2 r3 r4
  have q1 : w1.cell? ⟨qb, 1, none⟩ = some (.int .i64 t) := by simp [World.cell?, qC, HQ2.out]
  have q3 : w1.cell? ⟨qb, 3, none⟩ = some (.int .i64 l) := by simp [World.cell?, qC, HQ2.out]
  have q4 : w1.cell? ⟨qb, 4, none⟩ = some (.int .i64 h) := by simp [World.cell?, qC, HQ2.out]
  have q5 : w1.cell? ⟨qb, 5, none⟩ = some (.int .i64 y) := by simp [World.cell?, qC, HQ2.out]
  have r0 : w1.cell? ⟨W.heap.size, 0, none⟩ = some (.int .i64 rt) := by simp [World.cell?, HR1.out]
  have r1 : w1.cell? ⟨W.heap.size, 1, none⟩ = some (.int .i64 rk) := by simp [World.cell?, HR1.out]
  have r2 : w1.cell? ⟨W.heap.size, 2, none⟩ = some (.int .i64 ra) := by simp [World.cell?, HR1.out]
  have r3 : w1.cell? ⟨W.heap.size, 3, none⟩ = some (.int .i64 rb) := by simp [World.cell?, HR1.out]
  have r4 : w1.cell? ⟨W.heap.size, 4, none⟩ = some (.int .i64 rc) := by simp [World.cell?, HR1.out]
  have d1 : (rt != t) = true := by simp [HG.out.2]
  go_wp2_with (refine wpList_store_row rfl 130 _ _ rfl (W.heap.size + 1) #[.int .i64 rt, .int .i64 rk, .int .i64 ra, .int .i64 rb, .int .i64 rc, .bool true, .bool false, .int .i64 0] rfl rfl 130 _ HS1.out (by kernel_rfl) rfl (by simp [Value.oneCell']) ?_)
  refine bodyPost_ret (v := .agg #[.int .i64 rt, .int .i64 rk, .int .i64 ra, .int .i64 rb, .int .i64 rc, .bool true, .bool false, .int .i64 0]) (results_cell_row rfl _ _ (W.heap.size + 1) 130 _ (0, 0) _ rfl (setRow_heap _ _ _ _ _ _ HS1.out) Try.underlying130 rfl (by kernel_rfl)) rfl ⟨rfl, below_row HB1.out (by omega) _⟩
set_option maxRecDepth 100000 in
set_option maxHeartbeats 4000000 in
theorem side_low (k t c l h y o rt rk ra rb rc v m : Int) {qb : Nat} (W : World) (HQ0 : W.heap[qb]? = some (.cells (qC ⟨k, t, c, l, h, y, o⟩) 29 (0, 0)))
    (HV0 : ∀ w, Calls Try.prog 18 #[.agg #[.int .i64 rt, .int .i64 rk, .int .i64 ra, .int .i64 rb, .int .i64 rc], .int .i64 c] w fun e w' => e = .returned (.int .i64 v) ∧ Below w.heap.size w w')
    (HY0 : ∀ w, Calls Try.prog 18 #[.agg #[.int .i64 rt, .int .i64 rk, .int .i64 ra, .int .i64 rb, .int .i64 rc], .int .i64 y] w fun e w' => e = .returned (.int .i64 m) ∧ Below w.heap.size w w') (h1 : rt = t) (h2 : v < l) :
    Calls Try.prog 126 #[.agg #[.int .i64 rt, .int .i64 rk, .int .i64 ra, .int .i64 rb, .int .i64 rc], .bool true, ptr qb] W fun e w' => e = .returned (.agg #[.int .i64 rt, .int .i64 rk, .int .i64 ra, .int .i64 rb, .int .i64 rc, .bool true, .bool false, .int .i64 0]) ∧ Below W.heap.size W w' := by
  have HV := Lib.hid HV0
  have HY := Lib.hid HY0
  have HQ := Lib.hid HQ0
  have HG : Hid (True ∧ (rt = t) ∧ (v < l)) := Lib.hid ⟨trivial, h1, h2⟩
  clear HV0 HY0 HQ0 h1 h2
  go_enter Try.func126, Try.ntmps126
  go_upto_region 1 with fail
  generalize hw0 : (W.alloc (.cells #[.int .i64 rt, .int .i64 rk, .int .i64 ra, .int .i64 rb, .int .i64 rc] 33)).alloc _ = w0
  have HB0 : Hid (Below W.heap.size W w0) := Lib.hid (by rw [← hw0]; exact bt (ba W _) (ba _ _))
  have HR0 : Hid (w0.heap[W.heap.size]? = some (.cells #[.int .i64 rt, .int .i64 rk, .int .i64 ra, .int .i64 rb, .int .i64 rc] 33 (0, 0))) := Lib.hid (by
    rw [← hw0]
    exact ((ba (W.alloc _) _).block _ (by simp)).trans (heap_alloc_new W _))
  have HS0 : Hid (w0.heap[W.heap.size + 1]? = some (.cells #[.int .i64 0, .int .i64 0, .int .i64 0, .int .i64 0, .int .i64 0, .bool false, .bool false, .int .i64 0] 130 (0, 0))) := Lib.hid (by
    rw [← hw0]
    have h := heap_alloc_new (W.alloc (.cells #[.int .i64 rt, .int .i64 rk, .int .i64 ra, .int .i64 rb, .int .i64 rc] 33)) (.cells #[.int .i64 0, .int .i64 0, .int .i64 0, .int .i64 0, .int .i64 0, .bool false, .bool false, .int .i64 0] 130)
    rw [World.size_alloc] at h
    exact h)
  have HQ1 := Lib.hid ((HB0.out.block _ (lt_of_block HQ.out)).trans HQ.out)
  clear hw0
  have q2 : w0.cell? ⟨qb, 2, none⟩ = some (.int .i64 c) := by simp [World.cell?, qC, HQ1.out]
  have r0 : w0.cell? ⟨W.heap.size, 0, none⟩ = some (.int .i64 rt) := by simp [World.cell?, HR0.out]
  have r1 : w0.cell? ⟨W.heap.size, 1, none⟩ = some (.int .i64 rk) := by simp [World.cell?, HR0.out]
  have r2 : w0.cell? ⟨W.heap.size, 2, none⟩ = some (.int .i64 ra) := by simp [World.cell?, HR0.out]
  have r3 : w0.cell? ⟨W.heap.size, 3, none⟩ = some (.int .i64 rb) := by simp [World.cell?, HR0.out]
  have r4 : w0.cell? ⟨W.heap.size, 4, none⟩ = some (.int .i64 rc) := by simp [World.cell?, HR0.out]
  go_wp2_with fail
  (with_reducible refine (HV.out _).mono ?_)
  rintro e w1 ⟨rfl, hb⟩
  have HB1 := Lib.hid (bt HB0.out hb)
  have HR1 := Lib.hid ((hb.block _ (lt_of_block HR0.out)).trans HR0.out)
  have HS1 := Lib.hid ((hb.block _ (lt_of_block HS0.out)).trans HS0.out)
  have HQ2 := Lib.hid ((hb.block _ (lt_of_block HQ1.out)).trans HQ1.out)
  clear hb q2 r0 r1 r2 r3 r4
  have q1 : w1.cell? ⟨qb, 1, none⟩ = some (.int .i64 t) := by simp [World.cell?, qC, HQ2.out]
  have q3 : w1.cell? ⟨qb, 3, none⟩ = some (.int .i64 l) := by simp [World.cell?, qC, HQ2.out]
  have q4 : w1.cell? ⟨qb, 4, none⟩ = some (.int .i64 h) := by simp [World.cell?, qC, HQ2.out]
  have q5 : w1.cell? ⟨qb, 5, none⟩ = some (.int .i64 y) := by simp [World.cell?, qC, HQ2.out]
  have r0 : w1.cell? ⟨W.heap.size, 0, none⟩ = some (.int .i64 rt) := by simp [World.cell?, HR1.out]
  have r1 : w1.cell? ⟨W.heap.size, 1, none⟩ = some (.int .i64 rk) := by simp [World.cell?, HR1.out]
  have r2 : w1.cell? ⟨W.heap.size, 2, none⟩ = some (.int .i64 ra) := by simp [World.cell?, HR1.out]
  have r3 : w1.cell? ⟨W.heap.size, 3, none⟩ = some (.int .i64 rb) := by simp [World.cell?, HR1.out]
  have r4 : w1.cell? ⟨W.heap.size, 4, none⟩ = some (.int .i64 rc) := by simp [World.cell?, HR1.out]
  have d1 : (rt != t) = false := by simp [HG.out.2.1]
  have d2 : decide (v < l) = true := decide_eq_true (by have := HG.out; omega)
  go_wp2_with (refine wpList_store_row rfl 130 _ _ rfl (W.heap.size + 1) #[.int .i64 rt, .int .i64 rk, .int .i64 ra, .int .i64 rb, .int .i64 rc, .bool true, .bool false, .int .i64 0] rfl rfl 130 _ HS1.out (by kernel_rfl) rfl (by simp [Value.oneCell']) ?_)
  refine bodyPost_ret (v := .agg #[.int .i64 rt, .int .i64 rk, .int .i64 ra, .int .i64 rb, .int .i64 rc, .bool true, .bool false, .int .i64 0]) (results_cell_row rfl _ _ (W.heap.size + 1) 130 _ (0, 0) _ rfl (setRow_heap _ _ _ _ _ _ HS1.out) Try.underlying130 rfl (by kernel_rfl)) rfl ⟨rfl, below_row HB1.out (by omega) _⟩
set_option maxRecDepth 100000 in
set_option maxHeartbeats 4000000 in
theorem side_high (k t c l h y o rt rk ra rb rc v m : Int) {qb : Nat} (W : World) (HQ0 : W.heap[qb]? = some (.cells (qC ⟨k, t, c, l, h, y, o⟩) 29 (0, 0)))
    (HV0 : ∀ w, Calls Try.prog 18 #[.agg #[.int .i64 rt, .int .i64 rk, .int .i64 ra, .int .i64 rb, .int .i64 rc], .int .i64 c] w fun e w' => e = .returned (.int .i64 v) ∧ Below w.heap.size w w')
    (HY0 : ∀ w, Calls Try.prog 18 #[.agg #[.int .i64 rt, .int .i64 rk, .int .i64 ra, .int .i64 rb, .int .i64 rc], .int .i64 y] w fun e w' => e = .returned (.int .i64 m) ∧ Below w.heap.size w w') (h1 : rt = t) (h2 : ¬ v < l) (h3 : h < v) :
    Calls Try.prog 126 #[.agg #[.int .i64 rt, .int .i64 rk, .int .i64 ra, .int .i64 rb, .int .i64 rc], .bool true, ptr qb] W fun e w' => e = .returned (.agg #[.int .i64 rt, .int .i64 rk, .int .i64 ra, .int .i64 rb, .int .i64 rc, .bool true, .bool false, .int .i64 0]) ∧ Below W.heap.size W w' := by
  have HV := Lib.hid HV0
  have HY := Lib.hid HY0
  have HQ := Lib.hid HQ0
  have HG : Hid (True ∧ (rt = t) ∧ (¬ v < l) ∧ (h < v)) := Lib.hid ⟨trivial, h1, h2, h3⟩
  clear HV0 HY0 HQ0 h1 h2 h3
  go_enter Try.func126, Try.ntmps126
  go_upto_region 1 with fail
  generalize hw0 : (W.alloc (.cells #[.int .i64 rt, .int .i64 rk, .int .i64 ra, .int .i64 rb, .int .i64 rc] 33)).alloc _ = w0
  have HB0 : Hid (Below W.heap.size W w0) := Lib.hid (by rw [← hw0]; exact bt (ba W _) (ba _ _))
  have HR0 : Hid (w0.heap[W.heap.size]? = some (.cells #[.int .i64 rt, .int .i64 rk, .int .i64 ra, .int .i64 rb, .int .i64 rc] 33 (0, 0))) := Lib.hid (by
    rw [← hw0]
    exact ((ba (W.alloc _) _).block _ (by simp)).trans (heap_alloc_new W _))
  have HS0 : Hid (w0.heap[W.heap.size + 1]? = some (.cells #[.int .i64 0, .int .i64 0, .int .i64 0, .int .i64 0, .int .i64 0, .bool false, .bool false, .int .i64 0] 130 (0, 0))) := Lib.hid (by
    rw [← hw0]
    have h := heap_alloc_new (W.alloc (.cells #[.int .i64 rt, .int .i64 rk, .int .i64 ra, .int .i64 rb, .int .i64 rc] 33)) (.cells #[.int .i64 0, .int .i64 0, .int .i64 0, .int .i64 0, .int .i64 0, .bool false, .bool false, .int .i64 0] 130)
    rw [World.size_alloc] at h
    exact h)
  have HQ1 := Lib.hid ((HB0.out.block _ (lt_of_block HQ.out)).trans HQ.out)
  clear hw0
  have q2 : w0.cell? ⟨qb, 2, none⟩ = some (.int .i64 c) := by simp [World.cell?, qC, HQ1.out]
  have r0 : w0.cell? ⟨W.heap.size, 0, none⟩ = some (.int .i64 rt) := by simp [World.cell?, HR0.out]
  have r1 : w0.cell? ⟨W.heap.size, 1, none⟩ = some (.int .i64 rk) := by simp [World.cell?, HR0.out]
  have r2 : w0.cell? ⟨W.heap.size, 2, none⟩ = some (.int .i64 ra) := by simp [World.cell?, HR0.out]
  have r3 : w0.cell? ⟨W.heap.size, 3, none⟩ = some (.int .i64 rb) := by simp [World.cell?, HR0.out]
  have r4 : w0.cell? ⟨W.heap.size, 4, none⟩ = some (.int .i64 rc) := by simp [World.cell?, HR0.out]
  go_wp2_with fail
  (with_reducible refine (HV.out _).mono ?_)
  rintro e w1 ⟨rfl, hb⟩
  have HB1 := Lib.hid (bt HB0.out hb)
  have HR1 := Lib.hid ((hb.block _ (lt_of_block HR0.out)).trans HR0.out)
  have HS1 := Lib.hid ((hb.block _ (lt_of_block HS0.out)).trans HS0.out)
  have HQ2 := Lib.hid ((hb.block _ (lt_of_block HQ1.out)).trans HQ1.out)
  clear hb q2 r0 r1 r2 r3 r4
  have q1 : w1.cell? ⟨qb, 1, none⟩ = some (.int .i64 t) := by simp [World.cell?, qC, HQ2.out]
  have q3 : w1.cell? ⟨qb, 3, none⟩ = some (.int .i64 l) := by simp [World.cell?, qC, HQ2.out]
  have q4 : w1.cell? ⟨qb, 4, none⟩ = some (.int .i64 h) := by simp [World.cell?, qC, HQ2.out]
  have q5 : w1.cell? ⟨qb, 5, none⟩ = some (.int .i64 y) := by simp [World.cell?, qC, HQ2.out]
  have r0 : w1.cell? ⟨W.heap.size, 0, none⟩ = some (.int .i64 rt) := by simp [World.cell?, HR1.out]
  have r1 : w1.cell? ⟨W.heap.size, 1, none⟩ = some (.int .i64 rk) := by simp [World.cell?, HR1.out]
  have r2 : w1.cell? ⟨W.heap.size, 2, none⟩ = some (.int .i64 ra) := by simp [World.cell?, HR1.out]
  have r3 : w1.cell? ⟨W.heap.size, 3, none⟩ = some (.int .i64 rb) := by simp [World.cell?, HR1.out]
  have r4 : w1.cell? ⟨W.heap.size, 4, none⟩ = some (.int .i64 rc) := by simp [World.cell?, HR1.out]
  have d1 : (rt != t) = false := by simp [HG.out.2.1]
  have d2 : decide (v < l) = false := decide_eq_false (by have := HG.out; omega)
  have d3 : decide (h < v) = true := decide_eq_true (by have := HG.out; omega)
  go_wp2_with (refine wpList_store_row rfl 130 _ _ rfl (W.heap.size + 1) #[.int .i64 rt, .int .i64 rk, .int .i64 ra, .int .i64 rb, .int .i64 rc, .bool true, .bool false, .int .i64 0] rfl rfl 130 _ HS1.out (by kernel_rfl) rfl (by simp [Value.oneCell']) ?_)
  refine bodyPost_ret (v := .agg #[.int .i64 rt, .int .i64 rk, .int .i64 ra, .int .i64 rb, .int .i64 rc, .bool true, .bool false, .int .i64 0]) (results_cell_row rfl _ _ (W.heap.size + 1) 130 _ (0, 0) _ rfl (setRow_heap _ _ _ _ _ _ HS1.out) Try.underlying130 rfl (by kernel_rfl)) rfl ⟨rfl, below_row HB1.out (by omega) _⟩
set_option maxRecDepth 100000 in
set_option maxHeartbeats 4000000 in
theorem side_in (k t c l h y o rt rk ra rb rc v m : Int) {qb : Nat} (W : World) (HQ0 : W.heap[qb]? = some (.cells (qC ⟨k, t, c, l, h, y, o⟩) 29 (0, 0)))
    (HV0 : ∀ w, Calls Try.prog 18 #[.agg #[.int .i64 rt, .int .i64 rk, .int .i64 ra, .int .i64 rb, .int .i64 rc], .int .i64 c] w fun e w' => e = .returned (.int .i64 v) ∧ Below w.heap.size w w')
    (HY0 : ∀ w, Calls Try.prog 18 #[.agg #[.int .i64 rt, .int .i64 rk, .int .i64 ra, .int .i64 rb, .int .i64 rc], .int .i64 y] w fun e w' => e = .returned (.int .i64 m) ∧ Below w.heap.size w w') (h1 : rt = t) (h2 : ¬ v < l) (h3 : ¬ h < v) :
    Calls Try.prog 126 #[.agg #[.int .i64 rt, .int .i64 rk, .int .i64 ra, .int .i64 rb, .int .i64 rc], .bool true, ptr qb] W fun e w' => e = .returned (.agg #[.int .i64 rt, .int .i64 rk, .int .i64 ra, .int .i64 rb, .int .i64 rc, .bool true, .bool true, .int .i64 m]) ∧ Below W.heap.size W w' := by
  have HV := Lib.hid HV0
  have HY := Lib.hid HY0
  have HQ := Lib.hid HQ0
  have HG : Hid (True ∧ (rt = t) ∧ (¬ v < l) ∧ (¬ h < v)) := Lib.hid ⟨trivial, h1, h2, h3⟩
  clear HV0 HY0 HQ0 h1 h2 h3
  go_enter Try.func126, Try.ntmps126
  go_upto_region 1 with fail
  generalize hw0 : (W.alloc (.cells #[.int .i64 rt, .int .i64 rk, .int .i64 ra, .int .i64 rb, .int .i64 rc] 33)).alloc _ = w0
  have HB0 : Hid (Below W.heap.size W w0) := Lib.hid (by rw [← hw0]; exact bt (ba W _) (ba _ _))
  have HR0 : Hid (w0.heap[W.heap.size]? = some (.cells #[.int .i64 rt, .int .i64 rk, .int .i64 ra, .int .i64 rb, .int .i64 rc] 33 (0, 0))) := Lib.hid (by
    rw [← hw0]
    exact ((ba (W.alloc _) _).block _ (by simp)).trans (heap_alloc_new W _))
  have HS0 : Hid (w0.heap[W.heap.size + 1]? = some (.cells #[.int .i64 0, .int .i64 0, .int .i64 0, .int .i64 0, .int .i64 0, .bool false, .bool false, .int .i64 0] 130 (0, 0))) := Lib.hid (by
    rw [← hw0]
    have h := heap_alloc_new (W.alloc (.cells #[.int .i64 rt, .int .i64 rk, .int .i64 ra, .int .i64 rb, .int .i64 rc] 33)) (.cells #[.int .i64 0, .int .i64 0, .int .i64 0, .int .i64 0, .int .i64 0, .bool false, .bool false, .int .i64 0] 130)
    rw [World.size_alloc] at h
    exact h)
  have HQ1 := Lib.hid ((HB0.out.block _ (lt_of_block HQ.out)).trans HQ.out)
  clear hw0
  have q2 : w0.cell? ⟨qb, 2, none⟩ = some (.int .i64 c) := by simp [World.cell?, qC, HQ1.out]
  have r0 : w0.cell? ⟨W.heap.size, 0, none⟩ = some (.int .i64 rt) := by simp [World.cell?, HR0.out]
  have r1 : w0.cell? ⟨W.heap.size, 1, none⟩ = some (.int .i64 rk) := by simp [World.cell?, HR0.out]
  have r2 : w0.cell? ⟨W.heap.size, 2, none⟩ = some (.int .i64 ra) := by simp [World.cell?, HR0.out]
  have r3 : w0.cell? ⟨W.heap.size, 3, none⟩ = some (.int .i64 rb) := by simp [World.cell?, HR0.out]
  have r4 : w0.cell? ⟨W.heap.size, 4, none⟩ = some (.int .i64 rc) := by simp [World.cell?, HR0.out]
  go_wp2_with fail
  (with_reducible refine (HV.out _).mono ?_)
  rintro e w1 ⟨rfl, hb⟩
  have HB1 := Lib.hid (bt HB0.out hb)
  have HR1 := Lib.hid ((hb.block _ (lt_of_block HR0.out)).trans HR0.out)
  have HS1 := Lib.hid ((hb.block _ (lt_of_block HS0.out)).trans HS0.out)
  have HQ2 := Lib.hid ((hb.block _ (lt_of_block HQ1.out)).trans HQ1.out)
  clear hb q2 r0 r1 r2 r3 r4
  have q1 : w1.cell? ⟨qb, 1, none⟩ = some (.int .i64 t) := by simp [World.cell?, qC, HQ2.out]
  have q3 : w1.cell? ⟨qb, 3, none⟩ = some (.int .i64 l) := by simp [World.cell?, qC, HQ2.out]
  have q4 : w1.cell? ⟨qb, 4, none⟩ = some (.int .i64 h) := by simp [World.cell?, qC, HQ2.out]
  have q5 : w1.cell? ⟨qb, 5, none⟩ = some (.int .i64 y) := by simp [World.cell?, qC, HQ2.out]
  have r0 : w1.cell? ⟨W.heap.size, 0, none⟩ = some (.int .i64 rt) := by simp [World.cell?, HR1.out]
  have r1 : w1.cell? ⟨W.heap.size, 1, none⟩ = some (.int .i64 rk) := by simp [World.cell?, HR1.out]
  have r2 : w1.cell? ⟨W.heap.size, 2, none⟩ = some (.int .i64 ra) := by simp [World.cell?, HR1.out]
  have r3 : w1.cell? ⟨W.heap.size, 3, none⟩ = some (.int .i64 rb) := by simp [World.cell?, HR1.out]
  have r4 : w1.cell? ⟨W.heap.size, 4, none⟩ = some (.int .i64 rc) := by simp [World.cell?, HR1.out]
  have d1 : (rt != t) = false := by simp [HG.out.2.1]
  have d2 : decide (v < l) = false := decide_eq_false (by have := HG.out; omega)
  have d3 : decide (h < v) = false := decide_eq_false (by have := HG.out; omega)
  go_upto_region 4 with fail
  clear d1 d2 d3 q1 q3 q4 q5 r0 r1 r2 r3 r4 HG
  have HGr : Hid (∀ w0, BW w1 w0 → ∀ d' os, (grow (redrawn w0 d') os).heap[W.heap.size]? = some (.cells #[.int .i64 rt, .int .i64 rk, .int .i64 ra, .int .i64 rb, .int .i64 rc] 33 (0, 0))) := Lib.hid (fun w0 h d' os => ((show Below w1.heap.size w1 (grow (redrawn w0 d') os) from bt h (below_regrown w0 d' os)).block _ (lt_of_block HR1.out)).trans HR1.out)
  have HGq : Hid (∀ w0, BW w1 w0 → ∀ d' os, (grow (redrawn w0 d') os).heap[qb]? = some (.cells (qC ⟨k, t, c, l, h, y, o⟩) 29 (0, 0))) := Lib.hid (fun w0 h d' os => ((show Below w1.heap.size w1 (grow (redrawn w0 d') os) from bt h (below_regrown w0 d' os)).block _ (lt_of_block HQ2.out)).trans HQ2.out)
  have g5 : ∀ w0, BW w1 w0 → ∀ d' os, (grow (redrawn w0 d') os).cell? ⟨qb, 5, none⟩ = some (.int .i64 y) := fun w0 h d' os => by simp [World.cell?, qC, HGq.out w0 h d' os]
  have r0 : ∀ w0, BW w1 w0 → ∀ d' os, (grow (redrawn w0 d') os).cell? ⟨W.heap.size, 0, none⟩ = some (.int .i64 rt) := fun w0 h d' os => by simp [World.cell?, HGr.out w0 h d' os]
  have r1 : ∀ w0, BW w1 w0 → ∀ d' os, (grow (redrawn w0 d') os).cell? ⟨W.heap.size, 1, none⟩ = some (.int .i64 rk) := fun w0 h d' os => by simp [World.cell?, HGr.out w0 h d' os]
  have r2 : ∀ w0, BW w1 w0 → ∀ d' os, (grow (redrawn w0 d') os).cell? ⟨W.heap.size, 2, none⟩ = some (.int .i64 ra) := fun w0 h d' os => by simp [World.cell?, HGr.out w0 h d' os]
  have r3 : ∀ w0, BW w1 w0 → ∀ d' os, (grow (redrawn w0 d') os).cell? ⟨W.heap.size, 3, none⟩ = some (.int .i64 rb) := fun w0 h d' os => by simp [World.cell?, HGr.out w0 h d' os]
  have r4 : ∀ w0, BW w1 w0 → ∀ d' os, (grow (redrawn w0 d') os).cell? ⟨W.heap.size, 4, none⟩ = some (.int .i64 rc) := fun w0 h d' os => by simp [World.cell?, HGr.out w0 h d' os]
  refine wp_region_calm 6 99 [0, 1, 2, 3, 4, 5] (by kernel_rfl) (by kernel_rfl) (by intro oz h; simp at h) (by intro oz h; simp at h) (by rfl) ?_
  simp only [List.take_succ_cons, List.take_zero]
  iterate 4
    apply wpCalm_want
    · rfl
    · exact bc_refl
    · exact ⟨_, Below.refl _ _⟩
    · intro w00 hC0 K hK
      go_big_quiet_op
      exact hK
  apply wpCalm_want
  · rfl
  · exact bc_refl
  · exact ⟨_, Below.refl _ _⟩
  · intro w00 hC0 K hK
    go_big_quiet_op
    apply Exists.intro
    refine ⟨fun p => ?_, ?_⟩
    · exact Calls.regrown_of (HY.out _)
    · exact hK
  apply wpCalm_want
  · rfl
  · exact bc_refl
  · exact ⟨_, Below.refl _ _⟩
  · intro w00 hC0 K hK
    go_big_quiet_op
    exact hK
  refine wpCalm_nil ?_
  intro w2 hbq
  try simp only [List.drop_succ_cons, List.drop_zero]
  have HB2 := Lib.hid (bt HB1.out hbq)
  have HS2 := Lib.hid ((hbq.block _ (lt_of_block HS1.out)).trans HS1.out)
  clear g5 r0 r1 r2 r3 r4 hbq
  go_wp2_with (refine wpList_store_row rfl 130 _ _ rfl (W.heap.size + 1) #[.int .i64 rt, .int .i64 rk, .int .i64 ra, .int .i64 rb, .int .i64 rc, .bool true, .bool true, .int .i64 m] rfl rfl 130 _ HS2.out (by kernel_rfl) rfl (by simp [Value.oneCell']) ?_)
  refine bodyPost_ret (v := .agg #[.int .i64 rt, .int .i64 rk, .int .i64 ra, .int .i64 rb, .int .i64 rc, .bool true, .bool true, .int .i64 m]) (results_cell_row rfl _ _ (W.heap.size + 1) 130 _ (0, 0) _ rfl (setRow_heap _ _ _ _ _ _ HS2.out) Try.underlying130 rfl (by kernel_rfl)) rfl ⟨rfl, below_row HB2.out (by omega) _⟩
end Go.Proofs.Ytgbnjjgnihjfgaa
end
