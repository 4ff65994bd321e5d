/- A2, Shelf -/
import Derived.Test.YtgbnjjgnihjfgaaProg
import Derived.WalkKit
import Derived.Below
import Derived.Lib.Hide
import Derived.Laws.StructEq
import Derived.Lib.QuietBelow
import Derived.Deep.RegionHeld3
import Derived.Deep.RegionWith
import Derived.IntWalk
import Derived.BigQuiet
import Derived.Maps.RangeWalk
import Derived.DeepKeys4
import Derived.OneCell
import Derived.StillTail
import Derived.Deep.CutRange
import Derived.Outline
import Derived.WalkSpells
import Derived.Carry
import Derived.Test.YtgbnjjgnihjfgaaWFAA
import Derived.Shelf.SlGeneric
import Derived.Shelf.SlSortCmp.WholeK
import Derived.Shelf.SlicesG.Cmp
import Derived.Ground.SlsfProg
import Derived.Ground.SlgcProg
section
section
set_option linter.unusedVariables false
set_option linter.unusedSimpArgs false
namespace Go.Proofs.Ytgbnjjgnihjfgaa
open Go.RowKit Go.Sort Go.ChangeMaps Go.MapKept

/-- W' is W but for the blocks of F; blocks may have been laid. -/
structure Kept (F : Nat → Prop) (W W' : World) : Prop where
  os : W'.os = W.os
  tape : W'.tape = W.tape
  output : W'.output = W.output
  size : W.heap.size ≤ W'.heap.size
  block : ∀ k, k < W.heap.size → ¬ F k → W'.heap[k]? = W.heap[k]?
theorem Kept.of_below {F : Nat → Prop} {W W' : World} (h : Below W.heap.size W W') : Kept F W W' := ⟨h.os, h.tape, h.output, h.size, fun k hk _ => h.block k hk⟩
theorem Kept.refl (F : Nat → Prop) (W : World) : Kept F W W := ⟨rfl, rfl, rfl, Nat.le_refl _, fun _ _ _ => rfl⟩
theorem Kept.below {F : Nat → Prop} {W W' : World} (h : Kept F W W') {n : Nat} (hn : n ≤ W.heap.size) (hF : ∀ k, F k → n ≤ k) : Below n W W' :=
  ⟨h.os, h.tape, h.output, h.size, fun k hk => h.block k (by omega) (fun f => by have := hF k f; omega)⟩
theorem Kept.trans {F G : Nat → Prop} {A B C : World} (h : Kept F A B) (k : Kept G B C) (hG : ∀ i, i < A.heap.size → G i → F i) : Kept F A C :=
  ⟨k.os.trans h.os, k.tape.trans h.tape, k.output.trans h.output, Nat.le_trans h.size k.size, fun i hi hf => (k.block i (Nat.lt_of_lt_of_le hi h.size) (fun g => hf (hG i hi g))).trans (h.block i hi hf)⟩
theorem Kept.then {F : Nat → Prop} {A B C : World} (h : Kept F A B) (k : Below B.heap.size B C) : Kept F A C := h.trans (Kept.of_below (F := F) k) (fun _ _ f => f)
theorem Kept.setCell {F : Nat → Prop} {A B : World} (h : Kept F A B) {p : Addr} (hp : F p.block ∨ A.heap.size ≤ p.block) (u : Value) : Kept F A (B.setCell p u) :=
  ⟨h.os, h.tape, h.output, by have := h.size; simpa using this, fun k hk hf => by
    rw [Below.heap_setCell _ _ _ _ (fun e => by
      rcases hp with hp | hp
      · exact hf (e ▸ hp)
      · omega)]
    exact h.block k hk hf⟩
theorem Turned.kept {W W' : World} {b : Nat} (h : Turned W W' b) : Kept (fun k => k = b) W W' := by
  obtain ⟨es, clock, es', clock', hb, rfl⟩ := h
  exact ⟨rfl, rfl, rfl, by simp [setBlock], fun i _ hi => heap_setBlock_other hb _ hi⟩

/-- The map's block, or none yet. -/
def MapIs (W : World) : Option Nat → List MRow → Prop
  | none, L => L = []
  | some b, L => StMap W b L
def GoodL (L : List MRow) : Prop := Srt L ∧ (∀ r ∈ L, VRow r) ∧ L.length ≤ 2000
/-- Block b is a state with the rows of L at position p; its map is m. -/
structure StAt (W : World) (b : Nat) (m : Option Nat) (L : List MRow) (p : Int) : Prop where
  blk : W.heap[b]? = some (.cells #[.map m, .int .i64 p] 114 (0, 0))
  mp : MapIs W m L
  good : GoodL L
  pos : 0 ≤ p ∧ p ≤ 10000
def foot (b : Nat) (m : Option Nat) : Nat → Prop := fun k => k = b ∨ m = some k

theorem MapIs.kept {W W' : World} {F : Nat → Prop} {m : Option Nat} {L : List MRow} (h : MapIs W m L) (k : Kept F W W') (hF : ∀ i, m = some i → ¬ F i) : MapIs W' m L := by
  cases m with
  | none => exact h
  | some b => exact StMap.of_block h (k.block b h.lt (hF b rfl))
theorem StAt.lt {W : World} {b : Nat} {m : Option Nat} {L : List MRow} {p : Int} (h : StAt W b m L p) : b < W.heap.size := lt_of_block h.blk
theorem StAt.ne {W : World} {b : Nat} {m : Option Nat} {L : List MRow} {p : Int} (h : StAt W b m L p) : m ≠ some b := by
  intro e
  have := h.mp
  rw [e] at this
  obtain ⟨es, clock, hb, _⟩ := this
  have h1 := h.blk
  rw [hb] at h1
  cases h1
theorem StAt.kept {W W' : World} {F : Nat → Prop} {b : Nat} {m : Option Nat} {L : List MRow} {p : Int} (h : StAt W b m L p) (k : Kept F W W') (hF : ∀ i, foot b m i → ¬ F i) : StAt W' b m L p :=
  ⟨(k.block b h.lt (hF b (.inl rfl))).trans h.blk, h.mp.kept k (fun i e => hF i (.inr e)), h.good, h.pos⟩
theorem StAt.below {W W' : World} {b : Nat} {m : Option Nat} {L : List MRow} {p : Int} (h : StAt W b m L p) (k : Below W.heap.size W W') : StAt W' b m L p := h.kept (F := fun _ => False) (Kept.of_below k) (fun _ _ => id)
theorem StAt.cells {W : World} {b : Nat} {m : Option Nat} {L : List MRow} {p : Int} (h : StAt W b m L p) : W.cell? ⟨b, 0, none⟩ = some (.map m) ∧ W.cell? ⟨b, 1, none⟩ = some (.int .i64 p) ∧ W.frozen? ⟨b, 0, none⟩ = false ∧ W.frozen? ⟨b, 1, none⟩ = false :=
  ⟨by simp [World.cell?, h.blk], by simp [World.cell?, h.blk], by simp [World.frozen?, h.blk], by simp [World.frozen?, h.blk]⟩
theorem MapIs.look {W : World} {m : Option Nat} {L : List MRow} (h : MapIs W m L) {t k : Int} (ht : I64 t) (hk : I64 k) :
    (Instr.lookup 110 (.map m) (plV t k) true).run Try.prog W = .ok (.tuple #[rowV ((Ytgbnjjgnihjfgaa.look L t k).getD rowZ), .bool (Ytgbnjjgnihjfgaa.look L t k).isSome]) W := by
  cases m with
  | none =>
    have h' : L = [] := h
    subst h'
    exact look_nilmap W ht hk
  | some b => exact StMap.look h ht hk
theorem MapIs.len {W : World} {m : Option Nat} {L : List MRow} (h : MapIs W m L) (ty : TypeId) : (Builtin.len_ #[110] ty #[.map m]).run Try.prog W = .ok (.int .i64 L.length) W := by
  cases m with
  | none =>
    have h' : L = [] := h
    subst h'
    exact Maps.len_nil Try.underlying110 ty
  | some b => exact StMap.len h ty
theorem VRow.i64 {r : MRow} (h : VRow r) : I64 r.t ∧ I64 r.k := by
  obtain ⟨h1, h2, _⟩ := h
  unfold I64
  omega
theorem goodL_nil : GoodL [] := ⟨List.Pairwise.nil, by simp, by simp⟩

/-! ### Small functions -/
end Go.Proofs.Ytgbnjjgnihjfgaa
end

section
set_option linter.unusedVariables false
set_option linter.unusedSimpArgs false
namespace Go.Proofs.Ytgbnjjgnihjfgaa
open Go.RowKit Go.Sort

/-- w with blocks laid behind it. -/
abbrev BC (w : World) : World → Prop := fun w' => ∃ p : Regrown, w' = grow (redrawn w p.d) p.os
theorem bc_below {w w' : World} (h : BC w w') : Below w.heap.size w w' := by
  obtain ⟨p, rfl⟩ := h
  exact below_regrown w p.d p.os
theorem bc_refl (w : World) : BC w w := ⟨⟨w.drawn, #[]⟩, by rw [grow_empty]; rfl⟩

section
variable {P : Program} {ops : Array Oper} {md : Region.Mode} {C : World → Prop} {R : World → World → Prop}

theorem put_inj {a : Act} {e d : Option Tmp} {x y v : Value} (hne : ∀ i, d = some i → e ≠ some i) (h : (a.put e x).put d v = (a.put e y).put d v) : a.put e x = a.put e y := by
  cases d with
  | none => exact h
  | some d =>
    cases e with
    | none => rfl
    | some e =>
      have hde : d ≠ e := fun q => hne d rfl (by rw [q])
      obtain ⟨t, df⟩ := a
      simp only [Act.put, Act.mk.injEq, and_true] at h ⊢
      refine Array.ext_getElem? fun i => ?_
      have hi : (t.setIfInBounds e x |>.setIfInBounds d v)[i]? = (t.setIfInBounds e y |>.setIfInBounds d v)[i]? := by rw [h]
      by_cases hid : i = d
      · rw [hid, Array.getElem?_setIfInBounds_ne (Ne.symm hde), Array.getElem?_setIfInBounds_ne (Ne.symm hde)]
      · rwa [Array.getElem?_setIfInBounds_ne (Ne.symm hid), Array.getElem?_setIfInBounds_ne (Ne.symm hid)] at hi

/-- In every world of C the operation yields one value and turns nothing. -/
def Gives (P : Program) (R : World → World → Prop) (C : World → Prop) (o : Oper) (v0 : Value) (a : Act) : Prop := ∀ w, C w → ∃ v, o.quietAt P a (R w) w v ∧ a.put o.dst v = a.put o.dst v0
def calm (P : Program) (R : World → World → Prop) (C : World → Prop) (o : Oper) (a : Act) (X : Act → Prop) : Prop := ∃ v0, Gives P R C o v0 a ∧ X (a.put o.dst v0)
def calmOp (P : Program) (R : World → World → Prop) (ops : Array Oper) (C : World → Prop) (i : Nat) (X : Act → Prop) (a : Act) : Prop :=
  match ops[i]? with
  | none => X a
  | some o => if Region.wanted o (yielded ops a.tmps) then calm P R C o a X else X (a.put o.dst undef)
def YC (P : Program) (R : World → World → Prop) (ops : Array Oper) (C : World → Prop) (o : Oper) (v0 : Value) (a : Act) : Prop :=
  (Region.wanted o (yielded ops a.tmps) = true ∧ Gives P R C o v0 a) ∨ (Region.wanted o (yielded ops a.tmps) = false ∧ v0 = undef)

theorem calmOp_mono {i : Nat} {a : Act} {X Y : Act → Prop} (h : ∀ a, X a → Y a) (hh : calmOp P R ops C i X a) : calmOp P R ops C i Y a := by
  unfold calmOp at *
  cases ho : ops[i]? with
  | none => rw [ho] at hh; exact h _ hh
  | some o =>
    rw [ho] at hh
    simp only at hh ⊢
    split
    · rename_i hw
      rw [if_pos hw] at hh
      obtain ⟨v, h1, h2⟩ := hh
      exact ⟨v, h1, h _ h2⟩
    · rename_i hw
      rw [if_neg hw] at hh
      exact h _ hh
theorem YC.op {i : Nat} {o : Oper} {v : Value} {a : Act} {X : Act → Prop} (hi : ops[i]? = some o) (hy : YC P R ops C o v a) (h : X (a.put o.dst v)) : calmOp P R ops C i X a := by
  unfold calmOp
  rw [hi]
  simp only
  rcases hy with ⟨hw, hg⟩ | ⟨hw, rfl⟩
  · rw [if_pos hw]; exact ⟨v, hg, h⟩
  · rw [if_neg (by rw [hw]; exact Bool.false_ne_true)]; exact h
theorem yc_of_op {i : Nat} {o : Oper} {a : Act} {X : Act → Prop} (hi : ops[i]? = some o) (h : calmOp P R ops C i X a) : ∃ v, YC P R ops C o v a ∧ X (a.put o.dst v) := by
  unfold calmOp at h
  rw [hi] at h
  simp only at h
  by_cases hw : Region.wanted o (yielded ops a.tmps) = true
  · rw [if_pos hw] at h
    obtain ⟨v, h1, h2⟩ := h
    exact ⟨v, .inl ⟨hw, h1⟩, h2⟩
  · rw [if_neg hw] at h
    exact ⟨undef, .inr ⟨by simpa using hw, rfl⟩, h⟩
theorem gives_put {o : Oper} {v u : Value} {a : Act} {e : Option Tmp} (hs : ∀ cs b, o.op ≠ .select cs b) (h1 : ∀ d, e = some d → d ∉ o.looksAt ops) (h2 : ∀ d, e = some d → o.dst ≠ some d) (h : Gives P R C o v a) : Gives P R C o v (a.put e u) := fun w hw => by
  obtain ⟨x, q, hx⟩ := h w hw
  refine ⟨x, ?_, ?_⟩
  · unfold Oper.quietAt at *
    rwa [execOp_put o hs a e u h1]
  · rw [Act.put_comm a u x h2, Act.put_comm a u v h2, hx]
theorem YC.put {o : Oper} {v u : Value} {a : Act} {e : Option Tmp} (hs : ∀ cs b, o.op ≠ .select cs b) (h1 : ∀ d, e = some d → d ∉ o.looksAt ops) (h2 : ∀ d, e = some d → o.dst ≠ some d) (h : YC P R ops C o v a) : YC P R ops C o v (a.put e u) := by
  unfold YC at *
  rw [wanted_put o a e u h1]
  exact h.imp (fun h => ⟨h.1, gives_put hs h1 h2 h.2⟩) id
theorem calmOp_put {j : Nat} {oi oj : Oper} {v : Value} (hj : ops[j]? = some oj) (hap : oi.apart ops oj = true) (hsi : ∀ cs b, oi.op ≠ .select cs b) (hsj : ∀ cs b, oj.op ≠ .select cs b) {X : Act → Prop} {a : Act}
    (hy : YC P R ops C oi v a) (h : calmOp P R ops C j X (a.put oi.dst v)) : calmOp P R ops C j (fun a' => YC P R ops C oi v a' ∧ X (a'.put oi.dst v)) a := by
  obtain ⟨h1, h2, h3⟩ := Oper.apart_spec hap
  have h2' : ∀ d, oj.dst = some d → oi.dst ≠ some d := fun d e1 e2 => h2 d e2 e1
  unfold calmOp at *
  rw [hj] at h ⊢
  simp only at h ⊢
  rw [wanted_put oj a oi.dst v h1] at h
  split
  · rename_i hw
    rw [if_pos hw] at h
    obtain ⟨u, hu, hn⟩ := h
    refine ⟨u, fun w hw => ?_, hy.put hsi h3 h2', by rw [← Act.put_comm a v u h2]; exact hn⟩
    obtain ⟨x, q, hx⟩ := hu w hw
    refine ⟨x, ?_, ?_⟩
    · unfold Oper.quietAt at *
      rwa [execOp_put oj hsj a oi.dst v h1] at q
    · refine put_inj (d := oi.dst) (v := v) (fun i e1 e2 => h2 i e1 e2) ?_
      rw [← Act.put_comm a v x h2, ← Act.put_comm a v u h2, hx]
  · rename_i hw
    rw [if_neg hw] at h
    exact ⟨hy.put hsi h3 h2', by rw [← Act.put_comm a v undef h2]; exact h⟩

/-- As 'sinkB', with one operation z left out: it may come late. -/
def sinkZ (md : Region.Mode) (ops : Array Oper) (n z : Nat) : Bool :=
  (List.range n).all fun i => i == z || (List.range (n + 1)).any fun j => decide (i < j) && decide (j ≠ z) && Region.waitsFor md ops j i
def lateB (md : Region.Mode) (ops : Array Oper) (n z : Nat) : Bool :=
  match ops[z]? with
  | none => true
  | some oz => decide (z < n) && oz.guard.isNone && (oz.after.all fun e => !Region.binds md e || Region.waitsFor md ops n e.on) && Region.free md ops ((Array.range ops.size).map fun j => Region.waitsFor md ops z j) z

theorem late_unlisted {md : Region.Mode} {ops : Array Oper} {z j : Nat} {oj : Oper} {listed : Array Bool} (hz : z ∈ Region.ready md ops listed) (hj : ops[j]? = some oj) (hun : listed.getD j true = false) : ((Array.range ops.size).map fun j => Region.waitsFor md ops z j).getD j true = false := by
  have hjs : j < ops.size := (Array.getElem?_eq_some_iff.1 hj).1
  have e : ((Array.range ops.size).map fun j => Region.waitsFor md ops z j).getD j true = Region.waitsFor md ops z j := by simp [hjs]
  rw [e]
  cases h : Region.waitsFor md ops z j with
  | false => rfl
  | true =>
    obtain ⟨o', ho', e', he', hb, hon⟩ := Region.waitsFor_spec h
    obtain ⟨_, o, ho, hall⟩ := mem_ready.1 hz
    obtain rfl : o' = o := Option.some.inj (ho'.symm.trans ho)
    have := hall e' he' hb
    rw [hon, getD_both hun] at this
    cases this

theorem waits_off {md : Region.Mode} {ops : Array Oper} {n z : Nat} {listed : Array Bool} (hs : sinkZ md ops n z = true) (inv : HeadInv md ops n listed) :
    ∀ (d i : Nat), n - i = d → i < n → i ≠ z → listed.getD i true = false → n ∉ Region.ready md ops listed := by
  intro d
  induction d using Nat.strongRecOn with
  | _ d ih =>
    intro i hd hi hz hun hr
    have h1 := List.all_eq_true.1 hs i (List.mem_range.2 hi)
    simp only [Bool.or_eq_true, beq_iff_eq, hz, false_or] at h1
    obtain ⟨j, hj, hj2⟩ := List.any_eq_true.1 h1
    simp only [Bool.and_eq_true, decide_eq_true_eq] at hj2
    obtain ⟨⟨hij, hjz⟩, hjw⟩ := hj2
    obtain ⟨oj, hoj, e, he, hb, hon⟩ := Region.waitsFor_spec hjw
    have hjle : j ≤ n := by have := List.mem_range.1 hj; omega
    by_cases hjn : j = n
    · obtain ⟨_, o, ho, hall⟩ := mem_ready.1 hr
      subst hjn
      obtain rfl : oj = o := Option.some.inj (hoj.symm.trans ho)
      have h2 := hall e he hb
      rw [hon, getD_both hun] at h2
      cases h2
    · cases hl : listed.getD j false with
      | true =>
        have h2 := inv.closed j oj hoj hl e he hb
        rw [hon, getD_both hun] at h2
        cases h2
      | false =>
        have hjs : j < listed.size := by rw [inv.size]; exact (Array.getElem?_eq_some_iff.1 hoj).1
        exact ih (n - j) (by omega) j rfl (by omega) hjz (getD_in hjs hl) hr
theorem heads_or_late {md : Region.Mode} {ops : Array Oper} {n z : Nat} {listed : Array Bool} (hs : sinkZ md ops n z = true) (hc : Region.chainB md ops n = true) (hz : lateB md ops n z = true) (hn : n < ops.size) (inv : HeadInv md ops n listed)
    {i : Nat} (hi : i < n) (hun : listed.getD i true = false) : (∀ t ∈ Region.ready md ops listed, t < n) ∨ z ∈ Region.ready md ops listed := by
  by_cases hall : ∀ t ∈ Region.ready md ops listed, t < n
  · exact .inl hall
  refine .inr ?_
  obtain ⟨t, ht⟩ := Classical.not_forall.1 hall
  obtain ⟨hr, htn⟩ := Classical.not_imp.1 ht
  have htlt : t < ops.size := by
    obtain ⟨_, o, ho, _⟩ := mem_ready.1 hr
    exact (Array.getElem?_eq_some_iff.1 ho).1
  obtain rfl : t = n := by
    have h1 := List.all_eq_true.1 hc t (List.mem_range.2 htlt)
    simp only [Bool.or_eq_true, decide_eq_true_eq] at h1
    rcases h1 with h1 | h1
    · omega
    · by_cases hq : t = n
      · exact hq
      obtain ⟨o', ho', e, he, hb, hon⟩ := Region.waitsFor_spec h1
      obtain ⟨_, o, ho, hall⟩ := mem_ready.1 hr
      obtain rfl : o' = o := Option.some.inj (ho'.symm.trans ho)
      have h2 := hall e he hb
      rw [hon, getD_both (inv.tail (t - 1) (by omega) (by omega))] at h2
      cases h2
  obtain ⟨_, on, hon, hall⟩ := mem_ready.1 hr
  unfold lateB at hz
  by_cases hiz : i = z
  · subst hiz
    cases ho : ops[i]? with
    | none => exact absurd (Array.getElem?_eq_none_iff.1 ho) (by omega)
    | some oz =>
      rw [ho] at hz
      simp only [Bool.and_eq_true, decide_eq_true_eq] at hz
      refine mem_ready.2 ⟨hun, oz, ho, fun e he hb => ?_⟩
      have h1 := Array.all_eq_true_iff_forall_mem.1 hz.1.2 e he
      simp only [hb, Bool.not_true, Bool.false_or] at h1
      obtain ⟨o', ho', e', he', hb', hon'⟩ := Region.waitsFor_spec h1
      obtain rfl : o' = on := Option.some.inj (ho'.symm.trans hon)
      rw [← hon']
      exact hall e' he' hb'
  · exact absurd hr (waits_off hs inv _ i rfl hi hiz hun)

/-- The head, whatever order is picked: f operations, each below n; then L. -/
def calmL (P : Program) (R : World → World → Prop) (md : Region.Mode) (ops : Array Oper) (C : World → Prop) (n z : Nat) (L : Array Bool → Act → Prop) : Nat → Array Bool → Act → Prop
  | 0, listed, a => L listed a
  | f + 1, listed, a => (Region.ready md ops listed ≠ [] ∧ ((∀ t ∈ Region.ready md ops listed, t < n) ∨ z ∈ Region.ready md ops listed)) ∧
    ∀ i ∈ Region.ready md ops listed, i < n → calmOp P R ops C i (calmL P R md ops C n z L f (listed.setIfInBounds i true)) a

theorem calmL_first {n z i : Nat} {oi : Oper} {v : Value} {L : Array Bool → Act → Prop} (hi : ops[i]? = some oi) (hsel : ∀ (j : Nat) (o : Oper) cs b, ops[j]? = some o → o.op ≠ .select cs b)
    (hs : sinkZ md ops n z = true) (hc : Region.chainB md ops n = true) (hz : lateB md ops n z = true) (hn : n < ops.size) (hin : i < n)
    (hdone : ∀ listed a, L listed a → ∀ j ∈ Region.ready md ops listed, n ≤ j) (f : Nat) : ∀ (listed : Array Bool) (a : Act), HeadInv md ops n listed →
      (∀ j oj, ops[j]? = some oj → j ≠ i → listed.getD j true = false → (∀ e ∈ oj.after, Region.binds md e = true → e.on ≠ i) → oi.apart ops oj = true) →
      i ∈ Region.ready md ops listed → YC P R ops C oi v a → calmL P R md ops C n z L f (listed.setIfInBounds i true) (a.put oi.dst v) → calmL P R md ops C n z L (f + 1) listed a := by
  induction f with
  | zero =>
    intro listed a inv _ hr hy H
    refine ⟨⟨List.ne_nil_of_mem hr, heads_or_late hs hc hz hn inv hin (mem_ready.1 hr).1⟩, fun j hj hjn => ?_⟩
    by_cases hji : j = i
    · rw [hji]; exact hy.op hi H
    · exact absurd (hdone _ _ H j (ready_mono hj hji)) (by omega)
  | succ f ih =>
    intro listed a inv hfree hr hy H
    refine ⟨⟨List.ne_nil_of_mem hr, heads_or_late hs hc hz hn inv hin (mem_ready.1 hr).1⟩, fun j hj hjn => ?_⟩
    by_cases hji : j = i
    · rw [hji]; exact hy.op hi H
    obtain ⟨hjun, oj, hoj, hall⟩ := mem_ready.1 hj
    have hnot : ∀ e ∈ oj.after, Region.binds md e = true → e.on ≠ i := fun e he hb heq => by
      have h1 := hall e he hb
      rw [heq, getD_both (mem_ready.1 hr).1] at h1
      cases h1
    have h2 := calmOp_put hoj (hfree j oj hoj hji hjun hnot) (fun cs b => hsel i oi cs b hi) (fun cs b => hsel j oj cs b hoj) hy (H.2 j (ready_mono hj hji) hjn)
    refine calmOp_mono (fun a' h3 => ih (listed.setIfInBounds j true) a' (inv.set hj hjn) (fun k ok hk hki hun hno => ?_) (ready_mono hr (Ne.symm hji)) h3.1 (by rw [Array.setIfInBounds_comm _ _ hji]; exact h3.2)) h2
    refine hfree k ok hk hki ?_ hno
    by_cases hjk : j = k
    · rw [← hjk]; exact hjun
    · rwa [getD_set_ne true hjk] at hun

/-- The head's operations in the order of the text, those of a list of indices. -/
def wpCalm (P : Program) (R : World → World → Prop) (ops : Array Oper) (C : World → Prop) (X : Act → Prop) : List Oper → Act → Prop
  | [], a => X a
  | o :: rest, a => if Region.wanted o (yielded ops a.tmps) then calm P R C o a (wpCalm P R ops C X rest) else wpCalm P R ops C X rest (a.put o.dst undef)

/-- The order of the text is allowed, each operation may be taken first. -/
def lexIdx (md : Region.Mode) (ops : Array Oper) (n g : Nat) : List Nat → Array Bool → Bool
  | [], listed => Region.seqB md ops g n listed
  | k :: ks, listed => (Region.ready md ops listed).contains k && Region.free md ops listed k && decide (k < n) && lexIdx md ops n g ks (listed.setIfInBounds k true)

theorem calmL_lex {n g z : Nat} {X : Act → Prop} (hsel : Region.noSelect ops = true) (hs : sinkZ md ops n z = true) (hc : Region.chainB md ops n = true) (hz : lateB md ops n z = true) (hn : n < ops.size) :
    ∀ (ks : List Nat) (l : List Oper) (listed : Array Bool) (a : Act), ks.map (fun k => ops[k]?) = l.map some → HeadInv md ops n listed → lexIdx md ops n g ks listed = true → wpCalm P R ops C X l a →
      calmL P R md ops C n z (fun listed' a' => Region.seqB md ops g n listed' = true ∧ X a') l.length listed a
  | [], l, listed, a, hl, inv, hB, h => by
    obtain rfl : l = [] := by simpa using hl.symm
    exact ⟨hB, h⟩
  | k :: ks, l, listed, a, hl, inv, hB, h => by
    cases l with
    | nil => simp at hl
    | cons o l =>
      simp only [List.map_cons, List.cons.injEq] at hl
      obtain ⟨h0, hl⟩ := hl
      simp only [lexIdx, Bool.and_eq_true, decide_eq_true_eq] at hB
      obtain ⟨⟨⟨hr, hf⟩, hkn⟩, hB'⟩ := hB
      have hr' : k ∈ Region.ready md ops listed := by simpa using hr
      have hop : calmOp P R ops C k (wpCalm P R ops C X l) a := by unfold calmOp; rw [h0]; exact h
      obtain ⟨v, hy, hX⟩ := yc_of_op h0 hop
      exact calmL_first h0 (Region.noSelect_spec hsel) hs hc hz hn hkn (fun _ _ hL => seqB_ready hL.1) l.length listed a inv (Region.free_spec h0 hf) hr' hy
        (calmL_lex hsel hs hc hz hn ks l _ _ hl (inv.set hr' hkn) hB' hX)

/-- One operation of the head, in the frame that holds the new block's address besides. -/
theorem wpOp_of_calm {i : Nat} {o : Oper} {a : Act} {d : Option Tmp} {p : Value} {X : Act → Prop} {K : Act → World → Prop} {Q' : Exit → Act → World → Prop} {w : World} (hi : ops[i]? = some o) (hs : ∀ cs b, o.op ≠ .select cs b)
    (h1 : ∀ t, d = some t → t ∉ o.looksAt ops) (h2 : ∀ t, d = some t → o.dst ≠ some t) (hR : ∀ w, R w w) (hC : C w) (h : calmOp P R ops C i X a) (hK : ∀ a' w', X a' → R w w' → K (a'.put d p) w') : wpOp P ops Q' i K (a.put d p) w := by
  obtain ⟨v, hy, hX⟩ := yc_of_op hi h
  unfold wpOp
  rw [hi]
  simp only
  rw [wanted_put o a d p h1]
  rcases hy with ⟨hw, hg⟩ | ⟨hw, rfl⟩
  · rw [if_pos hw]
    obtain ⟨x, q, hx⟩ := hg w hC
    refine .inl ?_
    unfold Oper.quietAt at q
    rw [← execOp_put o hs a d p h1] at q
    have e1 : (a.put d p).put o.dst x = (a.put o.dst v).put d p := by rw [Act.put_comm a p x h2, hx]
    unfold Oper.wp
    generalize (execOp (a.put d p).eval o).run P w = r at q
    cases r with
    | ok n w' =>
      cases n <;> simp only [Oper.quietUpon] at q <;> simp only [Oper.upon]
      case value u => obtain ⟨rfl, rfl⟩ := q; rw [e1]; exact hK _ _ hX (hR _)
      case skip => obtain ⟨rfl, rfl⟩ := q; rw [e1]; exact hK _ _ hX (hR _)
      case enter f args =>
        obtain ⟨rfl, hc⟩ := q
        exact hc.mono fun e w'' ⟨he, hw''⟩ => by
          subst he
          show K ((a.put d p).put o.dst x) w''
          rw [e1]; exact hK _ _ hX hw''
    | halt c w' => simp only [Oper.quietUpon] at q
  · rw [if_neg (by rw [hw]; exact Bool.false_ne_true), Act.put_comm a p undef h2]
    exact hK _ _ hX (hR _)

variable {n g : Nat} {Q' : Exit → Act → World → Prop} {X : Act → Prop} {d : Option Tmp}

/-- What may be asked of an operation that comes late: it looks at no world. -/
def Worldless (P : Program) (o : Oper) : Prop := ∀ (a : Act) (D : World → Prop) (w : World) (v : Value), o.quietAt P a D w v → ∀ w', (execOp a.eval o).run P w' = .ok (.value v) w'

theorem yields_late {z : Nat} {oz : Oper} {a : Act} {p : Value} {Y : Act → Prop} {w : World} (hz : ops[z]? = some oz) (hg : oz.guard = none) (hwl : Worldless P oz) (hs : ∀ cs b, oz.op ≠ .select cs b) (h1 : ∀ t, d = some t → t ∉ oz.looksAt ops) (hC : C w)
    (h : calmOp P R ops C z Y a) : ∃ x v, Yields P ops oz x (a.put d p) ∧ Y (a.put oz.dst v) ∧ a.put oz.dst x = a.put oz.dst v := by
  obtain ⟨v, hy, hY⟩ := yc_of_op hz h
  have hw : ∀ y, Region.wanted oz y = true := fun y => by unfold Region.wanted; rw [hg]
  rcases hy with ⟨_, hgv⟩ | ⟨hw', _⟩
  · obtain ⟨x, q, hx⟩ := hgv w hC
    exact ⟨x, v, .inl ⟨hw _, fun w' => by rw [execOp_put oz hs a d p h1]; exact hwl _ _ _ _ q w'⟩, hY, hx⟩
  · rw [hw] at hw'; cases hw'

/-- Behind the block's making (or where no block is made): the rest of the head, then the tail. -/
theorem any_of_calm {m z : Nat} (hsel : Region.noSelect ops = true) (hR : ∀ w, R w w) (hCb : ∀ w w', C w → R w w' → C w') {p : Value} {D : World → Prop} (hD : ∀ w w', C w → D w → R w w' → D w')
    (hQ : ∀ oz, ops[z]? = some oz → ∀ c a v w, Q' (.panic c) (Act.put a oz.dst v) w → Q' (.panic c) a w) (hl : lateB md ops n z = true) (hwl : ∀ oz, ops[z]? = some oz → Worldless P oz) (hzm : z ≠ m)
    (h1 : ∀ i o, ops[i]? = some o → i < n → i ≠ m → ∀ t, d = some t → t ∉ o.looksAt ops ∧ o.dst ≠ some t)
    (tail : ∀ listed a w, Region.seqB md ops g n listed = true → X a → C w → D w → wpAny P md ops Q' g listed (a.put d p) w) :
    ∀ (f : Nat) (listed : Array Bool) (a : Act) (w : World), C w → D w → (d = none ∨ listed.getD m false = true) →
      calmL P R md ops C n z (fun listed' a' => Region.seqB md ops g n listed' = true ∧ X a') f listed a → wpAny P md ops Q' (f + g) listed (a.put d p) w
  | 0, listed, a, w, hC, hDw, _, h => by rw [Nat.zero_add]; exact tail _ _ _ h.1 h.2 hC hDw
  | f + 1, listed, a, w, hC, hDw, hm, h => by
    rw [show f + 1 + g = (f + g) + 1 by omega]
    obtain ⟨⟨hne, hor⟩, hops⟩ := h
    rcases hor with hlt | hzr
    · refine ⟨fun h0 => absurd h0 hne, fun i hi => ?_⟩
      obtain ⟨hun, o, ho, _⟩ := mem_ready.1 hi
      have hin := hlt i hi
      have hop := hops i hi hin
      have hx : ∀ t, d = some t → t ∉ o.looksAt ops ∧ o.dst ≠ some t := fun t ht => h1 i o ho hin (fun e => by
        subst e
        rcases hm with hm | hm
        · rw [hm] at ht; cases ht
        · rw [getD_both hun] at hm; cases hm) t ht
      refine wpOp_of_calm ho (fun cs b => Region.noSelect_spec hsel i o cs b ho) (fun t ht => (hx t ht).1) (fun t ht => (hx t ht).2) hR hC hop fun a' w' hX hb => ?_
      exact any_of_calm hsel hR hCb hD hQ hl hwl hzm h1 tail f _ a' w' (hCb _ _ hC hb) (hD _ _ hC hDw hb) (hm.imp id getD_set_true) hX
    · obtain ⟨hun, oz, hoz, _⟩ := mem_ready.1 hzr
      unfold lateB at hl
      rw [hoz] at hl
      simp only [Bool.and_eq_true, decide_eq_true_eq] at hl
      obtain ⟨⟨⟨hzn, hgz⟩, _⟩, hfr⟩ := hl
      have hx := h1 z oz hoz hzn hzm
      have hselz := fun cs b => Region.noSelect_spec hsel z oz cs b hoz
      obtain ⟨x, v, hyz, hY, hxv⟩ := yields_late (p := p) hoz (Option.isNone_iff_eq_none.1 hgz) (hwl oz hoz) hselz (fun t ht => (hx t ht).1) hC (hops z hzr hzn)
      refine wpAny_first hoz (Region.noSelect_spec hsel) (fun c a w => hQ oz hoz c a _ w) (f + g) listed (a.put d p) w (fun j oj hj hjz hun' hno => Region.free_spec hoz hfr j oj hj hjz (late_unlisted hzr hj hun') hno) hzr hyz ?_
      rw [show (a.put d p).put oz.dst x = (a.put oz.dst v).put d p by rw [Act.put_comm a p x (fun t ht => (hx t ht).2), hxv]]
      exact any_of_calm hsel hR hCb hD hQ (by unfold lateB; rw [hoz]; simp only [Bool.and_eq_true, decide_eq_true_eq]; exact ⟨⟨⟨hzn, hgz⟩, by assumption⟩, hfr⟩) hwl hzm h1 tail f _ _ w hC hDw (hm.imp id getD_set_true) hY

/-- Ahead of the block's making. -/
theorem any_of_calm0 {m z : Nat} {om : Oper} {obj : Obj} (hom : ops[m]? = some om) (hmr : ∀ e ∈ om.after, Region.binds md e = false) (hmg : ∀ y, Region.wanted om y = true) (hmn : Region.waitsFor md ops n m = true) (hg : 0 < g)
    (hsel : Region.noSelect ops = true) (hR : ∀ w, R w w) (hCb : ∀ w w', C w → R w w' → C w') {D : Nat → World → Prop} (hD : ∀ b w w', C w → D b w → R w w' → D b w') (hCa : ∀ w, C w → C (w.alloc obj)) (hnew : ∀ w, C w → D w.heap.size (w.alloc obj))
    (hQ : ∀ oz, ops[z]? = some oz → ∀ c a v w, Q' (.panic c) (Act.put a oz.dst v) w → Q' (.panic c) a w) (hl : lateB md ops n z = true) (hwl : ∀ oz, ops[z]? = some oz → Worldless P oz) (hzm : z ≠ m) (hzd : ∀ oz, ops[z]? = some oz → ∀ e ∈ oz.after, e.on ≠ m)
    (halloc : ∀ (a : Act) (w : World), (execOp a.eval om).run P w = .ok (.value (.pointer (some ⟨w.heap.size, 0, none⟩))) (w.alloc obj))
    (h1 : ∀ i o, ops[i]? = some o → i < n → i ≠ m → ∀ t, om.dst = some t → t ∉ o.looksAt ops ∧ o.dst ≠ some t)
    (tail : ∀ b listed a w, Region.seqB md ops g n listed = true → X a → C w → D b w → wpAny P md ops Q' g listed (a.put om.dst (.pointer (some ⟨b, 0, none⟩))) w) :
    ∀ (f : Nat) (listed : Array Bool) (a : Act) (w : World), C w → listed.getD m true = false →
      calmL P R md ops C n z (fun listed' a' => Region.seqB md ops g n listed' = true ∧ X a') f (listed.setIfInBounds m true) a → wpAny P md ops Q' (f + g + 1) listed a w := by
  intro f
  induction f with
  | zero =>
    intro listed a w hC hm h
    have hmm : (listed.setIfInBounds m true).getD m false = true := by
      rcases Nat.lt_or_ge m listed.size with h' | h'
      · simp [h']
      · simp [Array.getElem?_eq_none h'] at hm
    have hrm : m ∈ Region.ready md ops listed := mem_ready.2 ⟨hm, om, hom, fun e he hb => by rw [hmr e he] at hb; cases hb⟩
    refine ⟨fun h0 => absurd h0 (List.ne_nil_of_mem hrm), fun i hi => ?_⟩
    by_cases him : i = m
    · subst him
      unfold wpOp
      rw [hom]
      simp only
      rw [if_pos (hmg _)]
      refine .inl ?_
      unfold Oper.wp
      rw [halloc]
      simp only [Oper.upon]
      exact any_of_calm (m := i) hsel hR hCb (hD _) hQ hl hwl hzm h1 (tail _) 0 _ a _ (hCa _ hC) (hnew _ hC) (.inr hmm) h
    · exfalso
      have hr := ready_mono hi him
      have hs := h.1
      cases g with
      | zero => omega
      | succ g =>
        simp only [Region.seqB, Bool.and_eq_true, decide_eq_true_eq] at hs
        rw [hs.1] at hr
        obtain rfl : i = n := by simpa using hr
        obtain ⟨_, o, ho, hall⟩ := mem_ready.1 hi
        obtain ⟨o', ho', e, he, hb, hon⟩ := Region.waitsFor_spec hmn
        obtain rfl : o' = o := Option.some.inj (ho'.symm.trans ho)
        have := hall e he hb
        rw [hon, getD_both hm] at this
        cases this
  | succ f ih =>
    intro listed a w hC hm h
    have hmm : (listed.setIfInBounds m true).getD m false = true := by
      rcases Nat.lt_or_ge m listed.size with h' | h'
      · simp [h']
      · simp [Array.getElem?_eq_none h'] at hm
    have hrm : m ∈ Region.ready md ops listed := mem_ready.2 ⟨hm, om, hom, fun e he hb => by rw [hmr e he] at hb; cases hb⟩
    rw [show f + 1 + g + 1 = (f + 1 + g) + 1 from rfl]
    rcases h.1.2 with hlt | hzr
    · refine ⟨fun h0 => absurd h0 (List.ne_nil_of_mem hrm), fun i hi => ?_⟩
      by_cases him : i = m
      · subst him
        unfold wpOp
        rw [hom]
        simp only
        rw [if_pos (hmg _)]
        refine .inl ?_
        unfold Oper.wp
        rw [halloc]
        simp only [Oper.upon]
        exact any_of_calm (m := i) hsel hR hCb (hD _) hQ hl hwl hzm h1 (tail _) (f + 1) _ a _ (hCa _ hC) (hnew _ hC) (.inr hmm) h
      · have hr := ready_mono hi him
        have hop := h.2 i hr (hlt i hr)
        obtain ⟨_, o, ho, _⟩ := mem_ready.1 hi
        have := wpOp_of_calm (d := none) (p := undef) (K := wpAny P md ops Q' (f + 1 + g) (listed.setIfInBounds i true)) (Q' := Q') ho (fun cs b => Region.noSelect_spec hsel i o cs b ho) (fun t ht => by cases ht) (fun t ht => by cases ht) hR hC hop fun a' w' hX hb => by
          have := ih (listed.setIfInBounds i true) a' w' (hCb _ _ hC hb) (by rw [getD_set_ne true him]; exact hm) (by rw [Array.setIfInBounds_comm _ _ him]; exact hX)
          rw [show f + 1 + g = f + g + 1 by omega]
          exact this
        exact this
    · obtain ⟨hun, oz, hoz, hall⟩ := mem_ready.1 hzr
      have hl' := hl
      unfold lateB at hl'
      rw [hoz] at hl'
      simp only [Bool.and_eq_true, decide_eq_true_eq] at hl'
      obtain ⟨⟨⟨hzn, hgz⟩, _⟩, hfr⟩ := hl'
      have hselz := fun cs b => Region.noSelect_spec hsel z oz cs b hoz
      have hzr' : z ∈ Region.ready md ops listed := mem_ready.2 ⟨by rw [getD_set_ne true (Ne.symm hzm)] at hun; exact hun, oz, hoz, fun e he hb => by
        have := hall e he hb
        rwa [getD_set_ne false (Ne.symm (hzd oz hoz e he))] at this⟩
      obtain ⟨x, v, hyz, hY, hxv⟩ := yields_late (d := none) (p := undef) hoz (Option.isNone_iff_eq_none.1 hgz) (hwl oz hoz) hselz (fun t ht => by cases ht) hC (h.2 z hzr hzn)
      refine wpAny_first hoz (Region.noSelect_spec hsel) (fun c a w => hQ oz hoz c a _ w) (f + 1 + g) listed a w (fun j oj hj hjz hun' hno => Region.free_spec hoz hfr j oj hj hjz (late_unlisted hzr' hj hun') hno) hzr' hyz ?_
      rw [hxv, show f + 1 + g = f + g + 1 by omega]
      exact ih (listed.setIfInBounds z true) _ w hC (by rw [getD_set_ne true hzm]; exact hm) (by rw [Array.setIfInBounds_comm _ _ hzm]; exact hY)
end

/-- The class: nothing that lay in W has turned. -/
abbrev BW (W : World) : World → Prop := fun w => Below W.heap.size W w
theorem bw_closed (W : World) : ∀ w w', BW W w → BC w w' → BW W w' := fun w w' h k => h.trans ((bc_below k).mono h.size)
def calmB (ops : Array Oper) (n z : Nat) (ks : List Nat) : Bool :=
  lateB .any ops n z && Region.noSelect ops && decide (n < ops.size) && sinkZ .any ops n z && Region.chainB .any ops n && lexIdx .any ops n (ops.size - n) ks (Array.replicate ops.size false) && decide (ks.length + (ops.size - n) = ops.size)

theorem headInv0 {md : Region.Mode} {ops : Array Oper} {n : Nat} : HeadInv md ops n (Array.replicate ops.size false) :=
  ⟨by simp, fun j oj _ hl => (by rw [getD_replicate_false] at hl; cases hl), fun t _ ht => getD_in (by simpa using ht) (getD_replicate_false _ _)⟩

/-- **A head of reads and calls that lay blocks, then a forced tail.** -/
theorem wp_region_calm {P : Program} {id : Nat} {Q : Exit → Act → World → Prop} {a : Act} {w : World} {l : List Oper} (n z : Nat) (ks : List Nat) (hm : P.follows .mixedOrders = true) (hB : calmB l.toArray n z ks = true) (hwl : ∀ oz, l.toArray[z]? = some oz → Worldless P oz) (hQ : ∀ oz, l.toArray[z]? = some oz → ∀ c a v w, Q (.panic c) (Act.put a oz.dst v) w → Q (.panic c) a w)
    (hh : ks.map (fun k => l.toArray[k]?) = (l.take n).map some)
    (h : wpCalm P BC l.toArray (BW w) (fun a' => ∀ w', BW w w' → wpList P l.toArray Q (l.drop n) a' w') (l.take n) a) : (Code.region id l.toArray true).wp P Q a w := by
  simp only [calmB, Bool.and_eq_true, decide_eq_true_eq] at hB
  obtain ⟨⟨⟨⟨⟨⟨hl, hsel⟩, hn⟩, hs⟩, hc⟩, hlex⟩, hlen⟩ := hB
  have hkl : ks.length = (l.take n).length := by simpa using congrArg List.length hh
  have H := calmL_lex (P := P) (R := BC) (C := BW w) hsel hs hc hl hn ks (l.take n) _ a hh headInv0 hlex h
  refine wp_region_any hm ?_
  have R := any_of_calm (P := P) (R := BC) (m := z + 1) (d := none) (p := undef) (Q' := Q) (D := fun _ => True) hsel bc_refl (bw_closed w) (fun _ _ _ _ _ => trivial) hQ hl hwl (by omega) (fun _ _ _ _ _ t ht => by cases ht) (fun listed a' w' hL hX hC _ => by
    have := wpAny_of_seq (md := .any) (Q' := Q) (l.drop n) n listed a' w' (fun j => by simp [List.getElem?_drop]) (by rw [show (l.drop n).length = l.toArray.size - n by simp]; exact hL) (hX w' hC)
    rwa [show (l.drop n).length = l.toArray.size - n by simp] at this) (l.take n).length _ a { w with drawn := w.drawn + 1 } ⟨rfl, rfl, rfl, Nat.le_refl _, fun _ _ => rfl⟩ trivial (.inl rfl) H
  rw [← hkl, hlen] at R
  exact R

def calmB1 (ops : Array Oper) (n z m : Nat) (ks : List Nat) : Bool :=
  lateB .any ops n z && decide (z ≠ m) && (match ops[z]? with | some oz => oz.after.all (fun e => e.on != m) | none => true) && Region.noSelect ops && decide (n < ops.size) && sinkZ .any ops n z && Region.chainB .any ops n && lexIdx .any ops n (ops.size - n) ks ((Array.replicate ops.size false).setIfInBounds m true) && decide (ks.length + (ops.size - n) + 1 = ops.size) &&
  decide (m < n) && Region.waitsFor .any ops n m &&
  (match ops[m]? with
   | some om => om.after.isEmpty && om.guard.isNone && (List.range n).all fun i => i == m || match ops[i]? with
      | some o => om.apart ops o
      | none => true
   | none => false)

/-- **.. with one block made besides, at whatever point.** -/
theorem wp_region_calm1 {P : Program} {id : Nat} {Q : Exit → Act → World → Prop} {a : Act} {w : World} {l : List Oper} (n z m : Nat) (ks : List Nat) {om : Oper} {obj : Obj} (hm : P.follows .mixedOrders = true) (hB : calmB1 l.toArray n z m ks = true) (hwl : ∀ oz, l.toArray[z]? = some oz → Worldless P oz) (hQ : ∀ oz, l.toArray[z]? = some oz → ∀ c a v w, Q (.panic c) (Act.put a oz.dst v) w → Q (.panic c) a w)
    (hh : ks.map (fun k => l.toArray[k]?) = ((l.take n).eraseIdx m).map some) (hom : l.toArray[m]? = some om)
    (halloc : ∀ (a : Act) (w : World), (execOp a.eval om).run P w = .ok (.value (.pointer (some ⟨w.heap.size, 0, none⟩))) (w.alloc obj))
    (h : wpCalm P BC l.toArray (BW w) (fun a' => ∀ b w', BW w w' → w.heap.size ≤ b → w'.heap[b]? = some obj → wpList P l.toArray Q (l.drop n) (a'.put om.dst (.pointer (some ⟨b, 0, none⟩))) w') ((l.take n).eraseIdx m) a) : (Code.region id l.toArray true).wp P Q a w := by
  simp only [calmB1, Bool.and_eq_true, decide_eq_true_eq, hom] at hB
  obtain ⟨⟨⟨⟨⟨⟨⟨⟨⟨⟨⟨hl, hzm⟩, hzd⟩, hsel⟩, hn⟩, hs⟩, hc⟩, hlex⟩, hlen⟩, hmn⟩, hwf⟩, ⟨haf, hgd⟩, hap⟩ := hB
  have hkl : ks.length = ((l.take n).eraseIdx m).length := by simpa using congrArg List.length hh
  have hms : m < l.toArray.size := by omega
  have inv : HeadInv .any l.toArray n ((Array.replicate l.toArray.size false).setIfInBounds m true) :=
    headInv0.set (mem_ready.2 ⟨getD_in (by simpa using hms) (getD_replicate_false _ _), om, hom, fun e he => by simp [Array.isEmpty_iff.1 haf] at he⟩) hmn
  have H := calmL_lex (P := P) (R := BC) (C := BW w) hsel hs hc hl hn ks ((l.take n).eraseIdx m) _ a hh inv hlex h
  refine wp_region_any hm ?_
  have R := any_of_calm0 (P := P) (R := BC) (Q' := Q) (g := l.toArray.size - n) (D := fun b w' => w.heap.size ≤ b ∧ b < w'.heap.size ∧ w'.heap[b]? = some obj) hom (fun e he => by simp [Array.isEmpty_iff.1 haf] at he) (fun y => by
      unfold Region.wanted
      rw [Option.isNone_iff_eq_none.1 hgd]) hwf (by omega) hsel bc_refl (bw_closed w)
    (fun b w1 w2 _ hb k => ⟨hb.1, Nat.lt_of_lt_of_le hb.2.1 (bc_below k).size, ((bc_below k).block b hb.2.1).trans hb.2.2⟩) (fun w1 h => h.trans ((Below.refl _ _).alloc h.size _)) (fun w1 hw1 => ⟨hw1.size, by simp, (MapKept.heap_alloc w1 obj).1⟩) hQ hl hwl hzm (fun oz hoz e he => by
      rw [hoz] at hzd
      simpa using Array.all_eq_true_iff_forall_mem.1 hzd e he) halloc
    (fun i o ho hin him t ht => by
      have := List.all_eq_true.1 hap i (List.mem_range.2 hin)
      rw [ho] at this
      simp only [Bool.or_eq_true, beq_iff_eq, him, false_or] at this
      obtain ⟨h1, h2, _⟩ := Oper.apart_spec this
      exact ⟨h1 t ht, h2 t ht⟩)
    (fun b listed a' w' hL hX hC hD => by
      have := wpAny_of_seq (md := .any) (Q' := Q) (l.drop n) n listed (a'.put om.dst (.pointer (some ⟨b, 0, none⟩))) w' (fun j => by simp [List.getElem?_drop]) (by rw [show (l.drop n).length = l.toArray.size - n by simp]; exact hL) (hX b w' hC hD.1 hD.2.2)
      rwa [show (l.drop n).length = l.toArray.size - n by simp] at this) ((l.take n).eraseIdx m).length _ a { w with drawn := w.drawn + 1 } ⟨rfl, rfl, rfl, Nat.le_refl _, fun _ _ => rfl⟩ (getD_in (by simpa using hms) (getD_replicate_false _ _)) H
  rw [← hkl, hlen] at R
  exact R

/-! ### Operations that look at no world -/
/-! ### The steps of the walk -/
section
variable {P : Program} {ops : Array Oper} {C : World → Prop} {R : World → World → Prop} {X : Act → Prop} {a : Act} {o : Oper} {rest : List Oper}
theorem wpCalm_nil (h : X a) : wpCalm P R ops C X [] a := h
theorem wpCalm_want {aN : Act} (hw : Region.wanted o (yielded ops a.tmps) = true) (hR : ∀ w, R w w) (hne : ∃ w, C w) (h : ∀ w, C w → ∀ K : Act → Prop, K aN → o.quiet P a (R w) K) (hr : wpCalm P R ops C X rest aN) : wpCalm P R ops C X (o :: rest) a := by
  obtain ⟨w1, hw1⟩ := hne
  obtain ⟨v0, _, hN⟩ := h w1 hw1 (fun a' => a' = aN) rfl
  unfold wpCalm
  rw [if_pos hw]
  exact ⟨v0, fun w hw => by
    obtain ⟨v, hv, hK⟩ := h w hw (fun a' => a' = aN) rfl
    exact ⟨v, hv w (hR w), by rw [hK, hN]⟩, by rw [hN]; exact hr⟩
theorem wpCalm_skip (hw : Region.wanted o (yielded ops a.tmps) = false) (h : wpCalm P R ops C X rest (a.put o.dst undef)) : wpCalm P R ops C X (o :: rest) a := by
  unfold wpCalm
  rw [if_neg (by rw [hw]; exact Bool.false_ne_true)]
  exact h
end
end Go.Proofs.Ytgbnjjgnihjfgaa
end

section
set_option linter.unusedVariables false
set_option linter.unusedSimpArgs false
namespace Go.Proofs.Ytgbnjjgnihjfgaa
open Go.RowKit Go.Sort Go.ChangeMaps Go.MapKept

theorem below_row {B g : Nat} {w0 w : World} (h : Below B w0 w) (hg : B ≤ g) (cs : Array Value) : Below B w0 (w.setRow g cs) :=
  ⟨h.os, h.tape, h.output, by simpa using h.size, fun k hk => (setRow_other w g k cs (by omega)).trans (h.block k hk)⟩
structure RowAt (w : World) (b : Nat) (r : MRow) : Prop where
  c0 : w.cell? ⟨b, 0, none⟩ = some (.int .i64 r.t)
  c1 : w.cell? ⟨b, 1, none⟩ = some (.int .i64 r.k)
  c2 : w.cell? ⟨b, 2, none⟩ = some (.int .i64 r.v.a)
  c3 : w.cell? ⟨b, 3, none⟩ = some (.int .i64 r.v.b)
  c4 : w.cell? ⟨b, 4, none⟩ = some (.int .i64 r.v.c)
theorem rowAt_of {w : World} {b t : Nat} {r : MRow} (h : w.heap[b]? = some (.cells #[.int .i64 r.t, .int .i64 r.k, .int .i64 r.v.a, .int .i64 r.v.b, .int .i64 r.v.c] t (0, 0))) : RowAt w b r :=
  ⟨by simp [World.cell?, h], by simp [World.cell?, h], by simp [World.cell?, h], by simp [World.cell?, h], by simp [World.cell?, h]⟩

end Go.Proofs.Ytgbnjjgnihjfgaa
end

section
set_option linter.unusedVariables false
set_option linter.unusedSimpArgs false
namespace Go.Proofs.Ytgbnjjgnihjfgaa
open Go.RowKit Go.Sort Go.ChangeMaps Go.MapKept

section
variable {w : World} {ops : Array Oper} {rest : List Oper} {o : Oper} {a : Act} {Q : Exit → Act → World → Prop}
end

theorem Kept.cell {F : Nat → Prop} {W W' : World} (h : Kept F W W') {p : Addr} (hp : p.block < W.heap.size) (hf : ¬ F p.block) : W'.cell? p = W.cell? p := World.cell?_of_block (w := W) (h.block p.block hp hf)
theorem ChAt.kept {F : Nat → Prop} {W W' : World} {b o : Nat} {c : MCh} (h : ChAt W b o c) (k : Kept F W W') (hb : b < W.heap.size) (hf : ¬ F b) : ChAt W' b o c := fun j hj => (k.cell (p := ⟨b, o + j, none⟩) hb hf).trans (h j hj)

end Go.Proofs.Ytgbnjjgnihjfgaa
end

section
set_option linter.unusedVariables false
set_option linter.unusedSimpArgs false
namespace Go.Proofs.Ytgbnjjgnihjfgaa
open Go.RowKit Go.Sort Go.ChangeMaps Go.MapKept

theorem mem_getD {α : Type} {l : List α} {x : α} (d : α) (h : x ∈ l) : ∃ i, i < l.length ∧ l.getD i d = x := by
  obtain ⟨i, hi, e⟩ := List.getElem_of_mem h
  exact ⟨i, hi, by rw [List.getD_eq_getElem?_getD, List.getElem?_eq_getElem hi, Option.getD_some, e]⟩
theorem vrec_mem {p : Int} {cs : List MCh} (h : VRec p cs) : ∀ c ∈ cs, VCh c := by
  intro c hc
  obtain ⟨i, hi, rfl⟩ := mem_getD chZ hc
  exact (h.2.2 i hi).1
theorem prec_trans {a b c : MCh} (h : Prec a b) (k : Prec b c) : Prec a c := by unfold Prec at *; omega
theorem prec_lt {p : Int} {cs : List MCh} (h : VRec p cs) : ∀ j i, i < j → j < cs.length → Prec (cs.getD i chZ) (cs.getD j chZ) := by
  intro j
  induction j with
  | zero => intro i hi; omega
  | succ j ih =>
    intro i hi hj
    have h1 := (h.2.2 (j + 1) hj).2 (by omega)
    rw [Nat.add_sub_cancel] at h1
    rcases Nat.lt_or_ge i j with h2 | h2
    · exact prec_trans (ih i h2 (by omega)) h1
    · obtain rfl : i = j := by omega
      exact h1
theorem vrec_apart {p : Int} {cs : List MCh} (h : VRec p cs) : Apart cs := by
  unfold Apart
  rw [List.pairwise_iff_getElem]
  intro i j hi hj hij
  have := prec_lt h j i hij hj
  rw [List.getD_eq_getElem?_getD, List.getElem?_eq_getElem hi, List.getD_eq_getElem?_getD, List.getElem?_eq_getElem hj] at this
  simp only [Option.getD_some] at this
  unfold Prec at this
  unfold keyNe
  omega

/-- The record can be applied. -/
def Okay (L : List MRow) (p pos : Int) (cs : List MCh) : Prop := VRec pos cs ∧ pos = p + 1 ∧ Fits L cs ∧ cnt L.length cs ≤ 2000
instance (L : List MRow) (p pos : Int) (cs : List MCh) : Decidable (Okay L p pos cs) := by unfold Okay; infer_instance

theorem rows_step {L : List MRow} (h : ∀ r ∈ L, VRow r) {c : MCh} (hc : VCh c) : ∀ r ∈ stepC L c, VRow r := by
  intro r hr
  rcases mem_step.1 hr with h1 | ⟨h1, rfl⟩
  · exact h r h1.1
  · exact hc.2.2.2.1 h1
theorem rows_all {cs : List MCh} : ∀ {L : List MRow}, (∀ r ∈ L, VRow r) → (∀ c ∈ cs, VCh c) → ∀ r ∈ stepAll L cs, VRow r := by
  induction cs with
  | nil => intro L h _; exact h
  | cons c cs ih => intro L h hc; exact ih (rows_step h (hc c (by simp))) (fun d hd => hc d (by simp [hd]))
theorem good_all {L : List MRow} {p pos : Int} {cs : List MCh} (h : GoodL L) (ho : Okay L p pos cs) : GoodL (stepAll L cs) := by
  refine ⟨srt_all h.1 cs, rows_all h.2.1 (vrec_mem ho.1), ?_⟩
  have := length_all h.1 (vrec_apart ho.1) ho.2.2.1
  have h2 := ho.2.2.2
  omega

/-! ### Logs -/
def recZ : MRec := ⟨0, []⟩
/-- The rows behind a log. -/
def rowsOf (R : List MRec) : List MRow := R.foldl (fun L r => stepAll L r.chs) []
/-- The records can be applied one after the other. -/
def Chn (R : List MRec) : Prop := ∀ i, i < R.length → Okay (rowsOf (R.take i)) i (R.getD i recZ).pos (R.getD i recZ).chs
theorem rowsOf_snoc (R : List MRec) (r : MRec) : rowsOf (R ++ [r]) = stepAll (rowsOf R) r.chs := by simp [rowsOf, List.foldl_append]
theorem take_snoc' {α : Type} {l : List α} {d : α} {i : Nat} (h : i < l.length) : l.take (i + 1) = l.take i ++ [l.getD i d] := by
  rw [List.take_succ_eq_append_getElem h, List.getD_eq_getElem?_getD, List.getElem?_eq_getElem h, Option.getD_some]
theorem rowsOf_succ {R : List MRec} {i : Nat} (h : i < R.length) : rowsOf (R.take (i + 1)) = stepAll (rowsOf (R.take i)) (R.getD i recZ).chs := by rw [take_snoc' (d := recZ) h, rowsOf_snoc]
theorem Chn.good {R : List MRec} (h : Chn R) : ∀ i, i ≤ R.length → GoodL (rowsOf (R.take i)) := by
  intro i
  induction i with
  | zero => intro _; simpa [rowsOf] using goodL_nil
  | succ i ih =>
    intro hi
    rw [rowsOf_succ hi]
    exact good_all (ih (by omega)) (h i hi)
theorem Chn.nil : Chn [] := fun i hi => by simp at hi
theorem Chn.take {R : List MRec} (h : Chn R) (n : Nat) : Chn (R.take n) := fun i hi => by
  rw [List.length_take] at hi
  have := h i (by omega)
  rw [List.take_take, Nat.min_eq_left (by omega)]
  rw [List.getD_eq_getElem?_getD, List.getElem?_take_of_lt (by omega), ← List.getD_eq_getElem?_getD]
  exact this
end Go.Proofs.Ytgbnjjgnihjfgaa
end

section
set_option linter.unusedVariables false
set_option linter.unusedSimpArgs false
namespace Go.Proofs.Ytgbnjjgnihjfgaa
open Go.RowKit Go.Sort Go.ChangeMaps Go.MapKept

end Go.Proofs.Ytgbnjjgnihjfgaa
end

section
set_option linter.unusedVariables false
set_option linter.unusedSimpArgs false
namespace Go.Proofs.Ytgbnjjgnihjfgaa
open Go.RowKit Go.Sort Go.ChangeMaps Go.MapKept

end Go.Proofs.Ytgbnjjgnihjfgaa
end
end

section
namespace Go.Proofs
open Go.Shelf
def Try.laysCmp_ren : Go.Shelf.Ren := ⟨fun | 5 => 146 | 7 => 166 | n => n, fun | 22 => 3 | 3 => 3 | 4 => 4 | n => n, fun | n => n⟩
theorem Try.laysCmp : Go.Proofs.SlLaysC2.n5 Try.prog Try.laysCmp_ren := {
  mixed := by kernel_rfl
  f5 := ⟨Try.f146.name, by decide, Try.func146.trans (congrArg some (by kernel_rfl))⟩
  f7 := ⟨Try.f166.name, by decide, Try.func166.trans (congrArg some (by kernel_rfl))⟩
  t3 := Try.underlying3
  a3 := Try.isAgg3
  z3 := Try.sizeOf3
  v3 := Try.zeroValue3
  t4 := Try.underlying4
  a4 := Try.isAgg4
  z4 := Try.sizeOf4
  v4 := Try.zeroValue4
  t22 := Try.underlying3
  a22 := Try.isAgg3
  z22 := Try.sizeOf3
  v22 := Try.zeroValue3 }
open Go.Lib in
/-- cmp.Compare at int. -/
theorem Try.cmp_Compare_int (x y : Int) (w : World) :
    Calls Try.prog 146 #[.int .i64 x, .int .i64 y] w fun e w' => e = .returned (.int .i64 (Lib.compareInt x y)) ∧ w' = w := AnyG.cmp_Compare_int Try.laysCmp x y w
end Go.Proofs
end
