/- MERGED: K1, Q1, K2, K3, S3, K4, K5. -/
import Derived.Test.YtgbnjjgnihjfgaaGreatProg
import Derived.WalkKit
import Derived.Below
import Derived.Lib.Hide
import Derived.Laws.StructEq
import Derived.Lib.QuietBelow
import Derived.Deep.RegionHeld3
import Derived.Deep.RegionWith
import Derived.IntWalk
import Derived.BigQuiet
import Derived.Maps.RangeWalk
import Derived.DeepKeys4
import Derived.OneCell
import Derived.StillTail
import Derived.Deep.CutRange
import Derived.Outline
import Derived.WalkSpells
import Derived.Carry
import Derived.Test.YtgbnjjgnihjfgaaGreatBAA
section
set_option linter.unusedVariables false
set_option linter.unusedSimpArgs false
namespace Go.Proofs.YtgbnjjgnihjfgaaGreat
open Go.RowKit Go.Sort Go.ChangeMaps Go.MapKept

/-- W' is W but for the blocks of F; blocks may have been laid. -/
structure Kept (F : Nat → Prop) (W W' : World) : Prop where
  os : W'.os = W.os
  tape : W'.tape = W.tape
  output : W'.output = W.output
  size : W.heap.size ≤ W'.heap.size
  block : ∀ k, k < W.heap.size → ¬ F k → W'.heap[k]? = W.heap[k]?
theorem Kept.of_below {F : Nat → Prop} {W W' : World} (h : Below W.heap.size W W') : Kept F W W' := ⟨h.os, h.tape, h.output, h.size, fun k hk _ => h.block k hk⟩
theorem Kept.refl (F : Nat → Prop) (W : World) : Kept F W W := ⟨rfl, rfl, rfl, Nat.le_refl _, fun _ _ _ => rfl⟩
theorem Kept.below {F : Nat → Prop} {W W' : World} (h : Kept F W W') {n : Nat} (hn : n ≤ W.heap.size) (hF : ∀ k, F k → n ≤ k) : Below n W W' :=
  ⟨h.os, h.tape, h.output, h.size, fun k hk => h.block k (by omega) (fun f => by have := hF k f; omega)⟩
theorem Kept.trans {F G : Nat → Prop} {A B C : World} (h : Kept F A B) (k : Kept G B C) (hG : ∀ i, i < A.heap.size → G i → F i) : Kept F A C :=
  ⟨k.os.trans h.os, k.tape.trans h.tape, k.output.trans h.output, Nat.le_trans h.size k.size, fun i hi hf => (k.block i (Nat.lt_of_lt_of_le hi h.size) (fun g => hf (hG i hi g))).trans (h.block i hi hf)⟩
theorem Kept.then {F : Nat → Prop} {A B C : World} (h : Kept F A B) (k : Below B.heap.size B C) : Kept F A C := h.trans (Kept.of_below (F := F) k) (fun _ _ f => f)
theorem Kept.setCell {F : Nat → Prop} {A B : World} (h : Kept F A B) {p : Addr} (hp : F p.block ∨ A.heap.size ≤ p.block) (u : Value) : Kept F A (B.setCell p u) :=
  ⟨h.os, h.tape, h.output, by have := h.size; simpa using this, fun k hk hf => by
    rw [Below.heap_setCell _ _ _ _ (fun e => by
      rcases hp with hp | hp
      · exact hf (e ▸ hp)
      · omega)]
    exact h.block k hk hf⟩
theorem Turned.kept {W W' : World} {b : Nat} (h : Turned W W' b) : Kept (fun k => k = b) W W' := by
  obtain ⟨es, clock, es', clock', hb, rfl⟩ := h
  exact ⟨rfl, rfl, rfl, by simp [setBlock], fun i _ hi => heap_setBlock_other hb _ hi⟩

/-- The map's block, or none yet. -/
def MapIs (W : World) : Option Nat → List MRow → Prop
  | none, L => L = []
  | some b, L => StMap W b L
def GoodL (L : List MRow) : Prop := Srt L ∧ (∀ r ∈ L, VRow r) ∧ L.length ≤ 2000
/-- Block b is a state with the rows of L at position p; its map is m. -/
structure StAt (W : World) (b : Nat) (m : Option Nat) (L : List MRow) (p : Int) : Prop where
  blk : W.heap[b]? = some (.cells #[.map m, .int .i64 p] 80 (0, 0))
  mp : MapIs W m L
  good : GoodL L
  pos : 0 ≤ p ∧ p ≤ 10000
def foot (b : Nat) (m : Option Nat) : Nat → Prop := fun k => k = b ∨ m = some k

theorem MapIs.kept {W W' : World} {F : Nat → Prop} {m : Option Nat} {L : List MRow} (h : MapIs W m L) (k : Kept F W W') (hF : ∀ i, m = some i → ¬ F i) : MapIs W' m L := by
  cases m with
  | none => exact h
  | some b => exact StMap.of_block h (k.block b h.lt (hF b rfl))
theorem StAt.lt {W : World} {b : Nat} {m : Option Nat} {L : List MRow} {p : Int} (h : StAt W b m L p) : b < W.heap.size := lt_of_block h.blk
theorem StAt.mlt {W : World} {b : Nat} {m : Option Nat} {L : List MRow} {p : Int} (h : StAt W b m L p) {i : Nat} (e : m = some i) : i < W.heap.size := by
  have := h.mp
  rw [e] at this
  exact StMap.lt this
theorem StAt.ne {W : World} {b : Nat} {m : Option Nat} {L : List MRow} {p : Int} (h : StAt W b m L p) : m ≠ some b := by
  intro e
  have := h.mp
  rw [e] at this
  obtain ⟨es, clock, hb, _⟩ := this
  have h1 := h.blk
  rw [hb] at h1
  cases h1
theorem StAt.kept {W W' : World} {F : Nat → Prop} {b : Nat} {m : Option Nat} {L : List MRow} {p : Int} (h : StAt W b m L p) (k : Kept F W W') (hF : ∀ i, foot b m i → ¬ F i) : StAt W' b m L p :=
  ⟨(k.block b h.lt (hF b (.inl rfl))).trans h.blk, h.mp.kept k (fun i e => hF i (.inr e)), h.good, h.pos⟩
theorem StAt.below {W W' : World} {b : Nat} {m : Option Nat} {L : List MRow} {p : Int} (h : StAt W b m L p) (k : Below W.heap.size W W') : StAt W' b m L p := h.kept (F := fun _ => False) (Kept.of_below k) (fun _ _ => id)
theorem StAt.cells {W : World} {b : Nat} {m : Option Nat} {L : List MRow} {p : Int} (h : StAt W b m L p) : W.cell? ⟨b, 0, none⟩ = some (.map m) ∧ W.cell? ⟨b, 1, none⟩ = some (.int .i64 p) ∧ W.frozen? ⟨b, 0, none⟩ = false ∧ W.frozen? ⟨b, 1, none⟩ = false :=
  ⟨by simp [World.cell?, h.blk], by simp [World.cell?, h.blk], by simp [World.frozen?, h.blk], by simp [World.frozen?, h.blk]⟩
theorem two_setCell0 {w : World} {b : Nat} {v u x : Value} {t : TypeId} (h : w.heap[b]? = some (.cells #[v, x] t (0, 0))) : (w.setCell ⟨b, 0, none⟩ u).heap[b]? = some (.cells #[u, x] t (0, 0)) := by
  have hlt := lt_of_block h
  have h' : w.heap[b] = .cells #[v, x] t (0, 0) := by simpa [Array.getElem?_eq_getElem hlt] using h
  show (w.heap.modify b _)[b]? = _
  rw [Array.getElem?_eq_getElem (by simpa using hlt), Array.getElem_modify_self, h']
  rfl
theorem two_setCell1 {w : World} {b : Nat} {v u x : Value} {t : TypeId} (h : w.heap[b]? = some (.cells #[v, x] t (0, 0))) : (w.setCell ⟨b, 1, none⟩ u).heap[b]? = some (.cells #[v, u] t (0, 0)) := by
  have hlt := lt_of_block h
  have h' : w.heap[b] = .cells #[v, x] t (0, 0) := by simpa [Array.getElem?_eq_getElem hlt] using h
  show (w.heap.modify b _)[b]? = _
  rw [Array.getElem?_eq_getElem (by simpa using hlt), Array.getElem_modify_self, h']
  rfl

theorem MapIs.look {W : World} {m : Option Nat} {L : List MRow} (h : MapIs W m L) {t k : Int} (ht : I64 t) (hk : I64 k) :
    (Instr.lookup 76 (.map m) (plV t k) true).run Tryz.prog W = .ok (.tuple #[rowV ((YtgbnjjgnihjfgaaGreat.look L t k).getD rowZ), .bool (YtgbnjjgnihjfgaaGreat.look L t k).isSome]) W := by
  cases m with
  | none =>
    have h' : L = [] := h
    subst h'
    exact look_nilmap W ht hk
  | some b => exact StMap.look h ht hk
theorem MapIs.len {W : World} {m : Option Nat} {L : List MRow} (h : MapIs W m L) (ty : TypeId) : (Builtin.len_ #[76] ty #[.map m]).run Tryz.prog W = .ok (.int .i64 L.length) W := by
  cases m with
  | none =>
    have h' : L = [] := h
    subst h'
    exact Maps.len_nil Tryz.underlying76 ty
  | some b => exact StMap.len h ty
theorem VRow.i64 {r : MRow} (h : VRow r) : I64 r.t ∧ I64 r.k := by
  obtain ⟨h1, h2, _⟩ := h
  unfold I64
  omega
theorem goodL_nil : GoodL [] := ⟨List.Pairwise.nil, by simp, by simp⟩

/-! ### Small functions -/
set_option maxRecDepth 100000 in
theorem new_any (W : World) : Calls Tryz.prog 13 #[] W fun e w' => e = .returned (.pointer (some ⟨W.heap.size, 0, none⟩)) ∧ w' = W.alloc (.cells #[.map none, .int .i64 0] 80) := by
  go_enter Tryz.func13, Tryz.ntmps13
  go_wp2
  go_ret
  exact ⟨rfl, rfl⟩
theorem stAt_new (W : World) : StAt (W.alloc (.cells #[.map none, .int .i64 0] 80)) W.heap.size none [] 0 :=
  ⟨by rw [(MapKept.heap_alloc W _).1], rfl, goodL_nil, by omega⟩

set_option maxRecDepth 100000 in
set_option maxHeartbeats 1000000 in
theorem placeOf_any (c : MCh) (W : World) : Calls Tryz.prog 80 #[chV c] W fun e w' => e = .returned (plV c.t c.k) ∧ Below W.heap.size W w' := by
  obtain ⟨t, k, had, ⟨oa, ob, oc⟩, has, ⟨na, nb, nc⟩⟩ := c
  unfold chV plV
  go_enter Tryz.func80, Tryz.ntmps80
  go_wp2
  refine bodyPost_ret (v := .agg #[.int .i64 t, .int .i64 k]) (by simp [results, Tryz.results80, go_sem]) rfl ⟨rfl, ?_⟩
  exact ((Below.refl _ W).alloc (Nat.le_refl _) _).alloc (by simp) _

end Go.Proofs.YtgbnjjgnihjfgaaGreat
end

section
set_option linter.unusedVariables false
set_option linter.unusedSimpArgs false
namespace Go.Proofs.YtgbnjjgnihjfgaaGreat
open Go.RowKit Go.Sort

/-- w with blocks laid behind it. -/
abbrev BC (w : World) : World → Prop := fun w' => ∃ p : Regrown, w' = grow (redrawn w p.d) p.os
theorem bc_below {w w' : World} (h : BC w w') : Below w.heap.size w w' := by
  obtain ⟨p, rfl⟩ := h
  exact below_regrown w p.d p.os
theorem bc_refl (w : World) : BC w w := ⟨⟨w.drawn, #[]⟩, by rw [grow_empty]; rfl⟩

section
variable {P : Program} {ops : Array Oper} {md : Region.Mode} {C : World → Prop} {R : World → World → Prop}

theorem put_inj {a : Act} {e d : Option Tmp} {x y v : Value} (hne : ∀ i, d = some i → e ≠ some i) (h : (a.put e x).put d v = (a.put e y).put d v) : a.put e x = a.put e y := by
  cases d with
  | none => exact h
  | some d =>
    cases e with
    | none => rfl
    | some e =>
      have hde : d ≠ e := fun q => hne d rfl (by rw [q])
      obtain ⟨t, df⟩ := a
      simp only [Act.put, Act.mk.injEq, and_true] at h ⊢
      refine Array.ext_getElem? fun i => ?_
      have hi : (t.setIfInBounds e x |>.setIfInBounds d v)[i]? = (t.setIfInBounds e y |>.setIfInBounds d v)[i]? := by rw [h]
      by_cases hid : i = d
      · rw [hid, Array.getElem?_setIfInBounds_ne (Ne.symm hde), Array.getElem?_setIfInBounds_ne (Ne.symm hde)]
      · rwa [Array.getElem?_setIfInBounds_ne (Ne.symm hid), Array.getElem?_setIfInBounds_ne (Ne.symm hid)] at hi

/-- In every world of C the operation yields one value and turns nothing. -/
def Gives (P : Program) (R : World → World → Prop) (C : World → Prop) (o : Oper) (v0 : Value) (a : Act) : Prop := ∀ w, C w → ∃ v, o.quietAt P a (R w) w v ∧ a.put o.dst v = a.put o.dst v0
def calm (P : Program) (R : World → World → Prop) (C : World → Prop) (o : Oper) (a : Act) (X : Act → Prop) : Prop := ∃ v0, Gives P R C o v0 a ∧ X (a.put o.dst v0)
def calmOp (P : Program) (R : World → World → Prop) (ops : Array Oper) (C : World → Prop) (i : Nat) (X : Act → Prop) (a : Act) : Prop :=
  match ops[i]? with
  | none => X a
  | some o => if Region.wanted o (yielded ops a.tmps) then calm P R C o a X else X (a.put o.dst undef)
def YC (P : Program) (R : World → World → Prop) (ops : Array Oper) (C : World → Prop) (o : Oper) (v0 : Value) (a : Act) : Prop :=
  (Region.wanted o (yielded ops a.tmps) = true ∧ Gives P R C o v0 a) ∨ (Region.wanted o (yielded ops a.tmps) = false ∧ v0 = undef)

theorem calmOp_mono {i : Nat} {a : Act} {X Y : Act → Prop} (h : ∀ a, X a → Y a) (hh : calmOp P R ops C i X a) : calmOp P R ops C i Y a := by
  unfold calmOp at *
  cases ho : ops[i]? with
  | none => rw [ho] at hh; exact h _ hh
  | some o =>
    rw [ho] at hh
    simp only at hh ⊢
    split
    · rename_i hw
      rw [if_pos hw] at hh
      obtain ⟨v, h1, h2⟩ := hh
      exact ⟨v, h1, h _ h2⟩
    · rename_i hw
      rw [if_neg hw] at hh
      exact h _ hh
theorem YC.op {i : Nat} {o : Oper} {v : Value} {a : Act} {X : Act → Prop} (hi : ops[i]? = some o) (hy : YC P R ops C o v a) (h : X (a.put o.dst v)) : calmOp P R ops C i X a := by
  unfold calmOp
  rw [hi]
  simp only
  rcases hy with ⟨hw, hg⟩ | ⟨hw, rfl⟩
  · rw [if_pos hw]; exact ⟨v, hg, h⟩
  · rw [if_neg (by rw [hw]; exact Bool.false_ne_true)]; exact h
theorem yc_of_op {i : Nat} {o : Oper} {a : Act} {X : Act → Prop} (hi : ops[i]? = some o) (h : calmOp P R ops C i X a) : ∃ v, YC P R ops C o v a ∧ X (a.put o.dst v) := by
  unfold calmOp at h
  rw [hi] at h
  simp only at h
  by_cases hw : Region.wanted o (yielded ops a.tmps) = true
  · rw [if_pos hw] at h
    obtain ⟨v, h1, h2⟩ := h
    exact ⟨v, .inl ⟨hw, h1⟩, h2⟩
  · rw [if_neg hw] at h
    exact ⟨undef, .inr ⟨by simpa using hw, rfl⟩, h⟩
theorem gives_put {o : Oper} {v u : Value} {a : Act} {e : Option Tmp} (hs : ∀ cs b, o.op ≠ .select cs b) (h1 : ∀ d, e = some d → d ∉ o.looksAt ops) (h2 : ∀ d, e = some d → o.dst ≠ some d) (h : Gives P R C o v a) : Gives P R C o v (a.put e u) := fun w hw => by
  obtain ⟨x, q, hx⟩ := h w hw
  refine ⟨x, ?_, ?_⟩
  · unfold Oper.quietAt at *
    rwa [execOp_put o hs a e u h1]
  · rw [Act.put_comm a u x h2, Act.put_comm a u v h2, hx]
theorem YC.put {o : Oper} {v u : Value} {a : Act} {e : Option Tmp} (hs : ∀ cs b, o.op ≠ .select cs b) (h1 : ∀ d, e = some d → d ∉ o.looksAt ops) (h2 : ∀ d, e = some d → o.dst ≠ some d) (h : YC P R ops C o v a) : YC P R ops C o v (a.put e u) := by
  unfold YC at *
  rw [wanted_put o a e u h1]
  exact h.imp (fun h => ⟨h.1, gives_put hs h1 h2 h.2⟩) id
theorem calmOp_put {j : Nat} {oi oj : Oper} {v : Value} (hj : ops[j]? = some oj) (hap : oi.apart ops oj = true) (hsi : ∀ cs b, oi.op ≠ .select cs b) (hsj : ∀ cs b, oj.op ≠ .select cs b) {X : Act → Prop} {a : Act}
    (hy : YC P R ops C oi v a) (h : calmOp P R ops C j X (a.put oi.dst v)) : calmOp P R ops C j (fun a' => YC P R ops C oi v a' ∧ X (a'.put oi.dst v)) a := by
  obtain ⟨h1, h2, h3⟩ := Oper.apart_spec hap
  have h2' : ∀ d, oj.dst = some d → oi.dst ≠ some d := fun d e1 e2 => h2 d e2 e1
  unfold calmOp at *
  rw [hj] at h ⊢
  simp only at h ⊢
  rw [wanted_put oj a oi.dst v h1] at h
  split
  · rename_i hw
    rw [if_pos hw] at h
    obtain ⟨u, hu, hn⟩ := h
    refine ⟨u, fun w hw => ?_, hy.put hsi h3 h2', by rw [← Act.put_comm a v u h2]; exact hn⟩
    obtain ⟨x, q, hx⟩ := hu w hw
    refine ⟨x, ?_, ?_⟩
    · unfold Oper.quietAt at *
      rwa [execOp_put oj hsj a oi.dst v h1] at q
    · refine put_inj (d := oi.dst) (v := v) (fun i e1 e2 => h2 i e1 e2) ?_
      rw [← Act.put_comm a v x h2, ← Act.put_comm a v u h2, hx]
  · rename_i hw
    rw [if_neg hw] at h
    exact ⟨hy.put hsi h3 h2', by rw [← Act.put_comm a v undef h2]; exact h⟩

/-- As 'sinkB', with one operation z left out: it may come late. -/
def sinkZ (md : Region.Mode) (ops : Array Oper) (n z : Nat) : Bool :=
  (List.range n).all fun i => i == z || (List.range (n + 1)).any fun j => decide (i < j) && decide (j ≠ z) && Region.waitsFor md ops j i
def lateB (md : Region.Mode) (ops : Array Oper) (n z : Nat) : Bool :=
  match ops[z]? with
  | none => true
  | some oz => decide (z < n) && oz.guard.isNone && (oz.after.all fun e => !Region.binds md e || Region.waitsFor md ops n e.on) && Region.free md ops ((Array.range ops.size).map fun j => Region.waitsFor md ops z j) z

theorem late_unlisted {md : Region.Mode} {ops : Array Oper} {z j : Nat} {oj : Oper} {listed : Array Bool} (hz : z ∈ Region.ready md ops listed) (hj : ops[j]? = some oj) (hun : listed.getD j true = false) : ((Array.range ops.size).map fun j => Region.waitsFor md ops z j).getD j true = false := by
  have hjs : j < ops.size := (Array.getElem?_eq_some_iff.1 hj).1
  have e : ((Array.range ops.size).map fun j => Region.waitsFor md ops z j).getD j true = Region.waitsFor md ops z j := by simp [hjs]
  rw [e]
  cases h : Region.waitsFor md ops z j with
  | false => rfl
  | true =>
    obtain ⟨o', ho', e', he', hb, hon⟩ := Region.waitsFor_spec h
    obtain ⟨_, o, ho, hall⟩ := mem_ready.1 hz
    obtain rfl : o' = o := Option.some.inj (ho'.symm.trans ho)
    have := hall e' he' hb
    rw [hon, getD_both hun] at this
    cases this

theorem waits_off {md : Region.Mode} {ops : Array Oper} {n z : Nat} {listed : Array Bool} (hs : sinkZ md ops n z = true) (inv : HeadInv md ops n listed) :
    ∀ (d i : Nat), n - i = d → i < n → i ≠ z → listed.getD i true = false → n ∉ Region.ready md ops listed := by
  intro d
  induction d using Nat.strongRecOn with
  | _ d ih =>
    intro i hd hi hz hun hr
    have h1 := List.all_eq_true.1 hs i (List.mem_range.2 hi)
    simp only [Bool.or_eq_true, beq_iff_eq, hz, false_or] at h1
    obtain ⟨j, hj, hj2⟩ := List.any_eq_true.1 h1
    simp only [Bool.and_eq_true, decide_eq_true_eq] at hj2
    obtain ⟨⟨hij, hjz⟩, hjw⟩ := hj2
    obtain ⟨oj, hoj, e, he, hb, hon⟩ := Region.waitsFor_spec hjw
    have hjle : j ≤ n := by have := List.mem_range.1 hj; omega
    by_cases hjn : j = n
    · obtain ⟨_, o, ho, hall⟩ := mem_ready.1 hr
      subst hjn
      obtain rfl : oj = o := Option.some.inj (hoj.symm.trans ho)
      have h2 := hall e he hb
      rw [hon, getD_both hun] at h2
      cases h2
    · cases hl : listed.getD j false with
      | true =>
        have h2 := inv.closed j oj hoj hl e he hb
        rw [hon, getD_both hun] at h2
        cases h2
      | false =>
        have hjs : j < listed.size := by rw [inv.size]; exact (Array.getElem?_eq_some_iff.1 hoj).1
        exact ih (n - j) (by omega) j rfl (by omega) hjz (getD_in hjs hl) hr
theorem heads_or_late {md : Region.Mode} {ops : Array Oper} {n z : Nat} {listed : Array Bool} (hs : sinkZ md ops n z = true) (hc : Region.chainB md ops n = true) (hz : lateB md ops n z = true) (hn : n < ops.size) (inv : HeadInv md ops n listed)
    {i : Nat} (hi : i < n) (hun : listed.getD i true = false) : (∀ t ∈ Region.ready md ops listed, t < n) ∨ z ∈ Region.ready md ops listed := by
  by_cases hall : ∀ t ∈ Region.ready md ops listed, t < n
  · exact .inl hall
  refine .inr ?_
  obtain ⟨t, ht⟩ := Classical.not_forall.1 hall
  obtain ⟨hr, htn⟩ := Classical.not_imp.1 ht
  have htlt : t < ops.size := by
    obtain ⟨_, o, ho, _⟩ := mem_ready.1 hr
    exact (Array.getElem?_eq_some_iff.1 ho).1
  obtain rfl : t = n := by
    have h1 := List.all_eq_true.1 hc t (List.mem_range.2 htlt)
    simp only [Bool.or_eq_true, decide_eq_true_eq] at h1
    rcases h1 with h1 | h1
    · omega
    · by_cases hq : t = n
      · exact hq
      obtain ⟨o', ho', e, he, hb, hon⟩ := Region.waitsFor_spec h1
      obtain ⟨_, o, ho, hall⟩ := mem_ready.1 hr
      obtain rfl : o' = o := Option.some.inj (ho'.symm.trans ho)
      have h2 := hall e he hb
      rw [hon, getD_both (inv.tail (t - 1) (by omega) (by omega))] at h2
      cases h2
  obtain ⟨_, on, hon, hall⟩ := mem_ready.1 hr
  unfold lateB at hz
  by_cases hiz : i = z
  · subst hiz
    cases ho : ops[i]? with
    | none => exact absurd (Array.getElem?_eq_none_iff.1 ho) (by omega)
    | some oz =>
      rw [ho] at hz
      simp only [Bool.and_eq_true, decide_eq_true_eq] at hz
      refine mem_ready.2 ⟨hun, oz, ho, fun e he hb => ?_⟩
      have h1 := Array.all_eq_true_iff_forall_mem.1 hz.1.2 e he
      simp only [hb, Bool.not_true, Bool.false_or] at h1
      obtain ⟨o', ho', e', he', hb', hon'⟩ := Region.waitsFor_spec h1
      obtain rfl : o' = on := Option.some.inj (ho'.symm.trans hon)
      rw [← hon']
      exact hall e' he' hb'
  · exact absurd hr (waits_off hs inv _ i rfl hi hiz hun)

/-- The head, whatever order is picked: f operations, each below n; then L. -/
def calmL (P : Program) (R : World → World → Prop) (md : Region.Mode) (ops : Array Oper) (C : World → Prop) (n z : Nat) (L : Array Bool → Act → Prop) : Nat → Array Bool → Act → Prop
  | 0, listed, a => L listed a
  | f + 1, listed, a => (Region.ready md ops listed ≠ [] ∧ ((∀ t ∈ Region.ready md ops listed, t < n) ∨ z ∈ Region.ready md ops listed)) ∧
    ∀ i ∈ Region.ready md ops listed, i < n → calmOp P R ops C i (calmL P R md ops C n z L f (listed.setIfInBounds i true)) a

theorem calmL_first {n z i : Nat} {oi : Oper} {v : Value} {L : Array Bool → Act → Prop} (hi : ops[i]? = some oi) (hsel : ∀ (j : Nat) (o : Oper) cs b, ops[j]? = some o → o.op ≠ .select cs b)
    (hs : sinkZ md ops n z = true) (hc : Region.chainB md ops n = true) (hz : lateB md ops n z = true) (hn : n < ops.size) (hin : i < n)
    (hdone : ∀ listed a, L listed a → ∀ j ∈ Region.ready md ops listed, n ≤ j) (f : Nat) : ∀ (listed : Array Bool) (a : Act), HeadInv md ops n listed →
      (∀ j oj, ops[j]? = some oj → j ≠ i → listed.getD j true = false → (∀ e ∈ oj.after, Region.binds md e = true → e.on ≠ i) → oi.apart ops oj = true) →
      i ∈ Region.ready md ops listed → YC P R ops C oi v a → calmL P R md ops C n z L f (listed.setIfInBounds i true) (a.put oi.dst v) → calmL P R md ops C n z L (f + 1) listed a := by
  induction f with
  | zero =>
    intro listed a inv _ hr hy H
    refine ⟨⟨List.ne_nil_of_mem hr, heads_or_late hs hc hz hn inv hin (mem_ready.1 hr).1⟩, fun j hj hjn => ?_⟩
    by_cases hji : j = i
    · rw [hji]; exact hy.op hi H
    · exact absurd (hdone _ _ H j (ready_mono hj hji)) (by omega)
  | succ f ih =>
    intro listed a inv hfree hr hy H
    refine ⟨⟨List.ne_nil_of_mem hr, heads_or_late hs hc hz hn inv hin (mem_ready.1 hr).1⟩, fun j hj hjn => ?_⟩
    by_cases hji : j = i
    · rw [hji]; exact hy.op hi H
    obtain ⟨hjun, oj, hoj, hall⟩ := mem_ready.1 hj
    have hnot : ∀ e ∈ oj.after, Region.binds md e = true → e.on ≠ i := fun e he hb heq => by
      have h1 := hall e he hb
      rw [heq, getD_both (mem_ready.1 hr).1] at h1
      cases h1
    have h2 := calmOp_put hoj (hfree j oj hoj hji hjun hnot) (fun cs b => hsel i oi cs b hi) (fun cs b => hsel j oj cs b hoj) hy (H.2 j (ready_mono hj hji) hjn)
    refine calmOp_mono (fun a' h3 => ih (listed.setIfInBounds j true) a' (inv.set hj hjn) (fun k ok hk hki hun hno => ?_) (ready_mono hr (Ne.symm hji)) h3.1 (by rw [Array.setIfInBounds_comm _ _ hji]; exact h3.2)) h2
    refine hfree k ok hk hki ?_ hno
    by_cases hjk : j = k
    · rw [← hjk]; exact hjun
    · rwa [getD_set_ne true hjk] at hun

/-- The head's operations in the order of the text, those of a list of indices. -/
def wpCalm (P : Program) (R : World → World → Prop) (ops : Array Oper) (C : World → Prop) (X : Act → Prop) : List Oper → Act → Prop
  | [], a => X a
  | o :: rest, a => if Region.wanted o (yielded ops a.tmps) then calm P R C o a (wpCalm P R ops C X rest) else wpCalm P R ops C X rest (a.put o.dst undef)

/-- The order of the text is allowed, each operation may be taken first. -/
def lexIdx (md : Region.Mode) (ops : Array Oper) (n g : Nat) : List Nat → Array Bool → Bool
  | [], listed => Region.seqB md ops g n listed
  | k :: ks, listed => (Region.ready md ops listed).contains k && Region.free md ops listed k && decide (k < n) && lexIdx md ops n g ks (listed.setIfInBounds k true)

theorem calmL_lex {n g z : Nat} {X : Act → Prop} (hsel : Region.noSelect ops = true) (hs : sinkZ md ops n z = true) (hc : Region.chainB md ops n = true) (hz : lateB md ops n z = true) (hn : n < ops.size) :
    ∀ (ks : List Nat) (l : List Oper) (listed : Array Bool) (a : Act), ks.map (fun k => ops[k]?) = l.map some → HeadInv md ops n listed → lexIdx md ops n g ks listed = true → wpCalm P R ops C X l a →
      calmL P R md ops C n z (fun listed' a' => Region.seqB md ops g n listed' = true ∧ X a') l.length listed a
  | [], l, listed, a, hl, inv, hB, h => by
    obtain rfl : l = [] := by simpa using hl.symm
    exact ⟨hB, h⟩
  | k :: ks, l, listed, a, hl, inv, hB, h => by
    cases l with
    | nil => simp at hl
    | cons o l =>
      simp only [List.map_cons, List.cons.injEq] at hl
      obtain ⟨h0, hl⟩ := hl
      simp only [lexIdx, Bool.and_eq_true, decide_eq_true_eq] at hB
      obtain ⟨⟨⟨hr, hf⟩, hkn⟩, hB'⟩ := hB
      have hr' : k ∈ Region.ready md ops listed := by simpa using hr
      have hop : calmOp P R ops C k (wpCalm P R ops C X l) a := by unfold calmOp; rw [h0]; exact h
      obtain ⟨v, hy, hX⟩ := yc_of_op h0 hop
      exact calmL_first h0 (Region.noSelect_spec hsel) hs hc hz hn hkn (fun _ _ hL => seqB_ready hL.1) l.length listed a inv (Region.free_spec h0 hf) hr' hy
        (calmL_lex hsel hs hc hz hn ks l _ _ hl (inv.set hr' hkn) hB' hX)

/-- One operation of the head, in the frame that holds the new block's address besides. -/
theorem wpOp_of_calm {i : Nat} {o : Oper} {a : Act} {d : Option Tmp} {p : Value} {X : Act → Prop} {K : Act → World → Prop} {Q' : Exit → Act → World → Prop} {w : World} (hi : ops[i]? = some o) (hs : ∀ cs b, o.op ≠ .select cs b)
    (h1 : ∀ t, d = some t → t ∉ o.looksAt ops) (h2 : ∀ t, d = some t → o.dst ≠ some t) (hR : ∀ w, R w w) (hC : C w) (h : calmOp P R ops C i X a) (hK : ∀ a' w', X a' → R w w' → K (a'.put d p) w') : wpOp P ops Q' i K (a.put d p) w := by
  obtain ⟨v, hy, hX⟩ := yc_of_op hi h
  unfold wpOp
  rw [hi]
  simp only
  rw [wanted_put o a d p h1]
  rcases hy with ⟨hw, hg⟩ | ⟨hw, rfl⟩
  · rw [if_pos hw]
    obtain ⟨x, q, hx⟩ := hg w hC
    refine .inl ?_
    unfold Oper.quietAt at q
    rw [← execOp_put o hs a d p h1] at q
    have e1 : (a.put d p).put o.dst x = (a.put o.dst v).put d p := by rw [Act.put_comm a p x h2, hx]
    unfold Oper.wp
    generalize (execOp (a.put d p).eval o).run P w = r at q
    cases r with
    | ok n w' =>
      cases n <;> simp only [Oper.quietUpon] at q <;> simp only [Oper.upon]
      case value u => obtain ⟨rfl, rfl⟩ := q; rw [e1]; exact hK _ _ hX (hR _)
      case skip => obtain ⟨rfl, rfl⟩ := q; rw [e1]; exact hK _ _ hX (hR _)
      case enter f args =>
        obtain ⟨rfl, hc⟩ := q
        exact hc.mono fun e w'' ⟨he, hw''⟩ => by
          subst he
          show K ((a.put d p).put o.dst x) w''
          rw [e1]; exact hK _ _ hX hw''
    | halt c w' => simp only [Oper.quietUpon] at q
  · rw [if_neg (by rw [hw]; exact Bool.false_ne_true), Act.put_comm a p undef h2]
    exact hK _ _ hX (hR _)

variable {n g : Nat} {Q' : Exit → Act → World → Prop} {X : Act → Prop} {d : Option Tmp}

/-- What may be asked of an operation that comes late: it looks at no world. -/
def Worldless (P : Program) (o : Oper) : Prop := ∀ (a : Act) (D : World → Prop) (w : World) (v : Value), o.quietAt P a D w v → ∀ w', (execOp a.eval o).run P w' = .ok (.value v) w'

theorem yields_late {z : Nat} {oz : Oper} {a : Act} {p : Value} {Y : Act → Prop} {w : World} (hz : ops[z]? = some oz) (hg : oz.guard = none) (hwl : Worldless P oz) (hs : ∀ cs b, oz.op ≠ .select cs b) (h1 : ∀ t, d = some t → t ∉ oz.looksAt ops) (hC : C w)
    (h : calmOp P R ops C z Y a) : ∃ x v, Yields P ops oz x (a.put d p) ∧ Y (a.put oz.dst v) ∧ a.put oz.dst x = a.put oz.dst v := by
  obtain ⟨v, hy, hY⟩ := yc_of_op hz h
  have hw : ∀ y, Region.wanted oz y = true := fun y => by unfold Region.wanted; rw [hg]
  rcases hy with ⟨_, hgv⟩ | ⟨hw', _⟩
  · obtain ⟨x, q, hx⟩ := hgv w hC
    exact ⟨x, v, .inl ⟨hw _, fun w' => by rw [execOp_put oz hs a d p h1]; exact hwl _ _ _ _ q w'⟩, hY, hx⟩
  · rw [hw] at hw'; cases hw'

/-- Behind the block's making (or where no block is made): the rest of the head, then the tail. -/
theorem any_of_calm {m z : Nat} (hsel : Region.noSelect ops = true) (hR : ∀ w, R w w) (hCb : ∀ w w', C w → R w w' → C w') {p : Value} {D : World → Prop} (hD : ∀ w w', C w → D w → R w w' → D w')
    (hQ : ∀ oz, ops[z]? = some oz → ∀ c a v w, Q' (.panic c) (Act.put a oz.dst v) w → Q' (.panic c) a w) (hl : lateB md ops n z = true) (hwl : ∀ oz, ops[z]? = some oz → Worldless P oz) (hzm : z ≠ m)
    (h1 : ∀ i o, ops[i]? = some o → i < n → i ≠ m → ∀ t, d = some t → t ∉ o.looksAt ops ∧ o.dst ≠ some t)
    (tail : ∀ listed a w, Region.seqB md ops g n listed = true → X a → C w → D w → wpAny P md ops Q' g listed (a.put d p) w) :
    ∀ (f : Nat) (listed : Array Bool) (a : Act) (w : World), C w → D w → (d = none ∨ listed.getD m false = true) →
      calmL P R md ops C n z (fun listed' a' => Region.seqB md ops g n listed' = true ∧ X a') f listed a → wpAny P md ops Q' (f + g) listed (a.put d p) w
  | 0, listed, a, w, hC, hDw, _, h => by rw [Nat.zero_add]; exact tail _ _ _ h.1 h.2 hC hDw
  | f + 1, listed, a, w, hC, hDw, hm, h => by
    rw [show f + 1 + g = (f + g) + 1 by omega]
    obtain ⟨⟨hne, hor⟩, hops⟩ := h
    rcases hor with hlt | hzr
    · refine ⟨fun h0 => absurd h0 hne, fun i hi => ?_⟩
      obtain ⟨hun, o, ho, _⟩ := mem_ready.1 hi
      have hin := hlt i hi
      have hop := hops i hi hin
      have hx : ∀ t, d = some t → t ∉ o.looksAt ops ∧ o.dst ≠ some t := fun t ht => h1 i o ho hin (fun e => by
        subst e
        rcases hm with hm | hm
        · rw [hm] at ht; cases ht
        · rw [getD_both hun] at hm; cases hm) t ht
      refine wpOp_of_calm ho (fun cs b => Region.noSelect_spec hsel i o cs b ho) (fun t ht => (hx t ht).1) (fun t ht => (hx t ht).2) hR hC hop fun a' w' hX hb => ?_
      exact any_of_calm hsel hR hCb hD hQ hl hwl hzm h1 tail f _ a' w' (hCb _ _ hC hb) (hD _ _ hC hDw hb) (hm.imp id getD_set_true) hX
    · obtain ⟨hun, oz, hoz, _⟩ := mem_ready.1 hzr
      unfold lateB at hl
      rw [hoz] at hl
      simp only [Bool.and_eq_true, decide_eq_true_eq] at hl
      obtain ⟨⟨⟨hzn, hgz⟩, _⟩, hfr⟩ := hl
      have hx := h1 z oz hoz hzn hzm
      have hselz := fun cs b => Region.noSelect_spec hsel z oz cs b hoz
      obtain ⟨x, v, hyz, hY, hxv⟩ := yields_late (p := p) hoz (Option.isNone_iff_eq_none.1 hgz) (hwl oz hoz) hselz (fun t ht => (hx t ht).1) hC (hops z hzr hzn)
      refine wpAny_first hoz (Region.noSelect_spec hsel) (fun c a w => hQ oz hoz c a _ w) (f + g) listed (a.put d p) w (fun j oj hj hjz hun' hno => Region.free_spec hoz hfr j oj hj hjz (late_unlisted hzr hj hun') hno) hzr hyz ?_
      rw [show (a.put d p).put oz.dst x = (a.put oz.dst v).put d p by rw [Act.put_comm a p x (fun t ht => (hx t ht).2), hxv]]
      exact any_of_calm hsel hR hCb hD hQ (by unfold lateB; rw [hoz]; simp only [Bool.and_eq_true, decide_eq_true_eq]; exact ⟨⟨⟨hzn, hgz⟩, by assumption⟩, hfr⟩) hwl hzm h1 tail f _ _ w hC hDw (hm.imp id getD_set_true) hY

/-- Ahead of the block's making. -/
theorem any_of_calm0 {m z : Nat} {om : Oper} {obj : Obj} (hom : ops[m]? = some om) (hmr : ∀ e ∈ om.after, Region.binds md e = false) (hmg : ∀ y, Region.wanted om y = true) (hmn : Region.waitsFor md ops n m = true) (hg : 0 < g)
    (hsel : Region.noSelect ops = true) (hR : ∀ w, R w w) (hCb : ∀ w w', C w → R w w' → C w') {D : Nat → World → Prop} (hD : ∀ b w w', C w → D b w → R w w' → D b w') (hCa : ∀ w, C w → C (w.alloc obj)) (hnew : ∀ w, C w → D w.heap.size (w.alloc obj))
    (hQ : ∀ oz, ops[z]? = some oz → ∀ c a v w, Q' (.panic c) (Act.put a oz.dst v) w → Q' (.panic c) a w) (hl : lateB md ops n z = true) (hwl : ∀ oz, ops[z]? = some oz → Worldless P oz) (hzm : z ≠ m) (hzd : ∀ oz, ops[z]? = some oz → ∀ e ∈ oz.after, e.on ≠ m)
    (halloc : ∀ (a : Act) (w : World), (execOp a.eval om).run P w = .ok (.value (.pointer (some ⟨w.heap.size, 0, none⟩))) (w.alloc obj))
    (h1 : ∀ i o, ops[i]? = some o → i < n → i ≠ m → ∀ t, om.dst = some t → t ∉ o.looksAt ops ∧ o.dst ≠ some t)
    (tail : ∀ b listed a w, Region.seqB md ops g n listed = true → X a → C w → D b w → wpAny P md ops Q' g listed (a.put om.dst (.pointer (some ⟨b, 0, none⟩))) w) :
    ∀ (f : Nat) (listed : Array Bool) (a : Act) (w : World), C w → listed.getD m true = false →
      calmL P R md ops C n z (fun listed' a' => Region.seqB md ops g n listed' = true ∧ X a') f (listed.setIfInBounds m true) a → wpAny P md ops Q' (f + g + 1) listed a w := by
  intro f
  induction f with
  | zero =>
    intro listed a w hC hm h
    have hmm : (listed.setIfInBounds m true).getD m false = true := by
      rcases Nat.lt_or_ge m listed.size with h' | h'
      · simp [h']
      · simp [Array.getElem?_eq_none h'] at hm
    have hrm : m ∈ Region.ready md ops listed := mem_ready.2 ⟨hm, om, hom, fun e he hb => by rw [hmr e he] at hb; cases hb⟩
    refine ⟨fun h0 => absurd h0 (List.ne_nil_of_mem hrm), fun i hi => ?_⟩
    by_cases him : i = m
    · subst him
      unfold wpOp
      rw [hom]
      simp only
      rw [if_pos (hmg _)]
      refine .inl ?_
      unfold Oper.wp
      rw [halloc]
      simp only [Oper.upon]
      exact any_of_calm (m := i) hsel hR hCb (hD _) hQ hl hwl hzm h1 (tail _) 0 _ a _ (hCa _ hC) (hnew _ hC) (.inr hmm) h
    · exfalso
      have hr := ready_mono hi him
      have hs := h.1
      cases g with
      | zero => omega
      | succ g =>
        simp only [Region.seqB, Bool.and_eq_true, decide_eq_true_eq] at hs
        rw [hs.1] at hr
        obtain rfl : i = n := by simpa using hr
        obtain ⟨_, o, ho, hall⟩ := mem_ready.1 hi
        obtain ⟨o', ho', e, he, hb, hon⟩ := Region.waitsFor_spec hmn
        obtain rfl : o' = o := Option.some.inj (ho'.symm.trans ho)
        have := hall e he hb
        rw [hon, getD_both hm] at this
        cases this
  | succ f ih =>
    intro listed a w hC hm h
    have hmm : (listed.setIfInBounds m true).getD m false = true := by
      rcases Nat.lt_or_ge m listed.size with h' | h'
      · simp [h']
      · simp [Array.getElem?_eq_none h'] at hm
    have hrm : m ∈ Region.ready md ops listed := mem_ready.2 ⟨hm, om, hom, fun e he hb => by rw [hmr e he] at hb; cases hb⟩
    rw [show f + 1 + g + 1 = (f + 1 + g) + 1 from rfl]
    rcases h.1.2 with hlt | hzr
    · refine ⟨fun h0 => absurd h0 (List.ne_nil_of_mem hrm), fun i hi => ?_⟩
      by_cases him : i = m
      · subst him
        unfold wpOp
        rw [hom]
        simp only
        rw [if_pos (hmg _)]
        refine .inl ?_
        unfold Oper.wp
        rw [halloc]
        simp only [Oper.upon]
        exact any_of_calm (m := i) hsel hR hCb (hD _) hQ hl hwl hzm h1 (tail _) (f + 1) _ a _ (hCa _ hC) (hnew _ hC) (.inr hmm) h
      · have hr := ready_mono hi him
        have hop := h.2 i hr (hlt i hr)
        obtain ⟨_, o, ho, _⟩ := mem_ready.1 hi
        have := wpOp_of_calm (d := none) (p := undef) (K := wpAny P md ops Q' (f + 1 + g) (listed.setIfInBounds i true)) (Q' := Q') ho (fun cs b => Region.noSelect_spec hsel i o cs b ho) (fun t ht => by cases ht) (fun t ht => by cases ht) hR hC hop fun a' w' hX hb => by
          have := ih (listed.setIfInBounds i true) a' w' (hCb _ _ hC hb) (by rw [getD_set_ne true him]; exact hm) (by rw [Array.setIfInBounds_comm _ _ him]; exact hX)
          rw [show f + 1 + g = f + g + 1 by omega]
          exact this
        exact this
    · obtain ⟨hun, oz, hoz, hall⟩ := mem_ready.1 hzr
      have hl' := hl
      unfold lateB at hl'
      rw [hoz] at hl'
      simp only [Bool.and_eq_true, decide_eq_true_eq] at hl'
      obtain ⟨⟨⟨hzn, hgz⟩, _⟩, hfr⟩ := hl'
      have hselz := fun cs b => Region.noSelect_spec hsel z oz cs b hoz
      have hzr' : z ∈ Region.ready md ops listed := mem_ready.2 ⟨by rw [getD_set_ne true (Ne.symm hzm)] at hun; exact hun, oz, hoz, fun e he hb => by
        have := hall e he hb
        rwa [getD_set_ne false (Ne.symm (hzd oz hoz e he))] at this⟩
      obtain ⟨x, v, hyz, hY, hxv⟩ := yields_late (d := none) (p := undef) hoz (Option.isNone_iff_eq_none.1 hgz) (hwl oz hoz) hselz (fun t ht => by cases ht) hC (h.2 z hzr hzn)
      refine wpAny_first hoz (Region.noSelect_spec hsel) (fun c a w => hQ oz hoz c a _ w) (f + 1 + g) listed a w (fun j oj hj hjz hun' hno => Region.free_spec hoz hfr j oj hj hjz (late_unlisted hzr' hj hun') hno) hzr' hyz ?_
      rw [hxv, show f + 1 + g = f + g + 1 by omega]
      exact ih (listed.setIfInBounds z true) _ w hC (by rw [getD_set_ne true hzm]; exact hm) (by rw [Array.setIfInBounds_comm _ _ hzm]; exact hY)
end

/-- The class: nothing that lay in W has turned. -/
abbrev BW (W : World) : World → Prop := fun w => Below W.heap.size W w
theorem bw_closed (W : World) : ∀ w w', BW W w → BC w w' → BW W w' := fun w w' h k => h.trans ((bc_below k).mono h.size)
/-- w with draws, and with blocks laid behind it. -/
abbrev GC (w : World) : World → Prop := fun w' => ∃ p : Regrown, w' = grow (w.drewN p.d) p.os
theorem gc_refl (w : World) : GC w w := ⟨⟨0, #[]⟩, by rw [grow_empty]; rfl⟩
theorem grow_drewN (w : World) (os : Array Obj) (n : Nat) : (grow w os).drewN n = grow (w.drewN n) os := rfl
theorem gc_trans {a b c : World} (h : GC a b) (k : GC b c) : GC a c := by
  obtain ⟨p, rfl⟩ := h
  obtain ⟨q, rfl⟩ := k
  refine ⟨⟨p.d + q.d, p.os ++ q.os⟩, ?_⟩
  rw [grow_drewN, grow_grow, World.drewN_drewN]
theorem gc_below {w w' : World} (h : GC w w') : Below w.heap.size w w' := by
  obtain ⟨p, rfl⟩ := h
  exact below_regrown w (w.drewN p.d).drawn p.os

def calmB (ops : Array Oper) (n z : Nat) (ks : List Nat) : Bool :=
  lateB .any ops n z && Region.noSelect ops && decide (n < ops.size) && sinkZ .any ops n z && Region.chainB .any ops n && lexIdx .any ops n (ops.size - n) ks (Array.replicate ops.size false) && decide (ks.length + (ops.size - n) = ops.size)

theorem headInv0 {md : Region.Mode} {ops : Array Oper} {n : Nat} : HeadInv md ops n (Array.replicate ops.size false) :=
  ⟨by simp, fun j oj _ hl => (by rw [getD_replicate_false] at hl; cases hl), fun t _ ht => getD_in (by simpa using ht) (getD_replicate_false _ _)⟩

/-- **A head of reads and calls that lay blocks, then a forced tail.** -/
theorem wp_region_calm {P : Program} {id : Nat} {Q : Exit → Act → World → Prop} {a : Act} {w : World} {l : List Oper} (n z : Nat) (ks : List Nat) (hm : P.follows .mixedOrders = true) (hB : calmB l.toArray n z ks = true) (hwl : ∀ oz, l.toArray[z]? = some oz → Worldless P oz) (hQ : ∀ oz, l.toArray[z]? = some oz → ∀ c a v w, Q (.panic c) (Act.put a oz.dst v) w → Q (.panic c) a w)
    (hh : ks.map (fun k => l.toArray[k]?) = (l.take n).map some)
    (h : wpCalm P BC l.toArray (BW w) (fun a' => ∀ w', BW w w' → wpList P l.toArray Q (l.drop n) a' w') (l.take n) a) : (Code.region id l.toArray true).wp P Q a w := by
  simp only [calmB, Bool.and_eq_true, decide_eq_true_eq] at hB
  obtain ⟨⟨⟨⟨⟨⟨hl, hsel⟩, hn⟩, hs⟩, hc⟩, hlex⟩, hlen⟩ := hB
  have hkl : ks.length = (l.take n).length := by simpa using congrArg List.length hh
  have H := calmL_lex (P := P) (R := BC) (C := BW w) hsel hs hc hl hn ks (l.take n) _ a hh headInv0 hlex h
  refine wp_region_any hm ?_
  have R := any_of_calm (P := P) (R := BC) (m := z + 1) (d := none) (p := undef) (Q' := Q) (D := fun _ => True) hsel bc_refl (bw_closed w) (fun _ _ _ _ _ => trivial) hQ hl hwl (by omega) (fun _ _ _ _ _ t ht => by cases ht) (fun listed a' w' hL hX hC _ => by
    have := wpAny_of_seq (md := .any) (Q' := Q) (l.drop n) n listed a' w' (fun j => by simp [List.getElem?_drop]) (by rw [show (l.drop n).length = l.toArray.size - n by simp]; exact hL) (hX w' hC)
    rwa [show (l.drop n).length = l.toArray.size - n by simp] at this) (l.take n).length _ a { w with drawn := w.drawn + 1 } ⟨rfl, rfl, rfl, Nat.le_refl _, fun _ _ => rfl⟩ trivial (.inl rfl) H
  rw [← hkl, hlen] at R
  exact R

/-- .. where each world is W with draws and blocks behind it. -/
theorem wp_region_calmG {P : Program} {id : Nat} {Q : Exit → Act → World → Prop} {a : Act} {w : World} {l : List Oper} (n z : Nat) (ks : List Nat) (hm : P.follows .mixedOrders = true) (hB : calmB l.toArray n z ks = true) (hwl : ∀ oz, l.toArray[z]? = some oz → Worldless P oz) (hQ : ∀ oz, l.toArray[z]? = some oz → ∀ c a v w, Q (.panic c) (Act.put a oz.dst v) w → Q (.panic c) a w)
    (hh : ks.map (fun k => l.toArray[k]?) = (l.take n).map some)
    (h : wpCalm P GC l.toArray (GC w) (fun a' => ∀ w', GC w w' → wpList P l.toArray Q (l.drop n) a' w') (l.take n) a) : (Code.region id l.toArray true).wp P Q a w := by
  simp only [calmB, Bool.and_eq_true, decide_eq_true_eq] at hB
  obtain ⟨⟨⟨⟨⟨⟨hl, hsel⟩, hn⟩, hs⟩, hc⟩, hlex⟩, hlen⟩ := hB
  have hkl : ks.length = (l.take n).length := by simpa using congrArg List.length hh
  have H := calmL_lex (P := P) (R := GC) (C := GC w) hsel hs hc hl hn ks (l.take n) _ a hh headInv0 hlex h
  refine wp_region_any hm ?_
  have R := any_of_calm (P := P) (R := GC) (m := z + 1) (d := none) (p := undef) (Q' := Q) (D := fun _ => True) hsel gc_refl (fun _ _ h k => gc_trans h k) (fun _ _ _ _ _ => trivial) hQ hl hwl (by omega) (fun _ _ _ _ _ t ht => by cases ht) (fun listed a' w' hL hX hC _ => by
    have := wpAny_of_seq (md := .any) (Q' := Q) (l.drop n) n listed a' w' (fun j => by simp [List.getElem?_drop]) (by rw [show (l.drop n).length = l.toArray.size - n by simp]; exact hL) (hX w' hC)
    rwa [show (l.drop n).length = l.toArray.size - n by simp] at this) (l.take n).length _ a { w with drawn := w.drawn + 1 } ⟨⟨1, #[]⟩, by rw [grow_empty]; rfl⟩ trivial (.inl rfl) H
  rw [← hkl, hlen] at R
  exact R

def calmB1 (ops : Array Oper) (n z m : Nat) (ks : List Nat) : Bool :=
  lateB .any ops n z && decide (z ≠ m) && (match ops[z]? with | some oz => oz.after.all (fun e => e.on != m) | none => true) && Region.noSelect ops && decide (n < ops.size) && sinkZ .any ops n z && Region.chainB .any ops n && lexIdx .any ops n (ops.size - n) ks ((Array.replicate ops.size false).setIfInBounds m true) && decide (ks.length + (ops.size - n) + 1 = ops.size) &&
  decide (m < n) && Region.waitsFor .any ops n m &&
  (match ops[m]? with
   | some om => om.after.isEmpty && om.guard.isNone && (List.range n).all fun i => i == m || match ops[i]? with
      | some o => om.apart ops o
      | none => true
   | none => false)

/-- **.. with one block made besides, at whatever point.** -/
theorem wp_region_calm1 {P : Program} {id : Nat} {Q : Exit → Act → World → Prop} {a : Act} {w : World} {l : List Oper} (n z m : Nat) (ks : List Nat) {om : Oper} {obj : Obj} (hm : P.follows .mixedOrders = true) (hB : calmB1 l.toArray n z m ks = true) (hwl : ∀ oz, l.toArray[z]? = some oz → Worldless P oz) (hQ : ∀ oz, l.toArray[z]? = some oz → ∀ c a v w, Q (.panic c) (Act.put a oz.dst v) w → Q (.panic c) a w)
    (hh : ks.map (fun k => l.toArray[k]?) = ((l.take n).eraseIdx m).map some) (hom : l.toArray[m]? = some om)
    (halloc : ∀ (a : Act) (w : World), (execOp a.eval om).run P w = .ok (.value (.pointer (some ⟨w.heap.size, 0, none⟩))) (w.alloc obj))
    (h : wpCalm P BC l.toArray (BW w) (fun a' => ∀ b w', BW w w' → w.heap.size ≤ b → w'.heap[b]? = some obj → wpList P l.toArray Q (l.drop n) (a'.put om.dst (.pointer (some ⟨b, 0, none⟩))) w') ((l.take n).eraseIdx m) a) : (Code.region id l.toArray true).wp P Q a w := by
  simp only [calmB1, Bool.and_eq_true, decide_eq_true_eq, hom] at hB
  obtain ⟨⟨⟨⟨⟨⟨⟨⟨⟨⟨⟨hl, hzm⟩, hzd⟩, hsel⟩, hn⟩, hs⟩, hc⟩, hlex⟩, hlen⟩, hmn⟩, hwf⟩, ⟨haf, hgd⟩, hap⟩ := hB
  have hkl : ks.length = ((l.take n).eraseIdx m).length := by simpa using congrArg List.length hh
  have hms : m < l.toArray.size := by omega
  have inv : HeadInv .any l.toArray n ((Array.replicate l.toArray.size false).setIfInBounds m true) :=
    headInv0.set (mem_ready.2 ⟨getD_in (by simpa using hms) (getD_replicate_false _ _), om, hom, fun e he => by simp [Array.isEmpty_iff.1 haf] at he⟩) hmn
  have H := calmL_lex (P := P) (R := BC) (C := BW w) hsel hs hc hl hn ks ((l.take n).eraseIdx m) _ a hh inv hlex h
  refine wp_region_any hm ?_
  have R := any_of_calm0 (P := P) (R := BC) (Q' := Q) (g := l.toArray.size - n) (D := fun b w' => w.heap.size ≤ b ∧ b < w'.heap.size ∧ w'.heap[b]? = some obj) hom (fun e he => by simp [Array.isEmpty_iff.1 haf] at he) (fun y => by
      unfold Region.wanted
      rw [Option.isNone_iff_eq_none.1 hgd]) hwf (by omega) hsel bc_refl (bw_closed w)
    (fun b w1 w2 _ hb k => ⟨hb.1, Nat.lt_of_lt_of_le hb.2.1 (bc_below k).size, ((bc_below k).block b hb.2.1).trans hb.2.2⟩) (fun w1 h => h.trans ((Below.refl _ _).alloc h.size _)) (fun w1 hw1 => ⟨hw1.size, by simp, (MapKept.heap_alloc w1 obj).1⟩) hQ hl hwl hzm (fun oz hoz e he => by
      rw [hoz] at hzd
      simpa using Array.all_eq_true_iff_forall_mem.1 hzd e he) halloc
    (fun i o ho hin him t ht => by
      have := List.all_eq_true.1 hap i (List.mem_range.2 hin)
      rw [ho] at this
      simp only [Bool.or_eq_true, beq_iff_eq, him, false_or] at this
      obtain ⟨h1, h2, _⟩ := Oper.apart_spec this
      exact ⟨h1 t ht, h2 t ht⟩)
    (fun b listed a' w' hL hX hC hD => by
      have := wpAny_of_seq (md := .any) (Q' := Q) (l.drop n) n listed (a'.put om.dst (.pointer (some ⟨b, 0, none⟩))) w' (fun j => by simp [List.getElem?_drop]) (by rw [show (l.drop n).length = l.toArray.size - n by simp]; exact hL) (hX b w' hC hD.1 hD.2.2)
      rwa [show (l.drop n).length = l.toArray.size - n by simp] at this) ((l.take n).eraseIdx m).length _ a { w with drawn := w.drawn + 1 } ⟨rfl, rfl, rfl, Nat.le_refl _, fun _ _ => rfl⟩ (getD_in (by simpa using hms) (getD_replicate_false _ _)) H
  rw [← hkl, hlen] at R
  exact R

/-! ### Operations that look at no world -/
theorem worldless_extract {P : Program} {o : Oper} (x : Operand) (i : Nat) (h : o.op = .extract x i) : Worldless P o := by
  intro a D w v hq w'
  unfold Oper.quietAt at hq
  simp only [execOp, h, Instr.extract] at hq ⊢
  generalize a.eval x = u at hq ⊢
  cases u <;> simp [Oper.quietUpon, Sem.run] at hq ⊢
  rename_i vs
  cases hv : vs[i]? with
  | none => rw [hv] at hq; simp [stuck, Sem.run, Result.andThen] at hq
  | some u =>
    rw [hv] at hq
    simp [Result.andThen] at hq ⊢
    exact hq

/-! ### The steps of the walk -/
section
variable {P : Program} {ops : Array Oper} {C : World → Prop} {R : World → World → Prop} {X : Act → Prop} {a : Act} {o : Oper} {rest : List Oper}
theorem wpCalm_nil (h : X a) : wpCalm P R ops C X [] a := h
theorem wpCalm_want {aN : Act} (hw : Region.wanted o (yielded ops a.tmps) = true) (hR : ∀ w, R w w) (hne : ∃ w, C w) (h : ∀ w, C w → ∀ K : Act → Prop, K aN → o.quiet P a (R w) K) (hr : wpCalm P R ops C X rest aN) : wpCalm P R ops C X (o :: rest) a := by
  obtain ⟨w1, hw1⟩ := hne
  obtain ⟨v0, _, hN⟩ := h w1 hw1 (fun a' => a' = aN) rfl
  unfold wpCalm
  rw [if_pos hw]
  exact ⟨v0, fun w hw => by
    obtain ⟨v, hv, hK⟩ := h w hw (fun a' => a' = aN) rfl
    exact ⟨v, hv w (hR w), by rw [hK, hN]⟩, by rw [hN]; exact hr⟩
theorem wpCalm_skip (hw : Region.wanted o (yielded ops a.tmps) = false) (h : wpCalm P R ops C X rest (a.put o.dst undef)) : wpCalm P R ops C X (o :: rest) a := by
  unfold wpCalm
  rw [if_neg (by rw [hw]; exact Bool.false_ne_true)]
  exact h
end
end Go.Proofs.YtgbnjjgnihjfgaaGreat
end

section
set_option linter.unusedVariables false
set_option linter.unusedSimpArgs false
namespace Go.Proofs.YtgbnjjgnihjfgaaGreat
open Go.RowKit Go.Sort Go.ChangeMaps Go.MapKept

def fitB (L : List MRow) (cs : List MCh) : Bool := decide (Fits L cs ∧ cnt L.length cs ≤ 2000)
theorem fit_t {L : List MRow} {cs : List MCh} (h : Fits L cs ∧ cnt L.length cs ≤ 2000) : Ending.returned (.bool true) = .returned (.bool (fitB L cs)) := by rw [fitB, decide_eq_true h]
theorem fit_f {L : List MRow} {cs : List MCh} (h : ¬ (Fits L cs ∧ cnt L.length cs ≤ 2000)) : Ending.returned (.bool false) = .returned (.bool (fitB L cs)) := by rw [fitB, decide_eq_false h]

theorem neq3 (a b c a' b' c' : Int) (w : World) : (Go.binOp .neq 43 (.agg #[.int .i64 a, .int .i64 b, .int .i64 c]) (.agg #[.int .i64 a', .int .i64 b', .int .i64 c'])).run Tryz.prog w = .ok (.bool (!v3e ⟨a, b, c⟩ ⟨a', b', c'⟩)) w := by
  rw [run_neq_struct, equal3]; rfl
theorem below_row {B g : Nat} {w0 w : World} (h : Below B w0 w) (hg : B ≤ g) (cs : Array Value) : Below B w0 (w.setRow g cs) :=
  ⟨h.os, h.tape, h.output, by simpa using h.size, fun k hk => (setRow_other w g k cs (by omega)).trans (h.block k hk)⟩
theorem fitC_iff {L : List MRow} {c : MCh} (hv : VCh c) : fitC L c ↔ (look L c.t c.k).isSome = c.had ∧ ((look L c.t c.k).getD rowZ).v = c.o := by
  unfold fitC
  cases e : look L c.t c.k with
  | none =>
    cases hh : c.had with
    | false => simp only [Bool.false_eq_true, if_false, Option.isSome_none, Option.getD_none, true_and, true_iff]; exact ((hv.2.2.1).2 hh).symm
    | true => simp
  | some r =>
    have h2 := List.find?_some e
    simp only [atk, decide_eq_true_eq] at h2
    cases hh : c.had with
    | false => simp
    | true =>
      simp only [if_true, Option.some.injEq, Option.isSome_some, Option.getD_some, true_and]
      constructor
      · intro h; rw [h]
      · intro h
        obtain ⟨rt, rk, rv⟩ := r
        obtain ⟨h3, h4⟩ := h2
        simp only at h h3 h4
        rw [h, h3, h4]
structure RowAt (w : World) (b : Nat) (r : MRow) : Prop where
  c0 : w.cell? ⟨b, 0, none⟩ = some (.int .i64 r.t)
  c1 : w.cell? ⟨b, 1, none⟩ = some (.int .i64 r.k)
  c2 : w.cell? ⟨b, 2, none⟩ = some (.int .i64 r.v.a)
  c3 : w.cell? ⟨b, 3, none⟩ = some (.int .i64 r.v.b)
  c4 : w.cell? ⟨b, 4, none⟩ = some (.int .i64 r.v.c)
theorem rowAt_of {w : World} {b t : Nat} {r : MRow} (h : w.heap[b]? = some (.cells #[.int .i64 r.t, .int .i64 r.k, .int .i64 r.v.a, .int .i64 r.v.b, .int .i64 r.v.c] t (0, 0))) : RowAt w b r :=
  ⟨by simp [World.cell?, h], by simp [World.cell?, h], by simp [World.cell?, h], by simp [World.cell?, h], by simp [World.cell?, h]⟩

set_option maxRecDepth 100000 in
set_option maxHeartbeats 8000000 in
theorem fit_in {W : World} {b : Nat} {m : Option Nat} {L : List MRow} {p : Int} (h : StAt W b m L p) (n cap : Nat) (cs : List MCh) (hn : n = cs.length) (h8 : n ≤ 8) (hv : ∀ c ∈ cs, VCh c) (vb vo : Nat) (hvb : vb < W.heap.size)
    (hc : ∀ i, i < n → ChAt W vb (vo + i * 10) (cs.getD i chZ)) :
    Calls Tryz.prog 40 #[.pointer (some ⟨b, 0, none⟩), .slice (some ⟨vb, vo, none⟩) n cap] W fun e w' => e = .returned (.bool (fitB L cs)) ∧ Below W.heap.size W w' := by
  obtain ⟨c0, c1, _, _⟩ := h.cells
  have HS := Lib.hid h
  have HN := Lib.hid hn
  have HC := Lib.hid hc
  have HV := Lib.hid hv
  have hlen := fun ty => h.mp.len ty
  have hL : L.length ≤ 2000 := h.good.2.2
  have hblt := h.lt
  clear h hn hc hv
  go_enter Tryz.func40, Tryz.ntmps40
  go_wp2_with fail
  clear hlen
  go_loopw [17, 5] (fun i q wr => ∃ k : Nat, k ≤ n ∧ i = .int .i64 k ∧ Hid (Below W.heap.size W wr) ∧ Hid (Fits L (cs.take k)) ∧ ∃ z : Int, q = .int .i64 z ∧ Hid (z = cnt L.length (cs.take k)) ∧ -(k : Int) ≤ z ∧ z ≤ 2000 + k) (fun i _ _ => n - (intOf i).toNat)
  case atStart => exact ⟨0, by omega, rfl, Lib.hid (Below.refl _ _), Lib.hid (by simp [Fits]), _, rfl, Lib.hid rfl, by omega, by omega⟩
  case round =>
    obtain ⟨k, hk, rfl, HB, HF, z, rfl, HZ, hz1, hz2⟩ := hrel
    by_cases hlt : k < n
    · have HCk := (HC.out k hlt).below hvb HB.out
      obtain ⟨c, HcE⟩ : ∃ c, Hid (cs.getD k chZ = c) := ⟨_, Lib.hid rfl⟩
      rw [HcE.out] at HCk
      have Hmem : Hid (c ∈ cs) := Lib.hid (by rw [← HcE.out, List.getD_eq_getElem?_getD, List.getElem?_eq_getElem (by rw [← HN.out]; exact hlt)]; exact List.getElem_mem _)
      have Htk : Hid (cs.take (k + 1) = cs.take k ++ [c]) := Lib.hid (by
        rw [← HcE.out, List.getD_eq_getElem?_getD, List.getElem?_eq_getElem (by rw [← HN.out]; exact hlt), Option.getD_some, List.take_succ_eq_append_getElem (by rw [← HN.out]; exact hlt)])
      have HVc := Lib.hid (HV.out c Hmem.out)
      have HSr := Lib.hid (HS.out.below HB.out)
      obtain ⟨t, kk, had, ⟨oa, ob, oc⟩, has, ⟨na, nb, nc⟩⟩ := c
      obtain ⟨d0, d1, d2, d3, d4, d5, d6, d7, d8, d9⟩ := HCk.cells
      go_wp2_with fail
      obtain ⟨wb, Hwb⟩ : ∃ wb, Hid (wr.alloc (.cells #[.int .i64 t, .int .i64 kk, .bool had, .int .i64 oa, .int .i64 ob, .int .i64 oc, .bool has, .int .i64 na, .int .i64 nb, .int .i64 nc] 45) = wb) := ⟨_, Lib.hid rfl⟩
      rw [Hwb.out]
      have HCb : Hid (ChAt wb wr.heap.size 0 ⟨t, kk, had, ⟨oa, ob, oc⟩, has, ⟨na, nb, nc⟩⟩) := Lib.hid (by rw [← Hwb.out]; exact ChAt_new wr ⟨t, kk, had, ⟨oa, ob, oc⟩, has, ⟨na, nb, nc⟩⟩)
      have Hrb : Hid (Below wr.heap.size wr wb) := Lib.hid (by rw [← Hwb.out]; exact ba _ _)
      have hsz : wr.heap.size < wb.heap.size := by rw [← Hwb.out]; simp
      have HSb := Lib.hid (HSr.out.below Hrb.out)
      obtain ⟨⟨t', k', ⟨a', b', c'⟩⟩, Hr⟩ : ∃ r, Hid ((look L t kk).getD rowZ = r) := ⟨_, Lib.hid rfl⟩
      obtain ⟨ok, Ho⟩ : ∃ ok, Hid ((look L t kk).isSome = ok) := ⟨_, Lib.hid rfl⟩
      have Hit : Hid (I64 t ∧ I64 kk) := Lib.hid (by
        obtain ⟨h1, h2, h3, h4⟩ := HVc.out
        rcases h1 with h1 | h1
        · exact (h3.1 h1).i64
        · exact (h4.1 h1).i64)
      have g0 : ∀ w0, BW wb w0 → ∀ d os, (grow (redrawn w0 d) os).cell? ⟨wr.heap.size, 0, none⟩ = some (.int .i64 t) := fun w0 h d os => by
        have hC := ((HCb.out.below hsz h).below (Nat.lt_of_lt_of_le hsz h.size) (below_regrown w0 d os)) 0 (by omega)
        simpa [chCells] using hC
      have g1 : ∀ w0, BW wb w0 → ∀ d os, (grow (redrawn w0 d) os).cell? ⟨wr.heap.size, 1, none⟩ = some (.int .i64 kk) := fun w0 h d os => by
        have hC := ((HCb.out.below hsz h).below (Nat.lt_of_lt_of_le hsz h.size) (below_regrown w0 d os)) 1 (by omega)
        simpa [chCells] using hC
      have g2 : ∀ w0, BW wb w0 → ∀ d os, (grow (redrawn w0 d) os).cell? ⟨wr.heap.size, 2, none⟩ = some (.bool had) := fun w0 h d os => by
        have hC := ((HCb.out.below hsz h).below (Nat.lt_of_lt_of_le hsz h.size) (below_regrown w0 d os)) 2 (by omega)
        simpa [chCells] using hC
      have g3 : ∀ w0, BW wb w0 → ∀ d os, (grow (redrawn w0 d) os).cell? ⟨wr.heap.size, 3, none⟩ = some (.int .i64 oa) := fun w0 h d os => by
        have hC := ((HCb.out.below hsz h).below (Nat.lt_of_lt_of_le hsz h.size) (below_regrown w0 d os)) 3 (by omega)
        simpa [chCells] using hC
      have g4 : ∀ w0, BW wb w0 → ∀ d os, (grow (redrawn w0 d) os).cell? ⟨wr.heap.size, 4, none⟩ = some (.int .i64 ob) := fun w0 h d os => by
        have hC := ((HCb.out.below hsz h).below (Nat.lt_of_lt_of_le hsz h.size) (below_regrown w0 d os)) 4 (by omega)
        simpa [chCells] using hC
      have g5 : ∀ w0, BW wb w0 → ∀ d os, (grow (redrawn w0 d) os).cell? ⟨wr.heap.size, 5, none⟩ = some (.int .i64 oc) := fun w0 h d os => by
        have hC := ((HCb.out.below hsz h).below (Nat.lt_of_lt_of_le hsz h.size) (below_regrown w0 d os)) 5 (by omega)
        simpa [chCells] using hC
      have g6 : ∀ w0, BW wb w0 → ∀ d os, (grow (redrawn w0 d) os).cell? ⟨wr.heap.size, 6, none⟩ = some (.bool has) := fun w0 h d os => by
        have hC := ((HCb.out.below hsz h).below (Nat.lt_of_lt_of_le hsz h.size) (below_regrown w0 d os)) 6 (by omega)
        simpa [chCells] using hC
      have g7 : ∀ w0, BW wb w0 → ∀ d os, (grow (redrawn w0 d) os).cell? ⟨wr.heap.size, 7, none⟩ = some (.int .i64 na) := fun w0 h d os => by
        have hC := ((HCb.out.below hsz h).below (Nat.lt_of_lt_of_le hsz h.size) (below_regrown w0 d os)) 7 (by omega)
        simpa [chCells] using hC
      have g8 : ∀ w0, BW wb w0 → ∀ d os, (grow (redrawn w0 d) os).cell? ⟨wr.heap.size, 8, none⟩ = some (.int .i64 nb) := fun w0 h d os => by
        have hC := ((HCb.out.below hsz h).below (Nat.lt_of_lt_of_le hsz h.size) (below_regrown w0 d os)) 8 (by omega)
        simpa [chCells] using hC
      have g9 : ∀ w0, BW wb w0 → ∀ d os, (grow (redrawn w0 d) os).cell? ⟨wr.heap.size, 9, none⟩ = some (.int .i64 nc) := fun w0 h d os => by
        have hC := ((HCb.out.below hsz h).below (Nat.lt_of_lt_of_le hsz h.size) (below_regrown w0 d os)) 9 (by omega)
        simpa [chCells] using hC
      have gm : ∀ w0, BW wb w0 → ∀ d os, (grow (redrawn w0 d) os).cell? ⟨b, 0, none⟩ = some (.map m) := fun w0 h d os => ((HSb.out.below h).below (below_regrown w0 d os)).cells.1
      have gl : ∀ w0, BW wb w0 → ∀ d os, (Instr.lookup 76 (.map m) (.agg #[.int .i64 t, .int .i64 kk]) true).run Tryz.prog (grow (redrawn w0 d) os) = .ok (.tuple #[.agg #[.int .i64 t', .int .i64 k', .int .i64 a', .int .i64 b', .int .i64 c'], .bool ok]) (grow (redrawn w0 d) os) := fun w0 h d os => by
        have hl := ((HSb.out.below h).below (below_regrown w0 d os)).mp.look Hit.out.1 Hit.out.2
        rw [Hr.out, Ho.out] at hl
        exact hl
      clear d0 d1 d2 d3 d4 d5 d6 d7 d8 d9
      refine wp_region_calm1 11 9 10 [0, 1, 2, 3, 4, 5, 6, 7, 8, 9] (obj := .cells #[.int .i64 0, .int .i64 0, .int .i64 0, .int .i64 0, .int .i64 0] 57 (0, 0)) (by kernel_rfl) (by kernel_rfl) (by rintro _ ⟨rfl⟩; exact worldless_extract _ _ rfl) (by rintro _ ⟨rfl⟩ _ _ _ _ h; exact h) (by rfl) (by rfl) (fun a w => by kernel_rfl) ?_
      simp only [List.take_succ_cons, List.take_zero, List.eraseIdx_cons_succ, List.eraseIdx_cons_zero]
      iterate 5
        apply wpCalm_want
        · rfl
        · exact bc_refl
        · exact ⟨_, Below.refl _ _⟩
        · intro w0 hC0 K hK
          go_big_quiet_op
          exact hK
      apply wpCalm_want
      · rfl
      · exact bc_refl
      · exact ⟨_, Below.refl _ _⟩
      · intro w0 hC0 K hK
        go_big_quiet_op
        apply Exists.intro
        refine ⟨fun p => ?_, ?_⟩
        · exact Calls.regrown_of (placeOf_any ⟨t, kk, had, ⟨oa, ob, oc⟩, has, ⟨na, nb, nc⟩⟩ _)
        · exact hK
      iterate 4
        apply wpCalm_want
        · rfl
        · exact bc_refl
        · exact ⟨_, Below.refl _ _⟩
        · intro w0 hC0 K hK
          go_big_quiet_op
          exact hK
      refine wpCalm_nil ?_
      intro yb wc hbc hyb hblk
      simp only [List.drop_succ_cons, List.drop_zero]
      go_frame
      refine wpList_store_row rfl 57 _ _ rfl yb #[.int .i64 t', .int .i64 k', .int .i64 a', .int .i64 b', .int .i64 c'] rfl rfl 57 _ hblk (by kernel_rfl) rfl (by simp [Value.oneCell']) ?_
      go_frame
      have Hyd : Hid ((wc.setRow yb #[.int .i64 t', .int .i64 k', .int .i64 a', .int .i64 b', .int .i64 c']).heap[yb]? = some (.cells #[.int .i64 t', .int .i64 k', .int .i64 a', .int .i64 b', .int .i64 c'] 57 (0, 0))) := Lib.hid (setRow_heap _ _ _ _ _ _ hblk)
      have HBd : Hid (Below wb.heap.size wb (wc.setRow yb #[.int .i64 t', .int .i64 k', .int .i64 a', .int .i64 b', .int .i64 c'])) := Lib.hid (below_row hbc hyb _)
      obtain ⟨wd, Hwd⟩ : ∃ wd, Hid (wc.setRow yb #[.int .i64 t', .int .i64 k', .int .i64 a', .int .i64 b', .int .i64 c'] = wd) := ⟨_, Lib.hid rfl⟩
      rw [Hwd.out] at Hyd HBd ⊢
      clear g0 g1 g2 g3 g4 g5 g6 g7 g8 g9 gm gl hblk hbc hyb Hwd
      have HFc : Hid (fitC L ⟨t, kk, had, ⟨oa, ob, oc⟩, has, ⟨na, nb, nc⟩⟩ ↔ ok = had ∧ (⟨a', b', c'⟩ : V3) = ⟨oa, ob, oc⟩) := Lib.hid (by
        have := fitC_iff (L := L) HVc.out
        simp only at this
        rw [Hr.out, Ho.out] at this
        exact this)
      have HBn := Lib.hid (bt HB.out (bt Hrb.out HBd.out))
      have HCd := (HCb.out.below hsz HBd.out).cells
      simp only [Nat.zero_add] at HCd
      obtain ⟨e0, e1, e2, e3, e4, e5, e6, e7, e8, e9⟩ := HCd
      obtain ⟨y0, y1, y2, y3, y4⟩ := rowAt_of (r := ⟨t', k', ⟨a', b', c'⟩⟩) Hyd.out
      simp only at y0 y1 y2 y3 y4
      have hq := fun w => neq3 a' b' c' oa ob oc w
      by_cases hok : ok = had
      · subst hok
        by_cases h3 : (⟨a', b', c'⟩ : V3) = ⟨oa, ob, oc⟩
        · have HFt : Hid (Fits L (cs.take (k + 1))) := Lib.hid (by
            rw [Htk.out]
            intro d hd
            rcases List.mem_append.1 hd with hd | hd
            · exact HF.out d hd
            · rw [List.mem_singleton.1 hd]; exact HFc.out.2 ⟨rfl, h3⟩)
          rw [show v3e ⟨a', b', c'⟩ ⟨oa, ob, oc⟩ = true from decide_eq_true h3] at hq
          have HZn : Hid (z + dlt ⟨t, kk, ok, ⟨oa, ob, oc⟩, has, ⟨na, nb, nc⟩⟩ = cnt L.length (cs.take (k + 1))) := Lib.hid (by rw [Htk.out, cnt_snoc, HZ.out])
          clear h3
          cases ok <;> cases has
          · go_wp2_with fail
            exact ⟨⟨k + 1, by omega, by go_num, HBn, HFt, z, rfl, Lib.hid (by rw [← HZn.out]; simp [dlt]), by omega, by omega⟩, by simp [intOf]; omega⟩
          · go_wp2_with fail
            exact ⟨⟨k + 1, by omega, by go_num, HBn, HFt, z + 1, rfl, Lib.hid (by rw [← HZn.out]; simp [dlt]), by omega, by omega⟩, by simp [intOf]; omega⟩
          · go_wp2_with fail
            exact ⟨⟨k + 1, by omega, by go_num, HBn, HFt, z - 1, rfl, Lib.hid (by rw [← HZn.out]; simp [dlt]; omega), by omega, by omega⟩, by simp [intOf]; omega⟩
          · go_wp2_with fail
            exact ⟨⟨k + 1, by omega, by go_num, HBn, HFt, z - 1 + 1, by go_num, Lib.hid (by rw [← HZn.out]; simp [dlt]), by omega, by omega⟩, by simp [intOf]; omega⟩
        · have HNo : Hid (¬ (Fits L cs ∧ cnt L.length cs ≤ 2000)) := Lib.hid (fun h => h3 (HFc.out.1 (h.1 _ Hmem.out)).2)
          rw [show v3e ⟨a', b', c'⟩ ⟨oa, ob, oc⟩ = false from decide_eq_false h3] at hq
          clear h3
          cases ok
          · go_wp2_with fail
            go_ret
            exact ⟨fit_f HNo.out, HBn.out⟩
          · go_wp2_with fail
            go_ret
            exact ⟨fit_f HNo.out, HBn.out⟩
      · have HNo : Hid (¬ (Fits L cs ∧ cnt L.length cs ≤ 2000)) := Lib.hid (fun h => hok (HFc.out.1 (h.1 _ Hmem.out)).1)
        cases ok <;> cases had
        · exact absurd rfl hok
        · clear hok
          go_wp2_with fail
          go_ret
          exact ⟨fit_f HNo.out, HBn.out⟩
        · clear hok
          go_wp2_with fail
          go_ret
          exact ⟨fit_f HNo.out, HBn.out⟩
        · exact absurd rfl hok
    · obtain rfl : k = n := by omega
      have HFa : Hid (Fits L cs) := Lib.hid (by have := HF.out; rwa [HN.out, List.take_length] at this)
      have HZa : Hid (z = cnt L.length cs) := Lib.hid (by have := HZ.out; rwa [HN.out, List.take_length] at this)
      by_cases h2 : z ≤ 2000
      · have HT : Hid (Fits L cs ∧ cnt L.length cs ≤ 2000) := Lib.hid ⟨HFa.out, by rw [← HZa.out]; exact h2⟩
        go_wp2_with fail
        go_ret
        exact ⟨fit_t HT.out, HB.out⟩
      · have HT : Hid (¬ (Fits L cs ∧ cnt L.length cs ≤ 2000)) := Lib.hid (fun h => h2 (by rw [HZa.out]; exact h.2))
        go_wp2_with fail
        go_ret
        exact ⟨fit_f HT.out, HB.out⟩
end Go.Proofs.YtgbnjjgnihjfgaaGreat
end

section
set_option linter.unusedVariables false
set_option linter.unusedSimpArgs false
namespace Go.Proofs.YtgbnjjgnihjfgaaGreat
open Go.RowKit Go.Sort Go.ChangeMaps Go.MapKept

section
variable {w : World} {ops : Array Oper} {rest : List Oper} {o : Oper} {a : Act} {Q : Exit → Act → World → Prop}
theorem wpList_del (hg : o.guard = none) (m x : Operand) (hop : o.op = Op.call { callee := Callee.builtin Builtin.delete, args := #[m, x], argTypes := #[76, 110] }) (b : Nat) (L : List MRow) (t k : Int)
    (hm : a.eval m = .map (some b)) (hx : a.eval x = plV t k) (hs : StMap w b L) (ht : I64 t) (hk : I64 k)
    (hK : ∀ w', StMap w' b (L.filter fun r => !atk t k r) → Turned w w' b → wpList Tryz.prog ops Q rest (a.put o.dst (.tuple #[])) w') : wpList Tryz.prog ops Q (o :: rest) a w := by
  refine wpList_plain hg fun K' hK' => ?_
  obtain ⟨w', hrun, r1, r2⟩ := hs.del ht hk o.type
  unfold Oper.wp
  simp [execOp, hop, resolve, invoke, builtin, hm, hx, hrun, Result.andThen]
  exact hK' _ _ (hK w' r1 r2)
theorem wpList_add (hg : o.guard = none) (m x v : Operand) (hop : o.op = Op.mapUpdate 76 m x v) (b : Nat) (L : List MRow) (r : MRow)
    (hm : a.eval m = .map (some b)) (hx : a.eval x = plV r.t r.k) (hv : a.eval v = rowV r) (hs : StMap w b L) (ht : I64 r.t) (hk : I64 r.k) (hn : ∀ s ∈ L, ¬ (s.t = r.t ∧ s.k = r.k))
    (hK : ∀ w', StMap w' b (r :: L) → Turned w w' b → wpList Tryz.prog ops Q rest (a.put o.dst undef) w') : wpList Tryz.prog ops Q (o :: rest) a w := by
  refine wpList_plain hg fun K' hK' => ?_
  obtain ⟨w', hrun, r1, r2⟩ := hs.add r ht hk hn
  unfold Oper.wp
  simp [execOp, hop, hm, hx, hv, hrun, Result.andThen]
  exact hK' _ _ (hK w' r1 r2)
end

theorem Kept.cell {F : Nat → Prop} {W W' : World} (h : Kept F W W') {p : Addr} (hp : p.block < W.heap.size) (hf : ¬ F p.block) : W'.cell? p = W.cell? p := World.cell?_of_block (w := W) (h.block p.block hp hf)
theorem ChAt.kept {F : Nat → Prop} {W W' : World} {b o : Nat} {c : MCh} (h : ChAt W b o c) (k : Kept F W W') (hb : b < W.heap.size) (hf : ¬ F b) : ChAt W' b o c := fun j hj => (k.cell (p := ⟨b, o + j, none⟩) hb hf).trans (h j hj)

theorem aft_true (t k oa ob oc na nb nc : Int) (x : Bool) (W : World) : Calls Tryz.prog 81 #[chV ⟨t, k, x, ⟨oa, ob, oc⟩, true, ⟨na, nb, nc⟩⟩] W fun e w' => e = .returned (.tuple #[rowV ⟨t, k, ⟨na, nb, nc⟩⟩, .bool true]) ∧ Below W.heap.size W w' := after_any ⟨t, k, x, ⟨oa, ob, oc⟩, true, ⟨na, nb, nc⟩⟩ W
theorem aft_false (t k oa ob oc na nb nc : Int) (x : Bool) (W : World) : Calls Tryz.prog 81 #[chV ⟨t, k, x, ⟨oa, ob, oc⟩, false, ⟨na, nb, nc⟩⟩] W fun e w' => e = .returned (.tuple #[rowV ⟨0, 0, ⟨0, 0, 0⟩⟩, .bool false]) ∧ Below W.heap.size W w' := after_any ⟨t, k, x, ⟨oa, ob, oc⟩, false, ⟨na, nb, nc⟩⟩ W

/-- What a step leaves of the entries, and nothing but the map's block and new ones turned. -/
def Stepped (W : World) (mb : Nat) (M : List MRow) (w' : World) : Prop := StMap w' mb M ∧ Kept (fun k => k = mb) W w'

set_option maxRecDepth 100000 in
set_option maxHeartbeats 4000000 in
theorem change_any {W : World} {b mb : Nat} {L : List MRow} {p : Int} (hb : W.heap[b]? = some (.cells #[.map (some mb), .int .i64 p] 80 (0, 0))) (hs : StMap W mb L) (hL : Srt L) (c : MCh) (hv : VCh c) :
    Calls Tryz.prog 41 #[.pointer (some ⟨b, 0, none⟩), chV c] W fun e w' => e = .returned (.tuple #[]) ∧ Stepped W mb (stepC L c) w' := by
  have Hit : Hid (I64 c.t ∧ I64 c.k) := Lib.hid (by
    obtain ⟨h1, h2, h3, h4⟩ := hv
    rcases h1 with h1 | h1
    · exact (h3.1 h1).i64
    · exact (h4.1 h1).i64)
  have HP := Lib.hid (perm_step L c)
  have HS := Lib.hid hs
  have HB := Lib.hid hb
  have hne : mb ≠ b := by
    intro e
    obtain ⟨es, clock, h1, _⟩ := hs
    rw [e, hb] at h1
    cases h1
  have hbl := lt_of_block hb
  have hml := hs.lt
  obtain ⟨t, kk, had, ⟨oa, ob, oc⟩, has, ⟨na, nb, nc⟩⟩ := c
  clear hs hb hv hL
  unfold chV
  go_enter Tryz.func41, Tryz.ntmps41
  go_wp2_with fail
  obtain ⟨wb, Hwb⟩ : ∃ wb, Hid (W.alloc (.cells #[.int .i64 t, .int .i64 kk, .bool had, .int .i64 oa, .int .i64 ob, .int .i64 oc, .bool has, .int .i64 na, .int .i64 nb, .int .i64 nc] 45) = wb) := ⟨_, Lib.hid rfl⟩
  rw [Hwb.out]
  have HCb : Hid (ChAt wb W.heap.size 0 ⟨t, kk, had, ⟨oa, ob, oc⟩, has, ⟨na, nb, nc⟩⟩) := Lib.hid (by rw [← Hwb.out]; exact ChAt_new W ⟨t, kk, had, ⟨oa, ob, oc⟩, has, ⟨na, nb, nc⟩⟩)
  have Hrb : Hid (Below W.heap.size W wb) := Lib.hid (by rw [← Hwb.out]; exact ba _ _)
  have hsz : W.heap.size < wb.heap.size := by rw [← Hwb.out]; simp
  -- what holds of every world in which nothing of W or of the change's block has turned
  have hcell : ∀ w0, BW wb w0 → ∀ j, j < 10 → ∀ d os, (grow (redrawn w0 d) os).cell? ⟨W.heap.size, j, none⟩ = (chCells ⟨t, kk, had, ⟨oa, ob, oc⟩, has, ⟨na, nb, nc⟩⟩)[j]? := fun w0 h j hj d os => by
    have := ((HCb.out.below hsz h).below (Nat.lt_of_lt_of_le hsz h.size) (below_regrown w0 d os)) j hj
    simpa using this
  have g0 := fun w0 h => hcell w0 h 0 (by omega)
  have g1 := fun w0 h => hcell w0 h 1 (by omega)
  have g2 := fun w0 h => hcell w0 h 2 (by omega)
  have g3 := fun w0 h => hcell w0 h 3 (by omega)
  have g4 := fun w0 h => hcell w0 h 4 (by omega)
  have g5 := fun w0 h => hcell w0 h 5 (by omega)
  have g6 := fun w0 h => hcell w0 h 6 (by omega)
  have g7 := fun w0 h => hcell w0 h 7 (by omega)
  have g8 := fun w0 h => hcell w0 h 8 (by omega)
  have g9 := fun w0 h => hcell w0 h 9 (by omega)
  simp only [chCells, List.getElem?_toArray, List.getElem?_cons_zero, List.getElem?_cons_succ] at g0 g1 g2 g3 g4 g5 g6 g7 g8 g9
  have HCell := Lib.hid hcell
  clear hcell
  have gm : ∀ w0, BW wb w0 → ∀ d os, (grow (redrawn w0 d) os).cell? ⟨b, 0, none⟩ = some (.map (some mb)) := fun w0 h d os => by
    have k : Below W.heap.size W (grow (redrawn w0 d) os) := bt Hrb.out (bt h (below_regrown w0 d os))
    have : (grow (redrawn w0 d) os).heap[b]? = W.heap[b]? := k.block b hbl
    simp [World.cell?, this, HB.out]
  refine wp_region_calm 6 7 [0, 1, 2, 3, 4, 5] (by kernel_rfl) (by kernel_rfl) (by intro oz h; simp at h) (by intro oz h; simp at h) (by rfl) ?_
  simp only [List.take_succ_cons, List.take_zero]
  iterate 5
    apply wpCalm_want
    · rfl
    · exact bc_refl
    · exact ⟨_, Below.refl _ _⟩
    · intro w0 hC0 K hK
      go_big_quiet_op
      exact hK
  apply wpCalm_want
  · rfl
  · exact bc_refl
  · exact ⟨_, Below.refl _ _⟩
  · intro w0 hC0 K hK
    go_big_quiet_op
    apply Exists.intro
    refine ⟨fun p => ?_, ?_⟩
    · exact Calls.regrown_of (placeOf_any ⟨t, kk, had, ⟨oa, ob, oc⟩, has, ⟨na, nb, nc⟩⟩ _)
    · exact hK
  refine wpCalm_nil ?_
  intro wc hbc
  simp only [List.drop_succ_cons, List.drop_zero]
  try go_frame
  have hcw : Below W.heap.size W wc := bt Hrb.out hbc
  refine wpList_del rfl _ _ rfl mb L t kk rfl rfl (HS.out.of_block (hcw.block mb hml)) Hit.out.1 Hit.out.2 ?_
  intro wd hsd htd
  try go_frame
  have HKd : Hid (Kept (fun k => k = mb) wb wd) := Lib.hid ((Kept.of_below hbc).trans htd.kept (fun _ _ f => f))
  have HSd := Lib.hid hsd
  clear g0 g1 g2 g3 g4 g5 g6 g7 g8 g9 gm hsd htd hcw hbc
  have HCd : Hid (ChAt wd W.heap.size 0 ⟨t, kk, had, ⟨oa, ob, oc⟩, has, ⟨na, nb, nc⟩⟩) := Lib.hid (HCb.out.kept HKd.out hsz (by omega))
  have hdl : W.heap.size < wd.heap.size := Nat.lt_of_lt_of_le hsz HKd.out.size
  have HBd : Hid (wd.heap[b]? = some (.cells #[.map (some mb), .int .i64 p] 80 (0, 0))) := Lib.hid (by
    rw [HKd.out.block b (by omega) (fun e => hne e.symm), Hrb.out.block b hbl]; exact HB.out)
  have HCd' := HCd.out.cells
  simp only [Nat.zero_add] at HCd'
  obtain ⟨d0, d1, d2, d3, d4, d5, d6, d7, d8, d9⟩ := HCd'
  cases has
  · go_wp2_with fail
    (with_reducible refine (aft_false t kk oa ob oc na nb nc had _).mono ?_)
    rintro e w2 ⟨rfl, hb2⟩
    have HB2 := Lib.hid (bt hb2 (ba w2 (.cells #[.int .i64 0, .int .i64 0, .int .i64 0, .int .i64 0, .int .i64 0] 57)))
    clear hb2
    go_wp2_with fail
    go_end0
    refine ⟨rfl, ?_, ?_⟩
    · have h1 := StMap.of_block HSd.out (HB2.out.block mb (Nat.lt_of_lt_of_le (by omega) HKd.out.size))
      exact h1.perm (by have := HP.out; simp only [Bool.false_eq_true, if_false, List.nil_append] at this; exact this.symm)
    · exact (Kept.of_below Hrb.out).trans ((HKd.out).then HB2.out) (fun _ _ f => f)
  · go_wp2_with fail
    (with_reducible refine (aft_true t kk oa ob oc na nb nc had _).mono ?_)
    rintro e w2 ⟨rfl, hb2⟩
    have HB2 := Lib.hid (bt hb2 (ba w2 (.cells #[.int .i64 t, .int .i64 kk, .int .i64 na, .int .i64 nb, .int .i64 nc] 57)))
    have hdl2 : W.heap.size < w2.heap.size := Nat.lt_of_lt_of_le hdl hb2.size
    clear hb2 d0 d1 d2 d3 d4 d5 d6 d7 d8 d9
    go_wp2_with fail
    have HY0 : Hid ((w2.alloc (.cells #[.int .i64 t, .int .i64 kk, .int .i64 na, .int .i64 nb, .int .i64 nc] 57)).heap[w2.heap.size]? = some (.cells #[.int .i64 t, .int .i64 kk, .int .i64 na, .int .i64 nb, .int .i64 nc] 57 (0, 0))) := Lib.hid (MapKept.heap_alloc w2 _).1
    have hz3 : w2.heap.size < (w2.alloc (.cells #[.int .i64 t, .int .i64 kk, .int .i64 na, .int .i64 nb, .int .i64 nc] 57)).heap.size := by simp
    obtain ⟨w3, Hw3⟩ : ∃ w3, Hid (w2.alloc (.cells #[.int .i64 t, .int .i64 kk, .int .i64 na, .int .i64 nb, .int .i64 nc] 57) = w3) := ⟨_, Lib.hid rfl⟩
    rw [Hw3.out] at HB2 HY0 hz3 ⊢
    have hcell : ∀ w0, BW w3 w0 → ∀ j, j < 10 → ∀ d os, (grow (redrawn w0 d) os).cell? ⟨W.heap.size, j, none⟩ = (chCells ⟨t, kk, had, ⟨oa, ob, oc⟩, true, ⟨na, nb, nc⟩⟩)[j]? := fun w0 h j hj d os => by
      have := (((HCd.out.below hdl HB2.out).below (by omega) h).below (Nat.lt_of_lt_of_le (show W.heap.size < w3.heap.size by omega) h.size) (below_regrown w0 d os)) j hj
      simpa using this
    have g0 := fun w0 h => hcell w0 h 0 (by omega)
    have g1 := fun w0 h => hcell w0 h 1 (by omega)
    have g2 := fun w0 h => hcell w0 h 2 (by omega)
    have g3 := fun w0 h => hcell w0 h 3 (by omega)
    have g4 := fun w0 h => hcell w0 h 4 (by omega)
    have g5 := fun w0 h => hcell w0 h 5 (by omega)
    have g6 := fun w0 h => hcell w0 h 6 (by omega)
    have g7 := fun w0 h => hcell w0 h 7 (by omega)
    have g8 := fun w0 h => hcell w0 h 8 (by omega)
    have g9 := fun w0 h => hcell w0 h 9 (by omega)
    simp only [chCells, List.getElem?_toArray, List.getElem?_cons_zero, List.getElem?_cons_succ] at g0 g1 g2 g3 g4 g5 g6 g7 g8 g9
    clear hcell
    have hrow : ∀ w0, BW w3 w0 → ∀ d os, RowAt (grow (redrawn w0 d) os) w2.heap.size ⟨t, kk, ⟨na, nb, nc⟩⟩ := fun w0 h d os =>
      rowAt_of (t := 57) (((below_regrown w0 d os).block _ (Nat.lt_of_lt_of_le hz3 h.size)).trans ((h.block _ hz3).trans HY0.out))
    have y0 := fun w0 h d os => (hrow w0 h d os).c0
    have y1 := fun w0 h d os => (hrow w0 h d os).c1
    have y2 := fun w0 h d os => (hrow w0 h d os).c2
    have y3 := fun w0 h d os => (hrow w0 h d os).c3
    have y4 := fun w0 h d os => (hrow w0 h d os).c4
    simp only at y0 y1 y2 y3 y4
    clear hrow
    have gm : ∀ w0, BW w3 w0 → ∀ d os, (grow (redrawn w0 d) os).cell? ⟨b, 0, none⟩ = some (.map (some mb)) := fun w0 h d os => by
      have k : Below wd.heap.size wd (grow (redrawn w0 d) os) := bt HB2.out (bt h (below_regrown w0 d os))
      have : (grow (redrawn w0 d) os).heap[b]? = wd.heap[b]? := k.block b (by omega)
      simp [World.cell?, this, HBd.out]
    refine wp_region_calm 7 8 [0, 1, 2, 3, 4, 5, 6] (by kernel_rfl) (by kernel_rfl) (by intro oz h; simp at h) (by intro oz h; simp at h) (by rfl) ?_
    simp only [List.take_succ_cons, List.take_zero]
    iterate 5
      apply wpCalm_want
      · rfl
      · exact bc_refl
      · exact ⟨_, Below.refl _ _⟩
      · intro w0 hC0 K hK
        go_big_quiet_op
        exact hK
    apply wpCalm_want
    · rfl
    · exact bc_refl
    · exact ⟨_, Below.refl _ _⟩
    · intro w0 hC0 K hK
      go_big_quiet_op
      apply Exists.intro
      refine ⟨fun p => ?_, ?_⟩
      · exact Calls.regrown_of (placeOf_any ⟨t, kk, had, ⟨oa, ob, oc⟩, true, ⟨na, nb, nc⟩⟩ _)
      · exact hK
    apply wpCalm_want
    · rfl
    · exact bc_refl
    · exact ⟨_, Below.refl _ _⟩
    · intro w0 hC0 K hK
      go_big_quiet_op
      exact hK
    refine wpCalm_nil ?_
    intro w4 hb4
    simp only [List.drop_succ_cons, List.drop_zero]
    try go_frame
    have h4 : Below wd.heap.size wd w4 := bt HB2.out hb4
    refine wpList_add rfl _ _ _ rfl mb _ ⟨t, kk, ⟨na, nb, nc⟩⟩ rfl rfl rfl (StMap.of_block HSd.out (h4.block mb (by omega))) Hit.out.1 Hit.out.2 (fun s hs e => by
      have := (List.mem_filter.1 hs).2
      simp [atk, e.1, e.2] at this) ?_
    intro w5 hs5 ht5
    try go_frame
    have HK5 : Hid (Kept (fun k => k = mb) wd w5) := Lib.hid ((Kept.of_below h4).trans ht5.kept (fun _ _ f => f))
    have HS5 := Lib.hid hs5
    clear g0 g1 g2 g3 g4 g5 g6 g7 g8 g9 gm y0 y1 y2 y3 y4 hs5 ht5 h4 hb4
    go_wp2_with fail
    go_end0
    refine ⟨rfl, ?_, ?_⟩
    · exact HS5.out.perm (by have := HP.out; simp only [if_true, List.cons_append, List.nil_append] at this; exact this.symm)
    · exact (Kept.of_below Hrb.out).trans (HKd.out.trans HK5.out (fun _ _ f => f)) (fun _ _ f => f)
end Go.Proofs.YtgbnjjgnihjfgaaGreat
end

section
set_option linter.unusedVariables false
set_option linter.unusedSimpArgs false
namespace Go.Proofs.YtgbnjjgnihjfgaaGreat
open Go.RowKit Go.Sort Go.ChangeMaps Go.MapKept

theorem getD_mem {α : Type} {l : List α} {i : Nat} {d : α} (h : i < l.length) : l.getD i d ∈ l := by
  rw [List.getD_eq_getElem?_getD, List.getElem?_eq_getElem h, Option.getD_some]
  exact List.getElem_mem _
theorem mem_getD {α : Type} {l : List α} {x : α} (d : α) (h : x ∈ l) : ∃ i, i < l.length ∧ l.getD i d = x := by
  obtain ⟨i, hi, e⟩ := List.getElem_of_mem h
  exact ⟨i, hi, by rw [List.getD_eq_getElem?_getD, List.getElem?_eq_getElem hi, Option.getD_some, e]⟩
theorem vrec_mem {p : Int} {cs : List MCh} (h : VRec p cs) : ∀ c ∈ cs, VCh c := by
  intro c hc
  obtain ⟨i, hi, rfl⟩ := mem_getD chZ hc
  exact (h.2.2 i hi).1
theorem prec_trans {a b c : MCh} (h : Prec a b) (k : Prec b c) : Prec a c := by unfold Prec at *; omega
theorem prec_lt {p : Int} {cs : List MCh} (h : VRec p cs) : ∀ j i, i < j → j < cs.length → Prec (cs.getD i chZ) (cs.getD j chZ) := by
  intro j
  induction j with
  | zero => intro i hi; omega
  | succ j ih =>
    intro i hi hj
    have h1 := (h.2.2 (j + 1) hj).2 (by omega)
    rw [Nat.add_sub_cancel] at h1
    rcases Nat.lt_or_ge i j with h2 | h2
    · exact prec_trans (ih i h2 (by omega)) h1
    · obtain rfl : i = j := by omega
      exact h1
theorem vrec_apart {p : Int} {cs : List MCh} (h : VRec p cs) : Apart cs := by
  unfold Apart
  rw [List.pairwise_iff_getElem]
  intro i j hi hj hij
  have := prec_lt h j i hij hj
  rw [List.getD_eq_getElem?_getD, List.getElem?_eq_getElem hi, List.getD_eq_getElem?_getD, List.getElem?_eq_getElem hj] at this
  simp only [Option.getD_some] at this
  unfold Prec at this
  unfold keyNe
  omega

/-- The record can be applied. -/
def Okay (L : List MRow) (p pos : Int) (cs : List MCh) : Prop := VRec pos cs ∧ pos = p + 1 ∧ Fits L cs ∧ cnt L.length cs ≤ 2000
instance (L : List MRow) (p pos : Int) (cs : List MCh) : Decidable (Okay L p pos cs) := by unfold Okay; infer_instance

theorem rows_step {L : List MRow} (h : ∀ r ∈ L, VRow r) {c : MCh} (hc : VCh c) : ∀ r ∈ stepC L c, VRow r := by
  intro r hr
  rcases mem_step.1 hr with h1 | ⟨h1, rfl⟩
  · exact h r h1.1
  · exact hc.2.2.2.1 h1
theorem rows_all {cs : List MCh} : ∀ {L : List MRow}, (∀ r ∈ L, VRow r) → (∀ c ∈ cs, VCh c) → ∀ r ∈ stepAll L cs, VRow r := by
  induction cs with
  | nil => intro L h _; exact h
  | cons c cs ih => intro L h hc; exact ih (rows_step h (hc c (by simp))) (fun d hd => hc d (by simp [hd]))
theorem good_all {L : List MRow} {p pos : Int} {cs : List MCh} (h : GoodL L) (ho : Okay L p pos cs) : GoodL (stepAll L cs) := by
  refine ⟨srt_all h.1 cs, rows_all h.2.1 (vrec_mem ho.1), ?_⟩
  have := length_all h.1 (vrec_apart ho.1) ho.2.2.1
  have h2 := ho.2.2.2
  omega

/-! ### Logs -/
def recZ : MRec := ⟨0, []⟩
/-- The rows behind a log. -/
def rowsOf (R : List MRec) : List MRow := R.foldl (fun L r => stepAll L r.chs) []
/-- The records can be applied one after the other. -/
def Chn (R : List MRec) : Prop := ∀ i, i < R.length → Okay (rowsOf (R.take i)) i (R.getD i recZ).pos (R.getD i recZ).chs
theorem rowsOf_snoc (R : List MRec) (r : MRec) : rowsOf (R ++ [r]) = stepAll (rowsOf R) r.chs := by simp [rowsOf, List.foldl_append]
theorem take_snoc' {α : Type} {l : List α} {d : α} {i : Nat} (h : i < l.length) : l.take (i + 1) = l.take i ++ [l.getD i d] := by
  rw [List.take_succ_eq_append_getElem h, List.getD_eq_getElem?_getD, List.getElem?_eq_getElem h, Option.getD_some]
theorem rowsOf_succ {R : List MRec} {i : Nat} (h : i < R.length) : rowsOf (R.take (i + 1)) = stepAll (rowsOf (R.take i)) (R.getD i recZ).chs := by rw [take_snoc' (d := recZ) h, rowsOf_snoc]
theorem Chn.good {R : List MRec} (h : Chn R) : ∀ i, i ≤ R.length → GoodL (rowsOf (R.take i)) := by
  intro i
  induction i with
  | zero => intro _; simpa [rowsOf] using goodL_nil
  | succ i ih =>
    intro hi
    rw [rowsOf_succ hi]
    exact good_all (ih (by omega)) (h i hi)
theorem Chn.snoc {R : List MRec} (h : Chn R) {r : MRec} (ho : Okay (rowsOf R) R.length r.pos r.chs) : Chn (R ++ [r]) := by
  intro i hi
  rw [List.length_append, List.length_singleton] at hi
  rcases Nat.lt_or_ge i R.length with h1 | h1
  · rw [List.take_append_of_le_length (by omega), List.getD_eq_getElem?_getD, List.getElem?_append_left h1, ← List.getD_eq_getElem?_getD]
    exact h i h1
  · obtain rfl : i = R.length := by omega
    rw [List.take_append_of_le_length (Nat.le_refl _), List.take_length, List.getD_eq_getElem?_getD, List.getElem?_append_right (Nat.le_refl _), Nat.sub_self]
    exact ho
theorem Chn.nil : Chn [] := fun i hi => by simp at hi
theorem Chn.take {R : List MRec} (h : Chn R) (n : Nat) : Chn (R.take n) := fun i hi => by
  rw [List.length_take] at hi
  have := h i (by omega)
  rw [List.take_take, Nat.min_eq_left (by omega)]
  rw [List.getD_eq_getElem?_getD, List.getElem?_take_of_lt (by omega), ← List.getD_eq_getElem?_getD]
  exact this
end Go.Proofs.YtgbnjjgnihjfgaaGreat
end

section
set_option linter.unusedVariables false
set_option linter.unusedSimpArgs false
namespace Go.Proofs.YtgbnjjgnihjfgaaGreat
open Go.RowKit Go.Sort Go.ChangeMaps Go.MapKept

theorem vrC_t (p : Int) (v : Value) (L : List MCh) (w : World) (hv : ChS w v L) (h : VRec p L) : Calls Tryz.prog 39 #[.agg #[.int .i64 p, v]] w fun e w' => e = .returned (.bool true) ∧ Below w.heap.size w w' :=
  (validRecord_any p v L w hv).mono fun e w' hw => by rw [vrec, decide_eq_true h] at hw; exact hw
theorem fitC_ok {W : World} {b : Nat} {m : Option Nat} {L : List MRow} {p : Int} (h : StAt W b m L p) {pos : Int} {cs : List MCh} {v : Value} (hv : ChS W v cs) (hr : VRec pos cs) :
    Calls Tryz.prog 40 #[.pointer (some ⟨b, 0, none⟩), v] W fun e w' => e = .returned (.bool (fitB L cs)) ∧ Below W.heap.size W w' := by
  obtain ⟨a, n, cap, rfl, hn, hc1, hc2, hcell⟩ := hv
  obtain ⟨vb, vo, rfl, hb, hc⟩ := hcell (by rw [hn]; exact hr.2.1.1)
  exact fit_in h n cap cs hn (by rw [hn]; exact hr.2.1.2) (vrec_mem hr) vb vo hb hc
theorem fit_ct {W : World} {b : Nat} {m : Option Nat} {L : List MRow} {p : Int} (h : StAt W b m L p) {pos : Int} {cs : List MCh} {v : Value} (hv : ChS W v cs) (hr : VRec pos cs) (hf : Fits L cs ∧ cnt L.length cs ≤ 2000) :
    Calls Tryz.prog 40 #[.pointer (some ⟨b, 0, none⟩), v] W fun e w' => e = .returned (.bool true) ∧ Below W.heap.size W w' :=
  (fitC_ok h hv hr).mono fun e w' hw => by rw [fitB, decide_eq_true hf] at hw; exact hw
end Go.Proofs.YtgbnjjgnihjfgaaGreat
end

section
set_option linter.unusedVariables false
set_option linter.unusedSimpArgs false
namespace Go.Proofs.YtgbnjjgnihjfgaaGreat
open Go.RowKit Go.Sort Go.ChangeMaps Go.MapKept

theorem chat_ne {W : World} {vb o b : Nat} {c : MCh} {x y : Value} {t : TypeId} {fr : Nat × Nat} (h : ChAt W vb o c) (hb : W.heap[b]? = some (.cells #[x, y] t fr)) : vb ≠ b := by
  intro e
  have := h 9 (by omega)
  rw [e] at this
  simp [World.cell?, hb, chCells] at this
theorem chat_ne_map {W : World} {vb o b : Nat} {c : MCh} {L : List MRow} (h : ChAt W vb o c) (hs : StMap W b L) : vb ≠ b := by
  intro e
  obtain ⟨es, clock, hb, _⟩ := hs
  have := h 9 (by omega)
  rw [e] at this
  simp [World.cell?, hb, chCells] at this
theorem stMap_nil {W : World} {b : Nat} (h : W.heap[b]? = some (.map #[] 0)) : StMap W b [] := ⟨#[], 0, h, stamped_empty 0, List.Perm.refl _, fun r hr => by simp at hr⟩

set_option maxRecDepth 100000 in
set_option maxHeartbeats 8000000 in
theorem apply_ok_some {W : World} {b : Nat} {mb : Nat} {L : List MRow} {p : Int} (h : StAt W b (some mb) L p) {pos : Int} {cs : List MCh} {v : Value} (hv : ChS W v cs) (ho : Okay L p pos cs) :
    Calls Tryz.prog 15 #[.pointer (some ⟨b, 0, none⟩), .agg #[.int .i64 pos, v]] W fun e w' => e = .returned (.int .i64 0) ∧ ∃ m', StAt w' b m' (stepAll L cs) pos ∧ Kept (foot b (some mb)) W w' ∧ m' = some mb := by
  have HS := Lib.hid h
  have HV := Lib.hid hv
  have HO := Lib.hid ho
  have hw1 : IntKind.i64.wrap (p + 1) = p + 1 := by rw [IntKind.wrap_i64]; have := h.pos; omega
  have d2 : (pos != p + 1) = false := by simp [ho.2.1]
  have hmn := fun w => run_eql_map_nil (P := Tryz.prog) w 76 110 57 (some mb) Tryz.underlying76
  have hmk := fun w => run_makeMap (P := Tryz.prog) 76 w
  have hblt := h.lt
  have hmlt : mb < W.heap.size := h.mlt rfl
  obtain ⟨a, n, cap, rfl, hn, hc1, hc2, hcell⟩ := hv
  have hn1 : 1 ≤ n := by rw [hn]; exact ho.1.2.1.1
  have hn8 : n ≤ 8 := by rw [hn]; exact ho.1.2.1.2
  obtain ⟨vb, vo, rfl, hvb, hc⟩ := hcell hn1
  have HN := Lib.hid hn
  have HC := Lib.hid hc
  have hnb : vb ≠ b := chat_ne (hc 0 hn1) h.blk
  clear h ho hn hc hcell
  go_enter Tryz.func15, Tryz.ntmps15
  go_wp2_with fail
  obtain ⟨wb, Hwb⟩ : ∃ wb, Hid (W.alloc (.cells #[.int .i64 pos, .slice (some ⟨vb, vo, none⟩) n cap] 41) = wb) := ⟨_, Lib.hid rfl⟩
  rw [Hwb.out]
  have Hrb : Hid (Below W.heap.size W wb) := Lib.hid (by rw [← Hwb.out]; exact ba _ _)
  have HR : Hid (wb.heap[W.heap.size]? = some (.cells #[.int .i64 pos, .slice (some ⟨vb, vo, none⟩) n cap] 41 (0, 0))) := Lib.hid (by rw [← Hwb.out]; exact (MapKept.heap_alloc W _).1)
  have hwz : W.heap.size < wb.heap.size := by rw [← Hwb.out]; simp
  have r0 : ∀ d os, (grow (redrawn wb d) os).cell? ⟨W.heap.size, 0, none⟩ = some (.int .i64 pos) := fun d os => cell_regrown (by simp [World.cell?, HR.out]) d os
  have r1 : ∀ d os, (grow (redrawn wb d) os).cell? ⟨W.heap.size, 1, none⟩ = some (.slice (some ⟨vb, vo, none⟩) n cap) := fun d os => cell_regrown (by simp [World.cell?, HR.out]) d os
  have s1 : ∀ d os, (grow (redrawn wb d) os).cell? ⟨b, 1, none⟩ = some (.int .i64 p) := fun d os => cell_regrown (HS.out.below Hrb.out).cells.2.1 d os
  have hvr : ∀ d os, Calls Tryz.prog 39 #[.agg #[.int .i64 pos, .slice (some ⟨vb, vo, none⟩) n cap]] (grow (redrawn wb d) os) fun e w'' => e = .returned (.bool true) ∧ ∃ p : Regrown, w'' = grow (redrawn wb p.d) p.os := fun d os => Calls.regrown_of (vrC_t _ _ _ _ (HV.out.below (bt Hrb.out (below_regrown wb d os))) HO.out.1)
  have hft : ∀ d os, Calls Tryz.prog 40 #[.pointer (some ⟨b, 0, none⟩), .slice (some ⟨vb, vo, none⟩) n cap] (grow (redrawn wb d) os) fun e w'' => e = .returned (.bool true) ∧ ∃ p : Regrown, w'' = grow (redrawn wb p.d) p.os := fun d os => Calls.regrown_of (fit_ct (HS.out.below (bt Hrb.out (below_regrown wb d os))) (HV.out.below (bt Hrb.out (below_regrown wb d os))) HO.out.1 HO.out.2.2)
  refine wp_region_quiet_below (by kernel_rfl) (by kernel_rfl) ?_
  repeat (first | go_big_quiet_step (first | with_reducible exact hvr _ _ | with_reducible exact hft _ _) | quiet_step (first | with_reducible exact hvr _ _ | with_reducible exact hft _ _))
  refine wpQuiet_nil ?_
  intro _ hw'
  obtain ⟨⟨dq, osq⟩, hw''⟩ := hw'
  subst hw''
  have HBq : Hid (Below wb.heap.size wb (grow (redrawn wb dq) osq)) := Lib.hid (below_regrown wb dq osq)
  obtain ⟨w1, Hw1⟩ : ∃ w1, Hid (grow (redrawn wb dq) osq = w1) := ⟨_, Lib.hid rfl⟩
  rw [Hw1.out] at HBq ⊢
  clear r0 r1 s1 hvr hft
  have HS1 := Lib.hid (HS.out.below (bt Hrb.out HBq.out))
  have HR1 : Hid (w1.heap[W.heap.size]? = some (.cells #[.int .i64 pos, .slice (some ⟨vb, vo, none⟩) n cap] 41 (0, 0))) := Lib.hid ((HBq.out.block _ hwz).trans HR.out)
  have HW1 : Hid (Below W.heap.size W w1) := Lib.hid (bt Hrb.out HBq.out)
  have hz1 : W.heap.size < w1.heap.size := Nat.lt_of_lt_of_le hwz HBq.out.size
  obtain ⟨c0, c1, f0, f1⟩ := HS1.out.cells
  have q0 : w1.cell? ⟨W.heap.size, 0, none⟩ = some (.int .i64 pos) := by simp [World.cell?, HR1.out]
  have q1 : w1.cell? ⟨W.heap.size, 1, none⟩ = some (.slice (some ⟨vb, vo, none⟩) n cap) := by simp [World.cell?, HR1.out]
  go_wp2_with fail
  clear hmn hmk
  have HSm : Hid (StMap w1 mb L) := Lib.hid HS1.out.mp
  have HBb : Hid (w1.heap[b]? = some (.cells #[.map (some mb), .int .i64 p] 80 (0, 0))) := Lib.hid HS1.out.blk
  have hbm : mb ≠ b := fun e => HS1.out.ne (by rw [e])
  have HC1 : Hid (∀ i, i < n → ChAt w1 vb (vo + i * 10) (cs.getD i chZ)) := Lib.hid (fun i hi => (HC.out i hi).below hvb HW1.out)
  have hvm : vb ≠ mb := chat_ne_map (HC1.out 0 hn1) HSm.out
  have HK1 : Hid (Kept (foot b (some mb)) W w1) := Lib.hid (Kept.of_below HW1.out)
  have hml : mb < w1.heap.size := HSm.out.lt
  obtain ⟨w2, Hw2⟩ : ∃ w2, Hid (w1 = w2) := ⟨_, Lib.hid rfl⟩
  rw [Hw2.out] at HSm HBb HC1 HK1 HR1 hz1 hml ⊢
  clear c0 c1 f0 f1 q0 q1
  go_loopw [46] (fun i wr => ∃ k : Nat, k ≤ n ∧ i = .int .i64 k ∧ Hid (StMap wr mb (stepAll L (cs.take k))) ∧ Hid (Kept (fun j => j = mb) w2 wr)) (fun i _ => n - (intOf i).toNat)
  case atStart => exact ⟨0, by omega, rfl, HSm, Lib.hid (Kept.refl _ _)⟩
  case round =>
    obtain ⟨k, hk, rfl, HSr, HKr⟩ := hrel
    have hrz := HKr.out.size
    by_cases hlt : k < n
    · have HCk := (HC1.out k hlt).kept HKr.out (Nat.lt_of_lt_of_le hvb HK1.out.size) hvm
      obtain ⟨c, HcE⟩ : ∃ c, Hid (cs.getD k chZ = c) := ⟨_, Lib.hid rfl⟩
      have HVc : Hid (VCh c) := Lib.hid (by rw [← HcE.out]; exact (HO.out.1.2.2 k (by rw [← HN.out]; exact hlt)).1)
      have Htk : Hid (stepAll L (cs.take (k + 1)) = stepC (stepAll L (cs.take k)) c) := Lib.hid (by rw [take_snoc' (d := chZ) (by rw [← HN.out]; exact hlt), stepAll_snoc, HcE.out])
      rw [HcE.out] at HCk
      obtain ⟨t, kk, had, ⟨oa, ob, oc⟩, has, ⟨na, nb, nc⟩⟩ := c
      obtain ⟨d0, d1, d2', d3, d4, d5, d6, d7, d8, d9⟩ := HCk.cells
      go_wp2_with fail
      obtain ⟨wx, Hwx⟩ : ∃ wx, Hid (wr.alloc (.cells #[.int .i64 t, .int .i64 kk, .bool had, .int .i64 oa, .int .i64 ob, .int .i64 oc, .bool has, .int .i64 na, .int .i64 nb, .int .i64 nc] 45) = wx) := ⟨_, Lib.hid rfl⟩
      rw [Hwx.out]
      have HCx : Hid (ChAt wx wr.heap.size 0 ⟨t, kk, had, ⟨oa, ob, oc⟩, has, ⟨na, nb, nc⟩⟩) := Lib.hid (by rw [← Hwx.out]; exact ChAt_new wr ⟨t, kk, had, ⟨oa, ob, oc⟩, has, ⟨na, nb, nc⟩⟩)
      have Hrx : Hid (Below wr.heap.size wr wx) := Lib.hid (by rw [← Hwx.out]; exact ba _ _)
      have hsz : wr.heap.size < wx.heap.size := by rw [← Hwx.out]; simp
      have hcell : ∀ w0, BW wx w0 → ∀ j, j < 10 → ∀ d os, (grow (redrawn w0 d) os).cell? ⟨wr.heap.size, j, none⟩ = (chCells ⟨t, kk, had, ⟨oa, ob, oc⟩, has, ⟨na, nb, nc⟩⟩)[j]? := fun w0 h j hj d os => by
        have := ((HCx.out.below hsz h).below (Nat.lt_of_lt_of_le hsz h.size) (below_regrown w0 d os)) j hj
        simpa using this
      have g0 := fun w0 h => hcell w0 h 0 (by omega)
      have g1 := fun w0 h => hcell w0 h 1 (by omega)
      have g2 := fun w0 h => hcell w0 h 2 (by omega)
      have g3 := fun w0 h => hcell w0 h 3 (by omega)
      have g4 := fun w0 h => hcell w0 h 4 (by omega)
      have g5 := fun w0 h => hcell w0 h 5 (by omega)
      have g6 := fun w0 h => hcell w0 h 6 (by omega)
      have g7 := fun w0 h => hcell w0 h 7 (by omega)
      have g8 := fun w0 h => hcell w0 h 8 (by omega)
      have g9 := fun w0 h => hcell w0 h 9 (by omega)
      simp only [chCells, List.getElem?_toArray, List.getElem?_cons_zero, List.getElem?_cons_succ] at g0 g1 g2 g3 g4 g5 g6 g7 g8 g9
      clear hcell d0 d1 d2' d3 d4 d5 d6 d7 d8 d9
      refine wp_region_calm 4 5 [0, 1, 2, 3] (by kernel_rfl) (by kernel_rfl) (by intro oz h; simp at h) (by intro oz h; simp at h) (by rfl) ?_
      simp only [List.take_succ_cons, List.take_zero]
      iterate 4
        apply wpCalm_want
        · rfl
        · exact bc_refl
        · exact ⟨_, Below.refl _ _⟩
        · intro w0 hC0 K hK
          go_big_quiet_op
          exact hK
      refine wpCalm_nil ?_
      intro wy hby
      simp only [List.drop_succ_cons, List.drop_zero]
      clear g0 g1 g2 g3 g4 g5 g6 g7 g8 g9
      have hry : Below wr.heap.size wr wy := bt Hrx.out hby
      have HSy : Hid (StMap wy mb (stepAll L (cs.take k))) := Lib.hid (HSr.out.of_block (hry.block mb (by omega)))
      have HBy : Hid (wy.heap[b]? = some (.cells #[.map (some mb), .int .i64 p] 80 (0, 0))) := Lib.hid (by
        have hb2 : b < w2.heap.size := lt_of_block HBb.out
        rw [hry.block b (by omega), HKr.out.block b hb2 (fun e => hbm e.symm)]
        exact HBb.out)
      have HKy : Hid (Kept (fun j => j = mb) w2 wy) := Lib.hid (HKr.out.then hry)
      clear hry hby
      have HSt : Hid (Srt (stepAll L (cs.take k))) := Lib.hid (srt_all HS.out.good.1 _)
      go_wp2_with fail
      (with_reducible refine (change_any HBy.out HSy.out HSt.out _ HVc.out).mono ?_)
      rintro e wz ⟨rfl, hst, hkt⟩
      have HSz := Lib.hid hst
      have HKz : Hid (Kept (fun j => j = mb) w2 wz) := Lib.hid (HKy.out.trans hkt (fun _ _ f => f))
      clear hst hkt
      go_wp2_with fail
      exact ⟨⟨k + 1, by omega, by go_num, Lib.hid (by rw [Htk.out]; exact HSz.out), HKz⟩, by simp [intOf]; omega⟩
    · obtain rfl : k = n := by omega
      have HRr : Hid (wr.heap[W.heap.size]? = some (.cells #[.int .i64 pos, .slice (some ⟨vb, vo, none⟩) k cap] 41 (0, 0))) := Lib.hid ((HKr.out.block _ hz1 (fun e => by
        have := HSm.out
        rw [← e] at this
        obtain ⟨es, cl, h1, _⟩ := this
        rw [HR1.out] at h1
        cases h1)).trans HR1.out)
      have HBr : Hid (wr.heap[b]? = some (.cells #[.map (some mb), .int .i64 p] 80 (0, 0))) := Lib.hid ((HKr.out.block b (lt_of_block HBb.out) (fun e => hbm e.symm)).trans HBb.out)
      have q0 : wr.cell? ⟨W.heap.size, 0, none⟩ = some (.int .i64 pos) := by simp [World.cell?, HRr.out]
      have b1 : wr.cell? ⟨b, 1, none⟩ = some (.int .i64 p) := by simp [World.cell?, HBr.out]
      have f1 : wr.frozen? ⟨b, 1, none⟩ = false := by simp [World.frozen?, HBr.out]
      go_wp2_with fail
      go_ret
      refine ⟨rfl, some mb, ⟨two_setCell1 HBr.out, ?_, good_all HS.out.good HO.out, by have := HO.out.1.1; omega⟩, ?_, rfl⟩
      · have := HSr.out
        rw [HN.out, List.take_length] at this
        exact StMap.of_block this (Below.heap_setCell _ _ _ _ hbm)
      · refine Kept.setCell (HK1.out.trans HKr.out (fun i hi e => ?_)) (.inl (.inl rfl)) _
        exact .inr (by rw [e])

set_option maxRecDepth 100000 in
set_option maxHeartbeats 8000000 in
theorem apply_ok_none {W : World} {b : Nat} {L : List MRow} {p : Int} (h : StAt W b (none) L p) {pos : Int} {cs : List MCh} {v : Value} (hv : ChS W v cs) (ho : Okay L p pos cs) :
    Calls Tryz.prog 15 #[.pointer (some ⟨b, 0, none⟩), .agg #[.int .i64 pos, v]] W fun e w' => e = .returned (.int .i64 0) ∧ ∃ m', StAt w' b m' (stepAll L cs) pos ∧ Kept (foot b (none)) W w' ∧ ∃ x, m' = some x ∧ W.heap.size ≤ x := by
  have HS := Lib.hid h
  have HV := Lib.hid hv
  have HO := Lib.hid ho
  have hw1 : IntKind.i64.wrap (p + 1) = p + 1 := by rw [IntKind.wrap_i64]; have := h.pos; omega
  have d2 : (pos != p + 1) = false := by simp [ho.2.1]
  have hmn := fun w => run_eql_map_nil (P := Tryz.prog) w 76 110 57 (none) Tryz.underlying76
  have hmk := fun w => run_makeMap (P := Tryz.prog) 76 w
  have hblt := h.lt

  obtain ⟨a, n, cap, rfl, hn, hc1, hc2, hcell⟩ := hv
  have hn1 : 1 ≤ n := by rw [hn]; exact ho.1.2.1.1
  have hn8 : n ≤ 8 := by rw [hn]; exact ho.1.2.1.2
  obtain ⟨vb, vo, rfl, hvb, hc⟩ := hcell hn1
  have HN := Lib.hid hn
  have HC := Lib.hid hc
  have hnb : vb ≠ b := chat_ne (hc 0 hn1) h.blk
  clear h ho hn hc hcell
  go_enter Tryz.func15, Tryz.ntmps15
  go_wp2_with fail
  obtain ⟨wb, Hwb⟩ : ∃ wb, Hid (W.alloc (.cells #[.int .i64 pos, .slice (some ⟨vb, vo, none⟩) n cap] 41) = wb) := ⟨_, Lib.hid rfl⟩
  rw [Hwb.out]
  have Hrb : Hid (Below W.heap.size W wb) := Lib.hid (by rw [← Hwb.out]; exact ba _ _)
  have HR : Hid (wb.heap[W.heap.size]? = some (.cells #[.int .i64 pos, .slice (some ⟨vb, vo, none⟩) n cap] 41 (0, 0))) := Lib.hid (by rw [← Hwb.out]; exact (MapKept.heap_alloc W _).1)
  have hwz : W.heap.size < wb.heap.size := by rw [← Hwb.out]; simp
  have r0 : ∀ d os, (grow (redrawn wb d) os).cell? ⟨W.heap.size, 0, none⟩ = some (.int .i64 pos) := fun d os => cell_regrown (by simp [World.cell?, HR.out]) d os
  have r1 : ∀ d os, (grow (redrawn wb d) os).cell? ⟨W.heap.size, 1, none⟩ = some (.slice (some ⟨vb, vo, none⟩) n cap) := fun d os => cell_regrown (by simp [World.cell?, HR.out]) d os
  have s1 : ∀ d os, (grow (redrawn wb d) os).cell? ⟨b, 1, none⟩ = some (.int .i64 p) := fun d os => cell_regrown (HS.out.below Hrb.out).cells.2.1 d os
  have hvr : ∀ d os, Calls Tryz.prog 39 #[.agg #[.int .i64 pos, .slice (some ⟨vb, vo, none⟩) n cap]] (grow (redrawn wb d) os) fun e w'' => e = .returned (.bool true) ∧ ∃ p : Regrown, w'' = grow (redrawn wb p.d) p.os := fun d os => Calls.regrown_of (vrC_t _ _ _ _ (HV.out.below (bt Hrb.out (below_regrown wb d os))) HO.out.1)
  have hft : ∀ d os, Calls Tryz.prog 40 #[.pointer (some ⟨b, 0, none⟩), .slice (some ⟨vb, vo, none⟩) n cap] (grow (redrawn wb d) os) fun e w'' => e = .returned (.bool true) ∧ ∃ p : Regrown, w'' = grow (redrawn wb p.d) p.os := fun d os => Calls.regrown_of (fit_ct (HS.out.below (bt Hrb.out (below_regrown wb d os))) (HV.out.below (bt Hrb.out (below_regrown wb d os))) HO.out.1 HO.out.2.2)
  refine wp_region_quiet_below (by kernel_rfl) (by kernel_rfl) ?_
  repeat (first | go_big_quiet_step (first | with_reducible exact hvr _ _ | with_reducible exact hft _ _) | quiet_step (first | with_reducible exact hvr _ _ | with_reducible exact hft _ _))
  refine wpQuiet_nil ?_
  intro _ hw'
  obtain ⟨⟨dq, osq⟩, hw''⟩ := hw'
  subst hw''
  have HBq : Hid (Below wb.heap.size wb (grow (redrawn wb dq) osq)) := Lib.hid (below_regrown wb dq osq)
  obtain ⟨w1, Hw1⟩ : ∃ w1, Hid (grow (redrawn wb dq) osq = w1) := ⟨_, Lib.hid rfl⟩
  rw [Hw1.out] at HBq ⊢
  clear r0 r1 s1 hvr hft
  have HS1 := Lib.hid (HS.out.below (bt Hrb.out HBq.out))
  have HR1 : Hid (w1.heap[W.heap.size]? = some (.cells #[.int .i64 pos, .slice (some ⟨vb, vo, none⟩) n cap] 41 (0, 0))) := Lib.hid ((HBq.out.block _ hwz).trans HR.out)
  have HW1 : Hid (Below W.heap.size W w1) := Lib.hid (bt Hrb.out HBq.out)
  have hz1 : W.heap.size < w1.heap.size := Nat.lt_of_lt_of_le hwz HBq.out.size
  obtain ⟨c0, c1, f0, f1⟩ := HS1.out.cells
  have q0 : w1.cell? ⟨W.heap.size, 0, none⟩ = some (.int .i64 pos) := by simp [World.cell?, HR1.out]
  have q1 : w1.cell? ⟨W.heap.size, 1, none⟩ = some (.slice (some ⟨vb, vo, none⟩) n cap) := by simp [World.cell?, HR1.out]
  have hbw : b < w1.heap.size := HS1.out.lt
  have hbne : ¬ b = w1.heap.size := by omega
  go_wp2_with fail
  clear hmn hmk hbne
  have hzs : Hid ((w1.setCell ⟨b, 0, none⟩ (.map (some w1.heap.size))).heap.size = w1.heap.size) := Lib.hid (by simp)
  obtain ⟨mb, Hmb⟩ : ∃ mb, Hid (w1.heap.size = mb) := ⟨_, Lib.hid rfl⟩
  have hml : mb < ((w1.setCell ⟨b, 0, none⟩ (.map (some w1.heap.size))).alloc (.map #[] 0)).heap.size := by rw [← Hmb.out]; simp
  have hbm : mb ≠ b := by rw [← Hmb.out]; omega
  have HSm : Hid (StMap ((w1.setCell ⟨b, 0, none⟩ (.map (some w1.heap.size))).alloc (.map #[] 0)) mb L) := Lib.hid (by
    have hL : L = [] := HS1.out.mp
    rw [hL]
    refine stMap_nil ?_
    rw [← Hmb.out]
    have := (MapKept.heap_alloc (w1.setCell ⟨b, 0, none⟩ (.map (some w1.heap.size))) (.map #[] 0)).1
    rwa [hzs.out] at this)
  have HBb : Hid (((w1.setCell ⟨b, 0, none⟩ (.map (some w1.heap.size))).alloc (.map #[] 0)).heap[b]? = some (.cells #[.map (some mb), .int .i64 p] 80 (0, 0))) := Lib.hid (by
    rw [← Hmb.out]
    exact ((MapKept.heap_alloc (w1.setCell ⟨b, 0, none⟩ (.map (some w1.heap.size))) (.map #[] 0)).2 b (by rw [hzs.out]; exact hbw)).trans (two_setCell0 HS1.out.blk))
  have HKa : Hid (Kept (fun k => k = b) w1 ((w1.setCell ⟨b, 0, none⟩ (.map (some w1.heap.size))).alloc (.map #[] 0))) := Lib.hid (((Kept.refl (fun k => k = b) w1).setCell (p := ⟨b, 0, none⟩) (.inl rfl) _).then (ba _ _))
  have HC1 : Hid (∀ i, i < n → ChAt ((w1.setCell ⟨b, 0, none⟩ (.map (some w1.heap.size))).alloc (.map #[] 0)) vb (vo + i * 10) (cs.getD i chZ)) := Lib.hid (fun i hi => ((HC.out i hi).below hvb HW1.out).kept HKa.out (Nat.lt_of_lt_of_le hvb HW1.out.size) hnb)
  have hvm : vb ≠ mb := chat_ne_map (HC1.out 0 hn1) HSm.out
  have HK1 : Hid (Kept (foot b (none)) W ((w1.setCell ⟨b, 0, none⟩ (.map (some w1.heap.size))).alloc (.map #[] 0))) := Lib.hid ((Kept.of_below HW1.out).trans HKa.out (fun i _ e => .inl e))
  have HRn : Hid (((w1.setCell ⟨b, 0, none⟩ (.map (some w1.heap.size))).alloc (.map #[] 0)).heap[W.heap.size]? = some (.cells #[.int .i64 pos, .slice (some ⟨vb, vo, none⟩) n cap] 41 (0, 0))) := Lib.hid ((HKa.out.block _ hz1 (by omega)).trans HR1.out)
  have hz2 : W.heap.size < ((w1.setCell ⟨b, 0, none⟩ (.map (some w1.heap.size))).alloc (.map #[] 0)).heap.size := Nat.lt_of_lt_of_le hz1 HKa.out.size
  have hmW : W.heap.size ≤ mb := by rw [← Hmb.out]; omega
  obtain ⟨w2, Hw2⟩ : ∃ w2, Hid ((w1.setCell ⟨b, 0, none⟩ (.map (some w1.heap.size))).alloc (.map #[] 0) = w2) := ⟨_, Lib.hid rfl⟩
  rw [Hw2.out] at HSm HBb HC1 HK1 HRn hz2 hml ⊢
  clear HKa HR1 hz1 Hmb hbw hzs
  have HR1 := HRn
  have hz1 := hz2
  clear HRn hz2
  clear c0 c1 f0 f1 q0 q1
  go_loopw [46] (fun i wr => ∃ k : Nat, k ≤ n ∧ i = .int .i64 k ∧ Hid (StMap wr mb (stepAll L (cs.take k))) ∧ Hid (Kept (fun j => j = mb) w2 wr)) (fun i _ => n - (intOf i).toNat)
  case atStart => exact ⟨0, by omega, rfl, HSm, Lib.hid (Kept.refl _ _)⟩
  case round =>
    obtain ⟨k, hk, rfl, HSr, HKr⟩ := hrel
    have hrz := HKr.out.size
    by_cases hlt : k < n
    · have HCk := (HC1.out k hlt).kept HKr.out (Nat.lt_of_lt_of_le hvb HK1.out.size) hvm
      obtain ⟨c, HcE⟩ : ∃ c, Hid (cs.getD k chZ = c) := ⟨_, Lib.hid rfl⟩
      have HVc : Hid (VCh c) := Lib.hid (by rw [← HcE.out]; exact (HO.out.1.2.2 k (by rw [← HN.out]; exact hlt)).1)
      have Htk : Hid (stepAll L (cs.take (k + 1)) = stepC (stepAll L (cs.take k)) c) := Lib.hid (by rw [take_snoc' (d := chZ) (by rw [← HN.out]; exact hlt), stepAll_snoc, HcE.out])
      rw [HcE.out] at HCk
      obtain ⟨t, kk, had, ⟨oa, ob, oc⟩, has, ⟨na, nb, nc⟩⟩ := c
      obtain ⟨d0, d1, d2', d3, d4, d5, d6, d7, d8, d9⟩ := HCk.cells
      go_wp2_with fail
      obtain ⟨wx, Hwx⟩ : ∃ wx, Hid (wr.alloc (.cells #[.int .i64 t, .int .i64 kk, .bool had, .int .i64 oa, .int .i64 ob, .int .i64 oc, .bool has, .int .i64 na, .int .i64 nb, .int .i64 nc] 45) = wx) := ⟨_, Lib.hid rfl⟩
      rw [Hwx.out]
      have HCx : Hid (ChAt wx wr.heap.size 0 ⟨t, kk, had, ⟨oa, ob, oc⟩, has, ⟨na, nb, nc⟩⟩) := Lib.hid (by rw [← Hwx.out]; exact ChAt_new wr ⟨t, kk, had, ⟨oa, ob, oc⟩, has, ⟨na, nb, nc⟩⟩)
      have Hrx : Hid (Below wr.heap.size wr wx) := Lib.hid (by rw [← Hwx.out]; exact ba _ _)
      have hsz : wr.heap.size < wx.heap.size := by rw [← Hwx.out]; simp
      have hcell : ∀ w0, BW wx w0 → ∀ j, j < 10 → ∀ d os, (grow (redrawn w0 d) os).cell? ⟨wr.heap.size, j, none⟩ = (chCells ⟨t, kk, had, ⟨oa, ob, oc⟩, has, ⟨na, nb, nc⟩⟩)[j]? := fun w0 h j hj d os => by
        have := ((HCx.out.below hsz h).below (Nat.lt_of_lt_of_le hsz h.size) (below_regrown w0 d os)) j hj
        simpa using this
      have g0 := fun w0 h => hcell w0 h 0 (by omega)
      have g1 := fun w0 h => hcell w0 h 1 (by omega)
      have g2 := fun w0 h => hcell w0 h 2 (by omega)
      have g3 := fun w0 h => hcell w0 h 3 (by omega)
      have g4 := fun w0 h => hcell w0 h 4 (by omega)
      have g5 := fun w0 h => hcell w0 h 5 (by omega)
      have g6 := fun w0 h => hcell w0 h 6 (by omega)
      have g7 := fun w0 h => hcell w0 h 7 (by omega)
      have g8 := fun w0 h => hcell w0 h 8 (by omega)
      have g9 := fun w0 h => hcell w0 h 9 (by omega)
      simp only [chCells, List.getElem?_toArray, List.getElem?_cons_zero, List.getElem?_cons_succ] at g0 g1 g2 g3 g4 g5 g6 g7 g8 g9
      clear hcell d0 d1 d2' d3 d4 d5 d6 d7 d8 d9
      refine wp_region_calm 4 5 [0, 1, 2, 3] (by kernel_rfl) (by kernel_rfl) (by intro oz h; simp at h) (by intro oz h; simp at h) (by rfl) ?_
      simp only [List.take_succ_cons, List.take_zero]
      iterate 4
        apply wpCalm_want
        · rfl
        · exact bc_refl
        · exact ⟨_, Below.refl _ _⟩
        · intro w0 hC0 K hK
          go_big_quiet_op
          exact hK
      refine wpCalm_nil ?_
      intro wy hby
      simp only [List.drop_succ_cons, List.drop_zero]
      clear g0 g1 g2 g3 g4 g5 g6 g7 g8 g9
      have hry : Below wr.heap.size wr wy := bt Hrx.out hby
      have HSy : Hid (StMap wy mb (stepAll L (cs.take k))) := Lib.hid (HSr.out.of_block (hry.block mb (by omega)))
      have HBy : Hid (wy.heap[b]? = some (.cells #[.map (some mb), .int .i64 p] 80 (0, 0))) := Lib.hid (by
        have hb2 : b < w2.heap.size := lt_of_block HBb.out
        rw [hry.block b (by omega), HKr.out.block b hb2 (fun e => hbm e.symm)]
        exact HBb.out)
      have HKy : Hid (Kept (fun j => j = mb) w2 wy) := Lib.hid (HKr.out.then hry)
      clear hry hby
      have HSt : Hid (Srt (stepAll L (cs.take k))) := Lib.hid (srt_all HS.out.good.1 _)
      go_wp2_with fail
      (with_reducible refine (change_any HBy.out HSy.out HSt.out _ HVc.out).mono ?_)
      rintro e wz ⟨rfl, hst, hkt⟩
      have HSz := Lib.hid hst
      have HKz : Hid (Kept (fun j => j = mb) w2 wz) := Lib.hid (HKy.out.trans hkt (fun _ _ f => f))
      clear hst hkt
      go_wp2_with fail
      exact ⟨⟨k + 1, by omega, by go_num, Lib.hid (by rw [Htk.out]; exact HSz.out), HKz⟩, by simp [intOf]; omega⟩
    · obtain rfl : k = n := by omega
      have HRr : Hid (wr.heap[W.heap.size]? = some (.cells #[.int .i64 pos, .slice (some ⟨vb, vo, none⟩) k cap] 41 (0, 0))) := Lib.hid ((HKr.out.block _ hz1 (fun e => by
        have := HSm.out
        rw [← e] at this
        obtain ⟨es, cl, h1, _⟩ := this
        rw [HR1.out] at h1
        cases h1)).trans HR1.out)
      have HBr : Hid (wr.heap[b]? = some (.cells #[.map (some mb), .int .i64 p] 80 (0, 0))) := Lib.hid ((HKr.out.block b (lt_of_block HBb.out) (fun e => hbm e.symm)).trans HBb.out)
      have q0 : wr.cell? ⟨W.heap.size, 0, none⟩ = some (.int .i64 pos) := by simp [World.cell?, HRr.out]
      have b1 : wr.cell? ⟨b, 1, none⟩ = some (.int .i64 p) := by simp [World.cell?, HBr.out]
      have f1 : wr.frozen? ⟨b, 1, none⟩ = false := by simp [World.frozen?, HBr.out]
      go_wp2_with fail
      go_ret
      refine ⟨rfl, some mb, ⟨two_setCell1 HBr.out, ?_, good_all HS.out.good HO.out, by have := HO.out.1.1; omega⟩, ?_, mb, rfl, hmW⟩
      · have := HSr.out
        rw [HN.out, List.take_length] at this
        exact StMap.of_block this (Below.heap_setCell _ _ _ _ hbm)
      · refine Kept.setCell (HK1.out.trans HKr.out (fun i hi e => ?_)) (.inl (.inl rfl)) _
        omega

theorem apply_ok {W : World} {b : Nat} {m : Option Nat} {L : List MRow} {p : Int} (h : StAt W b m L p) {pos : Int} {cs : List MCh} {v : Value} (hv : ChS W v cs) (ho : Okay L p pos cs) :
    Calls Tryz.prog 15 #[.pointer (some ⟨b, 0, none⟩), .agg #[.int .i64 pos, v]] W fun e w' => e = .returned (.int .i64 0) ∧ ∃ m', StAt w' b m' (stepAll L cs) pos ∧ Kept (foot b m) W w' ∧ (m' = m ∨ ∃ x, m' = some x ∧ W.heap.size ≤ x) := by
  cases m with
  | none => exact (apply_ok_none h hv ho).mono fun e w' ⟨he, m', h1, h2, h3⟩ => ⟨he, m', h1, h2, .inr h3⟩
  | some mb => exact (apply_ok_some h hv ho).mono fun e w' ⟨he, m', h1, h2, h3⟩ => ⟨he, m', h1, h2, .inl h3⟩
end Go.Proofs.YtgbnjjgnihjfgaaGreat
end

