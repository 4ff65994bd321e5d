/- STATES IN MEMORY: what a state's blocks hold; worlds in which nothing but some blocks have turned; New, placeOf, Position, Len. -/
import Derived.Test.YtaapggeaoacikaaS2
import Derived.OneCell
set_option linter.unusedVariables false
set_option linter.unusedSimpArgs false
namespace Go.Proofs.Ytaapggeaoacikaa
open Go.RowKit Go.Sort Go.ChangeMaps Go.MapKept

/-- W' is W but for the blocks of F; blocks may have been laid. -/
structure Kept (F : Nat → Prop) (W W' : World) : Prop where
  os : W'.os = W.os
  tape : W'.tape = W.tape
  output : W'.output = W.output
  size : W.heap.size ≤ W'.heap.size
  block : ∀ k, k < W.heap.size → ¬ F k → W'.heap[k]? = W.heap[k]?
theorem Kept.of_below {F : Nat → Prop} {W W' : World} (h : Below W.heap.size W W') : Kept F W W' := ⟨h.os, h.tape, h.output, h.size, fun k hk _ => h.block k hk⟩
theorem Kept.refl (F : Nat → Prop) (W : World) : Kept F W W := ⟨rfl, rfl, rfl, Nat.le_refl _, fun _ _ _ => rfl⟩
theorem Kept.below {F : Nat → Prop} {W W' : World} (h : Kept F W W') {n : Nat} (hn : n ≤ W.heap.size) (hF : ∀ k, F k → n ≤ k) : Below n W W' :=
  ⟨h.os, h.tape, h.output, h.size, fun k hk => h.block k (by omega) (fun f => by have := hF k f; omega)⟩
theorem Kept.trans {F G : Nat → Prop} {A B C : World} (h : Kept F A B) (k : Kept G B C) (hG : ∀ i, i < A.heap.size → G i → F i) : Kept F A C :=
  ⟨k.os.trans h.os, k.tape.trans h.tape, k.output.trans h.output, Nat.le_trans h.size k.size, fun i hi hf => (k.block i (Nat.lt_of_lt_of_le hi h.size) (fun g => hf (hG i hi g))).trans (h.block i hi hf)⟩
theorem Kept.then {F : Nat → Prop} {A B C : World} (h : Kept F A B) (k : Below B.heap.size B C) : Kept F A C := h.trans (Kept.of_below (F := F) k) (fun _ _ f => f)
theorem Kept.setCell {F : Nat → Prop} {A B : World} (h : Kept F A B) {p : Addr} (hp : F p.block ∨ A.heap.size ≤ p.block) (u : Value) : Kept F A (B.setCell p u) :=
  ⟨h.os, h.tape, h.output, by have := h.size; simpa using this, fun k hk hf => by
    rw [Below.heap_setCell _ _ _ _ (fun e => by
      rcases hp with hp | hp
      · exact hf (e ▸ hp)
      · omega)]
    exact h.block k hk hf⟩
theorem Turned.kept {W W' : World} {b : Nat} (h : Turned W W' b) : Kept (fun k => k = b) W W' := by
  obtain ⟨es, clock, es', clock', hb, rfl⟩ := h
  exact ⟨rfl, rfl, rfl, by simp [setBlock], fun i _ hi => heap_setBlock_other hb _ hi⟩

/-- The map's block, or none yet. -/
def MapIs (W : World) : Option Nat → List MRow → Prop
  | none, L => L = []
  | some b, L => StMap W b L
def GoodL (L : List MRow) : Prop := Srt L ∧ (∀ r ∈ L, VRow r) ∧ L.length ≤ 2000
/-- Block b is a state with the rows of L at position p; its map is m. -/
structure StAt (W : World) (b : Nat) (m : Option Nat) (L : List MRow) (p : Int) : Prop where
  blk : W.heap[b]? = some (.cells #[.map m, .int .i64 p] 73 (0, 0))
  mp : MapIs W m L
  good : GoodL L
  pos : 0 ≤ p ∧ p ≤ 10000
def foot (b : Nat) (m : Option Nat) : Nat → Prop := fun k => k = b ∨ m = some k

theorem MapIs.kept {W W' : World} {F : Nat → Prop} {m : Option Nat} {L : List MRow} (h : MapIs W m L) (k : Kept F W W') (hF : ∀ i, m = some i → ¬ F i) : MapIs W' m L := by
  cases m with
  | none => exact h
  | some b => exact StMap.of_block h (k.block b h.lt (hF b rfl))
theorem StAt.lt {W : World} {b : Nat} {m : Option Nat} {L : List MRow} {p : Int} (h : StAt W b m L p) : b < W.heap.size := lt_of_block h.blk
theorem StAt.mlt {W : World} {b : Nat} {m : Option Nat} {L : List MRow} {p : Int} (h : StAt W b m L p) {i : Nat} (e : m = some i) : i < W.heap.size := by
  have := h.mp
  rw [e] at this
  exact StMap.lt this
theorem StAt.ne {W : World} {b : Nat} {m : Option Nat} {L : List MRow} {p : Int} (h : StAt W b m L p) : m ≠ some b := by
  intro e
  have := h.mp
  rw [e] at this
  obtain ⟨es, clock, hb, _⟩ := this
  have h1 := h.blk
  rw [hb] at h1
  cases h1
theorem StAt.kept {W W' : World} {F : Nat → Prop} {b : Nat} {m : Option Nat} {L : List MRow} {p : Int} (h : StAt W b m L p) (k : Kept F W W') (hF : ∀ i, foot b m i → ¬ F i) : StAt W' b m L p :=
  ⟨(k.block b h.lt (hF b (.inl rfl))).trans h.blk, h.mp.kept k (fun i e => hF i (.inr e)), h.good, h.pos⟩
theorem StAt.below {W W' : World} {b : Nat} {m : Option Nat} {L : List MRow} {p : Int} (h : StAt W b m L p) (k : Below W.heap.size W W') : StAt W' b m L p := h.kept (F := fun _ => False) (Kept.of_below k) (fun _ _ => id)
theorem StAt.cells {W : World} {b : Nat} {m : Option Nat} {L : List MRow} {p : Int} (h : StAt W b m L p) : W.cell? ⟨b, 0, none⟩ = some (.map m) ∧ W.cell? ⟨b, 1, none⟩ = some (.int .i64 p) ∧ W.frozen? ⟨b, 0, none⟩ = false ∧ W.frozen? ⟨b, 1, none⟩ = false :=
  ⟨by simp [World.cell?, h.blk], by simp [World.cell?, h.blk], by simp [World.frozen?, h.blk], by simp [World.frozen?, h.blk]⟩
theorem two_setCell0 {w : World} {b : Nat} {v u x : Value} {t : TypeId} (h : w.heap[b]? = some (.cells #[v, x] t (0, 0))) : (w.setCell ⟨b, 0, none⟩ u).heap[b]? = some (.cells #[u, x] t (0, 0)) := by
  have hlt := lt_of_block h
  have h' : w.heap[b] = .cells #[v, x] t (0, 0) := by simpa [Array.getElem?_eq_getElem hlt] using h
  show (w.heap.modify b _)[b]? = _
  rw [Array.getElem?_eq_getElem (by simpa using hlt), Array.getElem_modify_self, h']
  rfl
theorem two_setCell1 {w : World} {b : Nat} {v u x : Value} {t : TypeId} (h : w.heap[b]? = some (.cells #[v, x] t (0, 0))) : (w.setCell ⟨b, 1, none⟩ u).heap[b]? = some (.cells #[v, u] t (0, 0)) := by
  have hlt := lt_of_block h
  have h' : w.heap[b] = .cells #[v, x] t (0, 0) := by simpa [Array.getElem?_eq_getElem hlt] using h
  show (w.heap.modify b _)[b]? = _
  rw [Array.getElem?_eq_getElem (by simpa using hlt), Array.getElem_modify_self, h']
  rfl

theorem MapIs.look {W : World} {m : Option Nat} {L : List MRow} (h : MapIs W m L) {t k : Int} (ht : I64 t) (hk : I64 k) :
    (Instr.lookup 69 (.map m) (plV t k) true).run Try.prog W = .ok (.tuple #[rowV ((Ytaapggeaoacikaa.look L t k).getD rowZ), .bool (Ytaapggeaoacikaa.look L t k).isSome]) W := by
  cases m with
  | none =>
    have h' : L = [] := h
    subst h'
    exact look_nilmap W ht hk
  | some b => exact StMap.look h ht hk
theorem MapIs.len {W : World} {m : Option Nat} {L : List MRow} (h : MapIs W m L) (ty : TypeId) : (Builtin.len_ #[69] ty #[.map m]).run Try.prog W = .ok (.int .i64 L.length) W := by
  cases m with
  | none =>
    have h' : L = [] := h
    subst h'
    exact Maps.len_nil Try.underlying69 ty
  | some b => exact StMap.len h ty
theorem VRow.i64 {r : MRow} (h : VRow r) : I64 r.t ∧ I64 r.k := by
  obtain ⟨h1, h2, _⟩ := h
  unfold I64
  omega
theorem goodL_nil : GoodL [] := ⟨List.Pairwise.nil, by simp, by simp⟩

/-! ### Small functions -/
set_option maxRecDepth 100000 in
theorem new_any (W : World) : Calls Try.prog 13 #[] W fun e w' => e = .returned (.pointer (some ⟨W.heap.size, 0, none⟩)) ∧ w' = W.alloc (.cells #[.map none, .int .i64 0] 73) := by
  go_enter Try.func13, Try.ntmps13
  go_wp2
  go_ret
  exact ⟨rfl, rfl⟩
theorem stAt_new (W : World) : StAt (W.alloc (.cells #[.map none, .int .i64 0] 73)) W.heap.size none [] 0 :=
  ⟨by rw [(MapKept.heap_alloc W _).1], rfl, goodL_nil, by omega⟩

set_option maxRecDepth 100000 in
set_option maxHeartbeats 1000000 in
theorem placeOf_any (c : MCh) (W : World) : Calls Try.prog 49 #[chV c] W fun e w' => e = .returned (plV c.t c.k) ∧ Below W.heap.size W w' := by
  obtain ⟨t, k, had, ⟨oa, ob, oc⟩, has, ⟨na, nb, nc⟩⟩ := c
  unfold chV plV
  go_enter Try.func49, Try.ntmps49
  go_wp2
  refine bodyPost_ret (v := .agg #[.int .i64 t, .int .i64 k]) (by simp [results, Try.results49, go_sem]) rfl ⟨rfl, ?_⟩
  exact ((Below.refl _ W).alloc (Nat.le_refl _) _).alloc (by simp) _

set_option maxRecDepth 100000 in
theorem position_any {W : World} {b : Nat} {m : Option Nat} {L : List MRow} {p : Int} (h : StAt W b m L p) : Calls Try.prog 27 #[.pointer (some ⟨b, 0, none⟩)] W fun e w' => e = .returned (.int .i64 p) ∧ W = w' := by
  obtain ⟨c0, c1, _, _⟩ := h.cells
  go_enter Try.func27, Try.ntmps27
  go_wp2
  go_ret
  exact ⟨rfl, rfl⟩
set_option maxRecDepth 100000 in
theorem position_nil (W : World) : Calls Try.prog 27 #[.pointer none] W fun e w' => e = .returned (.int .i64 0) ∧ W = w' := by
  go_enter Try.func27, Try.ntmps27
  go_wp2
  go_ret
  exact ⟨rfl, rfl⟩
set_option maxRecDepth 100000 in
theorem len_any {W : World} {b : Nat} {m : Option Nat} {L : List MRow} {p : Int} (h : StAt W b m L p) : Calls Try.prog 29 #[.pointer (some ⟨b, 0, none⟩)] W fun e w' => e = .returned (.int .i64 L.length) ∧ W = w' := by
  obtain ⟨c0, c1, _, _⟩ := h.cells
  have hl := fun ty => h.mp.len ty
  go_enter Try.func29, Try.ntmps29
  go_wp2
  go_ret
  exact ⟨rfl, rfl⟩
set_option maxRecDepth 100000 in
theorem len_nil (W : World) : Calls Try.prog 29 #[.pointer none] W fun e w' => e = .returned (.int .i64 0) ∧ W = w' := by
  go_enter Try.func29, Try.ntmps29
  go_wp2
  go_ret
  exact ⟨rfl, rfl⟩

set_option maxRecDepth 100000 in
set_option maxHeartbeats 1000000 in
theorem get_any {W : World} {b : Nat} {m : Option Nat} {L : List MRow} {p : Int} (h : StAt W b m L p) {t k : Int} (ht : I64 t) (hk : I64 k) :
    Calls Try.prog 21 #[.pointer (some ⟨b, 0, none⟩), .int .i64 t, .int .i64 k] W fun e w' => e = .returned (.tuple #[rowV ((look L t k).getD rowZ), .bool (look L t k).isSome]) ∧ Below W.heap.size W w' := by
  obtain ⟨c0, c1, _, _⟩ := h.cells
  have HL : Hid (MapIs W m L) := Lib.hid h.mp
  have hlt := h.lt
  have hm : ∀ i, m = some i → i < W.heap.size := fun i e => h.mlt e
  have hl : ∀ o, (Instr.lookup 69 (.map m) (plV t k) true).run Try.prog (W.alloc o) = .ok (.tuple #[rowV ((look L t k).getD rowZ), .bool (look L t k).isSome]) (W.alloc o) := fun o =>
    ((HL.out.kept (F := fun _ => False) (Kept.of_below (ba W o)) (fun _ _ => id)).look ht hk)
  clear h hm ht hk
  obtain ⟨⟨t', k', ⟨a, b', c⟩⟩, Hr⟩ : ∃ r, Hid ((look L t k).getD rowZ = r) := ⟨_, Lib.hid rfl⟩
  obtain ⟨ok, Ho⟩ : ∃ ok, Hid ((look L t k).isSome = ok) := ⟨_, Lib.hid rfl⟩
  rw [Hr.out, Ho.out] at hl ⊢
  unfold rowV plV at hl
  go_enter Try.func21, Try.ntmps21
  go_wp2
  refine bodyPost_ret (v := .tuple #[rowV ⟨t', k', ⟨a, b', c⟩⟩, .bool ok]) (by simp [results, Try.results21, go_sem]) rfl ⟨rfl, ?_⟩
  exact ((Below.refl _ W).alloc (Nat.le_refl _) _).alloc (by simp) _
end Go.Proofs.Ytaapggeaoacikaa
