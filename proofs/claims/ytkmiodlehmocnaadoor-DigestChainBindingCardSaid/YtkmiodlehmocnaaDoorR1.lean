/- A LOOP OVER AN ITERATOR THAT WRITES CELLS OF ITS OWN, whose body never leaves it: a law over the library's step. No program stands in it. -/
import Derived.RangeFuncNested
import Derived.RangeFuncBound
import Derived.RangeFuncCalls
import Derived.RangeFuncBox
namespace Go.Proofs.YtkmiodlehmocnaaDoor
open Go.RowKit
variable {F : Fence} {n : Nat} {P : Program}

/-- J bears the turn of any block from B on. -/
def Bears {β : Type} (B : Nat) (J : β → World → Prop) : Prop := ∀ s W W' row, J s W → W.grownBy W' row → (∀ r, row = some r → B ≤ r) → J s W'

theorem Bears.alloc {β : Type} {B : Nat} {J : β → World → Prop} (h : Bears B J) {s : β} {W : World} (o : Obj) (hs : J s W) : J s (W.alloc o) := h s W _ none hs (World.grownBy_alloc W o none) (fun r e => by cases e)
theorem Bears.putObj {β : Type} {B : Nat} {J : β → World → Prop} (h : Bears B J) {s : β} {W : World} {l : Nat} (o' : Obj) (hs : J s W) (hB : B ≤ l) : J s (W.putObj l o') := h s W _ (some l) hs (grownBy_putObj' W l o') (fun r e => by cases e; exact hB)
theorem Bears.mono {β : Type} {B B' : Nat} {J : β → World → Prop} (h : Bears B J) (hB : B ≤ B') : Bears B' J := fun s W W' row hs hg hr => h s W W' row hs hg (fun r e => Nat.le_trans hB (hr r e))
theorem Bears.and {β : Type} {B : Nat} {J K : β → World → Prop} (h : Bears B J) (k : Bears B K) : Bears B (fun s W => J s W ∧ K s W) := fun s W W' row hs hg hr => ⟨h s W W' row hs.1 hg hr, k s W W' row hs.2 hg hr⟩
theorem bears_block {β : Type} {B k : Nat} (hk : k < B) (o : β → Obj) : Bears B (fun s W => W.heap[k]? = some (o s)) := fun s W W' row hs hg hr =>
  (hg.block k (Array.getElem?_eq_some_iff.1 hs).1 (fun e => by have := hr k e.symm; omega)).trans hs
theorem bears_below {β : Type} {B n₀ : Nat} {w₀ : World} (h : n₀ ≤ B) (hn : n₀ ≤ w₀.heap.size) : Bears B (fun (_ : β) W => Below n₀ w₀ W) := fun _ W W' row hs hg hr =>
  hs.grown hg (Nat.le_trans hn hs.size) (fun k e => Nat.le_trans h (hr k e))

/-- Blocks of cells lie as they lay, but for block Bw. -/
structure KpB (Bw : Nat) (W W' : World) : Prop where
  size : W.heap.size ≤ W'.heap.size
  cells : ∀ k cs t f, k ≠ Bw → W.heap[k]? = some (.cells cs t f) → W'.heap[k]? = some (.cells cs t f)
theorem KpB.refl (Bw : Nat) (W : World) : KpB Bw W W := ⟨Nat.le_refl _, fun _ _ _ _ _ h => h⟩
theorem KpB.trans {Bw : Nat} {A B C : World} (h : KpB Bw A B) (k : KpB Bw B C) : KpB Bw A C := ⟨Nat.le_trans h.size k.size, fun j cs t f hj hc => k.cells j cs t f hj (h.cells j cs t f hj hc)⟩
theorem KpB.putObj {Bw : Nat} (W : World) (l : Nat) (o o' : Obj) (h : W.heap[l]? = some o) (ho : o.isCells = false) : KpB Bw W (W.putObj l o') := by
  refine ⟨(grownBy_putObj' W l o').size, fun k cs t f _ hk => ?_⟩
  have hne : k ≠ l := fun e => by subst e; rw [hk] at h; cases h; simp [Obj.isCells] at ho
  exact (World.putObj_heap_other hne).trans hk
theorem KpB.of_below {Bw : Nat} {W W' : World} (h : Below W.heap.size W W') : KpB Bw W W' := ⟨h.size, fun k _ _ _ _ hk => (h.block k (Array.getElem?_eq_some_iff.1 hk).1).trans hk⟩
theorem KpB.setCell {Bw : Nat} (W : World) (o : Nat) (v : Value) : KpB Bw W (W.setCell ⟨Bw, o, none⟩ v) := ⟨by simp [World.setCell], fun k _ _ _ hk h => (Below.heap_setCell W ⟨Bw, o, none⟩ v k hk).trans h⟩
theorem KpB.setRow {Bw : Nat} (W : World) (cs : Array Value) : KpB Bw W (W.setRow Bw cs) := ⟨by simp, fun k _ _ _ hk h => (setRow_other W Bw k cs hk).trans h⟩

/-- THE ITERATOR's WORD. -/
def SeqN (F : Fence) (n : Nat) (P : Program) (g : Nat) (lb : Array Value) (encs : Nat → Array Value) (Kp : World → World → Prop) (N : Nat) (w : World) : Prop :=
  ∀ (l : Nat) (J : Nat → World → Prop) (W : World), Below w.heap.size w W → Bears W.heap.size J →
    (∀ c W1, J c W1 → c < N → YieldAt F (n - 1) P l (encs c) W1 fun e W' => e = .returned (.bool true) ∧ J (c + 1) W' ∧ Kp W1 W') →
    J 0 W →
    CallsIn F n P g (#[.func (.yield l) #[] #[]] ++ lb) W fun e W' => (∃ v, e = .returned v) ∧ J N W'

theorem rangeFunc_any {g : Operand} {ps : Array Tmp} {assign body : Code} {Q : Exit → Act → World → Prop} {a : Act} {w : World}
    (hro : F.round = none) (h1 : 1 ≤ n) {gf : Nat} {lb : Array Value} (hg : a.eval g = .func (.func gf) #[] lb) (hFg : F.fn gf) (eg : ∀ args w, (callFunc gf args).run P w = .ok (.enter gf args) w)
    {encs : Nat → Array Value} {Bw : Nat} {N : Nat} {w0 : World} (hseq : SeqN F (n - 1) P gf lb encs (KpB Bw) N w0)
    (hb0 : Below w0.heap.size w0 w) (hps : ∀ x, (encs x).size = ps.size)
    (I : Nat → World → Prop) (hI : Bears w.heap.size I) (h0 : I 0 w) (Ax : Nat → Act → World → Prop) (hAx : ∀ x a' W l o o', W.heap[l]? = some o → o.isCells = false → Ax x a' W → Ax x a' (W.putObj l o'))
    (hassign : ∀ (l c : Nat) (W : World) (K : Act → World → Prop), I c W → c < N → w.heap.size ≤ W.heap.size → (∀ a' W', KeepsFrom w.heap.size W W' → KpB Bw W W' → I c W' → Ax c a' W' → K a' W') →
      assign.wpIn (F.inRound l) (n - 1 - 1) P (Exit.then K (fun _ _ _ => False)) { tmps := (ps.zip (encs c)).foldl (fun t (p, v) => t.setIfInBounds p v) a.tmps, defers := [] } W)
    (hbody : ∀ (l c : Nat) (a' : Act) (W : World), I c W → Ax c a' W → c < N → w.heap.size ≤ W.heap.size →
      body.wpIn (F.inRound l) (n - 1 - 1) P (Exit.then (fun _ W' => KeepsFrom w.heap.size W W' ∧ KpB Bw W W' ∧ I (c + 1) W') (fun _ _ _ => False)) a' W)
    (hdone : ∀ (D : Nat) (W : World), w.heap.size ≤ D → I N W → W.heap[D]? = some (.deferred (some [])) → Q .normal { a with defers := { target := .collected D, args := #[] } :: a.defers } W) :
    (Code.rangeFunc g ps assign body).wpIn F n P Q a w := by
  apply wpIn_rangeFunc
  intro fn hfn
  rw [hro]
  -- the record of the loop, in the state st
  let rec_ : LoopState → Option Code → Loop := fun st pe => { state := st, pending := pe, fn, tmps := a.tmps, params := ps, assign, body, defers := w.heap.size }
  let W1 : World := (w.alloc (.deferred (some []))).alloc (.loop (rec_ .ready none))
  have z1 : W1.heap.size = w.heap.size + 1 + 1 := by simp [W1]
  have kD : W1.heap[w.heap.size]? = some (.deferred (some [])) := (Below.heap_alloc _ _ _ (by simp)).trans (heap_alloc_new w _)
  have kL : W1.heap[w.heap.size + 1]? = some (.loop (rec_ .ready none)) := by
    have := heap_alloc_new (w.alloc (.deferred (some []))) (.loop (rec_ .ready none))
    rwa [World.size_alloc] at this
  have bW : Below w0.heap.size w0 W1 := (hb0.alloc hb0.size _).alloc (by have := hb0.size; simp; omega) _
  refine ⟨w.heap.size + 1, _, W1, { target := .fn (.func gf) lb, args := #[.func (.yield (w.heap.size + 1)) #[] #[]] }, W1, gf, #[.func (.yield (w.heap.size + 1)) #[] #[]] ++ lb, W1,
    run_enterLoop_outer _ _ _ _ _, ?_, ?_, ?_, fun _ => h1, ?_⟩
  · simp only [resolve, hg]; simp [go_sem]
  · intro f' hf'; simp [Target.leads] at hf'; subst hf'; exact hFg
  · simp [invoke, go_sem, eg]
  let J : Nat → World → Prop := fun c W => I c W ∧ (W.heap[w.heap.size + 1]? = some (.loop (rec_ .ready none)) ∧ W.heap[w.heap.size]? = some (.deferred (some [])))
  have hJ : Bears W1.heap.size J := (hI.mono (by omega)).and ((bears_block (by omega) _).and (bears_block (by omega) _))
  refine (hseq (w.heap.size + 1) J W1 bW hJ ?_ ⟨hI.alloc _ (hI.alloc _ h0), kL, kD⟩).mono ?_
  · rintro c W ⟨hi, hl, hd⟩ hN
    have hz : w.heap.size ≤ W.heap.size := by have := (Array.getElem?_eq_some_iff.1 hl).1; omega
    refine ⟨fn, _, assign, body, run_yield (args := encs c) hl (hps c), roundIn_of_wpIn hfn (hassign _ c W _ hi hN hz ?_)⟩
    intro a' W0 k0 p0 i0 ha0
    replace hl := k0.same _ _ (by omega) hl rfl
    replace hd := k0.same _ _ (Nat.le_refl _) hd rfl
    have hz : w.heap.size + 1 < W0.heap.size := (Array.getElem?_eq_some_iff.1 hl).1
    refine ⟨_, run_beginRound hl rfl, ?_⟩
    have hl2 : (W0.putObj (w.heap.size + 1) (.loop { rec_ .ready none with state := .busy })).heap[w.heap.size + 1]? = some (.loop (rec_ .busy none)) := World.putObj_heap_same hz
    have hd2 : (W0.putObj (w.heap.size + 1) (.loop { rec_ .ready none with state := .busy })).heap[w.heap.size]? = some (.deferred (some [])) := (World.putObj_heap_other (by omega)).trans hd
    have hp2 : KpB Bw W (W0.putObj (w.heap.size + 1) (.loop { rec_ .ready none with state := .busy })) := p0.trans (KpB.putObj _ _ _ _ hl rfl)
    refine wpIn_mono (hbody _ c _ _ (hI.putObj _ i0 (by omega)) (hAx _ _ _ _ _ _ hl rfl ha0) hN (Nat.le_trans (by omega) hp2.size)) ?_
    rintro e a3 W3 hp
    cases e with
    | normal =>
      obtain ⟨k3, p3, i3⟩ := hp
      have hl3 := k3.same _ _ (by omega) hl2 rfl
      have hd3 := k3.same _ _ (Nat.le_refl _) hd2 rfl
      exact ⟨_, _, run_endRound none hl3, rfl, ⟨hI.putObj _ i3 (by omega), World.putObj_heap_same (Array.getElem?_eq_some_iff.1 hl3).1, (World.putObj_heap_other (by omega)).trans hd3⟩, (hp2.trans p3).trans (KpB.putObj _ _ _ _ hl3 rfl)⟩
    | _ => exact hp.elim
  · rintro e W2 ⟨⟨v, rfl⟩, hi, hl, hd⟩
    exact ⟨none, _, run_endLoop hl (by simp [rec_]), hdone _ _ (Nat.le_refl _) (hI.putObj _ hi (by omega)) ((World.putObj_heap_other (by omega)).trans hd)⟩
end Go.Proofs.YtkmiodlehmocnaaDoor
