/- MERGED: DR1, DR2, DR3. -/
import Derived.RangeFuncNested
import Derived.RangeFuncBound
import Derived.RangeFuncCalls
import Derived.RangeFuncBox
import Derived.Test.YtpapfegbodolgaaDoorDT6
import Derived.Test.YtpapfegbodolgaaDoorP4
import Derived.Lib.LazyBuf
import Derived.Lib.BufferWrite
import Derived.RangeFuncLeaves
import Derived.Shelf.Abstract
import Derived.Shelf.RegionOpen
import Derived.OwnWalkIn
import Derived.TacticsInMore
import Derived.LoopNIn
import Derived.LoopIn
import Derived.Sort.LoopGhostIn
import Derived.WalkMore
import Derived.BigFrameIn
section
set_option linter.unusedVariables false
set_option linter.unusedSimpArgs false
namespace Go.Proofs.YtpapfegbodolgaaDoor
open Go.RowKit
variable {F : Fence} {n : Nat} {P : Program}

/-- J bears the turn of any block from B on. -/
def Bears {β : Type} (B : Nat) (J : β → World → Prop) : Prop := ∀ s W W' row, J s W → W.grownBy W' row → (∀ r, row = some r → B ≤ r) → J s W'

theorem Bears.alloc {β : Type} {B : Nat} {J : β → World → Prop} (h : Bears B J) {s : β} {W : World} (o : Obj) (hs : J s W) : J s (W.alloc o) := h s W _ none hs (World.grownBy_alloc W o none) (fun r e => by cases e)
theorem Bears.putObj {β : Type} {B : Nat} {J : β → World → Prop} (h : Bears B J) {s : β} {W : World} {l : Nat} (o' : Obj) (hs : J s W) (hB : B ≤ l) : J s (W.putObj l o') := h s W _ (some l) hs (grownBy_putObj' W l o') (fun r e => by cases e; exact hB)
theorem Bears.mono {β : Type} {B B' : Nat} {J : β → World → Prop} (h : Bears B J) (hB : B ≤ B') : Bears B' J := fun s W W' row hs hg hr => h s W W' row hs hg (fun r e => Nat.le_trans hB (hr r e))
theorem Bears.and {β : Type} {B : Nat} {J K : β → World → Prop} (h : Bears B J) (k : Bears B K) : Bears B (fun s W => J s W ∧ K s W) := fun s W W' row hs hg hr => ⟨h s W W' row hs.1 hg hr, k s W W' row hs.2 hg hr⟩
theorem bears_block {β : Type} {B k : Nat} (hk : k < B) (o : β → Obj) : Bears B (fun s W => W.heap[k]? = some (o s)) := fun s W W' row hs hg hr =>
  (hg.block k (Array.getElem?_eq_some_iff.1 hs).1 (fun e => by have := hr k e.symm; omega)).trans hs
theorem bears_below {β : Type} {B n₀ : Nat} {w₀ : World} (h : n₀ ≤ B) (hn : n₀ ≤ w₀.heap.size) : Bears B (fun (_ : β) W => Below n₀ w₀ W) := fun _ W W' row hs hg hr =>
  hs.grown hg (Nat.le_trans hn hs.size) (fun k e => Nat.le_trans h (hr k e))

/-- Blocks of cells lie as they lay, but for block Bw. -/
structure KpB (Bw : Nat) (W W' : World) : Prop where
  size : W.heap.size ≤ W'.heap.size
  cells : ∀ k cs t f, k ≠ Bw → W.heap[k]? = some (.cells cs t f) → W'.heap[k]? = some (.cells cs t f)
theorem KpB.refl (Bw : Nat) (W : World) : KpB Bw W W := ⟨Nat.le_refl _, fun _ _ _ _ _ h => h⟩
theorem KpB.trans {Bw : Nat} {A B C : World} (h : KpB Bw A B) (k : KpB Bw B C) : KpB Bw A C := ⟨Nat.le_trans h.size k.size, fun j cs t f hj hc => k.cells j cs t f hj (h.cells j cs t f hj hc)⟩
theorem KpB.putObj {Bw : Nat} (W : World) (l : Nat) (o o' : Obj) (h : W.heap[l]? = some o) (ho : o.isCells = false) : KpB Bw W (W.putObj l o') := by
  refine ⟨(grownBy_putObj' W l o').size, fun k cs t f _ hk => ?_⟩
  have hne : k ≠ l := fun e => by subst e; rw [hk] at h; cases h; simp [Obj.isCells] at ho
  exact (World.putObj_heap_other hne).trans hk
theorem KpB.of_below {Bw : Nat} {W W' : World} (h : Below W.heap.size W W') : KpB Bw W W' := ⟨h.size, fun k _ _ _ _ hk => (h.block k (Array.getElem?_eq_some_iff.1 hk).1).trans hk⟩
theorem KpB.setCell {Bw : Nat} (W : World) (o : Nat) (v : Value) : KpB Bw W (W.setCell ⟨Bw, o, none⟩ v) := ⟨by simp [World.setCell], fun k _ _ _ hk h => (Below.heap_setCell W ⟨Bw, o, none⟩ v k hk).trans h⟩
theorem KpB.setRow {Bw : Nat} (W : World) (cs : Array Value) : KpB Bw W (W.setRow Bw cs) := ⟨by simp, fun k _ _ _ hk h => (setRow_other W Bw k cs hk).trans h⟩

/-- THE ITERATOR's WORD. -/
def SeqN (F : Fence) (n : Nat) (P : Program) (g : Nat) (lb : Array Value) (encs : Nat → Array Value) (Kp : World → World → Prop) (N : Nat) (w : World) : Prop :=
  ∀ (l : Nat) (J : Nat → World → Prop) (W : World), Below w.heap.size w W → Bears W.heap.size J →
    (∀ c W1, J c W1 → c < N → YieldAt F (n - 1) P l (encs c) W1 fun e W' => e = .returned (.bool true) ∧ J (c + 1) W' ∧ Kp W1 W') →
    J 0 W →
    CallsIn F n P g (#[.func (.yield l) #[] #[]] ++ lb) W fun e W' => (∃ v, e = .returned v) ∧ J N W'

theorem rangeFunc_any {g : Operand} {ps : Array Tmp} {assign body : Code} {Q : Exit → Act → World → Prop} {a : Act} {w : World}
    (hro : F.round = none) (h1 : 1 ≤ n) {gf : Nat} {lb : Array Value} (hg : a.eval g = .func (.func gf) #[] lb) (hFg : F.fn gf) (eg : ∀ args w, (callFunc gf args).run P w = .ok (.enter gf args) w)
    {encs : Nat → Array Value} {Bw : Nat} {N : Nat} {w0 : World} (hseq : SeqN F (n - 1) P gf lb encs (KpB Bw) N w0)
    (hb0 : Below w0.heap.size w0 w) (hps : ∀ x, (encs x).size = ps.size)
    (I : Nat → World → Prop) (hI : Bears w.heap.size I) (h0 : I 0 w) (Ax : Nat → Act → World → Prop) (hAx : ∀ x a' W l o o', W.heap[l]? = some o → o.isCells = false → Ax x a' W → Ax x a' (W.putObj l o'))
    (hassign : ∀ (l c : Nat) (W : World) (K : Act → World → Prop), I c W → c < N → w.heap.size ≤ W.heap.size → (∀ a' W', KeepsFrom w.heap.size W W' → KpB Bw W W' → I c W' → Ax c a' W' → K a' W') →
      assign.wpIn (F.inRound l) (n - 1 - 1) P (Exit.then K (fun _ _ _ => False)) { tmps := (ps.zip (encs c)).foldl (fun t (p, v) => t.setIfInBounds p v) a.tmps, defers := [] } W)
    (hbody : ∀ (l c : Nat) (a' : Act) (W : World), I c W → Ax c a' W → c < N → w.heap.size ≤ W.heap.size →
      body.wpIn (F.inRound l) (n - 1 - 1) P (Exit.then (fun _ W' => KeepsFrom w.heap.size W W' ∧ KpB Bw W W' ∧ I (c + 1) W') (fun _ _ _ => False)) a' W)
    (hdone : ∀ (D : Nat) (W : World), w.heap.size ≤ D → I N W → W.heap[D]? = some (.deferred (some [])) → Q .normal { a with defers := { target := .collected D, args := #[] } :: a.defers } W) :
    (Code.rangeFunc g ps assign body).wpIn F n P Q a w := by
  apply wpIn_rangeFunc
  intro fn hfn
  rw [hro]
  -- the record of the loop, in the state st
  let rec_ : LoopState → Option Code → Loop := fun st pe => { state := st, pending := pe, fn, tmps := a.tmps, params := ps, assign, body, defers := w.heap.size }
  let W1 : World := (w.alloc (.deferred (some []))).alloc (.loop (rec_ .ready none))
  have z1 : W1.heap.size = w.heap.size + 1 + 1 := by simp [W1]
  have kD : W1.heap[w.heap.size]? = some (.deferred (some [])) := (Below.heap_alloc _ _ _ (by simp)).trans (heap_alloc_new w _)
  have kL : W1.heap[w.heap.size + 1]? = some (.loop (rec_ .ready none)) := by
    have := heap_alloc_new (w.alloc (.deferred (some []))) (.loop (rec_ .ready none))
    rwa [World.size_alloc] at this
  have bW : Below w0.heap.size w0 W1 := (hb0.alloc hb0.size _).alloc (by have := hb0.size; simp; omega) _
  refine ⟨w.heap.size + 1, _, W1, { target := .fn (.func gf) lb, args := #[.func (.yield (w.heap.size + 1)) #[] #[]] }, W1, gf, #[.func (.yield (w.heap.size + 1)) #[] #[]] ++ lb, W1,
    run_enterLoop_outer _ _ _ _ _, ?_, ?_, ?_, fun _ => h1, ?_⟩
  · simp only [resolve, hg]; simp [go_sem]
  · intro f' hf'; simp [Target.leads] at hf'; subst hf'; exact hFg
  · simp [invoke, go_sem, eg]
  let J : Nat → World → Prop := fun c W => I c W ∧ (W.heap[w.heap.size + 1]? = some (.loop (rec_ .ready none)) ∧ W.heap[w.heap.size]? = some (.deferred (some [])))
  have hJ : Bears W1.heap.size J := (hI.mono (by omega)).and ((bears_block (by omega) _).and (bears_block (by omega) _))
  refine (hseq (w.heap.size + 1) J W1 bW hJ ?_ ⟨hI.alloc _ (hI.alloc _ h0), kL, kD⟩).mono ?_
  · rintro c W ⟨hi, hl, hd⟩ hN
    have hz : w.heap.size ≤ W.heap.size := by have := (Array.getElem?_eq_some_iff.1 hl).1; omega
    refine ⟨fn, _, assign, body, run_yield (args := encs c) hl (hps c), roundIn_of_wpIn hfn (hassign _ c W _ hi hN hz ?_)⟩
    intro a' W0 k0 p0 i0 ha0
    replace hl := k0.same _ _ (by omega) hl rfl
    replace hd := k0.same _ _ (Nat.le_refl _) hd rfl
    have hz : w.heap.size + 1 < W0.heap.size := (Array.getElem?_eq_some_iff.1 hl).1
    refine ⟨_, run_beginRound hl rfl, ?_⟩
    have hl2 : (W0.putObj (w.heap.size + 1) (.loop { rec_ .ready none with state := .busy })).heap[w.heap.size + 1]? = some (.loop (rec_ .busy none)) := World.putObj_heap_same hz
    have hd2 : (W0.putObj (w.heap.size + 1) (.loop { rec_ .ready none with state := .busy })).heap[w.heap.size]? = some (.deferred (some [])) := (World.putObj_heap_other (by omega)).trans hd
    have hp2 : KpB Bw W (W0.putObj (w.heap.size + 1) (.loop { rec_ .ready none with state := .busy })) := p0.trans (KpB.putObj _ _ _ _ hl rfl)
    refine wpIn_mono (hbody _ c _ _ (hI.putObj _ i0 (by omega)) (hAx _ _ _ _ _ _ hl rfl ha0) hN (Nat.le_trans (by omega) hp2.size)) ?_
    rintro e a3 W3 hp
    cases e with
    | normal =>
      obtain ⟨k3, p3, i3⟩ := hp
      have hl3 := k3.same _ _ (by omega) hl2 rfl
      have hd3 := k3.same _ _ (Nat.le_refl _) hd2 rfl
      exact ⟨_, _, run_endRound none hl3, rfl, ⟨hI.putObj _ i3 (by omega), World.putObj_heap_same (Array.getElem?_eq_some_iff.1 hl3).1, (World.putObj_heap_other (by omega)).trans hd3⟩, (hp2.trans p3).trans (KpB.putObj _ _ _ _ hl3 rfl)⟩
    | _ => exact hp.elim
  · rintro e W2 ⟨⟨v, rfl⟩, hi, hl, hd⟩
    exact ⟨none, _, run_endLoop hl (by simp [rec_]), hdone _ _ (Nat.le_refl _) (hI.putObj _ hi (by omega)) ((World.putObj_heap_other (by omega)).trans hd)⟩
end Go.Proofs.YtpapfegbodolgaaDoor
end

section
set_option linter.unusedSimpArgs false
set_option linter.unusedVariables false
namespace Go.Proofs.YtpapfegbodolgaaDoor
open Go.RowKit

theorem byteV_one : ∀ l : List Nat, ∀ v ∈ bytesV l, v.oneCell' = true := by
  intro l v hv
  simp only [bytesV, List.mem_map] at hv
  obtain ⟨b, _, rfl⟩ := hv
  rfl
theorem setRow_grown (w : World) (g : Nat) (cs : Array Value) : w.grownBy (w.setRow g cs) (some g) :=
  ⟨rfl, rfl, rfl, by simp, fun k _ hk => setRow_other w g k cs (fun e => hk (by rw [e]))⟩

/-- copy(block[u:], s): as many bytes as fit. -/
theorem copy_text {P : Program} (w : World) (dT sT ty elem T : TypeId) (g u : Nat) (s : ByteArray) (bl : List Nat)
    (hu : P.underlying dT = some (.slice elem)) (hs : (P.info? elem).map (·.size) = some 1) (hg : Blk w g (bytesV bl) T) (h64 : bl.length = 64) (hu64 : u ≤ 64) :
    ∃ w2, (Builtin.copy_ #[dT, sT] ty #[.slice (some ⟨g, u, none⟩) (64 - u) (64 - u), .string s]).run P w = .ok (.int .i64 (min s.size (64 - u) : Nat)) w2 ∧
      Blk w2 g (bytesV (copied bl u (nums s) (min s.size (64 - u)))) T ∧ w.grownBy w2 (some g) := by
  obtain ⟨m, hm⟩ : ∃ m, min s.size (64 - u) = m := ⟨_, rfl⟩
  have hm1 : m ≤ s.size := by omega
  have hm2 : u + m ≤ 64 := by omega
  have hl : (bytesV ((nums s).take m)).length = m := by simp [bytesV, nums_len]; omega
  have hst := run_storeCells_at (P := P) g u T (bytesV ((nums s).take m)) 0 _ w hg (by rw [hl]; simp [bytesV, h64]; omega) (byteV_one _)
  rw [hl, Nat.add_zero] at hst
  have hcells : (List.take m (List.map (fun b : UInt8 => Value.int IntKind.u8 (b.toNat : Int)) s.data.toList)) = bytesV ((nums s).take m) := by
    simp [bytesV, nums, byteV, List.map_take, List.map_map, Function.comp_def]
  obtain ⟨cs, hcs⟩ : ∃ cs, ((bytesV bl).toArray.toList.take u ++ bytesV ((nums s).take m) ++ (bytesV bl).toArray.toList.drop (u + m)).toArray = cs := ⟨_, rfl⟩
  rw [hcs] at hst
  refine ⟨w.setRow g cs, ?_, ?_, setRow_grown w g cs⟩
  · cases hq : P.info? elem with
    | none => simp [hq] at hs
    | some i =>
      have hmin : Nat.min s.size (64 - u) = m := hm
      simp [Builtin.copy_, run_underlying hu, Builtin.lenOf, Builtin.firstCells, sizeOf, typeInfo, hq, hmin, hm]
      rw [hcells, hst]
      simp [Result.andThen, goInt]
  · rw [hm]
    have := setRow_heap w g _ cs T _ hg
    unfold Blk
    rw [this, ← hcs]
    simp [copied, bytesV, List.map_take, List.map_drop]

/-- clear(block[u:]). -/
theorem clear_block {P : Program} (w : World) (t e ty T : TypeId) (g u : Nat) (bl : List Nat) (a : Addr) (ht : P.underlying t = some (.slice e)) (hv : ∀ w, (zeroValue e).run P w = .ok (.int .u8 0) w)
    (hg : Blk w g (bytesV bl) T) (h64 : bl.length = 64) (hu : u ≤ 64) (ha : u < 64 → a = ⟨g, u, none⟩) :
    ∃ w2, (Builtin.clear_ #[t] ty #[.slice (some a) (64 - u) (64 - u)]).run P w = .ok (.tuple #[]) w2 ∧ Blk w2 g (bytesV (bl.take u ++ List.replicate (64 - u) 0)) T ∧ w.grownBy w2 (some g) := by
  by_cases h : u < 64
  · rw [ha h]
    obtain ⟨n, hn⟩ : ∃ n, 64 - u = n + 1 := ⟨63 - u, by omega⟩
    have hl : (bytesV (List.replicate (64 - u) 0)).length = 64 - u := by simp [bytesV]
    have hst := run_storeCells_at (P := P) g u T (bytesV (List.replicate (64 - u) 0)) 0 _ w hg (by rw [hl]; simp [bytesV, h64]; omega) (byteV_one _)
    rw [hl, Nat.add_zero] at hst
    have hz : (Builtin.zeroCells (Value.int .u8 0).cells (64 - u)).toList = bytesV (List.replicate (64 - u) 0) := by
      simp [Builtin.zeroCells, Value.cells, bytesV, byteV]
      apply List.ext_getElem
      · simp
      · intro i h1 h2
        simp [Nat.mod_one]
    obtain ⟨cs, hcs⟩ : ∃ cs, ((bytesV bl).toArray.toList.take u ++ bytesV (List.replicate (64 - u) 0) ++ (bytesV bl).toArray.toList.drop (u + (64 - u))).toArray = cs := ⟨_, rfl⟩
    rw [hcs] at hst
    refine ⟨w.setRow g cs, ?_, ?_, setRow_grown w g cs⟩
    · rw [hn] at hst hz ⊢
      simp [Builtin.clear_, run_underlying ht, hv, hz, hst]
    · have := setRow_heap w g _ cs T _ hg
      unfold Blk
      rw [this, ← hcs]
      simp [bytesV, List.map_take, List.map_drop, show u + (64 - u) = 64 by omega, List.drop_of_length_le, h64]
  · obtain rfl : u = 64 := by omega
    refine ⟨w, ?_, ?_, ⟨rfl, rfl, rfl, Nat.le_refl _, fun _ _ _ => rfl⟩⟩
    · simp [Builtin.clear_, run_underlying ht]
    · rw [List.take_of_length_le (by omega)]; simpa using hg
theorem size5 (w : World) : (sizeOf 5).run Tryd.prog w = .ok 1 w := by kernel_rfl
theorem slice62 (w : World) (B u : Nat) (hu : u ≤ 64) : (Instr.sliceAt 146 (.pointer (some ⟨B, 0, none⟩)) (some (.int .i64 (u : Int))) none none).run Tryd.prog w = .ok (.slice (some (if 64 = u then ⟨B, 0, none⟩ else ⟨B, u, none⟩)) (64 - u) (64 - u)) w := by
  have h : (⟨B, 0, none⟩ : Addr).add u = ⟨B, u, none⟩ := by unfold Addr.add; split <;> simp_all
  have h1 : (0 : Int) ≤ (u : Int) := by omega
  have h2 := run_sliceBound (P := Tryd.prog) w .i64 (u : Int) 64 .sliceB h1 (by omega)
  simp [Instr.sliceAt, Instr.sureAddr, run_underlying Tryd.underlying146, Instr.sliceBounds, size5, h, h2]
theorem slice62_lt (w : World) (B u : Nat) (hu : u < 64) : (Instr.sliceAt 146 (.pointer (some ⟨B, 0, none⟩)) (some (.int .i64 (u : Int))) none none).run Tryd.prog w = .ok (.slice (some ⟨B, u, none⟩) (64 - u) (64 - u)) w := by
  rw [slice62 w B u (by omega), if_neg (by omega)]
theorem slice62_all (w : World) (B : Nat) : (Instr.sliceAt 146 (.pointer (some ⟨B, 0, none⟩)) none none none).run Tryd.prog w = .ok (.slice (some ⟨B, 0, none⟩) 64 64) w := by
  have h : (⟨B, 0, none⟩ : Addr).add 0 = ⟨B, 0, none⟩ := by unfold Addr.add; split <;> simp_all
  simp [Instr.sliceAt, Instr.sureAddr, run_underlying Tryd.underlying146, Instr.sliceBounds, size5, h]
end Go.Proofs.YtpapfegbodolgaaDoor
end

section
set_option linter.unusedSimpArgs false
set_option linter.unusedVariables false
namespace Go.Proofs.YtpapfegbodolgaaDoor
open Go.RowKit Go.Shelf
attribute [local go_sem] Oper.semAt_some

theorem wide_scope {P : Program} {c : Code} {Q : Exit → Act → World → Prop} {a : Act} {w : World} {n : Nat} (h : c.wpIn Fence.wide n P (Exit.noGoto Q) a w) : (Code.scope c).wpIn Fence.wide n P Q a w :=
  wpIn_wide.2 (wp_scope_straight (wpIn_wide.1 h))

/-- A WHOLE ARRAY OUT OF A BLOCK, INTO A BLOCK, within a fence. -/
theorem wpListIn_load_row {F : Fence} {n : Nat} {P : Program} {ops : Array Oper} {rest : List Oper} {o : Oper} {a : Act} {w : World} {Q : Exit → Act → World → Prop} (hgd : o.guard = none) (ty : TypeId) (x : Operand) (ho : o.op = .load ty x)
    (g : Nat) (hx : a.eval x = .pointer (some ⟨g, 0, none⟩)) (t : TypeId) (cs : Array Value) (fr : Nat × Nat) (d : TypeDesc) (hg : w.heap[g]? = some (.cells cs t fr))
    (hu : P.underlying ty = some d) (hd : (match d with | .struct _ | .array _ _ => true | _ => false) = true) (hi : (P.info? ty).map (·.size) = some cs.size)
    (h : wpListIn F n P ops Q rest (a.put o.dst (.agg cs)) w) : wpListIn F n P ops Q (o :: rest) a w := by
  refine wpListIn_plain hgd fun K hK' => ?_
  unfold Oper.wpIn
  refine ⟨?_, ?_⟩
  · simp [Oper.about, ho]
  · rw [Oper.semAt_plain F _ _ (by rw [ho]; intro c hc'; cases hc')]
    simp only [execOp, ho, hx, Instr.loadAt, Instr.sureAddr, Sem.run_bind, Sem.run_pure, Result.andThen_ok, run_loadVar_row w g t ty cs fr d hg hu hd hi]
    exact hK' _ _ h
theorem wpListIn_store_row {F : Fence} {n : Nat} {P : Program} {ops : Array Oper} {rest : List Oper} {o : Oper} {a : Act} {w : World} {Q : Exit → Act → World → Prop} (hgd : o.guard = none) (ty : TypeId) (x y : Operand) (ho : o.op = .store ty x y)
    (g : Nat) (hx : a.eval x = .pointer (some ⟨g, 0, none⟩)) (t : TypeId) (old cs : Array Value) (hy : a.eval y = .agg cs) (hg : w.heap[g]? = some (.cells old t (0, 0)))
    (hi : (P.info? ty).map (·.size) = some cs.size) (hs : old.size = cs.size) (h1 : cs.all (·.oneCell') = true)
    (h : wpListIn F n P ops Q rest (a.put o.dst undef) (w.setRow g cs)) : wpListIn F n P ops Q (o :: rest) a w := by
  refine wpListIn_plain hgd fun K hK' => ?_
  unfold Oper.wpIn
  refine ⟨?_, ?_⟩
  · simp [Oper.about, ho]
  · rw [Oper.semAt_plain F _ _ (by rw [ho]; intro c hc'; cases hc')]
    simp only [execOp, ho, hx, hy, Instr.storeAt, Instr.sureAddr, Sem.run_bind, Sem.run_pure, Result.andThen_ok, run_storeVar_row w g t ty old cs hg hi hs h1]
    exact hK' _ _ h

/-- A row of texts in memory. -/
def Texts (w : World) (g o : Nat) (l : List ByteArray) : Prop := ∃ cs t f, w.heap[g]? = some (.cells cs t f) ∧ ∀ j, j < l.length → cs[o + j]? = some (.string (l.getD j ⟨#[]⟩))
theorem Texts.cell {w : World} {g o : Nat} {l : List ByteArray} (h : Texts w g o l) {j : Nat} (hj : j < l.length) : w.cell? ⟨g, o + j, none⟩ = some (.string (l.getD j ⟨#[]⟩)) := by
  obtain ⟨cs, t, f, hc, h⟩ := h
  simp only [World.cell?, hc]
  exact h j hj
theorem Texts.kp {Bw : Nat} {w w' : World} {g o : Nat} {l : List ByteArray} (h : Texts w g o l) (hg : g ≠ Bw) (hk : KpB Bw w w') : Texts w' g o l := by
  obtain ⟨cs, t, f, hc, h⟩ := h
  exact ⟨cs, t, f, hk.cells g cs t f hg hc, h⟩

theorem size5' : (Tryd.prog.info? 5).map (·.size) = some 1 := by kernel_rfl
theorem nums_drop (r : ByteArray) (m : Nat) (h : m ≤ r.size) : nums (r.extract m r.size) = (nums r).drop m := by
  unfold nums
  rw [Lib.extract_data, List.take_of_length_le (by simp), List.map_drop]
theorem grownBy_setCell'' (W : World) (b o : Nat) (v : Value) : W.grownBy (W.setCell ⟨b, o, none⟩ v) (some b) :=
  ⟨rfl, rfl, rfl, by simp [World.setCell], fun k _ hk => Below.heap_setCell _ _ _ k (fun e => hk (by rw [e]))⟩
def encB (b : List Nat) : Array Value := #[.agg (bytesV b).toArray]

set_option maxRecDepth 100000 in
set_option maxHeartbeats 1000000 in
theorem blocks1_in (n : Nat) (hn : 1 ≤ n) (l Bp Bw ps pc : Nat) (parts : List ByteArray) (hX : (parts.map nums).flatten.length ≤ 1000000000000) (hpl : parts.length ≤ 1000000)
    (J : Nat → World → Prop) (W : World) (hJ : Bears W.heap.size J)
    (hY : ∀ c W1, J c W1 → c < (pad (parts.map nums).flatten).length / 64 → YieldAt Fence.wide (n - 1) Tryd.prog l (encB (chunk (pad (parts.map nums).flatten) c)) W1 fun e W' =>
      e = .returned (.bool true) ∧ J (c + 1) W' ∧ KpB Bw W1 W')
    (hBp : W.heap[Bp]? = some (.cells #[.slice (some ⟨ps, 0, none⟩) parts.length pc] 39 (0, 0))) (hBpw : Bp ≠ Bw) (hps : Texts W ps 0 parts) (hpw : ps ≠ Bw) (hBw : Bw < W.heap.size) (h0 : J 0 W) :
    CallsIn Fence.wide n Tryd.prog 101 #[.func (.yield l) #[] #[], .pointer (some ⟨Bp, 0, none⟩)] W fun e W' => (∃ v, e = .returned v) ∧
      J ((pad (parts.map nums).flatten).length / 64) W' := by
  obtain ⟨P, HP⟩ : ∃ P, Hid (parts.map nums = P) := ⟨_, Lib.hid rfl⟩
  rw [HP.out] at hX hY ⊢
  obtain ⟨X, HX⟩ : ∃ X, Hid (P.flatten = X) := ⟨_, Lib.hid rfl⟩
  rw [HX.out] at hX hY ⊢
  obtain ⟨Z, HZ⟩ : ∃ Z, Hid (pad X = Z) := ⟨_, Lib.hid rfl⟩
  rw [HZ.out] at hY ⊢
  obtain ⟨NB, HNB⟩ : ∃ NB, Hid (Z.length / 64 = NB) := ⟨_, Lib.hid rfl⟩
  rw [HNB.out] at hY ⊢
  have HPl := Lib.hid (show P.length = parts.length from by rw [← HP.out]; simp)
  have HY := Lib.hid hY
  have HJ := Lib.hid hJ
  clear hY hJ
  have hBpz : Bp < W.heap.size := (Array.getElem?_eq_some_iff.1 hBp).1
  have hpsz : ps < W.heap.size := by obtain ⟨cs, t, f, hc, _⟩ := hps; exact (Array.getElem?_eq_some_iff.1 hc).1
  refine callsIn_of_wp Tryd.func101 rfl trivial ?_ rfl
  simp only [Tryd.ntmps101, List.size_toArray, List.length_cons, List.length_nil, Nat.reduceAdd, Nat.reduceSub, Array.replicate_succ, Array.replicate_zero, List.push_toArray, List.append_toArray, List.nil_append, List.cons_append]
  gi_wp2
  refine wide_scope ?_
  gi_wp2
  refine wpIn_label ?_
  have cBp : W.cell? ⟨Bp, 0, none⟩ = some (.slice (some ⟨ps, 0, none⟩) parts.length pc) := by simp [World.cell?, hBp]
  gi_wp2
  gi_loopg [4, 5, 7, 8, 12] parts.length (fun g a b _ _ i wr => ∃ (k c u : Nat) (bl : List Nat), g + k = parts.length ∧ a = .int .i64 u ∧ b = .int .i64 (64 * (c : Int) + (u : Int)) ∧ i = .int .i64 k ∧ u < 64 ∧ Hid (64 * c + u = (joinN P k).length) ∧
    J c wr ∧ Blk wr W.heap.size (bytesV bl) 146 ∧ Hid (bl.length = 64) ∧ Hid (bl.take u = (X.drop (64 * c)).take u) ∧ Texts wr ps 0 parts)
  case atStart =>
    refine ⟨0, 0, 0, List.replicate 64 0, by omega, rfl, rfl, rfl, by omega, Lib.hid rfl, HJ.out.alloc _ h0, Blk.new W (bytesV (List.replicate 64 0)) 146, Lib.hid (by simp), Lib.hid (by simp), ?_⟩
    exact Texts.kp hps hpw (KpB.of_below (Below.alloc (Below.refl _ _) (Nat.le_refl _) _))
  case round =>
    obtain ⟨k, c, u, bl, hgk, rfl, rfl, rfl, hu, HL, hJw, hB, HBl, HBt, hT⟩ := hrel
    clear cBp
    by_cases hlt : k < parts.length
    · obtain ⟨r, HR⟩ : ∃ r, Hid (parts.getD k ⟨#[]⟩ = r) := ⟨_, Lib.hid rfl⟩
      have cT : wr.cell? ⟨ps, k, none⟩ = some (.string r) := by rw [← HR.out]; simpa using hT.cell hlt
      have HPk := Lib.hid (show P.getD k [] = nums r from by rw [← HP.out, ← HR.out]; simp [List.getD, hlt])
      have HLs := Lib.hid (show (joinN P (k + 1)).length = 64 * c + u + r.size from by rw [joinN_succ P (by rw [HPl.out]; exact hlt), List.length_append, ← HL.out, HPk.out, nums_len])
      have HRn := Lib.hid (show (X.drop (64 * c + u)).take r.size = nums r from by rw [← HX.out, HL.out, ← nums_len, ← HPk.out]; exact joinN_next P (by rw [HPl.out]; exact hlt))
      have hle : 64 * c + u + r.size ≤ 1000000000000 := by
        have := joinN_le P (k + 1)
        rw [HLs.out, HX.out] at this; omega
      gi_wp2
      obtain ⟨E, HE⟩ : ∃ E : Nat, Hid (64 * c + u + r.size = E) := ⟨_, Lib.hid rfl⟩
      rw [show (64 * (c : Int) + (u : Int) + (r.size : Int)) = (E : Int) from by have := HE.out; omega]
      have HLs' : Hid ((joinN P (k + 1)).length = E) := Lib.hid (by rw [HLs.out, HE.out])
      obtain ⟨wo, rfl⟩ : ∃ wo : World, wo = wr := ⟨_, rfl⟩
      obtain ⟨go, rfl⟩ : ∃ go : Nat, go = gk := ⟨_, rfl⟩
      have hEX : E ≤ X.length := by rw [← HLs'.out, ← HX.out]; exact joinN_le P (k + 1)
      gi_loopg [4, 7, 8] (r.size) (fun g a s _ wr => ∃ (c u : Nat) (bl : List Nat) (r : ByteArray), g = r.size ∧ a = .int .i64 u ∧ s = .string r ∧ u < 64 ∧ Hid (64 * c + u + r.size = E) ∧ Hid ((X.drop (64 * c + u)).take r.size = nums r) ∧
        J c wr ∧ Blk wr W.heap.size (bytesV bl) 146 ∧ Hid (bl.length = 64) ∧ Hid (bl.take u = (X.drop (64 * c)).take u) ∧ Texts wr ps 0 parts)
      case atStart => exact ⟨c, u, bl, r, rfl, rfl, rfl, hu, HE, HRn, hJw, hB, HBl, HBt, hT⟩
      case round =>
        clear hJw hB HBl HBt hT HRn HE HL HLs cT HR HPk hu hle
        obtain ⟨c, u, bl, r, hgr, rfl, rfl, hu, HE, HRn, hJw, hB, HBl, HBt, hT⟩ := hrel
        have hsl := slice62_lt wr W.heap.size u hu
        obtain ⟨w2, hcopy, hB2, hg2⟩ := copy_text (P := Tryd.prog) wr 67 9 3 5 146 W.heap.size u r bl Tryd.underlying67 size5' hB HBl.out (by omega)
        obtain ⟨m, HM⟩ : ∃ m, Hid (min r.size (64 - u) = m) := ⟨_, Lib.hid rfl⟩
        rw [HM.out] at hcopy hB2
        have hm1 : m ≤ r.size := by have := HM.out; omega
        have hm2 : u + m ≤ 64 := by have := HM.out; omega
        have hEz : r.size ≤ 1000000000000 := by have := HE.out; have := HLs'.out; have := joinN_le P (k + 1); rw [HX.out] at this; omega
        have hJ2 := HJ.out _ _ _ _ hJw hg2 (fun r e => by cases e; exact Nat.le_refl _)
        have hT2 : Texts w2 ps 0 parts := by
          obtain ⟨cs, t, f, hc, h⟩ := hT
          exact ⟨cs, t, f, (hg2.block ps (Array.getElem?_eq_some_iff.1 hc).1 (by intro e; cases e; omega)).trans hc, h⟩
        by_cases hfull : u + m < 64
        · have hmr : m = r.size := by have := HM.out; omega
          have HMr := Lib.hid hmr
          clear hmr
          gi_wp2
          gi_roundg (go - 1)
          case measure => omega
          case rel =>
            refine ⟨k + 1, c, u + m, _, by omega, rfl, ?_, by go_num, hfull, Lib.hid ?_, hJ2, hB2, Lib.hid (copied_length HBl.out (by rw [nums_len]; exact hm1) hm2), Lib.hid ?_, hT2⟩
            · have := HE.out; have := HMr.out
              rw [show (E : Int) = 64 * (c : Int) + ((u + m : Nat) : Int) by omega]
            · have := HE.out; have := HMr.out; rw [HLs'.out]; omega
            · exact copied_next HBl.out (by rw [nums_len]; exact hm1) hm2 (by rw [nums_len, HE.out]; exact hEX) HBt.out (by rw [nums_len]; exact HRn.out)
        · have hum : u + m = 64 := by omega
          have HF := Lib.hid (block_full (x := X) (c := c) (copied_length HBl.out (by rw [nums_len]; exact hm1) hm2) (by
            have := copied_next (x := X) (bl := bl) (r := nums r) (c := c) (u := u) (m := m) HBl.out (by rw [nums_len]; exact hm1) hm2 (by rw [nums_len, HE.out]; exact hEX) HBt.out (by rw [nums_len]; exact HRn.out)
            rw [hum] at this; exact this) (by have := HE.out; omega))
          rw [HF.out, HZ.out] at hB2
          have hcN : c < NB := by
            rw [← HNB.out, ← HZ.out, pad_len]
            have := HE.out; omega
          have HC64 := Lib.hid (chunk_len Z c (by rw [← HZ.out, pad_len]; have := HE.out; omega))
          obtain ⟨fn, tmps, assign, body, hy, hR⟩ := HY.out c w2 hJ2 hcN
          unfold encB at hy
          have HS62 := Lib.hid (show (Tryd.prog.info? 146).map (·.size) = some (bytesV (chunk Z c)).toArray.size from by rw [show (bytesV (chunk Z c)).toArray.size = 64 by simp [bytesV, HC64.out]]; kernel_rfl)
          have HRi := Lib.hid hR
          have humI : (u : Int) + (m : Int) = 64 := by omega
          clear hR
          gi_wp2_with (refine wpListIn_load_row rfl 146 _ rfl W.heap.size rfl 146 _ (0, 0) _ hB2 Tryd.underlying146 rfl HS62.out ?_)
          refine HRi.out.mono ?_
          clear hy
          rintro e W3 ⟨rfl, hJ3, hk3⟩
          have hB3 : Blk W3 W.heap.size (bytesV (chunk Z c)) 146 := hk3.cells _ _ _ _ (by omega) hB2
          have hT3 := hT2.kp hpw hk3
          clear hcopy hsl hB2 hT2 hJ2
          gi_wp2
          have HZr := Lib.hid (show (r.extract m r.size).size = r.size - m from by simp)
          gi_roundg (r.extract m r.size).size
          case measure => rw [HZr.out, hgr]; omega
          case rel =>
            refine ⟨c + 1, 0, _, _, rfl, rfl, rfl, by omega, Lib.hid (by rw [HZr.out]; have := HE.out; omega), Lib.hid ?_, hJ3, hB3, HC64, Lib.hid (by simp), hT3⟩
            have := rest_next (x := X) (r := nums r) (p := 64 * c + u) (m := m) (by rw [nums_len]; exact hm1) (by rw [nums_len]; exact HRn.out)
            rw [HZr.out, show 64 * (c + 1) + 0 = 64 * c + u + m by omega, nums_drop r m hm1, ← this]
            rw [List.length_drop, nums_len]
    · obtain rfl : k = parts.length := by omega
      have HXl := Lib.hid (show X.length = 64 * c + u from by rw [HL.out, ← HPl.out, joinN_all, HX.out])
      clear hlt hgk HL
      have hux : 64 * c + u ≤ 1000000000000 := by have := HXl.out; omega
      have cu : wr.cell? ⟨W.heap.size, u, none⟩ = some (.int .u8 ((bl.getD u 0 : Nat) : Int)) := bytesV_cell hB (by rw [HBl.out]; exact hu)
      have fu : wr.frozen? ⟨W.heap.size, u, none⟩ = false := hB.frozen
      have hB1 : Blk (wr.setCell ⟨W.heap.size, u, none⟩ (.int .u8 128)) W.heap.size (bytesV (bl.set u 128)) 146 := by
        have := hB.set u (.int .u8 ((128 : Nat) : Int))
        rw [bytesV_set] at this; exact this
      obtain ⟨a1, hsl, ha1⟩ : ∃ a1, (Instr.sliceAt 146 (.pointer (some ⟨W.heap.size, 0, none⟩)) (some (.int .i64 ((u : Int) + 1))) none none).run Tryd.prog (wr.setCell ⟨W.heap.size, u, none⟩ (.int .u8 128)) = .ok (.slice (some a1) (64 - (u + 1)) (64 - (u + 1))) (wr.setCell ⟨W.heap.size, u, none⟩ (.int .u8 128)) ∧ (u + 1 < 64 → a1 = ⟨W.heap.size, u + 1, none⟩) :=
        ⟨_, slice62 _ W.heap.size (u + 1) (by omega), fun h => if_neg (by omega)⟩
      obtain ⟨w3, hclear, hB3, hg3⟩ := clear_block (P := Tryd.prog) (wr.setCell ⟨W.heap.size, u, none⟩ (.int .u8 128)) 67 5 0 146 W.heap.size (u + 1) (bl.set u 128) a1 Tryd.underlying67 (fun w => by kernel_rfl) hB1 (by rw [List.length_set]; exact HBl.out) (by omega) ha1
      rw [marked_of HBl.out hu] at hB3
      rw [show 64 - (u + 1) = 63 - u from by omega] at hclear hsl
      have HM64 := Lib.hid (marked_length HBl.out hu)
      have hJ1 := HJ.out _ _ _ _ hJw (grownBy_setCell'' wr W.heap.size u (.int .u8 128)) (fun r e => by cases e; exact Nat.le_refl _)
      have hJ3 := HJ.out _ _ _ _ hJ1 hg3 (fun r e => by cases e; exact Nat.le_refl _)
      clear hJ1 hJw hT hg3 ha1 hB1
      have hul : 0 ≤ (u : Int) + 1 := by omega
      by_cases h55 : u ≤ 55
      · have h56 : (56 < (u : Int) + 1) = False := by simp; omega
        gi_wp2
        have HEn := Lib.hid (marked_one (x := X) HBl.out HXl.out h55 HBt.out)
        have HNc : Hid (NB = c + 1) := Lib.hid (by rw [← HNB.out, ← HZ.out]; exact (pad_one X c u HXl.out h55).2)
        rw [HZ.out] at HEn
        obtain ⟨base, Hbase⟩ : ∃ base, Hid (marked bl u = base) := ⟨_, Lib.hid rfl⟩
        rw [Hbase.out] at hB3 HM64 HEn
        clear hclear hsl cu fu hB
        gi_loopw [9, 50] (fun _ i wr => ∃ k : Nat, k ≤ 8 ∧ i = .int .i64 k ∧ Blk wr W.heap.size (bytesV (lenB base X.length k)) 146 ∧ J c wr) (fun _ i _ => 8 - (intOf i).toNat)
        case atStart => exact ⟨0, by omega, rfl, by rw [lenB_zero _ _ HM64.out]; exact hB3, hJ3⟩
        case round =>
          clear hB3 hJ3
          obtain ⟨k, hk, rfl, hB3, hJ3⟩ := hrel
          by_cases hlt : k < 8
          · have hk1 : (0 : Int) ≤ 63 - (k : Int) := by omega
            have hk2 : 63 - (k : Int) < 64 := by omega
            have ck : wr.cell? ⟨W.heap.size, 63 - k, none⟩ = some (.int .u8 (((lenB base X.length k).getD (63 - k) 0 : Nat) : Int)) := bytesV_cell hB3 (by rw [lenB_length _ _ _ HM64.out hk]; omega)
            have fk : wr.frozen? ⟨W.heap.size, 63 - k, none⟩ = false := hB3.frozen
            gi_wp2
            have hset := hB3.set (63 - k) (.int .u8 ((8 * X.length / 2 ^ (8 * k) % 256 : Nat) : Int))
            rw [bytesV_set, lenB_set _ _ _ HM64.out hlt] at hset
            have hval : ((8 * X.length / 2 ^ (8 * k) % 256 : Nat) : Int) = (64 * (c : Int) + (u : Int)) * 8 / 2 ^ (8 * k) % 256 := by
              rw [HXl.out, Int.natCast_emod, Int.natCast_ediv, Int.natCast_pow]
              congr 2
              rw [Int.natCast_mul, Int.natCast_add, Int.natCast_mul, Int.mul_comm]
              rfl
            rw [hval] at hset
            exact ⟨⟨k + 1, by omega, by go_num, hset, HJ.out _ _ _ _ hJ3 (grownBy_setCell'' wr W.heap.size (63 - k) _) (fun r e => by cases e; exact Nat.le_refl _)⟩, by simp [intOf]; omega⟩
          · obtain rfl : k = 8 := by omega
            rw [show ((8 : Nat) : Int) = 8 from rfl]
            rw [HEn.out] at hB3
            have HC64 := Lib.hid (chunk_len Z c (by have := HNc.out; have := pad_blocks X; rw [HZ.out, HNB.out] at this; omega))
            obtain ⟨fn, tmps, assign, body, hy, hR⟩ := HY.out c wr hJ3 (by rw [HNc.out]; omega)
            unfold encB at hy
            have HS62 := Lib.hid (show (Tryd.prog.info? 146).map (·.size) = some (bytesV (chunk Z c)).toArray.size from by rw [show (bytesV (chunk Z c)).toArray.size = 64 by simp [bytesV, HC64.out]]; kernel_rfl)
            have HRi := Lib.hid hR
            clear hR hlt hk
            gi_wp2_with (refine wpListIn_load_row rfl 146 _ rfl W.heap.size rfl 146 _ (0, 0) _ hB3 Tryd.underlying146 rfl HS62.out ?_)
            refine HRi.out.mono ?_
            clear hy
            rintro e W3 ⟨rfl, hJ3, hk3⟩
            gi_wp2
            rw [Exit.noGoto_normal]
            refine bodyPost_end (results_none rfl _ _ _) rfl ?_
            exact ⟨⟨_, rfl⟩, by rw [HNc.out]; exact hJ3⟩
      · have h56 : (56 < (u : Int) + 1) = True := by simp; omega
        have HF := Lib.hid (marked_two (x := X) HBl.out HXl.out (by omega) hu HBt.out)
        rw [HF.out, HZ.out] at hB3
        have HNc : Hid (NB = c + 1 + 1) := Lib.hid (by rw [← HNB.out, ← HZ.out]; exact (pad_two X c u HXl.out (by omega) hu).2.2)
        have HC0 := Lib.hid (chunk_len Z c (by have := HNc.out; have := pad_blocks X; rw [HZ.out, HNB.out] at this; omega))
        have HEn := Lib.hid (zero_two (x := X) (c := c) HXl.out (by omega) hu)
        rw [HZ.out] at HEn
        obtain ⟨fn, tmps, assign, body, hy, hR⟩ := HY.out c w3 hJ3 (by rw [HNc.out]; omega)
        unfold encB at hy
        have HS62 := Lib.hid (show (Tryd.prog.info? 146).map (·.size) = some (bytesV (chunk Z c)).toArray.size from by rw [show (bytesV (chunk Z c)).toArray.size = 64 by simp [bytesV, HC0.out]]; kernel_rfl)
        have HRi := Lib.hid hR
        clear hR
        gi_wp2_with (refine wpListIn_load_row rfl 146 _ rfl W.heap.size rfl 146 _ (0, 0) _ hB3 Tryd.underlying146 rfl HS62.out ?_)
        refine HRi.out.mono ?_
        clear hy
        rintro e W3 ⟨rfl, hJ4, hk4⟩
        have hB4 : Blk W3 W.heap.size (bytesV (chunk Z c)) 146 := hk4.cells _ _ _ _ (by omega) hB3
        clear hB3 hJ3 hclear hsl cu fu hB hk4
        have hsl := slice62_all W3 W.heap.size
        obtain ⟨w5, hclear, hB5, hg5⟩ := clear_block (P := Tryd.prog) W3 67 5 0 146 W.heap.size 0 (chunk Z c) ⟨W.heap.size, 0, none⟩ Tryd.underlying67 (fun w => by kernel_rfl) hB4 HC0.out (by omega) (fun _ => rfl)
        rw [show 64 - 0 = 64 from rfl] at hclear hB5
        have hJ3 := HJ.out _ _ _ _ hJ4 hg5 (fun r e => by cases e; exact Nat.le_refl _)
        have HM64 : Hid ((List.replicate 64 0).length = 64) := Lib.hid (by simp)
        obtain ⟨base, Hbase⟩ : ∃ base : List Nat, Hid (List.replicate 64 0 = base) := ⟨_, Lib.hid rfl⟩
        have hB3 : Blk w5 W.heap.size (bytesV base) 146 := by rw [← Hbase.out]; exact hB5
        rw [Hbase.out] at HM64 HEn
        clear hB5 hB4 hJ4 hg5
        gi_wp2
        gi_loopw [9, 50] (fun _ i wr => ∃ k : Nat, k ≤ 8 ∧ i = .int .i64 k ∧ Blk wr W.heap.size (bytesV (lenB base X.length k)) 146 ∧ J (c + 1) wr) (fun _ i _ => 8 - (intOf i).toNat)
        case atStart => exact ⟨0, by omega, rfl, by rw [lenB_zero _ _ HM64.out]; exact hB3, hJ3⟩
        case round =>
          clear hB3 hJ3
          obtain ⟨k, hk, rfl, hB3, hJ3⟩ := hrel
          by_cases hlt : k < 8
          · have hk1 : (0 : Int) ≤ 63 - (k : Int) := by omega
            have hk2 : 63 - (k : Int) < 64 := by omega
            have ck : wr.cell? ⟨W.heap.size, 63 - k, none⟩ = some (.int .u8 (((lenB base X.length k).getD (63 - k) 0 : Nat) : Int)) := bytesV_cell hB3 (by rw [lenB_length _ _ _ HM64.out hk]; omega)
            have fk : wr.frozen? ⟨W.heap.size, 63 - k, none⟩ = false := hB3.frozen
            gi_wp2
            have hset := hB3.set (63 - k) (.int .u8 ((8 * X.length / 2 ^ (8 * k) % 256 : Nat) : Int))
            rw [bytesV_set, lenB_set _ _ _ HM64.out hlt] at hset
            have hval : ((8 * X.length / 2 ^ (8 * k) % 256 : Nat) : Int) = (64 * (c : Int) + (u : Int)) * 8 / 2 ^ (8 * k) % 256 := by
              rw [HXl.out, Int.natCast_emod, Int.natCast_ediv, Int.natCast_pow]
              congr 2
              rw [Int.natCast_mul, Int.natCast_add, Int.natCast_mul, Int.mul_comm]
              rfl
            rw [hval] at hset
            exact ⟨⟨k + 1, by omega, by go_num, hset, HJ.out _ _ _ _ hJ3 (grownBy_setCell'' wr W.heap.size (63 - k) _) (fun r e => by cases e; exact Nat.le_refl _)⟩, by simp [intOf]; omega⟩
          · obtain rfl : k = 8 := by omega
            rw [show ((8 : Nat) : Int) = 8 from rfl]
            rw [HEn.out] at hB3
            have HC64 := Lib.hid (chunk_len Z (c + 1) (by have := HNc.out; have := pad_blocks X; rw [HZ.out, HNB.out] at this; omega))
            obtain ⟨fn, tmps, assign, body, hy, hR⟩ := HY.out (c + 1) wr hJ3 (by rw [HNc.out]; omega)
            unfold encB at hy
            have HS62 := Lib.hid (show (Tryd.prog.info? 146).map (·.size) = some (bytesV (chunk Z (c + 1))).toArray.size from by rw [show (bytesV (chunk Z (c + 1))).toArray.size = 64 by simp [bytesV, HC64.out]]; kernel_rfl)
            have HRi := Lib.hid hR
            clear hR hlt hk
            gi_wp2_with (refine wpListIn_load_row rfl 146 _ rfl W.heap.size rfl 146 _ (0, 0) _ hB3 Tryd.underlying146 rfl HS62.out ?_)
            refine HRi.out.mono ?_
            clear hy
            rintro e W3 ⟨rfl, hJ3, hk3⟩
            gi_wp2
            rw [Exit.noGoto_normal]
            refine bodyPost_end (results_none rfl _ _ _) rfl ?_
            exact ⟨⟨_, rfl⟩, by rw [HNc.out]; exact hJ3⟩
end Go.Proofs.YtpapfegbodolgaaDoor
end
