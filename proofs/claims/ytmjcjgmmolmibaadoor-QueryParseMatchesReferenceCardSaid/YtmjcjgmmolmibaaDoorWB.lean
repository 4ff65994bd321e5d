/- WALKS: read. -/
import Derived.Test.YtmjcjgmmolmibaaDoorWA
import Derived.Deep.DeepCutAuto
import Derived.Deep.Cut
import Derived.Deep.CutRange
import Derived.Deep.RegionWith
import Derived.Deep.RegionLaw
import Derived.Deep.RegionHeld3
import Derived.Outline
import Derived.Laws.EntriesVeiled
set_option linter.unusedVariables false
set_option linter.unusedSimpArgs false
namespace Go.Proofs.YtmjcjgmmolmibaaDoor
open Go.RowKit Go.ChangeShapes Go.WideShapes Go.WideMaps Go.Maps Go.ChangeMaps

abbrev qz : Array Value := #[.int .i64 0, .int .i64 0, .int .i64 0, .int .i64 0, .int .i64 0, .int .i64 0, .int .i64 0]
theorem spl_clean (l : List UInt8) : Clean (spl l) := spl_mem l

/-- The world in which read's work begins. -/
def rB (W : World) : World := (W.alloc (.cells qz 23)).alloc (.cells #[.nilIface] 48)
def rW (W : World) (s : ByteArray) : World := (((rB W).alloc (.cells #[.string s] 9)).alloc (.cells #[.bool true] 4)).alloc (.cells #[.func (.func 40) #[] #[.pointer (some ⟨W.heap.size + 1 + 1, 0, none⟩), .pointer (some ⟨W.heap.size + 1 + 1 + 1, 0, none⟩)]] 61)
theorem rB_size (W : World) : (rB W).heap.size = W.heap.size + 2 := by simp [rB]
theorem rB_below (W : World) : Below W.heap.size W (rB W) := bt (ba _ _) (ba _ _)
theorem rW_below (W : World) (s : ByteArray) : Below (rB W).heap.size (rB W) (rW W s) := bt (bt (ba _ _) (ba _ _)) (ba _ _)
theorem rW_size (W : World) (s : ByteArray) : (rW W s).heap.size = W.heap.size + 5 := by simp [rW, rB]
theorem rW_next (W : World) (s : ByteArray) (hs : s.size ≤ 1000) : RdN (rB W) (W.heap.size + 1 + 1) (W.heap.size + 1 + 1 + 1) (W.heap.size + 1 + 1 + 1 + 1) (rW W s) (spl s.data.toList) := by
  have hne : (spl s.data.toList).isEmpty = false := by
    cases h : spl s.data.toList with
    | nil => exact absurd h (spl_ne _)
    | cons v vs => rfl
  refine ⟨?_, ?_, ?_, ?_, ?_, spl_clean _, ?_, rW_below W s, by rw [rB_size]; omega, by rw [rB_size]; omega⟩
  · have : restOf (spl s.data.toList) = s := by unfold restOf; rw [join_spl]; exact bstr_of s
    rw [this]
    simp [rW, rB, go_sem]
  · rw [hne]
    simp [rW, rB, go_sem]
  · simp [rW, rB, go_sem]
  · simp [rW, rB, go_sem]
  · simp [rW, rB, go_sem]
  · rw [join_spl]
    exact hs
/-- The map, read. -/
theorem kind_look {w : World} {b : Nat} (h : w.ownsMap Tryd.prog 9 (plainElem (H := Unit) Tryd.prog 3) b 8 (KD 8)) (l : List UInt8) (hl : l.length ≤ 1000) : (Instr.lookup 65 (.map (some b)) (.string (bstr l)) false).run Tryd.prog w = .ok (.int .i64 (kindOf l)) w := by
  have hkey : keyOf Tryd.prog 9 (.string (bstr l)) = some (.string l) := by
    have := keyOf_string_mk (P := Tryd.prog) (k := 9) Tryd.underlying9 (s := bstr l) (by rw [bstr_size]; unfold maxLen; omega)
    rwa [bstr_list] at this
  obtain ⟨c, hrun, hat, _⟩ := h.lookup_int mlaw Tryd.underlying65 Tryd.underlying3 (zero3 _) hkey
  rw [kd_at] at hat
  simp only [DataW.lit.injEq, Lit.int.injEq, true_and] at hat
  rw [hrun, hat]

theorem ownsMap_heap {w w' : World} {b n : Nat} {D : DataW Unit} (h : w.ownsMap Tryd.prog 9 (plainElem (H := Unit) Tryd.prog 3) b n D) (e : w'.heap[b]? = w.heap[b]?) : w'.ownsMap Tryd.prog 9 (plainElem (H := Unit) Tryd.prog 3) b n D := by
  obtain ⟨es, clock, hb, r⟩ := h
  exact ⟨es, clock, e.trans hb, r⟩
theorem zeros_of {w : World} {b : Nat} (h : w.heap[b]? = some (.cells qz 23 (0, 0))) : (w.cell? ⟨b, 0, none⟩ = some (.int .i64 0) ∧ w.cell? ⟨b, 1, none⟩ = some (.int .i64 0) ∧ w.cell? ⟨b, 2, none⟩ = some (.int .i64 0) ∧ w.cell? ⟨b, 3, none⟩ = some (.int .i64 0) ∧ w.cell? ⟨b, 4, none⟩ = some (.int .i64 0) ∧ w.cell? ⟨b, 5, none⟩ = some (.int .i64 0) ∧ w.cell? ⟨b, 6, none⟩ = some (.int .i64 0)) ∧ ∀ j, w.frozen? ⟨b, j, none⟩ = false := by
  refine ⟨⟨?_, ?_, ?_, ?_, ?_, ?_, ?_⟩, fun j => by simp [World.frozen?, h]⟩ <;> simp [World.cell?, h]

def Zs (w : World) (b : Nat) : Prop := (w.cell? ⟨b, 0, none⟩ = some (.int .i64 0) ∧ w.cell? ⟨b, 1, none⟩ = some (.int .i64 0) ∧ w.cell? ⟨b, 2, none⟩ = some (.int .i64 0) ∧ w.cell? ⟨b, 3, none⟩ = some (.int .i64 0) ∧ w.cell? ⟨b, 4, none⟩ = some (.int .i64 0) ∧ w.cell? ⟨b, 5, none⟩ = some (.int .i64 0) ∧ w.cell? ⟨b, 6, none⟩ = some (.int .i64 0)) ∧ ∀ j, w.frozen? ⟨b, j, none⟩ = false
theorem zs_mk {w : World} {b : Nat} (y0 : w.cell? ⟨b, 0, none⟩ = some (.int .i64 0)) (y1 : w.cell? ⟨b, 1, none⟩ = some (.int .i64 0)) (y2 : w.cell? ⟨b, 2, none⟩ = some (.int .i64 0)) (y3 : w.cell? ⟨b, 3, none⟩ = some (.int .i64 0)) (y4 : w.cell? ⟨b, 4, none⟩ = some (.int .i64 0)) (y5 : w.cell? ⟨b, 5, none⟩ = some (.int .i64 0)) (y6 : w.cell? ⟨b, 6, none⟩ = some (.int .i64 0)) (yf : ∀ j, w.frozen? ⟨b, j, none⟩ = false) : Zs w b := ⟨⟨y0, y1, y2, y3, y4, y5, y6⟩, yf⟩
theorem zeros_between {w1 w2 : World} {r m : Nat} (hk : ∀ k, k < (w1.alloc (.cells qz 23)).heap.size → k ≠ r → k ≠ m → w2.heap[k]? = (w1.alloc (.cells qz 23)).heap[k]?) (h1 : r < w1.heap.size) (h2 : m < w1.heap.size) : Zs w2 w1.heap.size :=
  zeros_of ((hk w1.heap.size (by simp) (by omega) (by omega)).trans (heap_alloc_new w1 _))
theorem zeros_first {w1 w2 : World} {b r m : Nat} (hk : ∀ k, k < w1.heap.size → k ≠ r → k ≠ m → w2.heap[k]? = w1.heap[k]?) (hq : w1.heap[b]? = some (.cells qz 23 (0, 0))) (h1 : r < b) (h2 : m < b) : Zs w2 b :=
  zeros_of ((hk b (lt_of_heap hq) (by omega) (by omega)).trans hq)

theorem map_at0 {w0 w1 : World} (h : w1.ownsMap Tryd.prog 9 (plainElem (H := Unit) Tryd.prog 3) w0.drew.heap.size 8 (KD 8)) : Hid (w1.ownsMap Tryd.prog 9 (plainElem (H := Unit) Tryd.prog 3) w0.heap.size 8 (KD 8)) := h
theorem map_at1 {w0 w1 : World} (h : w1.ownsMap Tryd.prog 9 (plainElem (H := Unit) Tryd.prog 3) (w0.alloc (.cells qz 23)).drew.heap.size 8 (KD 8)) : Hid (w1.ownsMap Tryd.prog 9 (plainElem (H := Unit) Tryd.prog 3) (w0.heap.size + 1) 8 (KD 8)) := by
  have e : (w0.alloc (.cells qz 23)).drew.heap.size = w0.heap.size + 1 := by simp
  rw [e] at h
  exact h

/-- What stands behind the first word. -/
def ReadSt (W : World) (ws : List (List UInt8)) (v7 : Value) (w : World) : Prop :=
  ∃ qb, v7 = .pointer (some ⟨qb, 0, none⟩) ∧ RdI (rB W) (W.heap.size + 1 + 1) (W.heap.size + 1 + 1 + 1) (W.heap.size + 1 + 1 + 1 + 1) qb w ⟨ws.tail, ⟨kindOf (hdw ws), 0, 0, 0, 0, 0, 0⟩⟩
theorem readSt_new {W w2 : World} {ws : List (List UInt8)} (h : RdN (rB W) (W.heap.size + 1 + 1) (W.heap.size + 1 + 1 + 1) (W.heap.size + 1 + 1 + 1 + 1) w2 ws.tail) :
    Hid (ReadSt W ws (.pointer (some ⟨w2.heap.size, 0, none⟩)) (w2.alloc (.cells #[.int .i64 (kindOf (hdw ws)), .int .i64 0, .int .i64 0, .int .i64 0, .int .i64 0, .int .i64 0, .int .i64 0] 23))) :=
  Lib.hid ⟨_, rfl, (h.below (ba _ _)).with (QAt.new w2 ⟨kindOf (hdw ws), 0, 0, 0, 0, 0, 0⟩) (fun j => by simp [go_sem]) h.b.size⟩
theorem RdN.setOther {B : World} {r m nb : Nat} {w : World} {ws : List (List UInt8)} (h : RdN B r m nb w ws) {b : Nat} (h1 : b ≠ r) (h2 : b ≠ m) (h3 : b ≠ nb) (h4 : B.heap.size ≤ b) (j : Nat) (v : Value) : RdN B r m nb (w.setCell ⟨b, j, none⟩ v) ws := by
  obtain ⟨c0, c1, f0, f1, nx, cl, ln, b', gr, gm⟩ := h
  exact ⟨(World.cell?_setCell_other _ _ _ _ (ne_addr h1)).trans c0, (World.cell?_setCell_other _ _ _ _ (ne_addr h2)).trans c1, by rw [World.frozen?_setCell]; exact f0, by rw [World.frozen?_setCell]; exact f1, (World.cell?_setCell_other _ _ _ _ (ne_addr h3)).trans nx, cl, ln, below_setCell b' h4 _, gr, gm⟩
theorem QAt.set0 {w : World} {b : Nat} {q : MQ} (h : QAt w b q) (n : Int) : QAt (w.setCell ⟨b, 0, none⟩ (.int .i64 n)) b { q with kind := n } := by
  obtain ⟨h0, h1, h2, h3, h4, h5, h6⟩ := h
  have e : ∀ o, o ≠ 0 → (w.setCell ⟨b, 0, none⟩ (.int .i64 n)).cell? ⟨b, o, none⟩ = w.cell? ⟨b, o, none⟩ := fun o ho => World.cell?_setCell_other _ _ _ _ (fun k => ho (congrArg Addr.off k).symm)
  exact ⟨World.cell?_setCell_same _ _ _ h0, (e 1 (by decide)).trans h1, (e 2 (by decide)).trans h2, (e 3 (by decide)).trans h3, (e 4 (by decide)).trans h4, (e 5 (by decide)).trans h5, (e 6 (by decide)).trans h6⟩
theorem readSt_set {W w2 : World} {ws : List (List UInt8)} (h : RdN (rB W) (W.heap.size + 1 + 1) (W.heap.size + 1 + 1 + 1) (W.heap.size + 1 + 1 + 1 + 1) w2 ws.tail) {b : Nat} (hz : Zs w2 b) (hb : W.heap.size + 1 + 1 + 1 + 1 < b) :
    Hid (ReadSt W ws (.pointer (some ⟨b, 0, none⟩)) (((((((w2.setCell ⟨b, 0, none⟩ (.int .i64 (kindOf (hdw ws)))).setCell ⟨b, 1, none⟩ (.int .i64 0)).setCell ⟨b, 2, none⟩ (.int .i64 0)).setCell ⟨b, 3, none⟩ (.int .i64 0)).setCell ⟨b, 4, none⟩ (.int .i64 0)).setCell ⟨b, 5, none⟩ (.int .i64 0)).setCell ⟨b, 6, none⟩ (.int .i64 0))) := by
  obtain ⟨⟨z0, z1, z2, z3, z4, z5, z6⟩, zf⟩ := hz
  have hq : QAt w2 b ⟨0, 0, 0, 0, 0, 0, 0⟩ := ⟨z0, z1, z2, z3, z4, z5, z6⟩
  have hB : (rB W).heap.size ≤ b := by rw [rB_size]; omega
  have n1 : b ≠ W.heap.size + 1 + 1 := by omega
  have n2 : b ≠ W.heap.size + 1 + 1 + 1 := by omega
  have n3 : b ≠ W.heap.size + 1 + 1 + 1 + 1 := by omega
  have hq' := set_cell (set_cell (set_cell (set_cell (set_cell (set_cell (hq.set0 (kindOf (hdw ws))) 1 (by decide) 0) 2 (by decide) 0) 3 (by decide) 0) 4 (by decide) 0) 5 (by decide) 0) 6 (by decide) 0
  have hn' := ((((((h.setOther n1 n2 n3 hB 0 (.int .i64 (kindOf (hdw ws)))).setOther n1 n2 n3 hB 1 (.int .i64 0)).setOther n1 n2 n3 hB 2 (.int .i64 0)).setOther n1 n2 n3 hB 3 (.int .i64 0)).setOther n1 n2 n3 hB 4 (.int .i64 0)).setOther n1 n2 n3 hB 5 (.int .i64 0)).setOther n1 n2 n3 hB 6 (.int .i64 0)
  exact Lib.hid ⟨_, rfl, hn'.with hq' (fun j => by simp only [World.frozen?_setCell]; exact zf j) hB⟩


/-- What read's closures are to spell. -/
theorem readClo {a : Addr} {B : World} {r m nb qb : Nat} (hL : Lw a B) : SpCloR (RdI B r m nb qb) (RdJ B) a qb ⟨nb, 0, none⟩ ⟨nb, 0, none⟩ rw_ rn where
  q := fun w s h => ⟨h.q, h.fq⟩
  low := fun w s h => h.set 4 (by decide) s.q.low
  word := fun w s x h => readW_any hL h x
  num := fun w s j h hj => readN_any hL h j hj
  kw := fun s x s' h => by
    unfold rw_ at h
    split at h
    · cases h; rfl
    · cases h
  kn := fun s j s' hj h => by
    unfold rn at h
    split at h
    · cases h
      match j, hj with
      | 1, _ => rfl
      | 2, _ => rfl
      | 3, _ => rfl
      | 4, _ => rfl
      | 5, _ => rfl
      | j + 6, _ => rfl
    · cases h
theorem readR_eq (ws : List (List UInt8)) : readR ws = (spellM rw_ rn ⟨ws.tail, ⟨kindOf (hdw ws), 0, 0, 0, 0, 0, 0⟩⟩).bind fun s => if s.ws = [] then some s.q else none := by
  have h := head_drop ws 0
  rw [List.drop_zero] at h
  unfold readR
  rw [List.drop_one, ← h]
theorem setC_heap {w : World} {b : Nat} {cur : Array Value} {t : TypeId} {fr : Nat × Nat} (h : w.heap[b]? = some (.cells cur t fr)) (j : Nat) (u : Value) : (w.setCell ⟨b, j, none⟩ u).heap[b]? = some (.cells (cur.setIfInBounds j u) t fr) := by
  have hlt := lt_of_heap h
  have h' : w.heap[b] = .cells cur t fr := by simpa [Array.getElem?_eq_getElem hlt] using h
  show (w.heap.modify b _)[b]? = _
  rw [Array.getElem?_eq_getElem (by simpa using hlt), Array.getElem_modify_self, h']
  rfl
theorem rB_res {W w : World} (h : Below (rB W).heap.size (rB W) w) : w.heap[W.heap.size]? = some (.cells qz 23 (0, 0)) ∧ w.cell? ⟨W.heap.size + 1, 0, none⟩ = some .nilIface ∧ w.frozen? ⟨W.heap.size + 1, 0, none⟩ = false := by
  have hz := rB_size W
  refine ⟨(h.block _ (by omega)).trans ((heap_alloc_old _ _ (by simp)).trans (heap_alloc_new W _)), (h.cell (p := ⟨W.heap.size + 1, 0, none⟩) (by simp only; omega)).trans (by simp [rB, go_sem]), (h.frozen (p := ⟨W.heap.size + 1, 0, none⟩) (by simp only; omega)).trans (by simp [rB, go_sem])⟩
theorem set7_heap {w : World} {b : Nat} (h : w.heap[b]? = some (.cells qz 23 (0, 0))) (x0 x1 x2 x3 x4 x5 x6 : Value) : (((((((w.setCell ⟨b, 0, none⟩ x0).setCell ⟨b, 1, none⟩ x1).setCell ⟨b, 2, none⟩ x2).setCell ⟨b, 3, none⟩ x3).setCell ⟨b, 4, none⟩ x4).setCell ⟨b, 5, none⟩ x5).setCell ⟨b, 6, none⟩ x6).heap[b]? = some (.cells #[x0, x1, x2, x3, x4, x5, x6] 23 (0, 0)) :=
  setC_heap (setC_heap (setC_heap (setC_heap (setC_heap (setC_heap (setC_heap h 0 x0) 1 x1) 2 x2) 3 x3) 4 x4) 5 x5) 6 x6
theorem set7_below {B : Nat} {w0 w : World} (h : Below B w0 w) {b : Nat} (hb : B ≤ b) (x0 x1 x2 x3 x4 x5 x6 : Value) : Below B w0 (((((((w.setCell ⟨b, 0, none⟩ x0).setCell ⟨b, 1, none⟩ x1).setCell ⟨b, 2, none⟩ x2).setCell ⟨b, 3, none⟩ x3).setCell ⟨b, 4, none⟩ x4).setCell ⟨b, 5, none⟩ x5).setCell ⟨b, 6, none⟩ x6) :=
  below_setCell (below_setCell (below_setCell (below_setCell (below_setCell (below_setCell (below_setCell h hb x0) hb x1) hb x2) hb x3) hb x4) hb x5) hb x6
/-- How read ends. -/
def ReadOut (a : Addr) (W : World) (r : Option MQ) (e : Ending) (w' : World) : Prop :=
  match r with
  | some q => e = .returned (.tuple #[qV q, .nilIface]) ∧ Below W.heap.size W w'
  | none => e = .returned (.tuple #[qV MQ.zero, errV a]) ∧ Below W.heap.size W w'
theorem ReadOut.ok {a : Addr} {W : World} {r : Option MQ} {q : MQ} {e : Ending} {w' : World} (hr : Hid (r = some q)) (h1 : e = .returned (.tuple #[qV q, .nilIface])) (h2 : Below W.heap.size W w') : ReadOut a W r e w' := by
  rw [hr.out]; exact ⟨h1, h2⟩
theorem ReadOut.no {a : Addr} {W : World} {r : Option MQ} {e : Ending} {w' : World} (hr : Hid (r = none)) (h1 : e = .returned (.tuple #[qV MQ.zero, errV a])) (h2 : Below W.heap.size W w') : ReadOut a W r e w' := by
  rw [hr.out]; exact ⟨h1, h2⟩
/-- The two results of read, out of their cells. -/
theorem results_q (w : World) (R F : Nat) (cells : Array Value) (x : Value) (tmps : Array Value) (hx : x = .nilIface ∨ ∃ t v, x = .iface t v) (hR : w.heap[R]? = some (.cells cells 23 (0, 0))) (hs : cells.size = 7) (hF : w.cell? ⟨F, 0, none⟩ = some x)
    (h2 : tmps.getD 2 undef = .pointer (some ⟨R, 0, none⟩)) (h3 : tmps.getD 3 undef = .pointer (some ⟨F, 0, none⟩)) : (results Tryd.f29 tmps).run Tryd.prog w = .ok (.tuple #[.agg cells, x]) w := by
  have h2' : tmps[2]?.getD undef = .pointer (some ⟨R, 0, none⟩) := by simpa using h2
  have h3' : tmps[3]?.getD undef = .pointer (some ⟨F, 0, none⟩) := by simpa using h3
  have hl := run_loadVar_row (P := Tryd.prog) w R 23 23 cells (0, 0) _ hR Tryd.underlying23 rfl (by rw [hs]; kernel_rfl)
  have hl2 : (loadVar 48 ⟨F, 0, none⟩).run Tryd.prog w = .ok x w := by
    rcases hx with rfl | ⟨t, v, rfl⟩ <;> simp [go_sem, Tryd.isAgg48, hF]
  simp [results, Tryd.results29, h2', h3', asAddr, hl, hl2]

set_option maxRecDepth 100000 in
set_option maxHeartbeats 8000000 in
theorem read_any (a : Addr) (s : ByteArray) (W : World) (hL : Lw a W) (hs : s.size ≤ 1000) :
    Calls Tryd.prog 29 #[.string s] W (ReadOut a W (readR (spl s.data.toList))) := by
  have HL := Lib.hid (hL.below (rB_below W))
  have HN0 := Lib.hid (rW_next W s hs)
  have HLn := Lib.hid (tail_len (rW_next W s hs).ln).2
  clear hL
  go_enter_defers Tryd.func29, Tryd.ntmps29
  go_upto_region 4 with fail
  obtain ⟨w0, Hw0⟩ : ∃ w0, Hid (rW W s = w0) := ⟨_, Lib.hid rfl⟩
  rw [show ((((W.alloc (.cells qz 23)).alloc (.cells #[.nilIface] 48)).alloc (.cells #[.string s] 9)).alloc (.cells #[.bool true] 4)).alloc (.cells #[.func (.func 40) #[] #[.pointer (some ⟨W.heap.size + 1 + 1, 0, none⟩), .pointer (some ⟨W.heap.size + 1 + 1 + 1, 0, none⟩)]] 61) = w0 from Hw0.out]
  rw [Hw0.out] at HN0
  obtain ⟨ws, Hws⟩ : ∃ ws, Hid (spl s.data.toList = ws) := ⟨_, Lib.hid rfl⟩
  rw [Hws.out] at HN0 HLn
  go_cut [7] from 7 to 15 (fun v7 wy => Hid (ReadSt W ws v7 wy))
  case first =>
    have HL0 : Hid (∀ w, Below w0.heap.size w0 w → Lw a w) := Lib.hid (fun w hb => HL.out.below (bt HN0.out.b hb))
    have hnb : W.heap.size + 1 + 1 + 1 + 1 < w0.heap.size := World.block_lt_of_cell? w0 _ HN0.out.nx
    have hnn : ¬ W.heap.size + 1 + 1 + 1 + 1 = w0.heap.size := by omega
    have hr0 : W.heap.size + 1 + 1 < w0.heap.size := by omega
    have hm0' : W.heap.size + 1 + 1 + 1 < w0.heap.size := by omega
    have c0 := HN0.out.nx
    have HA : Hid (Below w0.heap.size w0 w0.drew) := Lib.hid (Below.refl _ _).drew
    have HA2 : Hid (Below w0.heap.size w0 (w0.alloc (.cells qz 23)).drew) := Lib.hid (ba _ _).drew
    have HLB := Lib.hid HL.out
    refine wp_region_noPanic ?_
    go_region_with ((first
      | (refine (kinds_any a _ (HL0.out _ (by first | exact HA.out | exact HA2.out))).mono ?_; rintro e w1 ⟨rfl, hm1, hb1⟩; have HM1 := (by first | exact map_at1 hm1 | exact map_at0 hm1); have HB1 : Hid (Below w0.heap.size w0 w1) := (Lib.hid (by first | exact bt HA.out hb1 | exact bt HA2.out hb1)); have HN1 := Lib.hid (HN0.out.below HB1.out); have c1 := HN1.out.nx; have hz1 : W.heap.size + 1 + 1 + 1 + 1 < w1.heap.size := (World.block_lt_of_cell? w1 _ c1); have hz2 : ¬ W.heap.size + 1 + 1 + 1 + 1 = w1.heap.size := (by omega); have hr1 : W.heap.size + 1 + 1 < w1.heap.size := (by omega); have hm1' : W.heap.size + 1 + 1 + 1 < w1.heap.size := (by omega); (first | have HQ1 : Hid (w1.heap[w0.heap.size]? = some (.cells qz 23 (0, 0))) := (Lib.hid ((hb1.block w0.heap.size (by simp)).trans (heap_alloc_new w0 _))) | skip); clear hm1 hb1)
      | (refine (next2_any HL.out (by first | exact HN1.out | exact HN1.out.below (ba _ _))).mono ?_; rintro e w2 ⟨rfl, hn2, hs2, hk2⟩; have HN2 := Lib.hid hn2; have HMp : Hid (w2.ownsMap Tryd.prog 9 (plainElem (H := Unit) Tryd.prog 3) _ 8 (KD 8)) := (Lib.hid (ownsMap_heap (by first | exact HM1.out | exact HM1.out.alloc _) (hk2 _ (by have := HM1.out.lt; have := HB1.out.size; simp at *; omega) (by have := HM1.out.lt; simp at *; omega) (by have := HM1.out.lt; simp at *; omega)))); have hr2 := kind_look HMp.out (hdw ws) HLn.out; have hr3 := kind_look (HMp.out.alloc (.cells qz 23)) (hdw ws) HLn.out; have yy := (by first | exact zeros_between hk2 hr1 hm1' | exact zeros_first hk2 HQ1.out hr0 hm0' | exact trivial); (try (obtain ⟨⟨y0, y1, y2, y3, y4, y5, y6⟩, yf⟩ := yy)); clear hk2)))
    all_goals refine NoPanic.normal ?_
    all_goals go_wp2_with fail
    all_goals go_meet
    all_goals first
      | with_reducible exact readSt_new HN2.out
      | with_reducible exact readSt_set HN2.out (zs_mk y0 y1 y2 y3 y4 y5 y6 yf) hz1
      | with_reducible exact readSt_set HN2.out (zs_mk y0 y1 y2 y3 y4 y5 y6 yf) hnb
  case rest =>
    obtain ⟨qb, rfl, hi⟩ := hcut.out
    rename World => wy
    have HI := Lib.hid hi
    have HC := Lib.hid (spellR_any (readClo HL.out) wy _ hi)
    clear hi hcut
    have HR := Lib.hid (readR_eq ws)
    cases hsp : spellM rw_ rn ⟨ws.tail, ⟨kindOf (hdw ws), 0, 0, 0, 0, 0, 0⟩⟩ with
    | none =>
      rw [hsp] at HC HR
      have HRn : Hid (readR (spl s.data.toList) = none) := Lib.hid (by rw [Hws.out, HR.out]; rfl)
      clear hsp HR
      go_wp2_with fail
      (with_reducible refine HC.out.mono ?_)
      rintro e w2 ⟨rfl, hb2⟩
      have HB2 := Lib.hid hb2
      clear hb2
      go_wp2_with fail
      obtain ⟨hr, hf, hff⟩ := rB_res HB2.out
      refine leaves_cons (f := 39) (args := #[.pointer (some ⟨W.heap.size + 1, 0, none⟩)]) (by simp) (by simp [go_sem]) ?_
      refine (rescue_pan (W.heap.size + 1) a .nilIface [] _ hf hff).mono ?_
      rintro e u' w'' ⟨rfl, rfl, rfl⟩
      exact ⟨_, results_q _ W.heap.size (W.heap.size + 1) qz (errV a) _ (.inr ⟨_, _, rfl⟩) ((Below.heap_setCell _ _ _ _ (by simp)).trans hr) rfl (World.cell?_setCell_same _ _ _ hf) rfl rfl, ReadOut.no HRn rfl (below_setCell (((rB_below W).trans (HB2.out.mono (rB_below W).size))) (by simp) _)⟩
    | some s' =>
      rw [hsp] at HC HR
      by_cases he : s'.ws = []
      · have HRn : Hid (readR (spl s.data.toList) = some s'.q) := Lib.hid (by rw [Hws.out, HR.out]; simp [he])
        clear hsp HR
        go_wp2_with fail
        (with_reducible refine HC.out.mono ?_)
        rintro e w2 ⟨rfl, hi2⟩
        have HI2 := Lib.hid hi2
        have d1 := hi2.c1
        rw [he] at d1
        clear hi2 he
        go_wp2_with fail
        (with_reducible refine (expect_t _).mono ?_)
        rintro e w3 ⟨rfl, rfl⟩
        have HB2 := Lib.hid HI2.out.b
        obtain ⟨x0, x1, x2, x3, x4, x5, x6⟩ := HI2.out.q
        obtain ⟨hr, hf, hff⟩ := rB_res HB2.out
        have HRb := Lib.hid hr
        have HF := Lib.hid hf
        obtain ⟨⟨y0, y1, y2, y3, y4, y5, y6⟩, yf⟩ := zeros_of hr
        clear hr
        go_wp2_with fail
        refine leaves_cons (f := 39) (args := #[.pointer (some ⟨W.heap.size + 1, 0, none⟩)]) (by simp) (by simp [go_sem]) ?_
        refine (rescue_idle (W.heap.size + 1) _).mono ?_
        rintro e u' w'' ⟨rfl, rfl, rfl⟩
        refine ⟨_, results_q _ W.heap.size (W.heap.size + 1) _ .nilIface _ (.inl rfl) ((Below.heap_setCell _ _ _ _ (by simp)).trans (set7_heap HRb.out _ _ _ _ _ _ _)) rfl (World.cell?_setCell_same _ _ _ (u := .nilIface) (by simp [World.cell?_setCell_other, HF.out])) rfl rfl, ReadOut.ok HRn rfl (below_setCell (set7_below (((rB_below W).trans (HB2.out.mono (rB_below W).size))) (Nat.le_refl _) _ _ _ _ _ _ _) (by simp) _)⟩
      · have HRn : Hid (readR (spl s.data.toList) = none) := Lib.hid (by rw [Hws.out, HR.out]; simp [he])
        clear hsp HR
        go_wp2_with fail
        (with_reducible refine HC.out.mono ?_)
        rintro e w2 ⟨rfl, hi2⟩
        have HI2 := Lib.hid hi2
        have d1 := hi2.c1
        have hem : s'.ws.isEmpty = false := by
          cases h : s'.ws with
          | nil => exact absurd h he
          | cons v vs => rfl
        rw [hem] at d1
        clear hi2 he hem
        go_wp2_with fail
        (with_reducible refine (expect_f a _ (HL.out.below HI2.out.b).er).mono ?_)
        rintro e w3 ⟨rfl, rfl⟩
        have HB2 := Lib.hid HI2.out.b
        go_wp2_with fail
        obtain ⟨hr, hf, hff⟩ := rB_res HB2.out
        refine leaves_cons (f := 39) (args := #[.pointer (some ⟨W.heap.size + 1, 0, none⟩)]) (by simp) (by simp [go_sem]) ?_
        refine (rescue_pan (W.heap.size + 1) a .nilIface [] _ hf hff).mono ?_
        rintro e u' w'' ⟨rfl, rfl, rfl⟩
        exact ⟨_, results_q _ W.heap.size (W.heap.size + 1) qz (errV a) _ (.inr ⟨_, _, rfl⟩) ((Below.heap_setCell _ _ _ _ (by simp)).trans hr) rfl (World.cell?_setCell_same _ _ _ hf) rfl rfl, ReadOut.no HRn rfl (below_setCell (((rB_below W).trans (HB2.out.mono (rB_below W).size))) (by simp) _)⟩
end Go.Proofs.YtmjcjgmmolmibaaDoor
