/- WALKS: read: the next word ahead of the query's block. -/
import Derived.Test.YtmjcjgmmolmibaaDoorW8
import Derived.Test.YtmjcjgmmolmibaaDoorW4
set_option linter.unusedVariables false
set_option linter.unusedSimpArgs false
namespace Go.Proofs.YtmjcjgmmolmibaaDoor
open Go.RowKit Go.ChangeShapes Go.WideShapes Go.WideMaps Go.Maps Go.ChangeMaps

/-- The words that are left, and what hands them out. -/
structure RdN (B : World) (r m nb : Nat) (w : World) (ws : List (List UInt8)) : Prop where
  c0 : w.cell? ⟨r, 0, none⟩ = some (.string (restOf ws))
  c1 : w.cell? ⟨m, 0, none⟩ = some (.bool (!ws.isEmpty))
  f0 : w.frozen? ⟨r, 0, none⟩ = false
  f1 : w.frozen? ⟨m, 0, none⟩ = false
  nx : w.cell? ⟨nb, 0, none⟩ = some (.func (.func 40) #[] #[.pointer (some ⟨r, 0, none⟩), .pointer (some ⟨m, 0, none⟩)])
  cl : Clean ws
  ln : (Lib.join ws [32]).length ≤ 1000
  b : Below B.heap.size B w
  gr : B.heap.size ≤ r
  gm : B.heap.size ≤ m
theorem RdN.below {B : World} {r m nb : Nat} {w w' : World} {ws : List (List UInt8)} (h : RdN B r m nb w ws) (k : Below w.heap.size w w') : RdN B r m nb w' ws := by
  obtain ⟨c0, c1, f0, f1, nx, cl, ln, b, gr, gm⟩ := h
  have lr := World.block_lt_of_cell? w _ c0
  have lm := World.block_lt_of_cell? w _ c1
  have ln' := World.block_lt_of_cell? w _ nx
  exact ⟨(k.cell (p := ⟨r, 0, none⟩) lr).trans c0, (k.cell (p := ⟨m, 0, none⟩) lm).trans c1, (k.frozen (p := ⟨r, 0, none⟩) lr).trans f0, (k.frozen (p := ⟨m, 0, none⟩) lm).trans f1, (k.cell (p := ⟨nb, 0, none⟩) ln').trans nx, cl, ln, bt b k, gr, gm⟩
theorem RdN.take {B : World} {r m nb : Nat} {w : World} {ws : List (List UInt8)} (h : RdN B r m nb w ws) :
    RdN B r m nb ((w.setCell ⟨r, 0, none⟩ (.string (restOf ws.tail))).setCell ⟨m, 0, none⟩ (.bool (!ws.tail.isEmpty))) ws.tail := by
  obtain ⟨c0, c1, f0, f1, nx, cl, ln, b, gr, gm⟩ := h
  have n1 : r ≠ m := block_ne c0 c1 (by simp)
  have n2 : r ≠ nb := block_ne c0 nx (by simp)
  have n3 : m ≠ nb := block_ne c1 nx (by simp)
  refine ⟨?_, ?_, ?_, ?_, ?_, clean_tail cl, (tail_len ln).1, below_setCell (below_setCell b gr _) gm _, gr, gm⟩
  · exact (World.cell?_setCell_other _ _ _ _ (ne_addr (Ne.symm n1))).trans (World.cell?_setCell_same _ _ _ c0)
  · exact World.cell?_setCell_same _ _ _ ((World.cell?_setCell_other _ _ _ _ (ne_addr n1)).trans c1)
  · simp only [World.frozen?_setCell]; exact f0
  · simp only [World.frozen?_setCell]; exact f1
  · exact (World.cell?_setCell_other _ _ _ _ (ne_addr n3)).trans ((World.cell?_setCell_other _ _ _ _ (ne_addr n2)).trans nx)
theorem RdN.with {B : World} {r m nb qb : Nat} {w : World} {ws : List (List UInt8)} {q : MQ} (h : RdN B r m nb w ws) (hq : QAt w qb q) (hf : ∀ j, w.frozen? ⟨qb, j, none⟩ = false) (hg : B.heap.size ≤ qb) : RdI B r m nb qb w ⟨ws, q⟩ :=
  ⟨h.c0, h.c1, h.f0, h.f1, h.nx, hq, hf, h.cl, h.ln, h.b, h.gr, h.gm, hg⟩

set_option maxRecDepth 100000 in
set_option maxHeartbeats 1000000 in
theorem next2_any {a : Addr} {B : World} {r m nb : Nat} {w : World} {ws : List (List UInt8)} (hL : Lw a B) (h : RdN B r m nb w ws) :
    Calls Tryd.prog 40 #[.pointer (some ⟨r, 0, none⟩), .pointer (some ⟨m, 0, none⟩)] w fun e w' => e = .returned (.string (bstr (hdw ws))) ∧ RdN B r m nb w' ws.tail ∧ w.heap.size ≤ w'.heap.size ∧ ∀ k, k < w.heap.size → k ≠ r → k ≠ m → w'.heap[k]? = w.heap[k]? := by
  have HI := Lib.hid h
  have HC := Lib.hid (cut_words a ws w (hL.below h.b) h.cl h.ln)
  have c0 := h.c0
  clear h hL
  go_enter Tryd.func40, Tryd.ntmps40
  go_wp2_with fail
  (with_reducible refine HC.out.mono ?_)
  rintro e w1 ⟨rfl, hb1⟩
  have HI1 := Lib.hid (HI.out.below hb1)
  have HB1 := Lib.hid hb1
  have d0 := HI1.out.c0
  have d1 := HI1.out.c1
  have g0 := HI1.out.f0
  have g1 := HI1.out.f1
  have hne : ¬ r = m := block_ne d0 d1 (by simp)
  clear hb1 c0
  go_wp2_with fail
  go_ret
  refine ⟨rfl, HI1.out.take, ?_, fun k hk h1 h2 => ?_⟩
  · have := HB1.out.size
    simpa [World.setCell] using this
  · rw [Below.heap_setCell _ _ _ _ h2, Below.heap_setCell _ _ _ _ h1]
    exact HB1.out.block k hk
end Go.Proofs.YtmjcjgmmolmibaaDoor
