/- WALKS: what reads the words: next, and the two closures that spell is given. -/
import Derived.Test.YtmjcjgmmolmibaaDoorW1
set_option linter.unusedVariables false
set_option linter.unusedSimpArgs false
namespace Go.Proofs.YtmjcjgmmolmibaaDoor
open Go.RowKit

/-- What reading has come to: the words that are left, the query. -/
structure RdI (B : World) (r m nb qb : Nat) (w : World) (s : SpS) : Prop where
  c0 : w.cell? ⟨r, 0, none⟩ = some (.string (restOf s.ws))
  c1 : w.cell? ⟨m, 0, none⟩ = some (.bool (!s.ws.isEmpty))
  f0 : w.frozen? ⟨r, 0, none⟩ = false
  f1 : w.frozen? ⟨m, 0, none⟩ = false
  nx : w.cell? ⟨nb, 0, none⟩ = some (.func (.func 40) #[] #[.pointer (some ⟨r, 0, none⟩), .pointer (some ⟨m, 0, none⟩)])
  q : QAt w qb s.q
  fq : ∀ j, w.frozen? ⟨qb, j, none⟩ = false
  cl : Clean s.ws
  ln : (Lib.join s.ws [32]).length ≤ 1000
  b : Below B.heap.size B w
  gr : B.heap.size ≤ r
  gm : B.heap.size ≤ m
  gq : B.heap.size ≤ qb
theorem RdI.below {B : World} {r m nb qb : Nat} {w w' : World} {s : SpS} (h : RdI B r m nb qb w s) (k : Below w.heap.size w w') : RdI B r m nb qb w' s := by
  obtain ⟨c0, c1, f0, f1, nx, q, fq, cl, ln, b, gr, gm, gq⟩ := h
  have lr := World.block_lt_of_cell? w _ c0
  have lm := World.block_lt_of_cell? w _ c1
  have ln' := World.block_lt_of_cell? w _ nx
  have lq := World.block_lt_of_cell? w _ q.c0
  exact ⟨(k.cell (p := ⟨r, 0, none⟩) lr).trans c0, (k.cell (p := ⟨m, 0, none⟩) lm).trans c1, (k.frozen (p := ⟨r, 0, none⟩) lr).trans f0, (k.frozen (p := ⟨m, 0, none⟩) lm).trans f1, (k.cell (p := ⟨nb, 0, none⟩) ln').trans nx, q.below k, fun j => (k.frozen (p := ⟨qb, j, none⟩) lq).trans (fq j), cl, ln, bt b k, gr, gm, gq⟩
theorem below_setCell {B : Nat} {w0 w : World} (h : Below B w0 w) {a : Addr} (ha : B ≤ a.block) (v : Value) : Below B w0 (w.setCell a v) :=
  ⟨h.os, h.tape, h.output, by simpa [World.setCell] using h.size, fun k hk => (Below.heap_setCell w a v k (by omega)).trans (h.block k hk)⟩
theorem ne_addr {b c o p : Nat} (h : b ≠ c) : (⟨b, o, none⟩ : Addr) ≠ ⟨c, p, none⟩ := fun e => h (congrArg Addr.block e)
theorem block_ne {w : World} {b c o : Nat} {u v : Value} (h : w.cell? ⟨b, o, none⟩ = some u) (k : w.cell? ⟨c, o, none⟩ = some v) (hv : u ≠ v) : b ≠ c := by
  rintro rfl
  rw [h] at k
  exact hv (Option.some.inj k)
theorem QAt.setOther {w : World} {b c : Nat} {q : MQ} (h : QAt w b q) (hne : c ≠ b) (o : Nat) (v : Value) : QAt (w.setCell ⟨c, o, none⟩ v) b q := by
  obtain ⟨h0, h1, h2, h3, h4, h5, h6⟩ := h
  exact ⟨(World.cell?_setCell_other w _ _ v (ne_addr hne)).trans h0, (World.cell?_setCell_other w _ _ v (ne_addr hne)).trans h1, (World.cell?_setCell_other w _ _ v (ne_addr hne)).trans h2, (World.cell?_setCell_other w _ _ v (ne_addr hne)).trans h3, (World.cell?_setCell_other w _ _ v (ne_addr hne)).trans h4, (World.cell?_setCell_other w _ _ v (ne_addr hne)).trans h5, (World.cell?_setCell_other w _ _ v (ne_addr hne)).trans h6⟩
theorem clean_tail {ws : List (List UInt8)} (h : Clean ws) : Clean ws.tail := fun w hw => h w (List.mem_of_mem_tail hw)
theorem tail_len {ws : List (List UInt8)} (h : (Lib.join ws [32]).length ≤ 1000) : (Lib.join ws.tail [32]).length ≤ 1000 ∧ (hdw ws).length ≤ 1000 := by
  cases ws with
  | nil => exact ⟨h, by simp [hdw]⟩
  | cons v vs =>
    have := join_len v vs
    simp only [List.tail_cons, hdw, List.headD_cons]
    omega
/-- The next word is taken. -/
theorem RdI.take {B : World} {r m nb qb : Nat} {w : World} {s : SpS} (h : RdI B r m nb qb w s) :
    RdI B r m nb qb ((w.setCell ⟨r, 0, none⟩ (.string (restOf s.ws.tail))).setCell ⟨m, 0, none⟩ (.bool (!s.ws.tail.isEmpty))) { s with ws := s.ws.tail } := by
  obtain ⟨c0, c1, f0, f1, nx, q, fq, cl, ln, b, gr, gm, gq⟩ := h
  have n1 : r ≠ m := block_ne c0 c1 (by simp)
  have n2 : r ≠ nb := block_ne c0 nx (by simp)
  have n3 : m ≠ nb := block_ne c1 nx (by simp)
  have n4 : r ≠ qb := block_ne c0 q.c0 (by simp)
  have n5 : m ≠ qb := block_ne c1 q.c0 (by simp)
  refine ⟨?_, ?_, ?_, ?_, ?_, (q.setOther n4 _ _).setOther n5 _ _, fun j => by simp only [World.frozen?_setCell]; exact fq j, clean_tail cl, (tail_len ln).1, below_setCell (below_setCell b gr _) gm _, gr, gm, gq⟩
  · exact (World.cell?_setCell_other _ _ _ _ (ne_addr (Ne.symm n1))).trans (World.cell?_setCell_same _ _ _ c0)
  · exact World.cell?_setCell_same _ _ _ ((World.cell?_setCell_other _ _ _ _ (ne_addr n1)).trans c1)
  · simp only [World.frozen?_setCell]; exact f0
  · simp only [World.frozen?_setCell]; exact f1
  · exact (World.cell?_setCell_other _ _ _ _ (ne_addr n3)).trans ((World.cell?_setCell_other _ _ _ _ (ne_addr n2)).trans nx)

set_option maxRecDepth 100000 in
set_option maxHeartbeats 1000000 in
theorem next_any {a : Addr} {B : World} {r m nb qb : Nat} {w : World} {s : SpS} (hL : Lw a B) (h : RdI B r m nb qb w s) :
    Calls Tryd.prog 40 #[.pointer (some ⟨r, 0, none⟩), .pointer (some ⟨m, 0, none⟩)] w fun e w' => e = .returned (.string (bstr (hdw s.ws))) ∧ RdI B r m nb qb w' { s with ws := s.ws.tail } := by
  have HI := Lib.hid h
  have HC := Lib.hid (cut_words a s.ws w (hL.below h.b) h.cl h.ln)
  have c0 := h.c0
  clear h hL
  go_enter Tryd.func40, Tryd.ntmps40
  go_wp2_with fail
  (with_reducible refine HC.out.mono ?_)
  rintro e w1 ⟨rfl, hb1⟩
  have HI1 := Lib.hid (HI.out.below hb1)
  have d0 := HI1.out.c0
  have d1 := HI1.out.c1
  have g0 := HI1.out.f0
  have g1 := HI1.out.f1
  have hne : ¬ r = m := block_ne d0 d1 (by simp)
  clear hb1 c0
  go_wp2_with fail
  go_ret
  exact ⟨rfl, HI1.out.take⟩
end Go.Proofs.YtmjcjgmmolmibaaDoor
