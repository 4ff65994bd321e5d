/- QUERIES AS VALUES: their equality, as the walk asks it. -/
import Derived.Test.YtmjcjgmmolmibaaDoorP
import Derived.Test.YtmjcjgmmolmibaaDoorProg
import Derived.WalkKit
import Derived.Below
import Derived.Lib.Hide
import Derived.Laws.StructEq
set_option linter.unusedVariables false
set_option linter.unusedSimpArgs false
namespace Go.Proofs.YtmjcjgmmolmibaaDoor
open Go.RowKit

theorem bt {A B C : World} (h : Below A.heap.size A B) (k : Below B.heap.size B C) : Below A.heap.size A C := h.trans (k.mono h.size)
theorem ba (w : World) (o : Obj) : Below w.heap.size w (w.alloc o) := (Below.refl _ _).alloc (Nat.le_refl _) _
abbrev qV (q : MQ) : Value := .agg #[.int .i64 q.kind, .int .i64 q.table, .int .i64 q.column, .int .i64 q.low, .int .i64 q.high, .int .i64 q.by_, .int .i64 q.other]
/-- Go's == on queries. -/
def qE (u v : MQ) : Bool := decide (u = v)
theorem part1 (t : TypeId) (ht : ∀ w, (isAgg t).run Tryd.prog w = .ok false w) (cs : Array Value) (j : Nat) (v : Value) (w : World) (h : cs[j]? = some v) : (part t cs j).run Tryd.prog w = .ok v w := by
  simp [part, Sem.run_bind, ht, h]
theorem fields23 : (Tryd.prog.fieldsOf 23).toList.map (fun f => (f.name, f.type, f.offset)) = [("Kind", 3, 0), ("Table", 3, 1), ("Column", 3, 2), ("Low", 3, 3), ("High", 3, 4), ("By", 3, 5), ("Other", 3, 6)] := by kernel_rfl
/-- eqFields over the fields' names, types and places alone. -/
def eqParts (d : Nat) (xs ys : Array Value) : List (String × TypeId × Nat) → Sem Bool
  | [] => pure true
  | f :: fs =>
    if f.1 ≠ "_" then do
      let a ← part f.2.1 xs f.2.2
      let b ← part f.2.1 ys f.2.2
      let r ← Op.equalIn d f.2.1 a b
      if (!r) = true then pure false else eqParts d xs ys fs
    else eqParts d xs ys fs
theorem eqFields_parts (d : Nat) (xs ys : Array Value) : ∀ fs : List Field, Op.eqFields d xs ys fs = eqParts d xs ys (fs.map fun f => (f.name, f.type, f.offset))
  | [] => rfl
  | f :: fs => by
    simp only [Op.eqFields, eqParts, List.map_cons]
    rw [eqFields_parts d xs ys fs]
theorem run_eqPart {d : Nat} {xs ys : Array Value} {n : String} {t : TypeId} {o : Nat} {fs : List (String × TypeId × Nat)} {x y : Value} {r r2 : Bool} {w : World} (hn : n ≠ "_") (hx : ∀ w, (part t xs o).run Tryd.prog w = .ok x w) (hy : ∀ w, (part t ys o).run Tryd.prog w = .ok y w)
    (he : ∀ w, (Op.equalIn d t x y).run Tryd.prog w = .ok r w) (hr : (eqParts d xs ys fs).run Tryd.prog w = .ok r2 w) : (eqParts d xs ys ((n, t, o) :: fs)).run Tryd.prog w = .ok (r && r2) w := by
  simp only [eqParts]
  rw [if_pos hn]
  simp only [Sem.run_bind, hx, Result.andThen_ok, hy, he]
  cases r
  · simp
  · simpa using hr
theorem und23 : Tryd.prog.underlying 23 = some (.struct (Tryd.prog.fieldsOf 23)) := by kernel_rfl
theorem stood23 : Tryd.prog.stoodInHeld 23 = false := by kernel_rfl
set_option maxRecDepth 100000 in
theorem equalQ (d : Nat) (p q : MQ) (w : World) : (Op.equalIn (d + 3) 23 (qV p) (qV q)).run Tryd.prog w = .ok (qE p q) w := by
  rw [run_equalIn_struct w (d + 2) 23 _ _ und23 stood23, eqFields_parts, fields23]
  have e : ∀ (x y : Int) (w : World), (Op.equalIn (d + 2) 3 (.int .i64 x) (.int .i64 y)).run Tryd.prog w = .ok (x == y) w := fun x y w => run_equalIn_int w (d + 1) 3 .i64 .i64 x y Tryd.underlying3
  have h : (eqParts (d + 2) (#[.int .i64 p.kind, .int .i64 p.table, .int .i64 p.column, .int .i64 p.low, .int .i64 p.high, .int .i64 p.by_, .int .i64 p.other]) (#[.int .i64 q.kind, .int .i64 q.table, .int .i64 q.column, .int .i64 q.low, .int .i64 q.high, .int .i64 q.by_, .int .i64 q.other]) [("Kind", 3, 0), ("Table", 3, 1), ("Column", 3, 2), ("Low", 3, 3), ("High", 3, 4), ("By", 3, 5), ("Other", 3, 6)]).run Tryd.prog w = .ok ((p.kind == q.kind) && ((p.table == q.table) && ((p.column == q.column) && ((p.low == q.low) && ((p.high == q.high) && ((p.by_ == q.by_) && ((p.other == q.other) && true))))))) w := by
    refine run_eqPart (by decide) (fun w => part1 3 Tryd.isAgg3 _ 0 _ w rfl) (fun w => part1 3 Tryd.isAgg3 _ 0 _ w rfl) (fun w => e _ _ w) ?_
    refine run_eqPart (by decide) (fun w => part1 3 Tryd.isAgg3 _ 1 _ w rfl) (fun w => part1 3 Tryd.isAgg3 _ 1 _ w rfl) (fun w => e _ _ w) ?_
    refine run_eqPart (by decide) (fun w => part1 3 Tryd.isAgg3 _ 2 _ w rfl) (fun w => part1 3 Tryd.isAgg3 _ 2 _ w rfl) (fun w => e _ _ w) ?_
    refine run_eqPart (by decide) (fun w => part1 3 Tryd.isAgg3 _ 3 _ w rfl) (fun w => part1 3 Tryd.isAgg3 _ 3 _ w rfl) (fun w => e _ _ w) ?_
    refine run_eqPart (by decide) (fun w => part1 3 Tryd.isAgg3 _ 4 _ w rfl) (fun w => part1 3 Tryd.isAgg3 _ 4 _ w rfl) (fun w => e _ _ w) ?_
    refine run_eqPart (by decide) (fun w => part1 3 Tryd.isAgg3 _ 5 _ w rfl) (fun w => part1 3 Tryd.isAgg3 _ 5 _ w rfl) (fun w => e _ _ w) ?_
    exact run_eqPart (by decide) (fun w => part1 3 Tryd.isAgg3 _ 6 _ w rfl) (fun w => part1 3 Tryd.isAgg3 _ 6 _ w rfl) (fun w => e _ _ w) rfl
  rw [h]
  congr 1
  obtain ⟨a1, a2, a3, a4, a5, a6, a7⟩ := p
  obtain ⟨b1, b2, b3, b4, b5, b6, b7⟩ := q
  simp only [qE, MQ.mk.injEq, Bool.and_true]
  rw [Bool.eq_iff_iff]
  simp only [Bool.and_eq_true, beq_iff_eq, decide_eq_true_eq]
theorem eqlQ (p q : MQ) (w : World) : (Go.binOp .eql 23 (qV p) (qV q)).run Tryd.prog w = .ok (.bool (qE p q)) w := by
  rw [run_eql_struct, equalQ]; rfl

/-- A query in block b. -/
structure QAt (w : World) (b : Nat) (q : MQ) : Prop where
  c0 : w.cell? ⟨b, 0, none⟩ = some (.int .i64 q.kind)
  c1 : w.cell? ⟨b, 1, none⟩ = some (.int .i64 q.table)
  c2 : w.cell? ⟨b, 2, none⟩ = some (.int .i64 q.column)
  c3 : w.cell? ⟨b, 3, none⟩ = some (.int .i64 q.low)
  c4 : w.cell? ⟨b, 4, none⟩ = some (.int .i64 q.high)
  c5 : w.cell? ⟨b, 5, none⟩ = some (.int .i64 q.by_)
  c6 : w.cell? ⟨b, 6, none⟩ = some (.int .i64 q.other)
theorem QAt.below {w w' : World} {b : Nat} {q : MQ} (h : QAt w b q) (k : Below w.heap.size w w') : QAt w' b q := by
  have hlt := World.block_lt_of_cell? w _ h.c0
  exact ⟨(k.cell (p := ⟨b, 0, none⟩) hlt).trans h.c0, (k.cell (p := ⟨b, 1, none⟩) hlt).trans h.c1, (k.cell (p := ⟨b, 2, none⟩) hlt).trans h.c2, (k.cell (p := ⟨b, 3, none⟩) hlt).trans h.c3, (k.cell (p := ⟨b, 4, none⟩) hlt).trans h.c4, (k.cell (p := ⟨b, 5, none⟩) hlt).trans h.c5, (k.cell (p := ⟨b, 6, none⟩) hlt).trans h.c6⟩
theorem QAt.new (w : World) (q : MQ) : QAt (w.alloc (.cells #[.int .i64 q.kind, .int .i64 q.table, .int .i64 q.column, .int .i64 q.low, .int .i64 q.high, .int .i64 q.by_, .int .i64 q.other] 23)) w.heap.size q := by
  constructor <;> simp [go_sem]
end Go.Proofs.YtmjcjgmmolmibaaDoor
