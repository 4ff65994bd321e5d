/- EQUALITY of arrays of three ints, rows and changes, as the walk asks it. -/
import Derived.Test.YtaapggeaoacikaaP0
import Derived.Test.YtaapggeaoacikaaProg
import Derived.WalkKit
import Derived.Below
import Derived.Lib.Hide
import Derived.Laws.StructEq
import Derived.Lib.QuietBelow
set_option linter.unusedVariables false
set_option linter.unusedSimpArgs false
namespace Go.Proofs.Ytaapggeaoacikaa
open Go.RowKit Go.Sort
theorem bt {A B C : World} (h : Below A.heap.size A B) (k : Below B.heap.size B C) : Below A.heap.size A C := h.trans (k.mono h.size)
theorem ba (w : World) (o : Obj) : Below w.heap.size w (w.alloc o) := (Below.refl _ _).alloc (Nat.le_refl _) _

/-- Go's == on arrays of three, rows, changes. -/
def v3e (u v : V3) : Bool := decide (u = v)
def rowE (u v : MRow) : Bool := decide (u = v)
def chE (u v : MCh) : Bool := decide (u = v)

set_option maxRecDepth 100000 in
theorem equal3 (d : Nat) (a b c a' b' c' : Int) (w : World) :
    (Op.equalIn (d + 2) 48 (.agg #[.int .i64 a, .int .i64 b, .int .i64 c]) (.agg #[.int .i64 a', .int .i64 b', .int .i64 c'])).run Try.prog w = .ok (decide ((⟨a, b, c⟩ : V3) = ⟨a', b', c'⟩)) w := by
  have hi := Try.sizeOf3
  have hg := Try.isAgg3
  have p : ∀ (cs : Array Value) (j : Nat) (v : Value) (w : World), cs[j]? = some v → (part 3 cs j).run Try.prog w = .ok v w := by
    intro cs j v w h
    simp [part, Sem.run_bind, hg, h]
  have e : ∀ (x y : Int) (w : World), (Op.equalIn (d + 1) 3 (.int .i64 x) (.int .i64 y)).run Try.prog w = .ok (x == y) w := fun x y w => run_equalIn_int w d 3 .i64 .i64 x y Try.underlying3
  have p0 := fun (x y z : Int) w => p #[.int .i64 x, .int .i64 y, .int .i64 z] 0 _ w rfl
  have p1 := fun (x y z : Int) w => p #[.int .i64 x, .int .i64 y, .int .i64 z] 1 _ w rfl
  have p2 := fun (x y z : Int) w => p #[.int .i64 x, .int .i64 y, .int .i64 z] 2 _ w rfl
  clear p
  rw [Op.equalIn]
  simp only [Sem.run_bind, run_underlying Try.underlying48, Result.andThen_ok]
  by_cases h1 : a = a' <;> by_cases h2 : b = b' <;> by_cases h3 : c = c' <;>
    simp [Sem.run_bind, hi, List.range', p0, p1, p2, e, h1, h2, h3]

theorem bcell {W w1 : World} (hb : Below W.heap.size W w1) : (∀ b o, b < W.heap.size → w1.cell? ⟨b, o, none⟩ = W.cell? ⟨b, o, none⟩) ∧ (∀ b o, b < W.heap.size → w1.frozen? ⟨b, o, none⟩ = W.frozen? ⟨b, o, none⟩) :=
  ⟨fun b o h => hb.cell (p := ⟨b, o, none⟩) h, fun b o h => hb.frozen (p := ⟨b, o, none⟩) h⟩

theorem eql3 (a b c a' b' c' : Int) (w : World) : (Go.binOp .eql 48 (.agg #[.int .i64 a, .int .i64 b, .int .i64 c]) (.agg #[.int .i64 a', .int .i64 b', .int .i64 c'])).run Try.prog w = .ok (.bool (v3e ⟨a, b, c⟩ ⟨a', b', c'⟩)) w := by
  rw [run_eql_struct, equal3]; rfl

theorem part1 (t : TypeId) (ht : ∀ w, (isAgg t).run Try.prog w = .ok false w) (cs : Array Value) (j : Nat) (v : Value) (w : World) (h : cs[j]? = some v) : (part t cs j).run Try.prog w = .ok v w := by
  simp [part, Sem.run_bind, ht, h]
theorem part3 (cs : Array Value) (j : Nat) (v : Value) (w : World) (h : Value.agg (cs.extract j (j + 3)) = v) : (part 48 cs j).run Try.prog w = .ok v w := by
  simp [part, Sem.run_bind, Try.isAgg48, Try.sizeOf48, h]

theorem fields50 : (Try.prog.fieldsOf 50).toList.map (fun f => (f.name, f.type, f.offset)) = [("Table", 3, 0), ("Key", 3, 1), ("V", 48, 2)] := by kernel_rfl
theorem fields57 : (Try.prog.fieldsOf 57).toList.map (fun f => (f.name, f.type, f.offset)) = [("Table", 3, 0), ("Key", 3, 1), ("Had", 4, 2), ("Old", 48, 3), ("Has", 4, 6), ("New", 48, 7)] := by kernel_rfl

/-- eqFields over the fields' names, types and places alone. -/
def eqParts (d : Nat) (xs ys : Array Value) : List (String × TypeId × Nat) → Sem Bool
  | [] => pure true
  | f :: fs =>
    if f.1 ≠ "_" then do
      let a ← part f.2.1 xs f.2.2
      let b ← part f.2.1 ys f.2.2
      let r ← Op.equalIn d f.2.1 a b
      if (!r) = true then pure false else eqParts d xs ys fs
    else eqParts d xs ys fs
theorem eqFields_parts (d : Nat) (xs ys : Array Value) : ∀ fs : List Field, Op.eqFields d xs ys fs = eqParts d xs ys (fs.map fun f => (f.name, f.type, f.offset))
  | [] => rfl
  | f :: fs => by
    simp only [Op.eqFields, eqParts, List.map_cons]
    rw [eqFields_parts d xs ys fs]

theorem run_eqPart {d : Nat} {xs ys : Array Value} {n : String} {t : TypeId} {o : Nat} {fs : List (String × TypeId × Nat)} {x y : Value} {r r2 : Bool} {w : World} (hn : n ≠ "_") (hx : ∀ w, (part t xs o).run Try.prog w = .ok x w) (hy : ∀ w, (part t ys o).run Try.prog w = .ok y w)
    (he : ∀ w, (Op.equalIn d t x y).run Try.prog w = .ok r w) (hr : (eqParts d xs ys fs).run Try.prog w = .ok r2 w) : (eqParts d xs ys ((n, t, o) :: fs)).run Try.prog w = .ok (r && r2) w := by
  simp only [eqParts]
  rw [if_pos hn]
  simp only [Sem.run_bind, hx, Result.andThen_ok, hy, he]
  cases r
  · simp
  · simpa using hr

theorem und50 : Try.prog.underlying 50 = some (.struct (Try.prog.fieldsOf 50)) := by kernel_rfl
theorem und57 : Try.prog.underlying 57 = some (.struct (Try.prog.fieldsOf 57)) := by kernel_rfl
theorem stood50 : Try.prog.stoodInHeld 50 = false := by kernel_rfl
theorem stood57 : Try.prog.stoodInHeld 57 = false := by kernel_rfl

set_option maxRecDepth 100000 in
theorem equalRow (d : Nat) (t k a b c t' k' a' b' c' : Int) (w : World) :
    (Op.equalIn (d + 3) 50 (.agg #[.int .i64 t, .int .i64 k, .int .i64 a, .int .i64 b, .int .i64 c]) (.agg #[.int .i64 t', .int .i64 k', .int .i64 a', .int .i64 b', .int .i64 c'])).run Try.prog w = .ok (decide ((⟨t, k, ⟨a, b, c⟩⟩ : MRow) = ⟨t', k', ⟨a', b', c'⟩⟩)) w := by
  rw [run_equalIn_struct w (d + 2) 50 _ _ und50 stood50, eqFields_parts, fields50]
  have e : ∀ (x y : Int) (w : World), (Op.equalIn (d + 2) 3 (.int .i64 x) (.int .i64 y)).run Try.prog w = .ok (x == y) w := fun x y w => run_equalIn_int w (d + 1) 3 .i64 .i64 x y Try.underlying3
  have h : (eqParts (d + 2) #[.int .i64 t, .int .i64 k, .int .i64 a, .int .i64 b, .int .i64 c] #[.int .i64 t', .int .i64 k', .int .i64 a', .int .i64 b', .int .i64 c'] [("Table", 3, 0), ("Key", 3, 1), ("V", 48, 2)]).run Try.prog w = .ok ((t == t') && ((k == k') && (decide ((⟨a, b, c⟩ : V3) = ⟨a', b', c'⟩) && true))) w := by
    refine run_eqPart (by decide) (fun w => part1 3 Try.isAgg3 _ 0 _ w rfl) (fun w => part1 3 Try.isAgg3 _ 0 _ w rfl) (fun w => e _ _ w) ?_
    refine run_eqPart (by decide) (fun w => part1 3 Try.isAgg3 _ 1 _ w rfl) (fun w => part1 3 Try.isAgg3 _ 1 _ w rfl) (fun w => e _ _ w) ?_
    exact run_eqPart (by decide) (fun w => part3 _ 2 _ w rfl) (fun w => part3 _ 2 _ w rfl) (fun w => equal3 d a b c a' b' c' w) rfl
  rw [h]
  congr 1
  by_cases h1 : t = t' <;> by_cases h2 : k = k' <;> simp [h1, h2]
set_option maxRecDepth 100000 in
theorem equalCh (d : Nat) (c c' : MCh) (w : World) :
    (Op.equalIn (d + 3) 57 (.agg #[.int .i64 c.t, .int .i64 c.k, .bool c.had, .int .i64 c.o.a, .int .i64 c.o.b, .int .i64 c.o.c, .bool c.has, .int .i64 c.n.a, .int .i64 c.n.b, .int .i64 c.n.c]) (.agg #[.int .i64 c'.t, .int .i64 c'.k, .bool c'.had, .int .i64 c'.o.a, .int .i64 c'.o.b, .int .i64 c'.o.c, .bool c'.has, .int .i64 c'.n.a, .int .i64 c'.n.b, .int .i64 c'.n.c])).run Try.prog w = .ok (decide (c = c')) w := by
  obtain ⟨t, k, had, ⟨oa, ob, oc⟩, has, ⟨na, nb, nc⟩⟩ := c
  obtain ⟨t', k', had', ⟨oa', ob', oc'⟩, has', ⟨na', nb', nc'⟩⟩ := c'
  rw [run_equalIn_struct w (d + 2) 57 _ _ und57 stood57, eqFields_parts, fields57]
  have e : ∀ (x y : Int) (w : World), (Op.equalIn (d + 2) 3 (.int .i64 x) (.int .i64 y)).run Try.prog w = .ok (x == y) w := fun x y w => run_equalIn_int w (d + 1) 3 .i64 .i64 x y Try.underlying3
  have f : ∀ (x y : Bool) (w : World), (Op.equalIn (d + 2) 4 (.bool x) (.bool y)).run Try.prog w = .ok (x == y) w := fun x y w => run_equalIn_bool' w (d + 1) 4 x y Try.underlying4
  have h : (eqParts (d + 2) #[.int .i64 t, .int .i64 k, .bool had, .int .i64 oa, .int .i64 ob, .int .i64 oc, .bool has, .int .i64 na, .int .i64 nb, .int .i64 nc] #[.int .i64 t', .int .i64 k', .bool had', .int .i64 oa', .int .i64 ob', .int .i64 oc', .bool has', .int .i64 na', .int .i64 nb', .int .i64 nc'] [("Table", 3, 0), ("Key", 3, 1), ("Had", 4, 2), ("Old", 48, 3), ("Has", 4, 6), ("New", 48, 7)]).run Try.prog w = .ok ((t == t') && ((k == k') && ((had == had') && (decide ((⟨oa, ob, oc⟩ : V3) = ⟨oa', ob', oc'⟩) && ((has == has') && (decide ((⟨na, nb, nc⟩ : V3) = ⟨na', nb', nc'⟩) && true)))))) w := by
    refine run_eqPart (by decide) (fun w => part1 3 Try.isAgg3 _ 0 _ w rfl) (fun w => part1 3 Try.isAgg3 _ 0 _ w rfl) (fun w => e _ _ w) ?_
    refine run_eqPart (by decide) (fun w => part1 3 Try.isAgg3 _ 1 _ w rfl) (fun w => part1 3 Try.isAgg3 _ 1 _ w rfl) (fun w => e _ _ w) ?_
    refine run_eqPart (by decide) (fun w => part1 4 Try.isAgg4 _ 2 _ w rfl) (fun w => part1 4 Try.isAgg4 _ 2 _ w rfl) (fun w => f _ _ w) ?_
    refine run_eqPart (by decide) (fun w => part3 _ 3 _ w rfl) (fun w => part3 _ 3 _ w rfl) (fun w => equal3 d oa ob oc oa' ob' oc' w) ?_
    refine run_eqPart (by decide) (fun w => part1 4 Try.isAgg4 _ 6 _ w rfl) (fun w => part1 4 Try.isAgg4 _ 6 _ w rfl) (fun w => f _ _ w) ?_
    exact run_eqPart (by decide) (fun w => part3 _ 7 _ w rfl) (fun w => part3 _ 7 _ w rfl) (fun w => equal3 d na nb nc na' nb' nc' w) rfl
  rw [h]
  congr 1
  by_cases h1 : t = t' <;> by_cases h2 : k = k' <;> by_cases h3 : had = had' <;> by_cases h5 : has = has' <;> simp_all

theorem eqlRow (t k a b c t' k' a' b' c' : Int) (w : World) : (Go.binOp .eql 50 (.agg #[.int .i64 t, .int .i64 k, .int .i64 a, .int .i64 b, .int .i64 c]) (.agg #[.int .i64 t', .int .i64 k', .int .i64 a', .int .i64 b', .int .i64 c'])).run Try.prog w = .ok (.bool (rowE ⟨t, k, ⟨a, b, c⟩⟩ ⟨t', k', ⟨a', b', c'⟩⟩)) w := by
  rw [run_eql_struct, equalRow]; rfl
theorem neqRow (t k a b c t' k' a' b' c' : Int) (w : World) : (Go.binOp .neq 50 (.agg #[.int .i64 t, .int .i64 k, .int .i64 a, .int .i64 b, .int .i64 c]) (.agg #[.int .i64 t', .int .i64 k', .int .i64 a', .int .i64 b', .int .i64 c'])).run Try.prog w = .ok (.bool (!rowE ⟨t, k, ⟨a, b, c⟩⟩ ⟨t', k', ⟨a', b', c'⟩⟩)) w := by
  rw [run_neq_struct, equalRow]; rfl
theorem neqCh (c c' : MCh) (w : World) : (Go.binOp .neq 57 (.agg #[.int .i64 c.t, .int .i64 c.k, .bool c.had, .int .i64 c.o.a, .int .i64 c.o.b, .int .i64 c.o.c, .bool c.has, .int .i64 c.n.a, .int .i64 c.n.b, .int .i64 c.n.c]) (.agg #[.int .i64 c'.t, .int .i64 c'.k, .bool c'.had, .int .i64 c'.o.a, .int .i64 c'.o.b, .int .i64 c'.o.c, .bool c'.has, .int .i64 c'.n.a, .int .i64 c'.n.b, .int .i64 c'.n.c])).run Try.prog w = .ok (.bool (!chE c c')) w := by
  rw [run_neq_struct, equalCh]; rfl
end Go.Proofs.Ytaapggeaoacikaa
