/- MERGED: P0, E1, N2, N3, F1, H1, H2, S1, S2. -/
import Derived.Test.YtgbnjjgnihjfgaaGreatProg
import Derived.WalkKit
import Derived.Below
import Derived.Lib.Hide
import Derived.Laws.StructEq
import Derived.Lib.QuietBelow
import Derived.Deep.RegionHeld3
import Derived.Deep.RegionWith
import Derived.IntWalk
import Derived.BigQuiet
import Derived.Maps.RangeWalk
import Derived.DeepKeys4
section
namespace Go.Proofs.YtgbnjjgnihjfgaaGreat
structure V3 where
  a : Int
  b : Int
  c : Int
deriving DecidableEq
def V3.zero : V3 := ⟨0, 0, 0⟩
structure MRow where
  t : Int
  k : Int
  v : V3
deriving DecidableEq
structure MCh where
  t : Int
  k : Int
  had : Bool
  o : V3
  has : Bool
  n : V3
deriving DecidableEq
structure MRec where
  pos : Int
  chs : List MCh
deriving DecidableEq
end Go.Proofs.YtgbnjjgnihjfgaaGreat
end

section
set_option linter.unusedVariables false
set_option linter.unusedSimpArgs false
namespace Go.Proofs.YtgbnjjgnihjfgaaGreat
open Go.RowKit Go.Sort
theorem bt {A B C : World} (h : Below A.heap.size A B) (k : Below B.heap.size B C) : Below A.heap.size A C := h.trans (k.mono h.size)
theorem ba (w : World) (o : Obj) : Below w.heap.size w (w.alloc o) := (Below.refl _ _).alloc (Nat.le_refl _) _

/-- Go's == on arrays of three, rows, changes. -/
def v3e (u v : V3) : Bool := decide (u = v)
def rowE (u v : MRow) : Bool := decide (u = v)
set_option maxRecDepth 100000 in
theorem equal3 (d : Nat) (a b c a' b' c' : Int) (w : World) :
    (Op.equalIn (d + 2) 43 (.agg #[.int .i64 a, .int .i64 b, .int .i64 c]) (.agg #[.int .i64 a', .int .i64 b', .int .i64 c'])).run Tryz.prog w = .ok (decide ((⟨a, b, c⟩ : V3) = ⟨a', b', c'⟩)) w := by
  have hi := Tryz.sizeOf3
  have hg := Tryz.isAgg3
  have p : ∀ (cs : Array Value) (j : Nat) (v : Value) (w : World), cs[j]? = some v → (part 3 cs j).run Tryz.prog w = .ok v w := by
    intro cs j v w h
    simp [part, Sem.run_bind, hg, h]
  have e : ∀ (x y : Int) (w : World), (Op.equalIn (d + 1) 3 (.int .i64 x) (.int .i64 y)).run Tryz.prog w = .ok (x == y) w := fun x y w => run_equalIn_int w d 3 .i64 .i64 x y Tryz.underlying3
  have p0 := fun (x y z : Int) w => p #[.int .i64 x, .int .i64 y, .int .i64 z] 0 _ w rfl
  have p1 := fun (x y z : Int) w => p #[.int .i64 x, .int .i64 y, .int .i64 z] 1 _ w rfl
  have p2 := fun (x y z : Int) w => p #[.int .i64 x, .int .i64 y, .int .i64 z] 2 _ w rfl
  clear p
  rw [Op.equalIn]
  simp only [Sem.run_bind, run_underlying Tryz.underlying43, Result.andThen_ok]
  by_cases h1 : a = a' <;> by_cases h2 : b = b' <;> by_cases h3 : c = c' <;>
    simp [Sem.run_bind, hi, List.range', p0, p1, p2, e, h1, h2, h3]

theorem bcell {W w1 : World} (hb : Below W.heap.size W w1) : (∀ b o, b < W.heap.size → w1.cell? ⟨b, o, none⟩ = W.cell? ⟨b, o, none⟩) ∧ (∀ b o, b < W.heap.size → w1.frozen? ⟨b, o, none⟩ = W.frozen? ⟨b, o, none⟩) :=
  ⟨fun b o h => hb.cell (p := ⟨b, o, none⟩) h, fun b o h => hb.frozen (p := ⟨b, o, none⟩) h⟩

theorem eql3 (a b c a' b' c' : Int) (w : World) : (Go.binOp .eql 43 (.agg #[.int .i64 a, .int .i64 b, .int .i64 c]) (.agg #[.int .i64 a', .int .i64 b', .int .i64 c'])).run Tryz.prog w = .ok (.bool (v3e ⟨a, b, c⟩ ⟨a', b', c'⟩)) w := by
  rw [run_eql_struct, equal3]; rfl

theorem part1 (t : TypeId) (ht : ∀ w, (isAgg t).run Tryz.prog w = .ok false w) (cs : Array Value) (j : Nat) (v : Value) (w : World) (h : cs[j]? = some v) : (part t cs j).run Tryz.prog w = .ok v w := by
  simp [part, Sem.run_bind, ht, h]
theorem part3 (cs : Array Value) (j : Nat) (v : Value) (w : World) (h : Value.agg (cs.extract j (j + 3)) = v) : (part 43 cs j).run Tryz.prog w = .ok v w := by
  simp [part, Sem.run_bind, Tryz.isAgg43, Tryz.sizeOf43, h]

theorem fields50 : (Tryz.prog.fieldsOf 57).toList.map (fun f => (f.name, f.type, f.offset)) = [("Table", 3, 0), ("Key", 3, 1), ("V", 43, 2)] := by kernel_rfl
/-- eqFields over the fields' names, types and places alone. -/
def eqParts (d : Nat) (xs ys : Array Value) : List (String × TypeId × Nat) → Sem Bool
  | [] => pure true
  | f :: fs =>
    if f.1 ≠ "_" then do
      let a ← part f.2.1 xs f.2.2
      let b ← part f.2.1 ys f.2.2
      let r ← Op.equalIn d f.2.1 a b
      if (!r) = true then pure false else eqParts d xs ys fs
    else eqParts d xs ys fs
theorem eqFields_parts (d : Nat) (xs ys : Array Value) : ∀ fs : List Field, Op.eqFields d xs ys fs = eqParts d xs ys (fs.map fun f => (f.name, f.type, f.offset))
  | [] => rfl
  | f :: fs => by
    simp only [Op.eqFields, eqParts, List.map_cons]
    rw [eqFields_parts d xs ys fs]

theorem run_eqPart {d : Nat} {xs ys : Array Value} {n : String} {t : TypeId} {o : Nat} {fs : List (String × TypeId × Nat)} {x y : Value} {r r2 : Bool} {w : World} (hn : n ≠ "_") (hx : ∀ w, (part t xs o).run Tryz.prog w = .ok x w) (hy : ∀ w, (part t ys o).run Tryz.prog w = .ok y w)
    (he : ∀ w, (Op.equalIn d t x y).run Tryz.prog w = .ok r w) (hr : (eqParts d xs ys fs).run Tryz.prog w = .ok r2 w) : (eqParts d xs ys ((n, t, o) :: fs)).run Tryz.prog w = .ok (r && r2) w := by
  simp only [eqParts]
  rw [if_pos hn]
  simp only [Sem.run_bind, hx, Result.andThen_ok, hy, he]
  cases r
  · simp
  · simpa using hr

theorem und50 : Tryz.prog.underlying 57 = some (.struct (Tryz.prog.fieldsOf 57)) := by kernel_rfl
theorem und57 : Tryz.prog.underlying 45 = some (.struct (Tryz.prog.fieldsOf 45)) := by kernel_rfl
theorem stood50 : Tryz.prog.stoodInHeld 57 = false := by kernel_rfl
set_option maxRecDepth 100000 in
theorem equalRow (d : Nat) (t k a b c t' k' a' b' c' : Int) (w : World) :
    (Op.equalIn (d + 3) 57 (.agg #[.int .i64 t, .int .i64 k, .int .i64 a, .int .i64 b, .int .i64 c]) (.agg #[.int .i64 t', .int .i64 k', .int .i64 a', .int .i64 b', .int .i64 c'])).run Tryz.prog w = .ok (decide ((⟨t, k, ⟨a, b, c⟩⟩ : MRow) = ⟨t', k', ⟨a', b', c'⟩⟩)) w := by
  rw [run_equalIn_struct w (d + 2) 57 _ _ und50 stood50, eqFields_parts, fields50]
  have e : ∀ (x y : Int) (w : World), (Op.equalIn (d + 2) 3 (.int .i64 x) (.int .i64 y)).run Tryz.prog w = .ok (x == y) w := fun x y w => run_equalIn_int w (d + 1) 3 .i64 .i64 x y Tryz.underlying3
  have h : (eqParts (d + 2) #[.int .i64 t, .int .i64 k, .int .i64 a, .int .i64 b, .int .i64 c] #[.int .i64 t', .int .i64 k', .int .i64 a', .int .i64 b', .int .i64 c'] [("Table", 3, 0), ("Key", 3, 1), ("V", 43, 2)]).run Tryz.prog w = .ok ((t == t') && ((k == k') && (decide ((⟨a, b, c⟩ : V3) = ⟨a', b', c'⟩) && true))) w := by
    refine run_eqPart (by decide) (fun w => part1 3 Tryz.isAgg3 _ 0 _ w rfl) (fun w => part1 3 Tryz.isAgg3 _ 0 _ w rfl) (fun w => e _ _ w) ?_
    refine run_eqPart (by decide) (fun w => part1 3 Tryz.isAgg3 _ 1 _ w rfl) (fun w => part1 3 Tryz.isAgg3 _ 1 _ w rfl) (fun w => e _ _ w) ?_
    exact run_eqPart (by decide) (fun w => part3 _ 2 _ w rfl) (fun w => part3 _ 2 _ w rfl) (fun w => equal3 d a b c a' b' c' w) rfl
  rw [h]
  congr 1
  by_cases h1 : t = t' <;> by_cases h2 : k = k' <;> simp [h1, h2]
theorem neqRow (t k a b c t' k' a' b' c' : Int) (w : World) : (Go.binOp .neq 57 (.agg #[.int .i64 t, .int .i64 k, .int .i64 a, .int .i64 b, .int .i64 c]) (.agg #[.int .i64 t', .int .i64 k', .int .i64 a', .int .i64 b', .int .i64 c'])).run Tryz.prog w = .ok (.bool (!rowE ⟨t, k, ⟨a, b, c⟩⟩ ⟨t', k', ⟨a', b', c'⟩⟩)) w := by
  rw [run_neq_struct, equalRow]; rfl
end Go.Proofs.YtgbnjjgnihjfgaaGreat
end

section
set_option linter.unusedVariables false
set_option linter.unusedSimpArgs false
namespace Go.Proofs.YtgbnjjgnihjfgaaGreat
open Go.RowKit Go.Sort
abbrev v3V (v : V3) : Value := .agg #[.int .i64 v.a, .int .i64 v.b, .int .i64 v.c]
abbrev rowV (r : MRow) : Value := .agg #[.int .i64 r.t, .int .i64 r.k, .int .i64 r.v.a, .int .i64 r.v.b, .int .i64 r.v.c]
abbrev chV (c : MCh) : Value := .agg #[.int .i64 c.t, .int .i64 c.k, .bool c.had, .int .i64 c.o.a, .int .i64 c.o.b, .int .i64 c.o.c, .bool c.has, .int .i64 c.n.a, .int .i64 c.n.b, .int .i64 c.n.c]

/-- An int of 64 bits. -/
def I64 (n : Int) : Prop := -9223372036854775808 ≤ n ∧ n ≤ 9223372036854775807

/-- A row is valid. -/
def VRow (r : MRow) : Prop := (0 ≤ r.t ∧ r.t ≤ 3) ∧ (1 ≤ r.k ∧ r.k ≤ 1000000) ∧ (-1000000000 ≤ r.v.a ∧ r.v.a ≤ 1000000000) ∧ (-1000000000 ≤ r.v.b ∧ r.v.b ≤ 1000000000) ∧ (-1000000000 ≤ r.v.c ∧ r.v.c ≤ 1000000000)
instance (r : MRow) : Decidable (VRow r) := by unfold VRow; infer_instance
def vr (r : MRow) : Bool := decide (VRow r)
theorem vr_t {r : MRow} (h : VRow r) : Ending.returned (.bool true) = .returned (.bool (vr r)) := by rw [vr, decide_eq_true h]
theorem vr_f {r : MRow} (h : ¬ VRow r) : Ending.returned (.bool false) = .returned (.bool (vr r)) := by rw [vr, decide_eq_false h]

set_option maxRecDepth 100000 in
set_option maxHeartbeats 1000000 in
theorem valid_any (t k a b c : Int) (w : World) :
    Calls Tryz.prog 115 #[rowV ⟨t, k, ⟨a, b, c⟩⟩] w fun e w' => e = .returned (.bool (vr ⟨t, k, ⟨a, b, c⟩⟩)) ∧ Below w.heap.size w w' := by
  unfold rowV
  have i0 : ∀ w : World, (Instr.index 43 (.agg #[.int .i64 a, .int .i64 b, .int .i64 c]) (.int .i64 0)).run Tryz.prog w = .ok (.int .i64 a) w := fun _ => by kernel_rfl
  have i1 : ∀ w : World, (Instr.index 43 (.agg #[.int .i64 a, .int .i64 b, .int .i64 c]) (.int .i64 1)).run Tryz.prog w = .ok (.int .i64 b) w := fun _ => by kernel_rfl
  have i2 : ∀ w : World, (Instr.index 43 (.agg #[.int .i64 a, .int .i64 b, .int .i64 c]) (.int .i64 2)).run Tryz.prog w = .ok (.int .i64 c) w := fun _ => by kernel_rfl
  go_enter Tryz.func115, Tryz.ntmps115
  go_wp2
  all_goals (first | (go_ret; exact ⟨vr_f (by unfold VRow; simp only; omega), ba _ _⟩) | skip)
  refine wp_loop_rounds 4 ?_
  rw [rounds_succ]
  go_wp2
  all_goals (first | (go_ret; exact ⟨vr_f (by unfold VRow; simp only; omega), ba _ _⟩) | skip)
  rw [rounds_succ]
  go_wp2
  all_goals (first | (go_ret; exact ⟨vr_f (by unfold VRow; simp only; omega), ba _ _⟩) | skip)
  rw [rounds_succ]
  go_wp2
  all_goals (first | (go_ret; exact ⟨vr_f (by unfold VRow; simp only; omega), ba _ _⟩) | skip)
  rw [rounds_succ]
  go_wp2
  go_ret
  exact ⟨vr_t (by unfold VRow; simp only; omega), ba _ _⟩

/-- The value of a column. -/
def vget (r : MRow) (col : Int) : Int := if col = 0 then r.k else if col = 1 then r.v.a else if col = 2 then r.v.b else if col = 3 then r.v.c else 0

set_option maxRecDepth 100000 in
set_option maxHeartbeats 400000 in
theorem value_any (t k a b c col : Int) (w : World) (h1 : -9223372036854775808 ≤ col) (h2 : col ≤ 9223372036854775807) :
    Calls Tryz.prog 70 #[rowV ⟨t, k, ⟨a, b, c⟩⟩, .int .i64 col] w fun e w' => e = .returned (.int .i64 (vget ⟨t, k, ⟨a, b, c⟩⟩ col)) ∧ Below w.heap.size w w' := by
  unfold rowV
  by_cases h0 : 0 ≤ col ∧ col ≤ 3
  · have : col = 0 ∨ col = 1 ∨ col = 2 ∨ col = 3 := by omega
    clear h0
    rcases this with rfl | rfl | rfl | rfl
    all_goals
      go_enter Tryz.func70, Tryz.ntmps70
      go_wp2
      go_ret
      exact ⟨rfl, ba _ _⟩
  · have hv : vget ⟨t, k, ⟨a, b, c⟩⟩ col = 0 := by
      unfold vget
      rw [if_neg (by omega), if_neg (by omega), if_neg (by omega), if_neg (by omega)]
    rw [hv]
    clear hv
    have he : (col == 0) = false := by simp; omega
    go_enter Tryz.func70, Tryz.ntmps70
    go_wp2
    all_goals
      go_ret
      exact ⟨rfl, ba _ _⟩

def chCells (c : MCh) : Array Value := #[.int .i64 c.t, .int .i64 c.k, .bool c.had, .int .i64 c.o.a, .int .i64 c.o.b, .int .i64 c.o.c, .bool c.has, .int .i64 c.n.a, .int .i64 c.n.b, .int .i64 c.n.c]

set_option maxRecDepth 100000 in
set_option maxHeartbeats 400000 in
theorem rowOf_w (t k : Int) (had has : Bool) (oa ob oc na nb nc a b c : Int) (w : World) :
    Calls Tryz.prog 114 #[.agg #[.int .i64 t, .int .i64 k, .bool had, .int .i64 oa, .int .i64 ob, .int .i64 oc, .bool has, .int .i64 na, .int .i64 nb, .int .i64 nc], .agg #[.int .i64 a, .int .i64 b, .int .i64 c]] w fun e w' =>
      e = .returned (.agg #[.int .i64 t, .int .i64 k, .int .i64 a, .int .i64 b, .int .i64 c]) ∧ w' = ((w.alloc (.cells #[.int .i64 t, .int .i64 k, .bool had, .int .i64 oa, .int .i64 ob, .int .i64 oc, .bool has, .int .i64 na, .int .i64 nb, .int .i64 nc] 45)).alloc (.cells #[.int .i64 a, .int .i64 b, .int .i64 c] 43)).alloc (.cells #[.int .i64 t, .int .i64 k, .int .i64 a, .int .i64 b, .int .i64 c] 57) := by
  go_enter Tryz.func114, Tryz.ntmps114
  go_wp2
  exact bodyPost_ret (v := .agg #[.int .i64 t, .int .i64 k, .int .i64 a, .int .i64 b, .int .i64 c]) (by simp [results, Tryz.results114, go_sem]) rfl ⟨rfl, rfl⟩

set_option maxRecDepth 100000 in
set_option maxHeartbeats 1000000 in
theorem after_any (c : MCh) (w : World) :
    Calls Tryz.prog 81 #[chV c] w fun e w' => e = .returned (.tuple #[rowV (if c.has then ⟨c.t, c.k, c.n⟩ else ⟨0, 0, V3.zero⟩), .bool c.has]) ∧ Below w.heap.size w w' := by
  obtain ⟨t, k, had, ⟨oa, ob, oc⟩, has, ⟨na, nb, nc⟩⟩ := c
  cases has
  · unfold chV rowV
    go_enter Tryz.func81, Tryz.ntmps81
    go_wp2
    exact bodyPost_ret (v := .tuple #[.agg #[.int .i64 0, .int .i64 0, .int .i64 0, .int .i64 0, .int .i64 0], .bool false]) (by simp [results, Tryz.results81, go_sem]) rfl ⟨rfl, ((Below.refl _ w).alloc (Nat.le_refl _) _).alloc (by simp) _⟩
  · unfold chV rowV
    go_enter Tryz.func81, Tryz.ntmps81
    go_wp2_with (go_at_call 114; refine (rowOf_w _ _ _ _ _ _ _ _ _ _ _ _ _ _).mono ?_; rintro e w1 ⟨rfl, rfl⟩)
    refine bodyPost_ret (v := .tuple #[.agg #[.int .i64 t, .int .i64 k, .int .i64 na, .int .i64 nb, .int .i64 nc], .bool true]) (by simp [results, Tryz.results81, go_sem]) rfl ⟨rfl, ?_⟩
    exact (((((Below.refl _ w).alloc (Nat.le_refl _) _).alloc (by simp) _).alloc (by simp; omega) _).alloc (by simp; omega) _).alloc (by simp; omega) _

set_option maxRecDepth 100000 in
set_option maxHeartbeats 1000000 in
theorem validSide_any (c : MCh) (has : Bool) (v : V3) (w : World) :
    Calls Tryz.prog 82 #[chV c, .bool has, v3V v] w fun e w' => e = .returned (.bool (if has then vr ⟨c.t, c.k, v⟩ else v3e v V3.zero)) ∧ Below w.heap.size w w' := by
  obtain ⟨t, k, had, ⟨oa, ob, oc⟩, hs, ⟨na, nb, nc⟩⟩ := c
  obtain ⟨a, b, c⟩ := v
  cases has
  · unfold chV v3V
    have he := eql3
    go_enter Tryz.func82, Tryz.ntmps82
    go_wp2
    go_ret
    exact ⟨rfl, ((Below.refl _ w).alloc (Nat.le_refl _) _).alloc (by simp) _⟩
  · unfold chV v3V
    go_enter Tryz.func82, Tryz.ntmps82
    go_wp2_with (first | (go_at_call 114; refine (rowOf_w _ _ _ _ _ _ _ _ _ _ _ _ _ _).mono ?_; rintro e w1 ⟨rfl, rfl⟩) | (go_at_call 115; refine (valid_any _ _ _ _ _ _).mono ?_; rintro e w1 ⟨rfl, hb⟩))
    go_ret
    exact ⟨rfl, bt ((((((Below.refl _ w).alloc (Nat.le_refl _) _).alloc (by simp) _).alloc (by simp; omega) _).alloc (by simp; omega) _).alloc (by simp; omega) _) hb⟩

/-- One side of a change is valid. -/
def VSide (c : MCh) (has : Bool) (v : V3) : Prop := (has = true → VRow ⟨c.t, c.k, v⟩) ∧ (has = false → v = V3.zero)
instance (c : MCh) (has : Bool) (v : V3) : Decidable (VSide c has v) := by unfold VSide; infer_instance
theorem side_val (c : MCh) (has : Bool) (v : V3) : (if has then vr ⟨c.t, c.k, v⟩ else v3e v V3.zero) = decide (VSide c has v) := by
  cases has <;> simp [VSide, vr, v3e]
def VCh (c : MCh) : Prop := (c.had = true ∨ c.has = true) ∧ ¬ (c.had = true ∧ c.has = true ∧ c.o = c.n) ∧ VSide c c.had c.o ∧ VSide c c.has c.n
instance (c : MCh) : Decidable (VCh c) := by unfold VCh; infer_instance
def vc (c : MCh) : Bool := decide (VCh c)
theorem validSide_t (c : MCh) (has : Bool) (v : V3) (w : World) (h : VSide c has v) : Calls Tryz.prog 82 #[chV c, .bool has, v3V v] w fun e w' => e = .returned (.bool true) ∧ Below w.heap.size w w' :=
  (validSide_any c has v w).mono fun e w' hw => by rw [side_val, decide_eq_true h] at hw; exact hw
theorem validSide_f (c : MCh) (has : Bool) (v : V3) (w : World) (h : ¬ VSide c has v) : Calls Tryz.prog 82 #[chV c, .bool has, v3V v] w fun e w' => e = .returned (.bool false) ∧ Below w.heap.size w w' :=
  (validSide_any c has v w).mono fun e w' hw => by rw [side_val, decide_eq_false h] at hw; exact hw

set_option maxRecDepth 100000 in
set_option maxHeartbeats 4000000 in
theorem validChange_any (c : MCh) (w : World) :
    Calls Tryz.prog 42 #[chV c] w fun e w' => e = .returned (.bool (vc c)) ∧ Below w.heap.size w w' := by
  have he := eql3
  obtain ⟨t, k, had, ⟨oa, ob, oc⟩, has, ⟨na, nb, nc⟩⟩ := c
  cases had <;> cases has
  · have hv : Hid (vc ⟨t, k, false, ⟨oa, ob, oc⟩, false, ⟨na, nb, nc⟩⟩ = false) := Lib.hid (by simp [vc, VCh])
    rw [hv.out]
    go_enter Tryz.func42, Tryz.ntmps42
    go_wp2
    go_ret
    exact ⟨rfl, ba _ _⟩
  · -- false, true
    by_cases h3 : VSide ⟨t, k, false, ⟨oa, ob, oc⟩, true, ⟨na, nb, nc⟩⟩ false ⟨oa, ob, oc⟩
    · by_cases h4 : VSide ⟨t, k, false, ⟨oa, ob, oc⟩, true, ⟨na, nb, nc⟩⟩ true ⟨na, nb, nc⟩
      · have hv : Hid (vc ⟨t, k, false, ⟨oa, ob, oc⟩, true, ⟨na, nb, nc⟩⟩ = true) := Lib.hid (decide_eq_true ⟨by simp, by simp, h3, h4⟩)
        have H3 := Lib.hid h3
        have H4 := Lib.hid h4
        clear h3 h4
        rw [hv.out]
        go_enter Tryz.func42, Tryz.ntmps42
        go_wp2_with fail
        (with_reducible refine (validSide_t ⟨t, k, false, ⟨oa, ob, oc⟩, true, ⟨na, nb, nc⟩⟩ _ _ _ H3.out).mono ?_)
        rintro e w1 ⟨rfl, hb⟩
        obtain ⟨hc, hf⟩ := bcell hb
        go_wp2_with fail
        (with_reducible refine (validSide_t ⟨t, k, false, ⟨oa, ob, oc⟩, true, ⟨na, nb, nc⟩⟩ _ _ _ H4.out).mono ?_)
        rintro e w2 ⟨rfl, hb2⟩
        go_wp2_with fail
        go_ret
        exact ⟨rfl, bt (bt (ba _ _) hb) hb2⟩
      · have hv : Hid (vc ⟨t, k, false, ⟨oa, ob, oc⟩, true, ⟨na, nb, nc⟩⟩ = false) := Lib.hid (decide_eq_false (fun h => h4 h.2.2.2))
        have H3 := Lib.hid h3
        have H4 := Lib.hid h4
        clear h3 h4
        rw [hv.out]
        go_enter Tryz.func42, Tryz.ntmps42
        go_wp2_with fail
        (with_reducible refine (validSide_t ⟨t, k, false, ⟨oa, ob, oc⟩, true, ⟨na, nb, nc⟩⟩ _ _ _ H3.out).mono ?_)
        rintro e w1 ⟨rfl, hb⟩
        obtain ⟨hc, hf⟩ := bcell hb
        go_wp2_with fail
        (with_reducible refine (validSide_f ⟨t, k, false, ⟨oa, ob, oc⟩, true, ⟨na, nb, nc⟩⟩ _ _ _ H4.out).mono ?_)
        rintro e w2 ⟨rfl, hb2⟩
        go_wp2_with fail
        go_ret
        exact ⟨rfl, bt (bt (ba _ _) hb) hb2⟩
    · have hv : Hid (vc ⟨t, k, false, ⟨oa, ob, oc⟩, true, ⟨na, nb, nc⟩⟩ = false) := Lib.hid (decide_eq_false (fun h => h3 h.2.2.1))
      have H3 := Lib.hid h3
      clear h3
      rw [hv.out]
      go_enter Tryz.func42, Tryz.ntmps42
      go_wp2_with fail
      (with_reducible refine (validSide_f ⟨t, k, false, ⟨oa, ob, oc⟩, true, ⟨na, nb, nc⟩⟩ _ _ _ H3.out).mono ?_)
      rintro e w1 ⟨rfl, hb⟩
      go_wp2_with fail
      go_ret
      exact ⟨rfl, bt (ba _ _) hb⟩
  · -- true, false
    by_cases h3 : VSide ⟨t, k, true, ⟨oa, ob, oc⟩, false, ⟨na, nb, nc⟩⟩ true ⟨oa, ob, oc⟩
    · by_cases h4 : VSide ⟨t, k, true, ⟨oa, ob, oc⟩, false, ⟨na, nb, nc⟩⟩ false ⟨na, nb, nc⟩
      · have hv : Hid (vc ⟨t, k, true, ⟨oa, ob, oc⟩, false, ⟨na, nb, nc⟩⟩ = true) := Lib.hid (decide_eq_true ⟨by simp, by simp, h3, h4⟩)
        have H3 := Lib.hid h3
        have H4 := Lib.hid h4
        clear h3 h4
        rw [hv.out]
        go_enter Tryz.func42, Tryz.ntmps42
        go_wp2_with fail
        (with_reducible refine (validSide_t ⟨t, k, true, ⟨oa, ob, oc⟩, false, ⟨na, nb, nc⟩⟩ _ _ _ H3.out).mono ?_)
        rintro e w1 ⟨rfl, hb⟩
        obtain ⟨hc, hf⟩ := bcell hb
        go_wp2_with fail
        (with_reducible refine (validSide_t ⟨t, k, true, ⟨oa, ob, oc⟩, false, ⟨na, nb, nc⟩⟩ _ _ _ H4.out).mono ?_)
        rintro e w2 ⟨rfl, hb2⟩
        go_wp2_with fail
        go_ret
        exact ⟨rfl, bt (bt (ba _ _) hb) hb2⟩
      · have hv : Hid (vc ⟨t, k, true, ⟨oa, ob, oc⟩, false, ⟨na, nb, nc⟩⟩ = false) := Lib.hid (decide_eq_false (fun h => h4 h.2.2.2))
        have H3 := Lib.hid h3
        have H4 := Lib.hid h4
        clear h3 h4
        rw [hv.out]
        go_enter Tryz.func42, Tryz.ntmps42
        go_wp2_with fail
        (with_reducible refine (validSide_t ⟨t, k, true, ⟨oa, ob, oc⟩, false, ⟨na, nb, nc⟩⟩ _ _ _ H3.out).mono ?_)
        rintro e w1 ⟨rfl, hb⟩
        obtain ⟨hc, hf⟩ := bcell hb
        go_wp2_with fail
        (with_reducible refine (validSide_f ⟨t, k, true, ⟨oa, ob, oc⟩, false, ⟨na, nb, nc⟩⟩ _ _ _ H4.out).mono ?_)
        rintro e w2 ⟨rfl, hb2⟩
        go_wp2_with fail
        go_ret
        exact ⟨rfl, bt (bt (ba _ _) hb) hb2⟩
    · have hv : Hid (vc ⟨t, k, true, ⟨oa, ob, oc⟩, false, ⟨na, nb, nc⟩⟩ = false) := Lib.hid (decide_eq_false (fun h => h3 h.2.2.1))
      have H3 := Lib.hid h3
      clear h3
      rw [hv.out]
      go_enter Tryz.func42, Tryz.ntmps42
      go_wp2_with fail
      (with_reducible refine (validSide_f ⟨t, k, true, ⟨oa, ob, oc⟩, false, ⟨na, nb, nc⟩⟩ _ _ _ H3.out).mono ?_)
      rintro e w1 ⟨rfl, hb⟩
      go_wp2_with fail
      go_ret
      exact ⟨rfl, bt (ba _ _) hb⟩
  · -- true, true
    by_cases h2 : (⟨oa, ob, oc⟩ : V3) = ⟨na, nb, nc⟩
    · have hv : Hid (vc ⟨t, k, true, ⟨oa, ob, oc⟩, true, ⟨na, nb, nc⟩⟩ = false) := Lib.hid (decide_eq_false (fun h => h.2.1 ⟨rfl, rfl, h2⟩))
      have hx : v3e ⟨oa, ob, oc⟩ ⟨na, nb, nc⟩ = true := decide_eq_true h2
      clear h2
      rw [hv.out]
      go_enter Tryz.func42, Tryz.ntmps42
      go_wp2
      go_ret
      exact ⟨rfl, ba _ _⟩
    have hn : ¬ (true = true ∧ true = true ∧ (⟨oa, ob, oc⟩ : V3) = ⟨na, nb, nc⟩) := fun h => h2 h.2.2
    have hx : v3e ⟨oa, ob, oc⟩ ⟨na, nb, nc⟩ = false := decide_eq_false h2
    have HN := Lib.hid hn
    clear h2 hn
    by_cases h3 : VSide ⟨t, k, true, ⟨oa, ob, oc⟩, true, ⟨na, nb, nc⟩⟩ true ⟨oa, ob, oc⟩
    · by_cases h4 : VSide ⟨t, k, true, ⟨oa, ob, oc⟩, true, ⟨na, nb, nc⟩⟩ true ⟨na, nb, nc⟩
      · have hv : Hid (vc ⟨t, k, true, ⟨oa, ob, oc⟩, true, ⟨na, nb, nc⟩⟩ = true) := Lib.hid (decide_eq_true ⟨by simp, HN.out, h3, h4⟩)
        have H3 := Lib.hid h3
        have H4 := Lib.hid h4
        clear h3 h4
        rw [hv.out]
        go_enter Tryz.func42, Tryz.ntmps42
        go_wp2_with fail
        (with_reducible refine (validSide_t ⟨t, k, true, ⟨oa, ob, oc⟩, true, ⟨na, nb, nc⟩⟩ _ _ _ H3.out).mono ?_)
        rintro e w1 ⟨rfl, hb⟩
        obtain ⟨hc, hf⟩ := bcell hb
        go_wp2_with fail
        (with_reducible refine (validSide_t ⟨t, k, true, ⟨oa, ob, oc⟩, true, ⟨na, nb, nc⟩⟩ _ _ _ H4.out).mono ?_)
        rintro e w2 ⟨rfl, hb2⟩
        go_wp2_with fail
        go_ret
        exact ⟨rfl, bt (bt (ba _ _) hb) hb2⟩
      · have hv : Hid (vc ⟨t, k, true, ⟨oa, ob, oc⟩, true, ⟨na, nb, nc⟩⟩ = false) := Lib.hid (decide_eq_false (fun h => h4 h.2.2.2))
        have H3 := Lib.hid h3
        have H4 := Lib.hid h4
        clear h3 h4
        rw [hv.out]
        go_enter Tryz.func42, Tryz.ntmps42
        go_wp2_with fail
        (with_reducible refine (validSide_t ⟨t, k, true, ⟨oa, ob, oc⟩, true, ⟨na, nb, nc⟩⟩ _ _ _ H3.out).mono ?_)
        rintro e w1 ⟨rfl, hb⟩
        obtain ⟨hc, hf⟩ := bcell hb
        go_wp2_with fail
        (with_reducible refine (validSide_f ⟨t, k, true, ⟨oa, ob, oc⟩, true, ⟨na, nb, nc⟩⟩ _ _ _ H4.out).mono ?_)
        rintro e w2 ⟨rfl, hb2⟩
        go_wp2_with fail
        go_ret
        exact ⟨rfl, bt (bt (ba _ _) hb) hb2⟩
    · have hv : Hid (vc ⟨t, k, true, ⟨oa, ob, oc⟩, true, ⟨na, nb, nc⟩⟩ = false) := Lib.hid (decide_eq_false (fun h => h3 h.2.2.1))
      have H3 := Lib.hid h3
      clear h3
      rw [hv.out]
      go_enter Tryz.func42, Tryz.ntmps42
      go_wp2_with fail
      (with_reducible refine (validSide_f ⟨t, k, true, ⟨oa, ob, oc⟩, true, ⟨na, nb, nc⟩⟩ _ _ _ H3.out).mono ?_)
      rintro e w1 ⟨rfl, hb⟩
      go_wp2_with fail
      go_ret
      exact ⟨rfl, bt (ba _ _) hb⟩

set_option maxRecDepth 100000 in
set_option maxHeartbeats 1000000 in
theorem precedes_any (c d : MCh) (w : World) :
    Calls Tryz.prog 79 #[chV c, chV d] w fun e w' => e = .returned (.bool (decide (c.t < d.t ∨ c.t = d.t ∧ c.k < d.k))) ∧ Below w.heap.size w w' := by
  by_cases h : c.t = d.t
  · have e1 : Hid (decide (c.t < d.t ∨ c.t = d.t ∧ c.k < d.k) = decide (c.k < d.k)) := Lib.hid (by simp [h])
    have e2 : (c.t != d.t) = false := by simp [h]
    rw [e1.out]
    clear h
    go_enter Tryz.func79, Tryz.ntmps79
    go_wp2
    go_ret
    exact ⟨rfl, ((Below.refl _ w).alloc (Nat.le_refl _) _).alloc (by simp) _⟩
  · have e1 : Hid (decide (c.t < d.t ∨ c.t = d.t ∧ c.k < d.k) = decide (c.t < d.t)) := Lib.hid (by simp [h])
    have e2 : (c.t != d.t) = true := by simp [h]
    rw [e1.out]
    clear h
    go_enter Tryz.func79, Tryz.ntmps79
    go_wp2
    go_ret
    exact ⟨rfl, ((Below.refl _ w).alloc (Nat.le_refl _) _).alloc (by simp) _⟩
end Go.Proofs.YtgbnjjgnihjfgaaGreat
end

section
set_option linter.unusedVariables false
set_option linter.unusedSimpArgs false
namespace Go.Proofs.YtgbnjjgnihjfgaaGreat
open Go.RowKit Go.Sort
theorem ChAt_regrown {w : World} {b o : Nat} {c : MCh} (h : ∀ j : Nat, j < 10 → w.cell? ⟨b, o + j, none⟩ = (chCells c)[j]?) (d : Nat) (os : Array Obj) : ∀ j : Nat, j < 10 → (grow (redrawn w d) os).cell? ⟨b, o + j, none⟩ = (chCells c)[j]? := fun j hj => by
  have h1 := h j hj
  have hs : (chCells c)[j]? = some ((chCells c)[j]'(by simp [chCells]; omega)) := Array.getElem?_eq_getElem _
  rw [hs] at h1 ⊢
  exact cell_regrown h1 d os
def chZ : MCh := ⟨0, 0, false, V3.zero, false, V3.zero⟩
/-- The ten cells of a change, from an offset on. -/
def ChAt (w : World) (b o : Nat) (c : MCh) : Prop := ∀ j : Nat, j < 10 → w.cell? ⟨b, o + j, none⟩ = (chCells c)[j]?
/-- A slice that reads as a list of changes. -/
def ChS (w : World) (v : Value) (L : List MCh) : Prop :=
  ∃ a n cap, v = .slice a n cap ∧ n = L.length ∧ n ≤ cap ∧ cap ≤ 9223372036854775807 ∧ (1 ≤ n → ∃ b o, a = some ⟨b, o, none⟩ ∧ b < w.heap.size ∧ ∀ i, i < n → ChAt w b (o + i * 10) (L.getD i chZ))
theorem ChAt_new (w : World) (c : MCh) : ∀ j : Nat, j < 10 → (w.alloc (.cells (chCells c) 45)).cell? ⟨w.heap.size, 0 + j, none⟩ = (chCells c)[j]? := fun j hj => by
  match j, hj with
  | 0, _ => simp [go_sem, chCells]
  | 1, _ => simp [go_sem, chCells]
  | 2, _ => simp [go_sem, chCells]
  | 3, _ => simp [go_sem, chCells]
  | 4, _ => simp [go_sem, chCells]
  | 5, _ => simp [go_sem, chCells]
  | 6, _ => simp [go_sem, chCells]
  | 7, _ => simp [go_sem, chCells]
  | 8, _ => simp [go_sem, chCells]
  | 9, _ => simp [go_sem, chCells]
theorem ChAt.below {w w1 : World} {b o : Nat} {c : MCh} (h : ChAt w b o c) (hb : b < w.heap.size) (k : Below w.heap.size w w1) : ChAt w1 b o c := fun j hj => by rw [(bcell k).1 b _ hb]; exact h j hj
theorem ChAt.cells {w : World} {b o : Nat} {t k : Int} {had has : Bool} {oa ob oc na nb nc : Int} (h : ChAt w b o ⟨t, k, had, ⟨oa, ob, oc⟩, has, ⟨na, nb, nc⟩⟩) :
    w.cell? ⟨b, o, none⟩ = some (.int .i64 t) ∧ w.cell? ⟨b, o + 1, none⟩ = some (.int .i64 k) ∧ w.cell? ⟨b, o + 2, none⟩ = some (.bool had) ∧ w.cell? ⟨b, o + 3, none⟩ = some (.int .i64 oa) ∧ w.cell? ⟨b, o + 4, none⟩ = some (.int .i64 ob) ∧ w.cell? ⟨b, o + 5, none⟩ = some (.int .i64 oc) ∧ w.cell? ⟨b, o + 6, none⟩ = some (.bool has) ∧ w.cell? ⟨b, o + 7, none⟩ = some (.int .i64 na) ∧ w.cell? ⟨b, o + 8, none⟩ = some (.int .i64 nb) ∧ w.cell? ⟨b, o + 9, none⟩ = some (.int .i64 nc) :=
  ⟨h 0 (by omega), h 1 (by omega), h 2 (by omega), h 3 (by omega), h 4 (by omega), h 5 (by omega), h 6 (by omega), h 7 (by omega), h 8 (by omega), h 9 (by omega)⟩
theorem ChS.below {w w1 : World} {v : Value} {L : List MCh} (h : ChS w v L) (k : Below w.heap.size w w1) : ChS w1 v L := by
  obtain ⟨a, n, cap, e, hn, h1, h2, h3⟩ := h
  refine ⟨a, n, cap, e, hn, h1, h2, fun h => ?_⟩
  obtain ⟨b, o, e, hb, hc⟩ := h3 h
  exact ⟨b, o, e, Nat.lt_of_lt_of_le hb k.size, fun i hi => (hc i hi).below hb k⟩

/-- The changes are valid and ascend. -/
def Prec (c d : MCh) : Prop := c.t < d.t ∨ c.t = d.t ∧ c.k < d.k
instance (c d : MCh) : Decidable (Prec c d) := by unfold Prec; infer_instance
def VGo (L : List MCh) (k : Nat) : Prop := VCh (L.getD k chZ) ∧ (0 < k → Prec (L.getD (k - 1) chZ) (L.getD k chZ))
def VRec (p : Int) (L : List MCh) : Prop := (1 ≤ p ∧ p ≤ 10000) ∧ (1 ≤ L.length ∧ L.length ≤ 8) ∧ ∀ k, k < L.length → VGo L k
instance (L : List MCh) (k : Nat) : Decidable (VGo L k) := by unfold VGo; infer_instance
instance (p : Int) (L : List MCh) : Decidable (VRec p L) := by unfold VRec; infer_instance
def vrec (p : Int) (L : List MCh) : Bool := decide (VRec p L)
theorem vrec_t {p : Int} {L : List MCh} (h : VRec p L) : Ending.returned (.bool true) = .returned (.bool (vrec p L)) := by rw [vrec, decide_eq_true h]
theorem vrec_f {p : Int} {L : List MCh} (h : ¬ VRec p L) : Ending.returned (.bool false) = .returned (.bool (vrec p L)) := by rw [vrec, decide_eq_false h]

theorem vc_t (c : MCh) (w : World) (h : VCh c) : Calls Tryz.prog 42 #[chV c] w fun e w' => e = .returned (.bool true) ∧ Below w.heap.size w w' :=
  (validChange_any c w).mono fun e w' hw => by rw [vc, decide_eq_true h] at hw; exact hw
theorem vc_f (c : MCh) (w : World) (h : ¬ VCh c) : Calls Tryz.prog 42 #[chV c] w fun e w' => e = .returned (.bool false) ∧ Below w.heap.size w w' :=
  (validChange_any c w).mono fun e w' hw => by rw [vc, decide_eq_false h] at hw; exact hw
theorem prec_t (c d : MCh) (w : World) (h : Prec c d) : Calls Tryz.prog 79 #[chV c, chV d] w fun e w' => e = .returned (.bool true) ∧ Below w.heap.size w w' :=
  (precedes_any c d w).mono fun e w' hw => by rw [show decide (c.t < d.t ∨ c.t = d.t ∧ c.k < d.k) = true from decide_eq_true h] at hw; exact hw
theorem prec_f (c d : MCh) (w : World) (h : ¬ Prec c d) : Calls Tryz.prog 79 #[chV c, chV d] w fun e w' => e = .returned (.bool false) ∧ Below w.heap.size w w' :=
  (precedes_any c d w).mono fun e w' hw => by rw [show decide (c.t < d.t ∨ c.t = d.t ∧ c.k < d.k) = false from decide_eq_false h] at hw; exact hw

set_option maxRecDepth 100000 in
set_option maxHeartbeats 8000000 in
theorem validRecord_in (p : Int) (n cap : Nat) (L : List MCh) (w : World) (hn : n = L.length) (h1 : 1 ≤ p ∧ p ≤ 10000) (h2 : 1 ≤ n ∧ n ≤ 8) (b o : Nat) (hb : b < w.heap.size) (hc : ∀ i, i < n → ChAt w b (o + i * 10) (L.getD i chZ)) :
    Calls Tryz.prog 39 #[.agg #[.int .i64 p, .slice (some ⟨b, o, none⟩) n cap]] w fun e w' => e = .returned (.bool (vrec p L)) ∧ Below w.heap.size w w' := by
  have HN := Lib.hid hn
  have HC := Lib.hid hc
  have H1 := Lib.hid h1
  have H2 := Lib.hid h2
  clear hn hc
  go_enter Tryz.func39, Tryz.ntmps39
  go_wp2
  go_loopw [26, 28, 3, 4] (fun i _ _ _ wr => ∃ k : Nat, k ≤ n ∧ i = .int .i64 k ∧ Below (w.heap.size + 1) (w.alloc (.cells #[.int .i64 p, .slice (some ⟨b, o, none⟩) n cap] 41)) wr ∧ Hid (∀ j, j < k → VGo L j)) (fun i _ _ _ _ => n - (intOf i).toNat)
  case atStart => exact ⟨0, by omega, rfl, by simpa using Below.refl (w.alloc (.cells #[.int .i64 p, .slice (some ⟨b, o, none⟩) n cap] 41)).heap.size _, Lib.hid (fun j hj => by omega)⟩
  case round =>
    obtain ⟨k, hk, rfl, HB, HV⟩ := hrel
    have hsz := HB.size
    simp only [World.size_alloc] at hsz
    have hw0 : Below w.heap.size w wr := bt (ba w _) (by simpa using HB)
    have hr1 : wr.cell? ⟨w.heap.size, 1, none⟩ = some (.slice (some ⟨b, o, none⟩) n cap) := by
      rw [(bcell (W := w.alloc (.cells #[.int .i64 p, .slice (some ⟨b, o, none⟩) n cap] 41)) (w1 := wr) (by simpa using HB)).1 _ _ (by simp)]
      simp [go_sem]
    by_cases hlt : k < n
    · have HCk := (HC.out k hlt).below hb hw0
      have HVk : Hid (VGo L k ↔ VCh (L.getD k chZ) ∧ (0 < k → Prec (L.getD (k - 1) chZ) (L.getD k chZ))) := Lib.hid Iff.rfl
      have HF : Hid (¬ VGo L k → ¬ VRec p L) := Lib.hid (fun h hh => h (hh.2.2 k (by rw [← HN.out]; exact hlt)))
      obtain ⟨c, HcE⟩ : ∃ c, Hid (L.getD k chZ = c) := ⟨_, Lib.hid rfl⟩
      rw [HcE.out] at HCk HVk
      obtain ⟨t, kk, had, ⟨oa, ob, oc⟩, has, ⟨na, nb, nc⟩⟩ := c
      obtain ⟨d0, d1, d2, d3, d4, d5, d6, d7, d8, d9⟩ := HCk.cells
      by_cases hv : VCh ⟨t, kk, had, ⟨oa, ob, oc⟩, has, ⟨na, nb, nc⟩⟩
      · have HVc := Lib.hid hv
        clear hv
        by_cases hk0 : 0 < k
        · obtain ⟨q, rfl⟩ : ∃ q, k = q + 1 := ⟨k - 1, by omega⟩
          have HCq := (HC.out q (by omega)).below hb hw0
          obtain ⟨c', HcE'⟩ : ∃ c', Hid (L.getD q chZ = c') := ⟨_, Lib.hid rfl⟩
          rw [HcE'.out] at HCq
          rw [Nat.add_sub_cancel, HcE'.out] at HVk
          obtain ⟨t', kk', had', ⟨oa', ob', oc'⟩, has', ⟨na', nb', nc'⟩⟩ := c'
          have hw1 : IntKind.i64.wrap ((q : Int) + 1 - 1) = (q : Int) := by rw [IntKind.wrap_i64]; omega
          by_cases hp : Prec ⟨t', kk', had', ⟨oa', ob', oc'⟩, has', ⟨na', nb', nc'⟩⟩ ⟨t, kk, had, ⟨oa, ob, oc⟩, has, ⟨na, nb, nc⟩⟩
          · have HPc := Lib.hid hp
            have HNV : Hid (VGo L (q + 1)) := Lib.hid (HVk.out.2 ⟨HVc.out, fun _ => HPc.out⟩)
            clear hp hk0
            go_wp2_with fail
            obtain ⟨wb, Hwb⟩ : ∃ wb, Hid (wr.alloc (.cells #[.int .i64 t, .int .i64 kk, .bool had, .int .i64 oa, .int .i64 ob, .int .i64 oc, .bool has, .int .i64 na, .int .i64 nb, .int .i64 nc] 45) = wb) := ⟨_, Lib.hid rfl⟩
            rw [Hwb.out]
            have HBb : Hid (Below (w.heap.size + 1) (w.alloc (.cells #[.int .i64 p, .slice (some ⟨b, o, none⟩) n cap] 41)) wb) := Lib.hid (by rw [← Hwb.out]; exact HB.alloc hsz _)
            have Hwrb : Hid (Below wr.heap.size wr wb) := Lib.hid (by rw [← Hwb.out]; exact ba _ _)
            have hg : ∀ d os, ChAt (grow (redrawn wb d) os) wr.heap.size 0 ⟨t, kk, had, ⟨oa, ob, oc⟩, has, ⟨na, nb, nc⟩⟩ := fun d os => ChAt_regrown (by rw [← Hwb.out]; exact ChAt_new wr ⟨t, kk, had, ⟨oa, ob, oc⟩, has, ⟨na, nb, nc⟩⟩) d os
            have g0 := fun d os => (hg d os).cells.1
            have g1 := fun d os => (hg d os).cells.2.1
            have g2 := fun d os => (hg d os).cells.2.2.1
            have g3 := fun d os => (hg d os).cells.2.2.2.1
            have g4 := fun d os => (hg d os).cells.2.2.2.2.1
            have g5 := fun d os => (hg d os).cells.2.2.2.2.2.1
            have g6 := fun d os => (hg d os).cells.2.2.2.2.2.2.1
            have g7 := fun d os => (hg d os).cells.2.2.2.2.2.2.2.1
            have g8 := fun d os => (hg d os).cells.2.2.2.2.2.2.2.2.1
            have g9 := fun d os => (hg d os).cells.2.2.2.2.2.2.2.2.2
            simp only [Nat.zero_add] at g0 g1 g2 g3 g4 g5 g6 g7 g8 g9
            have hv : ∀ d os, Calls Tryz.prog 42 #[chV ⟨t, kk, had, ⟨oa, ob, oc⟩, has, ⟨na, nb, nc⟩⟩] (grow (redrawn wb d) os) fun e w'' => e = .returned (.bool true) ∧ ∃ p : Regrown, w'' = grow (redrawn wb p.d) p.os := fun d os => Calls.regrown_of (vc_t _ _ HVc.out)
            have he : ∀ d os, ChAt (grow (redrawn wb d) os) b (o + q * 10) ⟨t', kk', had', ⟨oa', ob', oc'⟩, has', ⟨na', nb', nc'⟩⟩ := fun d os => ChAt_regrown (HCq.below (Nat.lt_of_lt_of_le hb hw0.size) Hwrb.out) d os
            have e0 := fun d os => (he d os).cells.1
            have e1 := fun d os => (he d os).cells.2.1
            have e2 := fun d os => (he d os).cells.2.2.1
            have e3 := fun d os => (he d os).cells.2.2.2.1
            have e4 := fun d os => (he d os).cells.2.2.2.2.1
            have e5 := fun d os => (he d os).cells.2.2.2.2.2.1
            have e6 := fun d os => (he d os).cells.2.2.2.2.2.2.1
            have e7 := fun d os => (he d os).cells.2.2.2.2.2.2.2.1
            have e8 := fun d os => (he d os).cells.2.2.2.2.2.2.2.2.1
            have e9 := fun d os => (he d os).cells.2.2.2.2.2.2.2.2.2
            have hr2 : ∀ d os, (grow (redrawn wb d) os).cell? ⟨w.heap.size, 1, none⟩ = some (.slice (some ⟨b, o, none⟩) n cap) := fun d os => cell_regrown (by rw [(bcell Hwrb.out).1 _ _ (by omega)]; exact hr1) d os
            clear he
            have hp : ∀ d os, Calls Tryz.prog 79 #[chV ⟨t', kk', had', ⟨oa', ob', oc'⟩, has', ⟨na', nb', nc'⟩⟩, chV ⟨t, kk, had, ⟨oa, ob, oc⟩, has, ⟨na, nb, nc⟩⟩] (grow (redrawn wb d) os) fun e w'' => e = .returned (.bool true) ∧ ∃ p : Regrown, w'' = grow (redrawn wb p.d) p.os := fun d os => Calls.regrown_of (prec_t _ _ _ HPc.out)
            clear hg
            refine wp_region_quiet_below (by kernel_rfl) (by kernel_rfl) ?_
            repeat (first | go_big_quiet_step (first | exact hv _ _ | exact hp _ _) | quiet_step (first | exact hv _ _ | exact hp _ _))
            refine wpQuiet_nil ?_
            intro _ hw'
            obtain ⟨⟨dq, osq⟩, hw''⟩ := hw'
            subst hw''
            have HBq := Lib.hid (HBb.out.trans ((below_regrown wb dq osq).mono (by simpa using HBb.out.size)))
            clear g0 g1 g2 g3 g4 g5 g6 g7 g8 g9
            go_wp2_with fail
            exact ⟨⟨q + 1 + 1, by omega, by go_num, HBq.out, Lib.hid (fun j hj => by
              rcases Nat.lt_or_eq_of_le (Nat.le_of_lt_succ hj) with h | rfl
              · exact HV.out j h
              · exact HNV.out)⟩, by simp [intOf]; omega⟩
          · have HPc := Lib.hid hp
            have HNV : Hid (¬ VGo L (q + 1)) := Lib.hid (fun h => HPc.out ((HVk.out.1 h).2 (by omega)))
            clear hp hk0
            go_wp2_with fail
            obtain ⟨wb, Hwb⟩ : ∃ wb, Hid (wr.alloc (.cells #[.int .i64 t, .int .i64 kk, .bool had, .int .i64 oa, .int .i64 ob, .int .i64 oc, .bool has, .int .i64 na, .int .i64 nb, .int .i64 nc] 45) = wb) := ⟨_, Lib.hid rfl⟩
            rw [Hwb.out]
            have HBb : Hid (Below (w.heap.size + 1) (w.alloc (.cells #[.int .i64 p, .slice (some ⟨b, o, none⟩) n cap] 41)) wb) := Lib.hid (by rw [← Hwb.out]; exact HB.alloc hsz _)
            have Hwrb : Hid (Below wr.heap.size wr wb) := Lib.hid (by rw [← Hwb.out]; exact ba _ _)
            have hg : ∀ d os, ChAt (grow (redrawn wb d) os) wr.heap.size 0 ⟨t, kk, had, ⟨oa, ob, oc⟩, has, ⟨na, nb, nc⟩⟩ := fun d os => ChAt_regrown (by rw [← Hwb.out]; exact ChAt_new wr ⟨t, kk, had, ⟨oa, ob, oc⟩, has, ⟨na, nb, nc⟩⟩) d os
            have g0 := fun d os => (hg d os).cells.1
            have g1 := fun d os => (hg d os).cells.2.1
            have g2 := fun d os => (hg d os).cells.2.2.1
            have g3 := fun d os => (hg d os).cells.2.2.2.1
            have g4 := fun d os => (hg d os).cells.2.2.2.2.1
            have g5 := fun d os => (hg d os).cells.2.2.2.2.2.1
            have g6 := fun d os => (hg d os).cells.2.2.2.2.2.2.1
            have g7 := fun d os => (hg d os).cells.2.2.2.2.2.2.2.1
            have g8 := fun d os => (hg d os).cells.2.2.2.2.2.2.2.2.1
            have g9 := fun d os => (hg d os).cells.2.2.2.2.2.2.2.2.2
            simp only [Nat.zero_add] at g0 g1 g2 g3 g4 g5 g6 g7 g8 g9
            have hv : ∀ d os, Calls Tryz.prog 42 #[chV ⟨t, kk, had, ⟨oa, ob, oc⟩, has, ⟨na, nb, nc⟩⟩] (grow (redrawn wb d) os) fun e w'' => e = .returned (.bool true) ∧ ∃ p : Regrown, w'' = grow (redrawn wb p.d) p.os := fun d os => Calls.regrown_of (vc_t _ _ HVc.out)
            have he : ∀ d os, ChAt (grow (redrawn wb d) os) b (o + q * 10) ⟨t', kk', had', ⟨oa', ob', oc'⟩, has', ⟨na', nb', nc'⟩⟩ := fun d os => ChAt_regrown (HCq.below (Nat.lt_of_lt_of_le hb hw0.size) Hwrb.out) d os
            have e0 := fun d os => (he d os).cells.1
            have e1 := fun d os => (he d os).cells.2.1
            have e2 := fun d os => (he d os).cells.2.2.1
            have e3 := fun d os => (he d os).cells.2.2.2.1
            have e4 := fun d os => (he d os).cells.2.2.2.2.1
            have e5 := fun d os => (he d os).cells.2.2.2.2.2.1
            have e6 := fun d os => (he d os).cells.2.2.2.2.2.2.1
            have e7 := fun d os => (he d os).cells.2.2.2.2.2.2.2.1
            have e8 := fun d os => (he d os).cells.2.2.2.2.2.2.2.2.1
            have e9 := fun d os => (he d os).cells.2.2.2.2.2.2.2.2.2
            have hr2 : ∀ d os, (grow (redrawn wb d) os).cell? ⟨w.heap.size, 1, none⟩ = some (.slice (some ⟨b, o, none⟩) n cap) := fun d os => cell_regrown (by rw [(bcell Hwrb.out).1 _ _ (by omega)]; exact hr1) d os
            clear he
            have hp : ∀ d os, Calls Tryz.prog 79 #[chV ⟨t', kk', had', ⟨oa', ob', oc'⟩, has', ⟨na', nb', nc'⟩⟩, chV ⟨t, kk, had, ⟨oa, ob, oc⟩, has, ⟨na, nb, nc⟩⟩] (grow (redrawn wb d) os) fun e w'' => e = .returned (.bool false) ∧ ∃ p : Regrown, w'' = grow (redrawn wb p.d) p.os := fun d os => Calls.regrown_of (prec_f _ _ _ HPc.out)
            clear hg
            refine wp_region_quiet_below (by kernel_rfl) (by kernel_rfl) ?_
            repeat (first | go_big_quiet_step (first | exact hv _ _ | exact hp _ _) | quiet_step (first | exact hv _ _ | exact hp _ _))
            refine wpQuiet_nil ?_
            intro _ hw'
            obtain ⟨⟨dq, osq⟩, hw''⟩ := hw'
            subst hw''
            have HBq := Lib.hid (HBb.out.trans ((below_regrown wb dq osq).mono (by simpa using HBb.out.size)))
            clear g0 g1 g2 g3 g4 g5 g6 g7 g8 g9
            go_wp2_with fail
            go_ret
            exact ⟨vrec_f (HF.out HNV.out), bt (ba w _) (by simpa using HBq.out)⟩
        · have hd0 : decide (0 < (k : Int)) = false := by simp; omega
          have hd1 : decide (0 < k) = false := by simp; omega
          have HNV : Hid (VGo L k) := Lib.hid (HVk.out.2 ⟨HVc.out, fun h => absurd h hk0⟩)
          clear hk0
          go_wp2_with fail
          obtain ⟨wb, Hwb⟩ : ∃ wb, Hid (wr.alloc (.cells #[.int .i64 t, .int .i64 kk, .bool had, .int .i64 oa, .int .i64 ob, .int .i64 oc, .bool has, .int .i64 na, .int .i64 nb, .int .i64 nc] 45) = wb) := ⟨_, Lib.hid rfl⟩
          rw [Hwb.out]
          have HBb : Hid (Below (w.heap.size + 1) (w.alloc (.cells #[.int .i64 p, .slice (some ⟨b, o, none⟩) n cap] 41)) wb) := Lib.hid (by rw [← Hwb.out]; exact HB.alloc hsz _)
          have Hwrb : Hid (Below wr.heap.size wr wb) := Lib.hid (by rw [← Hwb.out]; exact ba _ _)
          have hg : ∀ d os, ChAt (grow (redrawn wb d) os) wr.heap.size 0 ⟨t, kk, had, ⟨oa, ob, oc⟩, has, ⟨na, nb, nc⟩⟩ := fun d os => ChAt_regrown (by rw [← Hwb.out]; exact ChAt_new wr ⟨t, kk, had, ⟨oa, ob, oc⟩, has, ⟨na, nb, nc⟩⟩) d os
          have g0 := fun d os => (hg d os).cells.1
          have g1 := fun d os => (hg d os).cells.2.1
          have g2 := fun d os => (hg d os).cells.2.2.1
          have g3 := fun d os => (hg d os).cells.2.2.2.1
          have g4 := fun d os => (hg d os).cells.2.2.2.2.1
          have g5 := fun d os => (hg d os).cells.2.2.2.2.2.1
          have g6 := fun d os => (hg d os).cells.2.2.2.2.2.2.1
          have g7 := fun d os => (hg d os).cells.2.2.2.2.2.2.2.1
          have g8 := fun d os => (hg d os).cells.2.2.2.2.2.2.2.2.1
          have g9 := fun d os => (hg d os).cells.2.2.2.2.2.2.2.2.2
          simp only [Nat.zero_add] at g0 g1 g2 g3 g4 g5 g6 g7 g8 g9
          have hv : ∀ d os, Calls Tryz.prog 42 #[chV ⟨t, kk, had, ⟨oa, ob, oc⟩, has, ⟨na, nb, nc⟩⟩] (grow (redrawn wb d) os) fun e w'' => e = .returned (.bool true) ∧ ∃ p : Regrown, w'' = grow (redrawn wb p.d) p.os := fun d os => Calls.regrown_of (vc_t _ _ HVc.out)
          clear hg
          refine wp_region_quiet_below (by kernel_rfl) (by kernel_rfl) ?_
          repeat (first | go_big_quiet_step (exact hv _ _) | quiet_step (exact hv _ _))
          refine wpQuiet_nil ?_
          intro _ hw'
          obtain ⟨⟨dq, osq⟩, hw''⟩ := hw'
          subst hw''
          have HBq := Lib.hid (HBb.out.trans ((below_regrown wb dq osq).mono (by simpa using HBb.out.size)))
          clear g0 g1 g2 g3 g4 g5 g6 g7 g8 g9
          go_wp2_with fail
          exact ⟨⟨k + 1, by omega, by go_num, HBq.out, Lib.hid (fun j hj => by
            rcases Nat.lt_or_eq_of_le (Nat.le_of_lt_succ hj) with h | rfl
            · exact HV.out j h
            · exact HNV.out)⟩, by simp [intOf]; omega⟩
      · have HVc := Lib.hid hv
        have HNV : Hid (¬ VGo L k) := Lib.hid (fun h => HVc.out (HVk.out.1 h).1)
        clear hv
        go_wp2_with fail
        obtain ⟨wb, Hwb⟩ : ∃ wb, Hid (wr.alloc (.cells #[.int .i64 t, .int .i64 kk, .bool had, .int .i64 oa, .int .i64 ob, .int .i64 oc, .bool has, .int .i64 na, .int .i64 nb, .int .i64 nc] 45) = wb) := ⟨_, Lib.hid rfl⟩
        rw [Hwb.out]
        have HBb : Hid (Below (w.heap.size + 1) (w.alloc (.cells #[.int .i64 p, .slice (some ⟨b, o, none⟩) n cap] 41)) wb) := Lib.hid (by rw [← Hwb.out]; exact HB.alloc hsz _)
        have Hwrb : Hid (Below wr.heap.size wr wb) := Lib.hid (by rw [← Hwb.out]; exact ba _ _)
        have hg : ∀ d os, ChAt (grow (redrawn wb d) os) wr.heap.size 0 ⟨t, kk, had, ⟨oa, ob, oc⟩, has, ⟨na, nb, nc⟩⟩ := fun d os => ChAt_regrown (by rw [← Hwb.out]; exact ChAt_new wr ⟨t, kk, had, ⟨oa, ob, oc⟩, has, ⟨na, nb, nc⟩⟩) d os
        have g0 := fun d os => (hg d os).cells.1
        have g1 := fun d os => (hg d os).cells.2.1
        have g2 := fun d os => (hg d os).cells.2.2.1
        have g3 := fun d os => (hg d os).cells.2.2.2.1
        have g4 := fun d os => (hg d os).cells.2.2.2.2.1
        have g5 := fun d os => (hg d os).cells.2.2.2.2.2.1
        have g6 := fun d os => (hg d os).cells.2.2.2.2.2.2.1
        have g7 := fun d os => (hg d os).cells.2.2.2.2.2.2.2.1
        have g8 := fun d os => (hg d os).cells.2.2.2.2.2.2.2.2.1
        have g9 := fun d os => (hg d os).cells.2.2.2.2.2.2.2.2.2
        simp only [Nat.zero_add] at g0 g1 g2 g3 g4 g5 g6 g7 g8 g9
        have hv : ∀ d os, Calls Tryz.prog 42 #[chV ⟨t, kk, had, ⟨oa, ob, oc⟩, has, ⟨na, nb, nc⟩⟩] (grow (redrawn wb d) os) fun e w'' => e = .returned (.bool false) ∧ ∃ p : Regrown, w'' = grow (redrawn wb p.d) p.os := fun d os => Calls.regrown_of (vc_f _ _ HVc.out)
        clear hg
        refine wp_region_quiet_below (by kernel_rfl) (by kernel_rfl) ?_
        repeat (first | go_big_quiet_step (exact hv _ _) | quiet_step (exact hv _ _))
        refine wpQuiet_nil ?_
        intro _ hw'
        obtain ⟨⟨dq, osq⟩, hw''⟩ := hw'
        subst hw''
        have HBq := Lib.hid (HBb.out.trans ((below_regrown wb dq osq).mono (by simpa using HBb.out.size)))
        clear g0 g1 g2 g3 g4 g5 g6 g7 g8 g9
        go_wp2_with fail
        go_ret
        exact ⟨vrec_f (HF.out HNV.out), bt (ba w _) (by simpa using HBq.out)⟩
    · have HT : Hid (VRec p L) := Lib.hid ⟨H1.out, by rw [← HN.out]; exact H2.out, fun j hj => HV.out j (by rw [← HN.out] at hj; omega)⟩
      go_wp2_with fail
      go_ret
      exact ⟨vrec_t HT.out, hw0⟩

set_option maxRecDepth 100000 in
set_option maxHeartbeats 1000000 in
theorem validRecord_any (p : Int) (v : Value) (L : List MCh) (w : World) (hv : ChS w v L) :
    Calls Tryz.prog 39 #[.agg #[.int .i64 p, v]] w fun e w' => e = .returned (.bool (vrec p L)) ∧ Below w.heap.size w w' := by
  obtain ⟨a, n, cap, rfl, hn, hc1, hc2, hcell⟩ := hv
  by_cases h1 : 1 ≤ p ∧ p ≤ 10000
  · by_cases h2 : 1 ≤ n ∧ n ≤ 8
    · obtain ⟨b, o, rfl, hb, hc⟩ := hcell h2.1
      exact validRecord_in p n cap L w hn h1 h2 b o hb hc
    · have HF : Hid (¬ VRec p L) := Lib.hid (fun h => h2 (by rw [hn]; exact h.2.1))
      clear hn hcell
      go_enter Tryz.func39, Tryz.ntmps39
      go_wp2
      all_goals
        go_ret
        exact ⟨vrec_f HF.out, ba _ _⟩
  · have HF : Hid (¬ VRec p L) := Lib.hid (fun h => h1 h.1)
    clear hn hcell
    go_enter Tryz.func39, Tryz.ntmps39
    go_wp2
    all_goals
      go_ret
      exact ⟨vrec_f HF.out, ba _ _⟩
end Go.Proofs.YtgbnjjgnihjfgaaGreat
end

section
set_option linter.unusedVariables false
set_option linter.unusedSimpArgs false
namespace Go.Proofs.YtgbnjjgnihjfgaaGreat
open Go.RowKit Go.Sort
theorem within_t (n lo hi : Int) (w : World) (h : lo ≤ n ∧ n ≤ hi) : Calls Tryz.prog 49 #[.int .i64 n, .int .i64 lo, .int .i64 hi] w fun e w' => e = .returned (.bool true) ∧ w' = w := by
  obtain ⟨h1, h2⟩ := h
  go_enter Tryz.func49, Tryz.ntmps49
  go_wp2
  all_goals (go_ret; exact ⟨rfl, rfl⟩)
theorem within_f (n lo hi : Int) (w : World) (h : ¬ (lo ≤ n ∧ n ≤ hi)) : Calls Tryz.prog 49 #[.int .i64 n, .int .i64 lo, .int .i64 hi] w fun e w' => e = .returned (.bool false) ∧ w' = w := by
  by_cases h1 : lo ≤ n
  · have h2 : ¬ n ≤ hi := fun h2 => h ⟨h1, h2⟩
    clear h
    go_enter Tryz.func49, Tryz.ntmps49
    go_wp2
    all_goals (go_ret; exact ⟨rfl, rfl⟩)
  · clear h
    go_enter Tryz.func49, Tryz.ntmps49
    go_wp2
    all_goals (go_ret; exact ⟨rfl, rfl⟩)

set_option maxRecDepth 100000 in
set_option maxHeartbeats 2000000 in
theorem refValid_any (t k a b c : Int) (w : World) :
    Calls Tryz.prog 131 #[rowV ⟨t, k, ⟨a, b, c⟩⟩] w fun e w' => e = .returned (.bool (vr ⟨t, k, ⟨a, b, c⟩⟩)) ∧ Below w.heap.size w w' := by
  by_cases ha : (-1000000000 : Int) ≤ a ∧ a ≤ 1000000000
  case neg =>
    have hv : Hid (vr ⟨t, k, ⟨a, b, c⟩⟩ = false) := Lib.hid (decide_eq_false (fun h => ha h.2.2.1))
    have Ha := Lib.hid ha
    clear ha
    rw [hv.out]
    go_enter Tryz.func131, Tryz.ntmps131
    go_wp2_with fail
    refine wp_loop_rounds 4 ?_
    rw [rounds_succ]
    go_wp2_with fail
    (with_reducible refine (within_f a _ _ _ Ha.out).mono ?_)
    rintro e w1 ⟨rfl, rfl⟩
    go_wp2_with fail
    go_ret
    exact ⟨rfl, ba _ _⟩
  by_cases hb : (-1000000000 : Int) ≤ b ∧ b ≤ 1000000000
  case neg =>
    have hv : Hid (vr ⟨t, k, ⟨a, b, c⟩⟩ = false) := Lib.hid (decide_eq_false (fun h => hb h.2.2.2.1))
    have Ha := Lib.hid ha
    have Hb := Lib.hid hb
    clear ha hb
    rw [hv.out]
    go_enter Tryz.func131, Tryz.ntmps131
    go_wp2_with fail
    refine wp_loop_rounds 4 ?_
    rw [rounds_succ]
    go_wp2_with fail
    (with_reducible refine (within_t a _ _ _ Ha.out).mono ?_)
    rintro e w1 ⟨rfl, rfl⟩
    go_wp2_with fail
    rw [rounds_succ]
    go_wp2_with fail
    (with_reducible refine (within_f b _ _ _ Hb.out).mono ?_)
    rintro e w1 ⟨rfl, rfl⟩
    go_wp2_with fail
    go_ret
    exact ⟨rfl, ba _ _⟩
  by_cases hc : (-1000000000 : Int) ≤ c ∧ c ≤ 1000000000
  case neg =>
    have hv : Hid (vr ⟨t, k, ⟨a, b, c⟩⟩ = false) := Lib.hid (decide_eq_false (fun h => hc h.2.2.2.2))
    have Ha := Lib.hid ha
    have Hb := Lib.hid hb
    have Hc := Lib.hid hc
    clear ha hb hc
    rw [hv.out]
    go_enter Tryz.func131, Tryz.ntmps131
    go_wp2_with fail
    refine wp_loop_rounds 4 ?_
    rw [rounds_succ]
    go_wp2_with fail
    (with_reducible refine (within_t a _ _ _ Ha.out).mono ?_)
    rintro e w1 ⟨rfl, rfl⟩
    go_wp2_with fail
    rw [rounds_succ]
    go_wp2_with fail
    (with_reducible refine (within_t b _ _ _ Hb.out).mono ?_)
    rintro e w1 ⟨rfl, rfl⟩
    go_wp2_with fail
    rw [rounds_succ]
    go_wp2_with fail
    (with_reducible refine (within_f c _ _ _ Hc.out).mono ?_)
    rintro e w1 ⟨rfl, rfl⟩
    go_wp2_with fail
    go_ret
    exact ⟨rfl, ba _ _⟩
  by_cases ht : (0 : Int) ≤ t ∧ t ≤ 3
  case neg =>
    have hv : Hid (vr ⟨t, k, ⟨a, b, c⟩⟩ = false) := Lib.hid (decide_eq_false (fun h => ht h.1))
    have Ha := Lib.hid ha
    have Hb := Lib.hid hb
    have Hc := Lib.hid hc
    have Ht := Lib.hid ht
    clear ha hb hc ht
    rw [hv.out]
    go_enter Tryz.func131, Tryz.ntmps131
    go_wp2_with fail
    refine wp_loop_rounds 4 ?_
    rw [rounds_succ]
    go_wp2_with fail
    (with_reducible refine (within_t a _ _ _ Ha.out).mono ?_)
    rintro e w1 ⟨rfl, rfl⟩
    go_wp2_with fail
    rw [rounds_succ]
    go_wp2_with fail
    (with_reducible refine (within_t b _ _ _ Hb.out).mono ?_)
    rintro e w1 ⟨rfl, rfl⟩
    go_wp2_with fail
    rw [rounds_succ]
    go_wp2_with fail
    (with_reducible refine (within_t c _ _ _ Hc.out).mono ?_)
    rintro e w1 ⟨rfl, rfl⟩
    go_wp2_with fail
    rw [rounds_succ]
    go_wp2_with fail
    (with_reducible refine (within_f t _ _ _ Ht.out).mono ?_)
    rintro e w1 ⟨rfl, rfl⟩
    go_wp2_with fail
    go_ret
    exact ⟨rfl, ba _ _⟩
  by_cases hk : (1 : Int) ≤ k ∧ k ≤ 1000000
  case neg =>
    have hv : Hid (vr ⟨t, k, ⟨a, b, c⟩⟩ = false) := Lib.hid (decide_eq_false (fun h => hk h.2.1))
    have Ha := Lib.hid ha
    have Hb := Lib.hid hb
    have Hc := Lib.hid hc
    have Ht := Lib.hid ht
    have Hk := Lib.hid hk
    clear ha hb hc ht hk
    rw [hv.out]
    go_enter Tryz.func131, Tryz.ntmps131
    go_wp2_with fail
    refine wp_loop_rounds 4 ?_
    rw [rounds_succ]
    go_wp2_with fail
    (with_reducible refine (within_t a _ _ _ Ha.out).mono ?_)
    rintro e w1 ⟨rfl, rfl⟩
    go_wp2_with fail
    rw [rounds_succ]
    go_wp2_with fail
    (with_reducible refine (within_t b _ _ _ Hb.out).mono ?_)
    rintro e w1 ⟨rfl, rfl⟩
    go_wp2_with fail
    rw [rounds_succ]
    go_wp2_with fail
    (with_reducible refine (within_t c _ _ _ Hc.out).mono ?_)
    rintro e w1 ⟨rfl, rfl⟩
    go_wp2_with fail
    rw [rounds_succ]
    go_wp2_with fail
    (with_reducible refine (within_t t _ _ _ Ht.out).mono ?_)
    rintro e w1 ⟨rfl, rfl⟩
    go_wp2_with fail
    (with_reducible refine (within_f k _ _ _ Hk.out).mono ?_)
    rintro e w1 ⟨rfl, rfl⟩
    go_wp2_with fail
    go_ret
    exact ⟨rfl, ba _ _⟩
  have hv : Hid (vr ⟨t, k, ⟨a, b, c⟩⟩ = true) := Lib.hid (decide_eq_true ⟨ht, hk, ha, hb, hc⟩)
  have Ha := Lib.hid ha
  have Hb := Lib.hid hb
  have Hc := Lib.hid hc
  have Ht := Lib.hid ht
  have Hk := Lib.hid hk
  clear ha hb hc ht hk
  rw [hv.out]
  go_enter Tryz.func131, Tryz.ntmps131
  go_wp2_with fail
  refine wp_loop_rounds 4 ?_
  rw [rounds_succ]
  go_wp2_with fail
  (with_reducible refine (within_t a _ _ _ Ha.out).mono ?_)
  rintro e w1 ⟨rfl, rfl⟩
  go_wp2_with fail
  rw [rounds_succ]
  go_wp2_with fail
  (with_reducible refine (within_t b _ _ _ Hb.out).mono ?_)
  rintro e w1 ⟨rfl, rfl⟩
  go_wp2_with fail
  rw [rounds_succ]
  go_wp2_with fail
  (with_reducible refine (within_t c _ _ _ Hc.out).mono ?_)
  rintro e w1 ⟨rfl, rfl⟩
  go_wp2_with fail
  rw [rounds_succ]
  go_wp2_with fail
  (with_reducible refine (within_t t _ _ _ Ht.out).mono ?_)
  rintro e w1 ⟨rfl, rfl⟩
  go_wp2_with fail
  (with_reducible refine (within_t k _ _ _ Hk.out).mono ?_)
  rintro e w1 ⟨rfl, rfl⟩
  go_wp2_with fail
  go_ret
  exact ⟨rfl, ba _ _⟩

set_option maxRecDepth 100000 in
set_option maxHeartbeats 400000 in
theorem refValue_any (t k a b c col : Int) (w : World) (h1 : -9223372036854775808 ≤ col) (h2 : col ≤ 9223372036854775807) :
    Calls Tryz.prog 24 #[rowV ⟨t, k, ⟨a, b, c⟩⟩, .int .i64 col] w fun e w' => e = .returned (.int .i64 (vget ⟨t, k, ⟨a, b, c⟩⟩ col)) ∧ Below w.heap.size w w' := by
  unfold rowV
  by_cases h0 : 0 ≤ col ∧ col ≤ 3
  · have : col = 0 ∨ col = 1 ∨ col = 2 ∨ col = 3 := by omega
    clear h0
    rcases this with rfl | rfl | rfl | rfl
    · go_enter Tryz.func24, Tryz.ntmps24
      go_wp2
      go_ret
      exact ⟨rfl, ba _ _⟩
    all_goals
      go_enter Tryz.func24, Tryz.ntmps24
      go_wp2_with fail
      (with_reducible refine (within_t _ _ _ _ (by decide)).mono ?_)
      rintro e w1 ⟨rfl, rfl⟩
      go_wp2_with fail
      go_ret
      exact ⟨rfl, ba _ _⟩
  · have hv : vget ⟨t, k, ⟨a, b, c⟩⟩ col = 0 := by
      unfold vget
      rw [if_neg (by omega), if_neg (by omega), if_neg (by omega), if_neg (by omega)]
    rw [hv]
    clear hv
    have he : (col == 0) = false := by simp; omega
    have H0 : Hid (¬ (1 ≤ col ∧ col ≤ 3)) := Lib.hid (by omega)
    clear h0
    go_enter Tryz.func24, Tryz.ntmps24
    go_wp2_with fail
    (with_reducible refine (within_f _ _ _ _ H0.out).mono ?_)
    rintro e w1 ⟨rfl, rfl⟩
    go_wp2_with fail
    go_ret
    exact ⟨rfl, ba _ _⟩

theorem refValid_t (r : MRow) (w : World) (h : VRow r) : Calls Tryz.prog 131 #[rowV r] w fun e w' => e = .returned (.bool true) ∧ Below w.heap.size w w' :=
  (refValid_any r.t r.k r.v.a r.v.b r.v.c w).mono fun e w' hw => by
    have h1 : vr ⟨r.t, r.k, ⟨r.v.a, r.v.b, r.v.c⟩⟩ = true := decide_eq_true h
    rw [h1] at hw; exact hw
theorem refValid_f (r : MRow) (w : World) (h : ¬ VRow r) : Calls Tryz.prog 131 #[rowV r] w fun e w' => e = .returned (.bool false) ∧ Below w.heap.size w w' :=
  (refValid_any r.t r.k r.v.a r.v.b r.v.c w).mono fun e w' hw => by
    have h1 : vr ⟨r.t, r.k, ⟨r.v.a, r.v.b, r.v.c⟩⟩ = false := decide_eq_false h
    rw [h1] at hw; exact hw

structure RwAt (W : World) (b : Nat) (r : MRow) : Prop where
  c0 : W.cell? ⟨b, 0, none⟩ = some (.int .i64 r.t)
  c1 : W.cell? ⟨b, 1, none⟩ = some (.int .i64 r.k)
  c2 : W.cell? ⟨b, 2, none⟩ = some (.int .i64 r.v.a)
  c3 : W.cell? ⟨b, 3, none⟩ = some (.int .i64 r.v.b)
  c4 : W.cell? ⟨b, 4, none⟩ = some (.int .i64 r.v.c)
theorem RwAt.below {W W' : World} {b : Nat} {r : MRow} (h : RwAt W b r) (k : Below W.heap.size W W') : RwAt W' b r := by
  have hl := World.block_lt_of_cell? W _ h.c0
  obtain ⟨hc, _⟩ := bcell k
  exact ⟨by rw [hc _ _ hl]; exact h.c0, by rw [hc _ _ hl]; exact h.c1, by rw [hc _ _ hl]; exact h.c2, by rw [hc _ _ hl]; exact h.c3, by rw [hc _ _ hl]; exact h.c4⟩
theorem RwAt.new (W : World) (r : MRow) : RwAt (W.alloc (.cells #[.int .i64 r.t, .int .i64 r.k, .int .i64 r.v.a, .int .i64 r.v.b, .int .i64 r.v.c] 57)) W.heap.size r :=
  ⟨by simp [go_sem], by simp [go_sem], by simp [go_sem], by simp [go_sem], by simp [go_sem]⟩

end Go.Proofs.YtgbnjjgnihjfgaaGreat
end

section
set_option linter.unusedVariables false
set_option linter.unusedSimpArgs false
namespace Go.Proofs.YtgbnjjgnihjfgaaGreat
open Go.RowKit Go.Sort
set_option maxRecDepth 100000 in
set_option maxHeartbeats 1000000 in
theorem refBefore_any (c : MCh) (w : World) :
    Calls Tryz.prog 23 #[chV c] w fun e w' => e = .returned (.tuple #[rowV (if c.had then ⟨c.t, c.k, c.o⟩ else ⟨0, 0, V3.zero⟩), .bool c.had]) ∧ Below w.heap.size w w' := by
  obtain ⟨t, k, had, ⟨oa, ob, oc⟩, has, ⟨na, nb, nc⟩⟩ := c
  cases had
  · unfold chV rowV
    go_enter Tryz.func23, Tryz.ntmps23
    go_wp2
    exact bodyPost_ret (v := .tuple #[.agg #[.int .i64 0, .int .i64 0, .int .i64 0, .int .i64 0, .int .i64 0], .bool false]) (by simp [results, Tryz.results23, go_sem]) rfl ⟨rfl, ((Below.refl _ w).alloc (Nat.le_refl _) _).alloc (by simp) _⟩
  · unfold chV rowV
    go_enter Tryz.func23, Tryz.ntmps23
    go_wp2
    exact bodyPost_ret (v := .tuple #[.agg #[.int .i64 t, .int .i64 k, .int .i64 oa, .int .i64 ob, .int .i64 oc], .bool true]) (by simp [results, Tryz.results23, go_sem]) rfl ⟨rfl, ((Below.refl _ w).alloc (Nat.le_refl _) _).alloc (by simp) _⟩
set_option maxRecDepth 100000 in
set_option maxHeartbeats 1000000 in
theorem refAfter_any (c : MCh) (w : World) :
    Calls Tryz.prog 25 #[chV c] w fun e w' => e = .returned (.tuple #[rowV (if c.has then ⟨c.t, c.k, c.n⟩ else ⟨0, 0, V3.zero⟩), .bool c.has]) ∧ Below w.heap.size w w' := by
  obtain ⟨t, k, had, ⟨oa, ob, oc⟩, has, ⟨na, nb, nc⟩⟩ := c
  cases has
  · unfold chV rowV
    go_enter Tryz.func25, Tryz.ntmps25
    go_wp2
    exact bodyPost_ret (v := .tuple #[.agg #[.int .i64 0, .int .i64 0, .int .i64 0, .int .i64 0, .int .i64 0], .bool false]) (by simp [results, Tryz.results25, go_sem]) rfl ⟨rfl, ((Below.refl _ w).alloc (Nat.le_refl _) _).alloc (by simp) _⟩
  · unfold chV rowV
    go_enter Tryz.func25, Tryz.ntmps25
    go_wp2
    exact bodyPost_ret (v := .tuple #[.agg #[.int .i64 t, .int .i64 k, .int .i64 na, .int .i64 nb, .int .i64 nc], .bool true]) (by simp [results, Tryz.results25, go_sem]) rfl ⟨rfl, ((Below.refl _ w).alloc (Nat.le_refl _) _).alloc (by simp) _⟩
theorem rbef_true (t k oa ob oc na nb nc : Int) (x : Bool) (W : World) : Calls Tryz.prog 23 #[chV ⟨t, k, true, ⟨oa, ob, oc⟩, x, ⟨na, nb, nc⟩⟩] W fun e w' => e = .returned (.tuple #[rowV ⟨t, k, ⟨oa, ob, oc⟩⟩, .bool true]) ∧ Below W.heap.size W w' := refBefore_any ⟨t, k, true, ⟨oa, ob, oc⟩, x, ⟨na, nb, nc⟩⟩ W
theorem rbef_false (t k oa ob oc na nb nc : Int) (x : Bool) (W : World) : Calls Tryz.prog 23 #[chV ⟨t, k, false, ⟨oa, ob, oc⟩, x, ⟨na, nb, nc⟩⟩] W fun e w' => e = .returned (.tuple #[rowV ⟨0, 0, ⟨0, 0, 0⟩⟩, .bool false]) ∧ Below W.heap.size W w' := refBefore_any ⟨t, k, false, ⟨oa, ob, oc⟩, x, ⟨na, nb, nc⟩⟩ W
theorem raft_true (t k oa ob oc na nb nc : Int) (x : Bool) (W : World) : Calls Tryz.prog 25 #[chV ⟨t, k, x, ⟨oa, ob, oc⟩, true, ⟨na, nb, nc⟩⟩] W fun e w' => e = .returned (.tuple #[rowV ⟨t, k, ⟨na, nb, nc⟩⟩, .bool true]) ∧ Below W.heap.size W w' := refAfter_any ⟨t, k, x, ⟨oa, ob, oc⟩, true, ⟨na, nb, nc⟩⟩ W
theorem raft_false (t k oa ob oc na nb nc : Int) (x : Bool) (W : World) : Calls Tryz.prog 25 #[chV ⟨t, k, x, ⟨oa, ob, oc⟩, false, ⟨na, nb, nc⟩⟩] W fun e w' => e = .returned (.tuple #[rowV ⟨0, 0, ⟨0, 0, 0⟩⟩, .bool false]) ∧ Below W.heap.size W w' := refAfter_any ⟨t, k, x, ⟨oa, ob, oc⟩, false, ⟨na, nb, nc⟩⟩ W
set_option maxRecDepth 100000 in
set_option maxHeartbeats 2000000 in
theorem refVC_false_false_none (t k oa ob oc na nb nc : Int) (w : World)  : Calls Tryz.prog 103 #[chV ⟨t, k, false, ⟨oa, ob, oc⟩, false, ⟨na, nb, nc⟩⟩] w fun e w' => e = .returned (.bool (vc ⟨t, k, false, ⟨oa, ob, oc⟩, false, ⟨na, nb, nc⟩⟩)) ∧ Below w.heap.size w w' := by
  have hv : Hid (vc ⟨t, k, false, ⟨oa, ob, oc⟩, false, ⟨na, nb, nc⟩⟩ = false) := Lib.hid (decide_eq_false (fun h => by rcases h.1 with h | h <;> cases h))
  rw [hv.out]
  go_enter Tryz.func103, Tryz.ntmps103
  have HC0 : Hid (ChAt (w.alloc (.cells #[.int .i64 t, .int .i64 k, .bool false, .int .i64 oa, .int .i64 ob, .int .i64 oc, .bool false, .int .i64 na, .int .i64 nb, .int .i64 nc] 45)) w.heap.size 0 ⟨t, k, false, ⟨oa, ob, oc⟩, false, ⟨na, nb, nc⟩⟩) := Lib.hid (ChAt_new w ⟨t, k, false, ⟨oa, ob, oc⟩, false, ⟨na, nb, nc⟩⟩)
  go_wp2_with fail
  (with_reducible refine (rbef_false t k oa ob oc na nb nc false _).mono ?_)
  rintro e w2 ⟨rfl, hb2⟩
  have hk2 := bt hb2 (ba w2 (.cells #[.int .i64 0, .int .i64 0, .int .i64 0, .int .i64 0, .int .i64 0] 57))
  have HB2 := Lib.hid (bt (ba w (.cells #[.int .i64 t, .int .i64 k, .bool false, .int .i64 oa, .int .i64 ob, .int .i64 oc, .bool false, .int .i64 na, .int .i64 nb, .int .i64 nc] 45)) hk2)
  have HC2 := Lib.hid (HC0.out.below (by simp) hk2)
  have HA2 := Lib.hid (RwAt.new w2 ⟨0, 0, ⟨0, 0, 0⟩⟩)
  have hl2 : w.heap.size < w2.heap.size := by have := hb2.size; simp only [World.size_alloc] at this; omega
  clear hb2 hk2 HC0
  obtain ⟨d0, d1, d2, d3, d4, d5, d6, d7, d8, d9⟩ := ChAt.cells HC2.out
  go_wp2_with fail
  (with_reducible refine (raft_false t k oa ob oc na nb nc false _).mono ?_)
  rintro e w3 ⟨rfl, hb3⟩
  have hk3 := bt hb3 (ba w3 (.cells #[.int .i64 0, .int .i64 0, .int .i64 0, .int .i64 0, .int .i64 0] 57))
  have HB3 := Lib.hid (bt HB2.out hk3)
  have HC3 := Lib.hid (HC2.out.below (by simp; omega) hk3)
  have HA3 := Lib.hid (HA2.out.below hk3)
  have HN3 := Lib.hid (RwAt.new w3 ⟨0, 0, ⟨0, 0, 0⟩⟩)
  clear hb3 hk3 HC2 HA2 HB2 d0 d1 d2 d3 d4 d5 d6 d7 d8 d9
  obtain ⟨d0, d1, d2, d3, d4, d5, d6, d7, d8, d9⟩ := ChAt.cells HC3.out
  obtain ⟨a0, a1, a2, a3, a4⟩ := HA3.out
  obtain ⟨n0, n1, n2, n3, n4⟩ := HN3.out
  go_wp2_with fail
  go_ret
  exact ⟨rfl, HB3.out⟩
set_option maxRecDepth 100000 in
set_option maxHeartbeats 2000000 in
theorem refVC_true_false_vo (t k oa ob oc na nb nc : Int) (w : World) (h3 : ¬ VRow ⟨t, k, ⟨oa, ob, oc⟩⟩) : Calls Tryz.prog 103 #[chV ⟨t, k, true, ⟨oa, ob, oc⟩, false, ⟨na, nb, nc⟩⟩] w fun e w' => e = .returned (.bool (vc ⟨t, k, true, ⟨oa, ob, oc⟩, false, ⟨na, nb, nc⟩⟩)) ∧ Below w.heap.size w w' := by
  have hv : Hid (vc ⟨t, k, true, ⟨oa, ob, oc⟩, false, ⟨na, nb, nc⟩⟩ = false) := Lib.hid (decide_eq_false (fun h => h3 (h.2.2.1.1 rfl)))
  have H3 := Lib.hid h3
  clear h3
  rw [hv.out]
  go_enter Tryz.func103, Tryz.ntmps103
  have HC0 : Hid (ChAt (w.alloc (.cells #[.int .i64 t, .int .i64 k, .bool true, .int .i64 oa, .int .i64 ob, .int .i64 oc, .bool false, .int .i64 na, .int .i64 nb, .int .i64 nc] 45)) w.heap.size 0 ⟨t, k, true, ⟨oa, ob, oc⟩, false, ⟨na, nb, nc⟩⟩) := Lib.hid (ChAt_new w ⟨t, k, true, ⟨oa, ob, oc⟩, false, ⟨na, nb, nc⟩⟩)
  go_wp2_with fail
  (with_reducible refine (rbef_true t k oa ob oc na nb nc false _).mono ?_)
  rintro e w2 ⟨rfl, hb2⟩
  have hk2 := bt hb2 (ba w2 (.cells #[.int .i64 t, .int .i64 k, .int .i64 oa, .int .i64 ob, .int .i64 oc] 57))
  have HB2 := Lib.hid (bt (ba w (.cells #[.int .i64 t, .int .i64 k, .bool true, .int .i64 oa, .int .i64 ob, .int .i64 oc, .bool false, .int .i64 na, .int .i64 nb, .int .i64 nc] 45)) hk2)
  have HC2 := Lib.hid (HC0.out.below (by simp) hk2)
  have HA2 := Lib.hid (RwAt.new w2 ⟨t, k, ⟨oa, ob, oc⟩⟩)
  have hl2 : w.heap.size < w2.heap.size := by have := hb2.size; simp only [World.size_alloc] at this; omega
  clear hb2 hk2 HC0
  obtain ⟨d0, d1, d2, d3, d4, d5, d6, d7, d8, d9⟩ := ChAt.cells HC2.out
  go_wp2_with fail
  (with_reducible refine (raft_false t k oa ob oc na nb nc true _).mono ?_)
  rintro e w3 ⟨rfl, hb3⟩
  have hk3 := bt hb3 (ba w3 (.cells #[.int .i64 0, .int .i64 0, .int .i64 0, .int .i64 0, .int .i64 0] 57))
  have HB3 := Lib.hid (bt HB2.out hk3)
  have HC3 := Lib.hid (HC2.out.below (by simp; omega) hk3)
  have HA3 := Lib.hid (HA2.out.below hk3)
  have HN3 := Lib.hid (RwAt.new w3 ⟨0, 0, ⟨0, 0, 0⟩⟩)
  clear hb3 hk3 HC2 HA2 HB2 d0 d1 d2 d3 d4 d5 d6 d7 d8 d9
  obtain ⟨d0, d1, d2, d3, d4, d5, d6, d7, d8, d9⟩ := ChAt.cells HC3.out
  obtain ⟨a0, a1, a2, a3, a4⟩ := HA3.out
  obtain ⟨n0, n1, n2, n3, n4⟩ := HN3.out
  go_wp2_with fail
  (with_reducible refine (refValid_f ⟨t, k, ⟨oa, ob, oc⟩⟩ _ H3.out).mono ?_)
  rintro e w4 ⟨rfl, hb4⟩
  have HB4 := Lib.hid (bt HB3.out hb4)
  have HC4 := Lib.hid (HC3.out.below (World.block_lt_of_cell? _ _ d0) hb4)
  have HN4 := Lib.hid (HN3.out.below hb4)
  clear hb4 d0 d1 d2 d3 d4 d5 d6 d7 d8 d9 a0 a1 a2 a3 a4 n0 n1 n2 n3 n4
  obtain ⟨d0, d1, d2, d3, d4, d5, d6, d7, d8, d9⟩ := ChAt.cells HC4.out
  obtain ⟨n0, n1, n2, n3, n4⟩ := HN4.out
  go_wp2_with fail
  go_ret
  exact ⟨rfl, HB4.out⟩
set_option maxRecDepth 100000 in
set_option maxHeartbeats 2000000 in
theorem refVC_true_false_z (t k oa ob oc na nb nc : Int) (w : World) (h3 : VRow ⟨t, k, ⟨oa, ob, oc⟩⟩) (h2 : ¬ (⟨na, nb, nc⟩ : V3) = ⟨0, 0, 0⟩) : Calls Tryz.prog 103 #[chV ⟨t, k, true, ⟨oa, ob, oc⟩, false, ⟨na, nb, nc⟩⟩] w fun e w' => e = .returned (.bool (vc ⟨t, k, true, ⟨oa, ob, oc⟩, false, ⟨na, nb, nc⟩⟩)) ∧ Below w.heap.size w w' := by
  have hv : Hid (vc ⟨t, k, true, ⟨oa, ob, oc⟩, false, ⟨na, nb, nc⟩⟩ = false) := Lib.hid (decide_eq_false (fun h => h2 (h.2.2.2.2 rfl)))
  have he := fun w => eql3 na nb nc 0 0 0 w
  rw [show v3e ⟨na, nb, nc⟩ ⟨0, 0, 0⟩ = false from decide_eq_false h2] at he
  have H3 := Lib.hid h3
  clear h2 h3
  rw [hv.out]
  go_enter Tryz.func103, Tryz.ntmps103
  have HC0 : Hid (ChAt (w.alloc (.cells #[.int .i64 t, .int .i64 k, .bool true, .int .i64 oa, .int .i64 ob, .int .i64 oc, .bool false, .int .i64 na, .int .i64 nb, .int .i64 nc] 45)) w.heap.size 0 ⟨t, k, true, ⟨oa, ob, oc⟩, false, ⟨na, nb, nc⟩⟩) := Lib.hid (ChAt_new w ⟨t, k, true, ⟨oa, ob, oc⟩, false, ⟨na, nb, nc⟩⟩)
  go_wp2_with fail
  (with_reducible refine (rbef_true t k oa ob oc na nb nc false _).mono ?_)
  rintro e w2 ⟨rfl, hb2⟩
  have hk2 := bt hb2 (ba w2 (.cells #[.int .i64 t, .int .i64 k, .int .i64 oa, .int .i64 ob, .int .i64 oc] 57))
  have HB2 := Lib.hid (bt (ba w (.cells #[.int .i64 t, .int .i64 k, .bool true, .int .i64 oa, .int .i64 ob, .int .i64 oc, .bool false, .int .i64 na, .int .i64 nb, .int .i64 nc] 45)) hk2)
  have HC2 := Lib.hid (HC0.out.below (by simp) hk2)
  have HA2 := Lib.hid (RwAt.new w2 ⟨t, k, ⟨oa, ob, oc⟩⟩)
  have hl2 : w.heap.size < w2.heap.size := by have := hb2.size; simp only [World.size_alloc] at this; omega
  clear hb2 hk2 HC0
  obtain ⟨d0, d1, d2, d3, d4, d5, d6, d7, d8, d9⟩ := ChAt.cells HC2.out
  go_wp2_with fail
  (with_reducible refine (raft_false t k oa ob oc na nb nc true _).mono ?_)
  rintro e w3 ⟨rfl, hb3⟩
  have hk3 := bt hb3 (ba w3 (.cells #[.int .i64 0, .int .i64 0, .int .i64 0, .int .i64 0, .int .i64 0] 57))
  have HB3 := Lib.hid (bt HB2.out hk3)
  have HC3 := Lib.hid (HC2.out.below (by simp; omega) hk3)
  have HA3 := Lib.hid (HA2.out.below hk3)
  have HN3 := Lib.hid (RwAt.new w3 ⟨0, 0, ⟨0, 0, 0⟩⟩)
  clear hb3 hk3 HC2 HA2 HB2 d0 d1 d2 d3 d4 d5 d6 d7 d8 d9
  obtain ⟨d0, d1, d2, d3, d4, d5, d6, d7, d8, d9⟩ := ChAt.cells HC3.out
  obtain ⟨a0, a1, a2, a3, a4⟩ := HA3.out
  obtain ⟨n0, n1, n2, n3, n4⟩ := HN3.out
  go_wp2_with fail
  (with_reducible refine (refValid_t ⟨t, k, ⟨oa, ob, oc⟩⟩ _ H3.out).mono ?_)
  rintro e w4 ⟨rfl, hb4⟩
  have HB4 := Lib.hid (bt HB3.out hb4)
  have HC4 := Lib.hid (HC3.out.below (World.block_lt_of_cell? _ _ d0) hb4)
  have HN4 := Lib.hid (HN3.out.below hb4)
  clear hb4 d0 d1 d2 d3 d4 d5 d6 d7 d8 d9 a0 a1 a2 a3 a4 n0 n1 n2 n3 n4
  obtain ⟨d0, d1, d2, d3, d4, d5, d6, d7, d8, d9⟩ := ChAt.cells HC4.out
  obtain ⟨n0, n1, n2, n3, n4⟩ := HN4.out
  go_wp2_with fail
  go_ret
  exact ⟨rfl, HB4.out⟩
set_option maxRecDepth 100000 in
set_option maxHeartbeats 2000000 in
theorem refVC_true_false_ok (t k oa ob oc na nb nc : Int) (w : World) (h3 : VRow ⟨t, k, ⟨oa, ob, oc⟩⟩) (h2 : (⟨na, nb, nc⟩ : V3) = ⟨0, 0, 0⟩) : Calls Tryz.prog 103 #[chV ⟨t, k, true, ⟨oa, ob, oc⟩, false, ⟨na, nb, nc⟩⟩] w fun e w' => e = .returned (.bool (vc ⟨t, k, true, ⟨oa, ob, oc⟩, false, ⟨na, nb, nc⟩⟩)) ∧ Below w.heap.size w w' := by
  have hv : Hid (vc ⟨t, k, true, ⟨oa, ob, oc⟩, false, ⟨na, nb, nc⟩⟩ = true) := Lib.hid (decide_eq_true (⟨.inl rfl, (fun h => by cases h.2.1), ⟨fun _ => h3, (fun h => by cases h)⟩, ⟨(fun h => by cases h), fun _ => h2⟩⟩))
  have he := fun w => eql3 na nb nc 0 0 0 w
  rw [show v3e ⟨na, nb, nc⟩ ⟨0, 0, 0⟩ = true from decide_eq_true h2] at he
  have H3 := Lib.hid h3
  clear h2 h3
  rw [hv.out]
  go_enter Tryz.func103, Tryz.ntmps103
  have HC0 : Hid (ChAt (w.alloc (.cells #[.int .i64 t, .int .i64 k, .bool true, .int .i64 oa, .int .i64 ob, .int .i64 oc, .bool false, .int .i64 na, .int .i64 nb, .int .i64 nc] 45)) w.heap.size 0 ⟨t, k, true, ⟨oa, ob, oc⟩, false, ⟨na, nb, nc⟩⟩) := Lib.hid (ChAt_new w ⟨t, k, true, ⟨oa, ob, oc⟩, false, ⟨na, nb, nc⟩⟩)
  go_wp2_with fail
  (with_reducible refine (rbef_true t k oa ob oc na nb nc false _).mono ?_)
  rintro e w2 ⟨rfl, hb2⟩
  have hk2 := bt hb2 (ba w2 (.cells #[.int .i64 t, .int .i64 k, .int .i64 oa, .int .i64 ob, .int .i64 oc] 57))
  have HB2 := Lib.hid (bt (ba w (.cells #[.int .i64 t, .int .i64 k, .bool true, .int .i64 oa, .int .i64 ob, .int .i64 oc, .bool false, .int .i64 na, .int .i64 nb, .int .i64 nc] 45)) hk2)
  have HC2 := Lib.hid (HC0.out.below (by simp) hk2)
  have HA2 := Lib.hid (RwAt.new w2 ⟨t, k, ⟨oa, ob, oc⟩⟩)
  have hl2 : w.heap.size < w2.heap.size := by have := hb2.size; simp only [World.size_alloc] at this; omega
  clear hb2 hk2 HC0
  obtain ⟨d0, d1, d2, d3, d4, d5, d6, d7, d8, d9⟩ := ChAt.cells HC2.out
  go_wp2_with fail
  (with_reducible refine (raft_false t k oa ob oc na nb nc true _).mono ?_)
  rintro e w3 ⟨rfl, hb3⟩
  have hk3 := bt hb3 (ba w3 (.cells #[.int .i64 0, .int .i64 0, .int .i64 0, .int .i64 0, .int .i64 0] 57))
  have HB3 := Lib.hid (bt HB2.out hk3)
  have HC3 := Lib.hid (HC2.out.below (by simp; omega) hk3)
  have HA3 := Lib.hid (HA2.out.below hk3)
  have HN3 := Lib.hid (RwAt.new w3 ⟨0, 0, ⟨0, 0, 0⟩⟩)
  clear hb3 hk3 HC2 HA2 HB2 d0 d1 d2 d3 d4 d5 d6 d7 d8 d9
  obtain ⟨d0, d1, d2, d3, d4, d5, d6, d7, d8, d9⟩ := ChAt.cells HC3.out
  obtain ⟨a0, a1, a2, a3, a4⟩ := HA3.out
  obtain ⟨n0, n1, n2, n3, n4⟩ := HN3.out
  go_wp2_with fail
  (with_reducible refine (refValid_t ⟨t, k, ⟨oa, ob, oc⟩⟩ _ H3.out).mono ?_)
  rintro e w4 ⟨rfl, hb4⟩
  have HB4 := Lib.hid (bt HB3.out hb4)
  have HC4 := Lib.hid (HC3.out.below (World.block_lt_of_cell? _ _ d0) hb4)
  have HN4 := Lib.hid (HN3.out.below hb4)
  clear hb4 d0 d1 d2 d3 d4 d5 d6 d7 d8 d9 a0 a1 a2 a3 a4 n0 n1 n2 n3 n4
  obtain ⟨d0, d1, d2, d3, d4, d5, d6, d7, d8, d9⟩ := ChAt.cells HC4.out
  obtain ⟨n0, n1, n2, n3, n4⟩ := HN4.out
  go_wp2_with fail
  go_ret
  exact ⟨rfl, HB4.out⟩
set_option maxRecDepth 100000 in
set_option maxHeartbeats 2000000 in
theorem refVC_false_true_vn (t k oa ob oc na nb nc : Int) (w : World) (h3 : ¬ VRow ⟨t, k, ⟨na, nb, nc⟩⟩) : Calls Tryz.prog 103 #[chV ⟨t, k, false, ⟨oa, ob, oc⟩, true, ⟨na, nb, nc⟩⟩] w fun e w' => e = .returned (.bool (vc ⟨t, k, false, ⟨oa, ob, oc⟩, true, ⟨na, nb, nc⟩⟩)) ∧ Below w.heap.size w w' := by
  have hv : Hid (vc ⟨t, k, false, ⟨oa, ob, oc⟩, true, ⟨na, nb, nc⟩⟩ = false) := Lib.hid (decide_eq_false (fun h => h3 (h.2.2.2.1 rfl)))
  have H3 := Lib.hid h3
  clear h3
  rw [hv.out]
  go_enter Tryz.func103, Tryz.ntmps103
  have HC0 : Hid (ChAt (w.alloc (.cells #[.int .i64 t, .int .i64 k, .bool false, .int .i64 oa, .int .i64 ob, .int .i64 oc, .bool true, .int .i64 na, .int .i64 nb, .int .i64 nc] 45)) w.heap.size 0 ⟨t, k, false, ⟨oa, ob, oc⟩, true, ⟨na, nb, nc⟩⟩) := Lib.hid (ChAt_new w ⟨t, k, false, ⟨oa, ob, oc⟩, true, ⟨na, nb, nc⟩⟩)
  go_wp2_with fail
  (with_reducible refine (rbef_false t k oa ob oc na nb nc true _).mono ?_)
  rintro e w2 ⟨rfl, hb2⟩
  have hk2 := bt hb2 (ba w2 (.cells #[.int .i64 0, .int .i64 0, .int .i64 0, .int .i64 0, .int .i64 0] 57))
  have HB2 := Lib.hid (bt (ba w (.cells #[.int .i64 t, .int .i64 k, .bool false, .int .i64 oa, .int .i64 ob, .int .i64 oc, .bool true, .int .i64 na, .int .i64 nb, .int .i64 nc] 45)) hk2)
  have HC2 := Lib.hid (HC0.out.below (by simp) hk2)
  have HA2 := Lib.hid (RwAt.new w2 ⟨0, 0, ⟨0, 0, 0⟩⟩)
  have hl2 : w.heap.size < w2.heap.size := by have := hb2.size; simp only [World.size_alloc] at this; omega
  clear hb2 hk2 HC0
  obtain ⟨d0, d1, d2, d3, d4, d5, d6, d7, d8, d9⟩ := ChAt.cells HC2.out
  go_wp2_with fail
  (with_reducible refine (raft_true t k oa ob oc na nb nc false _).mono ?_)
  rintro e w3 ⟨rfl, hb3⟩
  have hk3 := bt hb3 (ba w3 (.cells #[.int .i64 t, .int .i64 k, .int .i64 na, .int .i64 nb, .int .i64 nc] 57))
  have HB3 := Lib.hid (bt HB2.out hk3)
  have HC3 := Lib.hid (HC2.out.below (by simp; omega) hk3)
  have HA3 := Lib.hid (HA2.out.below hk3)
  have HN3 := Lib.hid (RwAt.new w3 ⟨t, k, ⟨na, nb, nc⟩⟩)
  clear hb3 hk3 HC2 HA2 HB2 d0 d1 d2 d3 d4 d5 d6 d7 d8 d9
  obtain ⟨d0, d1, d2, d3, d4, d5, d6, d7, d8, d9⟩ := ChAt.cells HC3.out
  obtain ⟨a0, a1, a2, a3, a4⟩ := HA3.out
  obtain ⟨n0, n1, n2, n3, n4⟩ := HN3.out
  go_wp2_with fail
  (with_reducible refine (refValid_f ⟨t, k, ⟨na, nb, nc⟩⟩ _ H3.out).mono ?_)
  rintro e w4 ⟨rfl, hb4⟩
  have HB4 := Lib.hid (bt HB3.out hb4)
  have HC4 := Lib.hid (HC3.out.below (World.block_lt_of_cell? _ _ d0) hb4)
  have HN4 := Lib.hid (HN3.out.below hb4)
  clear hb4 d0 d1 d2 d3 d4 d5 d6 d7 d8 d9 a0 a1 a2 a3 a4 n0 n1 n2 n3 n4
  obtain ⟨d0, d1, d2, d3, d4, d5, d6, d7, d8, d9⟩ := ChAt.cells HC4.out
  obtain ⟨n0, n1, n2, n3, n4⟩ := HN4.out
  go_wp2_with fail
  go_ret
  exact ⟨rfl, HB4.out⟩
set_option maxRecDepth 100000 in
set_option maxHeartbeats 2000000 in
theorem refVC_false_true_z (t k oa ob oc na nb nc : Int) (w : World) (h3 : VRow ⟨t, k, ⟨na, nb, nc⟩⟩) (h2 : ¬ (⟨oa, ob, oc⟩ : V3) = ⟨0, 0, 0⟩) : Calls Tryz.prog 103 #[chV ⟨t, k, false, ⟨oa, ob, oc⟩, true, ⟨na, nb, nc⟩⟩] w fun e w' => e = .returned (.bool (vc ⟨t, k, false, ⟨oa, ob, oc⟩, true, ⟨na, nb, nc⟩⟩)) ∧ Below w.heap.size w w' := by
  have hv : Hid (vc ⟨t, k, false, ⟨oa, ob, oc⟩, true, ⟨na, nb, nc⟩⟩ = false) := Lib.hid (decide_eq_false (fun h => h2 (h.2.2.1.2 rfl)))
  have he := fun w => eql3 oa ob oc 0 0 0 w
  rw [show v3e ⟨oa, ob, oc⟩ ⟨0, 0, 0⟩ = false from decide_eq_false h2] at he
  have H3 := Lib.hid h3
  clear h2 h3
  rw [hv.out]
  go_enter Tryz.func103, Tryz.ntmps103
  have HC0 : Hid (ChAt (w.alloc (.cells #[.int .i64 t, .int .i64 k, .bool false, .int .i64 oa, .int .i64 ob, .int .i64 oc, .bool true, .int .i64 na, .int .i64 nb, .int .i64 nc] 45)) w.heap.size 0 ⟨t, k, false, ⟨oa, ob, oc⟩, true, ⟨na, nb, nc⟩⟩) := Lib.hid (ChAt_new w ⟨t, k, false, ⟨oa, ob, oc⟩, true, ⟨na, nb, nc⟩⟩)
  go_wp2_with fail
  (with_reducible refine (rbef_false t k oa ob oc na nb nc true _).mono ?_)
  rintro e w2 ⟨rfl, hb2⟩
  have hk2 := bt hb2 (ba w2 (.cells #[.int .i64 0, .int .i64 0, .int .i64 0, .int .i64 0, .int .i64 0] 57))
  have HB2 := Lib.hid (bt (ba w (.cells #[.int .i64 t, .int .i64 k, .bool false, .int .i64 oa, .int .i64 ob, .int .i64 oc, .bool true, .int .i64 na, .int .i64 nb, .int .i64 nc] 45)) hk2)
  have HC2 := Lib.hid (HC0.out.below (by simp) hk2)
  have HA2 := Lib.hid (RwAt.new w2 ⟨0, 0, ⟨0, 0, 0⟩⟩)
  have hl2 : w.heap.size < w2.heap.size := by have := hb2.size; simp only [World.size_alloc] at this; omega
  clear hb2 hk2 HC0
  obtain ⟨d0, d1, d2, d3, d4, d5, d6, d7, d8, d9⟩ := ChAt.cells HC2.out
  go_wp2_with fail
  (with_reducible refine (raft_true t k oa ob oc na nb nc false _).mono ?_)
  rintro e w3 ⟨rfl, hb3⟩
  have hk3 := bt hb3 (ba w3 (.cells #[.int .i64 t, .int .i64 k, .int .i64 na, .int .i64 nb, .int .i64 nc] 57))
  have HB3 := Lib.hid (bt HB2.out hk3)
  have HC3 := Lib.hid (HC2.out.below (by simp; omega) hk3)
  have HA3 := Lib.hid (HA2.out.below hk3)
  have HN3 := Lib.hid (RwAt.new w3 ⟨t, k, ⟨na, nb, nc⟩⟩)
  clear hb3 hk3 HC2 HA2 HB2 d0 d1 d2 d3 d4 d5 d6 d7 d8 d9
  obtain ⟨d0, d1, d2, d3, d4, d5, d6, d7, d8, d9⟩ := ChAt.cells HC3.out
  obtain ⟨a0, a1, a2, a3, a4⟩ := HA3.out
  obtain ⟨n0, n1, n2, n3, n4⟩ := HN3.out
  go_wp2_with fail
  (with_reducible refine (refValid_t ⟨t, k, ⟨na, nb, nc⟩⟩ _ H3.out).mono ?_)
  rintro e w4 ⟨rfl, hb4⟩
  have HB4 := Lib.hid (bt HB3.out hb4)
  have HC4 := Lib.hid (HC3.out.below (World.block_lt_of_cell? _ _ d0) hb4)
  have HN4 := Lib.hid (HN3.out.below hb4)
  clear hb4 d0 d1 d2 d3 d4 d5 d6 d7 d8 d9 a0 a1 a2 a3 a4 n0 n1 n2 n3 n4
  obtain ⟨d0, d1, d2, d3, d4, d5, d6, d7, d8, d9⟩ := ChAt.cells HC4.out
  obtain ⟨n0, n1, n2, n3, n4⟩ := HN4.out
  go_wp2_with fail
  go_ret
  exact ⟨rfl, HB4.out⟩
set_option maxRecDepth 100000 in
set_option maxHeartbeats 2000000 in
theorem refVC_false_true_ok (t k oa ob oc na nb nc : Int) (w : World) (h3 : VRow ⟨t, k, ⟨na, nb, nc⟩⟩) (h2 : (⟨oa, ob, oc⟩ : V3) = ⟨0, 0, 0⟩) : Calls Tryz.prog 103 #[chV ⟨t, k, false, ⟨oa, ob, oc⟩, true, ⟨na, nb, nc⟩⟩] w fun e w' => e = .returned (.bool (vc ⟨t, k, false, ⟨oa, ob, oc⟩, true, ⟨na, nb, nc⟩⟩)) ∧ Below w.heap.size w w' := by
  have hv : Hid (vc ⟨t, k, false, ⟨oa, ob, oc⟩, true, ⟨na, nb, nc⟩⟩ = true) := Lib.hid (decide_eq_true (⟨.inr rfl, (fun h => by cases h.1), ⟨(fun h => by cases h), fun _ => h2⟩, ⟨fun _ => h3, (fun h => by cases h)⟩⟩))
  have he := fun w => eql3 oa ob oc 0 0 0 w
  rw [show v3e ⟨oa, ob, oc⟩ ⟨0, 0, 0⟩ = true from decide_eq_true h2] at he
  have H3 := Lib.hid h3
  clear h2 h3
  rw [hv.out]
  go_enter Tryz.func103, Tryz.ntmps103
  have HC0 : Hid (ChAt (w.alloc (.cells #[.int .i64 t, .int .i64 k, .bool false, .int .i64 oa, .int .i64 ob, .int .i64 oc, .bool true, .int .i64 na, .int .i64 nb, .int .i64 nc] 45)) w.heap.size 0 ⟨t, k, false, ⟨oa, ob, oc⟩, true, ⟨na, nb, nc⟩⟩) := Lib.hid (ChAt_new w ⟨t, k, false, ⟨oa, ob, oc⟩, true, ⟨na, nb, nc⟩⟩)
  go_wp2_with fail
  (with_reducible refine (rbef_false t k oa ob oc na nb nc true _).mono ?_)
  rintro e w2 ⟨rfl, hb2⟩
  have hk2 := bt hb2 (ba w2 (.cells #[.int .i64 0, .int .i64 0, .int .i64 0, .int .i64 0, .int .i64 0] 57))
  have HB2 := Lib.hid (bt (ba w (.cells #[.int .i64 t, .int .i64 k, .bool false, .int .i64 oa, .int .i64 ob, .int .i64 oc, .bool true, .int .i64 na, .int .i64 nb, .int .i64 nc] 45)) hk2)
  have HC2 := Lib.hid (HC0.out.below (by simp) hk2)
  have HA2 := Lib.hid (RwAt.new w2 ⟨0, 0, ⟨0, 0, 0⟩⟩)
  have hl2 : w.heap.size < w2.heap.size := by have := hb2.size; simp only [World.size_alloc] at this; omega
  clear hb2 hk2 HC0
  obtain ⟨d0, d1, d2, d3, d4, d5, d6, d7, d8, d9⟩ := ChAt.cells HC2.out
  go_wp2_with fail
  (with_reducible refine (raft_true t k oa ob oc na nb nc false _).mono ?_)
  rintro e w3 ⟨rfl, hb3⟩
  have hk3 := bt hb3 (ba w3 (.cells #[.int .i64 t, .int .i64 k, .int .i64 na, .int .i64 nb, .int .i64 nc] 57))
  have HB3 := Lib.hid (bt HB2.out hk3)
  have HC3 := Lib.hid (HC2.out.below (by simp; omega) hk3)
  have HA3 := Lib.hid (HA2.out.below hk3)
  have HN3 := Lib.hid (RwAt.new w3 ⟨t, k, ⟨na, nb, nc⟩⟩)
  clear hb3 hk3 HC2 HA2 HB2 d0 d1 d2 d3 d4 d5 d6 d7 d8 d9
  obtain ⟨d0, d1, d2, d3, d4, d5, d6, d7, d8, d9⟩ := ChAt.cells HC3.out
  obtain ⟨a0, a1, a2, a3, a4⟩ := HA3.out
  obtain ⟨n0, n1, n2, n3, n4⟩ := HN3.out
  go_wp2_with fail
  (with_reducible refine (refValid_t ⟨t, k, ⟨na, nb, nc⟩⟩ _ H3.out).mono ?_)
  rintro e w4 ⟨rfl, hb4⟩
  have HB4 := Lib.hid (bt HB3.out hb4)
  have HC4 := Lib.hid (HC3.out.below (World.block_lt_of_cell? _ _ d0) hb4)
  have HN4 := Lib.hid (HN3.out.below hb4)
  clear hb4 d0 d1 d2 d3 d4 d5 d6 d7 d8 d9 a0 a1 a2 a3 a4 n0 n1 n2 n3 n4
  obtain ⟨d0, d1, d2, d3, d4, d5, d6, d7, d8, d9⟩ := ChAt.cells HC4.out
  obtain ⟨n0, n1, n2, n3, n4⟩ := HN4.out
  go_wp2_with fail
  go_ret
  exact ⟨rfl, HB4.out⟩
set_option maxRecDepth 100000 in
set_option maxHeartbeats 2000000 in
theorem refVC_true_true_eq (t k oa ob oc na nb nc : Int) (w : World) (h2 : (⟨oa, ob, oc⟩ : V3) = ⟨na, nb, nc⟩) : Calls Tryz.prog 103 #[chV ⟨t, k, true, ⟨oa, ob, oc⟩, true, ⟨na, nb, nc⟩⟩] w fun e w' => e = .returned (.bool (vc ⟨t, k, true, ⟨oa, ob, oc⟩, true, ⟨na, nb, nc⟩⟩)) ∧ Below w.heap.size w w' := by
  have hv : Hid (vc ⟨t, k, true, ⟨oa, ob, oc⟩, true, ⟨na, nb, nc⟩⟩ = false) := Lib.hid (decide_eq_false (fun h => h.2.1 ⟨rfl, rfl, h2⟩))
  have he := fun w => eql3 oa ob oc na nb nc w
  rw [show v3e ⟨oa, ob, oc⟩ ⟨na, nb, nc⟩ = true from decide_eq_true h2] at he
  clear h2
  rw [hv.out]
  go_enter Tryz.func103, Tryz.ntmps103
  have HC0 : Hid (ChAt (w.alloc (.cells #[.int .i64 t, .int .i64 k, .bool true, .int .i64 oa, .int .i64 ob, .int .i64 oc, .bool true, .int .i64 na, .int .i64 nb, .int .i64 nc] 45)) w.heap.size 0 ⟨t, k, true, ⟨oa, ob, oc⟩, true, ⟨na, nb, nc⟩⟩) := Lib.hid (ChAt_new w ⟨t, k, true, ⟨oa, ob, oc⟩, true, ⟨na, nb, nc⟩⟩)
  go_wp2_with fail
  (with_reducible refine (rbef_true t k oa ob oc na nb nc true _).mono ?_)
  rintro e w2 ⟨rfl, hb2⟩
  have hk2 := bt hb2 (ba w2 (.cells #[.int .i64 t, .int .i64 k, .int .i64 oa, .int .i64 ob, .int .i64 oc] 57))
  have HB2 := Lib.hid (bt (ba w (.cells #[.int .i64 t, .int .i64 k, .bool true, .int .i64 oa, .int .i64 ob, .int .i64 oc, .bool true, .int .i64 na, .int .i64 nb, .int .i64 nc] 45)) hk2)
  have HC2 := Lib.hid (HC0.out.below (by simp) hk2)
  have HA2 := Lib.hid (RwAt.new w2 ⟨t, k, ⟨oa, ob, oc⟩⟩)
  have hl2 : w.heap.size < w2.heap.size := by have := hb2.size; simp only [World.size_alloc] at this; omega
  clear hb2 hk2 HC0
  obtain ⟨d0, d1, d2, d3, d4, d5, d6, d7, d8, d9⟩ := ChAt.cells HC2.out
  go_wp2_with fail
  (with_reducible refine (raft_true t k oa ob oc na nb nc true _).mono ?_)
  rintro e w3 ⟨rfl, hb3⟩
  have hk3 := bt hb3 (ba w3 (.cells #[.int .i64 t, .int .i64 k, .int .i64 na, .int .i64 nb, .int .i64 nc] 57))
  have HB3 := Lib.hid (bt HB2.out hk3)
  have HC3 := Lib.hid (HC2.out.below (by simp; omega) hk3)
  have HA3 := Lib.hid (HA2.out.below hk3)
  have HN3 := Lib.hid (RwAt.new w3 ⟨t, k, ⟨na, nb, nc⟩⟩)
  clear hb3 hk3 HC2 HA2 HB2 d0 d1 d2 d3 d4 d5 d6 d7 d8 d9
  obtain ⟨d0, d1, d2, d3, d4, d5, d6, d7, d8, d9⟩ := ChAt.cells HC3.out
  obtain ⟨a0, a1, a2, a3, a4⟩ := HA3.out
  obtain ⟨n0, n1, n2, n3, n4⟩ := HN3.out
  go_wp2_with fail
  go_ret
  exact ⟨rfl, HB3.out⟩
set_option maxRecDepth 100000 in
set_option maxHeartbeats 2000000 in
theorem refVC_true_true_vo (t k oa ob oc na nb nc : Int) (w : World) (h2 : ¬ (⟨oa, ob, oc⟩ : V3) = ⟨na, nb, nc⟩) (h3 : ¬ VRow ⟨t, k, ⟨oa, ob, oc⟩⟩) : Calls Tryz.prog 103 #[chV ⟨t, k, true, ⟨oa, ob, oc⟩, true, ⟨na, nb, nc⟩⟩] w fun e w' => e = .returned (.bool (vc ⟨t, k, true, ⟨oa, ob, oc⟩, true, ⟨na, nb, nc⟩⟩)) ∧ Below w.heap.size w w' := by
  have hv : Hid (vc ⟨t, k, true, ⟨oa, ob, oc⟩, true, ⟨na, nb, nc⟩⟩ = false) := Lib.hid (decide_eq_false (fun h => h3 (h.2.2.1.1 rfl)))
  have he := fun w => eql3 oa ob oc na nb nc w
  rw [show v3e ⟨oa, ob, oc⟩ ⟨na, nb, nc⟩ = false from decide_eq_false h2] at he
  have H3 := Lib.hid h3
  clear h2 h3
  rw [hv.out]
  go_enter Tryz.func103, Tryz.ntmps103
  have HC0 : Hid (ChAt (w.alloc (.cells #[.int .i64 t, .int .i64 k, .bool true, .int .i64 oa, .int .i64 ob, .int .i64 oc, .bool true, .int .i64 na, .int .i64 nb, .int .i64 nc] 45)) w.heap.size 0 ⟨t, k, true, ⟨oa, ob, oc⟩, true, ⟨na, nb, nc⟩⟩) := Lib.hid (ChAt_new w ⟨t, k, true, ⟨oa, ob, oc⟩, true, ⟨na, nb, nc⟩⟩)
  go_wp2_with fail
  (with_reducible refine (rbef_true t k oa ob oc na nb nc true _).mono ?_)
  rintro e w2 ⟨rfl, hb2⟩
  have hk2 := bt hb2 (ba w2 (.cells #[.int .i64 t, .int .i64 k, .int .i64 oa, .int .i64 ob, .int .i64 oc] 57))
  have HB2 := Lib.hid (bt (ba w (.cells #[.int .i64 t, .int .i64 k, .bool true, .int .i64 oa, .int .i64 ob, .int .i64 oc, .bool true, .int .i64 na, .int .i64 nb, .int .i64 nc] 45)) hk2)
  have HC2 := Lib.hid (HC0.out.below (by simp) hk2)
  have HA2 := Lib.hid (RwAt.new w2 ⟨t, k, ⟨oa, ob, oc⟩⟩)
  have hl2 : w.heap.size < w2.heap.size := by have := hb2.size; simp only [World.size_alloc] at this; omega
  clear hb2 hk2 HC0
  obtain ⟨d0, d1, d2, d3, d4, d5, d6, d7, d8, d9⟩ := ChAt.cells HC2.out
  go_wp2_with fail
  (with_reducible refine (raft_true t k oa ob oc na nb nc true _).mono ?_)
  rintro e w3 ⟨rfl, hb3⟩
  have hk3 := bt hb3 (ba w3 (.cells #[.int .i64 t, .int .i64 k, .int .i64 na, .int .i64 nb, .int .i64 nc] 57))
  have HB3 := Lib.hid (bt HB2.out hk3)
  have HC3 := Lib.hid (HC2.out.below (by simp; omega) hk3)
  have HA3 := Lib.hid (HA2.out.below hk3)
  have HN3 := Lib.hid (RwAt.new w3 ⟨t, k, ⟨na, nb, nc⟩⟩)
  clear hb3 hk3 HC2 HA2 HB2 d0 d1 d2 d3 d4 d5 d6 d7 d8 d9
  obtain ⟨d0, d1, d2, d3, d4, d5, d6, d7, d8, d9⟩ := ChAt.cells HC3.out
  obtain ⟨a0, a1, a2, a3, a4⟩ := HA3.out
  obtain ⟨n0, n1, n2, n3, n4⟩ := HN3.out
  go_wp2_with fail
  (with_reducible refine (refValid_f ⟨t, k, ⟨oa, ob, oc⟩⟩ _ H3.out).mono ?_)
  rintro e w4 ⟨rfl, hb4⟩
  have HB4 := Lib.hid (bt HB3.out hb4)
  have HC4 := Lib.hid (HC3.out.below (World.block_lt_of_cell? _ _ d0) hb4)
  have HN4 := Lib.hid (HN3.out.below hb4)
  clear hb4 d0 d1 d2 d3 d4 d5 d6 d7 d8 d9 a0 a1 a2 a3 a4 n0 n1 n2 n3 n4
  obtain ⟨d0, d1, d2, d3, d4, d5, d6, d7, d8, d9⟩ := ChAt.cells HC4.out
  obtain ⟨n0, n1, n2, n3, n4⟩ := HN4.out
  go_wp2_with fail
  go_ret
  exact ⟨rfl, HB4.out⟩
set_option maxRecDepth 100000 in
set_option maxHeartbeats 2000000 in
theorem refVC_true_true_vn (t k oa ob oc na nb nc : Int) (w : World) (h2 : ¬ (⟨oa, ob, oc⟩ : V3) = ⟨na, nb, nc⟩) (h3 : VRow ⟨t, k, ⟨oa, ob, oc⟩⟩) (h4 : ¬ VRow ⟨t, k, ⟨na, nb, nc⟩⟩) : Calls Tryz.prog 103 #[chV ⟨t, k, true, ⟨oa, ob, oc⟩, true, ⟨na, nb, nc⟩⟩] w fun e w' => e = .returned (.bool (vc ⟨t, k, true, ⟨oa, ob, oc⟩, true, ⟨na, nb, nc⟩⟩)) ∧ Below w.heap.size w w' := by
  have hv : Hid (vc ⟨t, k, true, ⟨oa, ob, oc⟩, true, ⟨na, nb, nc⟩⟩ = false) := Lib.hid (decide_eq_false (fun h => h4 (h.2.2.2.1 rfl)))
  have he := fun w => eql3 oa ob oc na nb nc w
  rw [show v3e ⟨oa, ob, oc⟩ ⟨na, nb, nc⟩ = false from decide_eq_false h2] at he
  have H3 := Lib.hid h3
  have H4 := Lib.hid h4
  clear h2 h3 h4
  rw [hv.out]
  go_enter Tryz.func103, Tryz.ntmps103
  have HC0 : Hid (ChAt (w.alloc (.cells #[.int .i64 t, .int .i64 k, .bool true, .int .i64 oa, .int .i64 ob, .int .i64 oc, .bool true, .int .i64 na, .int .i64 nb, .int .i64 nc] 45)) w.heap.size 0 ⟨t, k, true, ⟨oa, ob, oc⟩, true, ⟨na, nb, nc⟩⟩) := Lib.hid (ChAt_new w ⟨t, k, true, ⟨oa, ob, oc⟩, true, ⟨na, nb, nc⟩⟩)
  go_wp2_with fail
  (with_reducible refine (rbef_true t k oa ob oc na nb nc true _).mono ?_)
  rintro e w2 ⟨rfl, hb2⟩
  have hk2 := bt hb2 (ba w2 (.cells #[.int .i64 t, .int .i64 k, .int .i64 oa, .int .i64 ob, .int .i64 oc] 57))
  have HB2 := Lib.hid (bt (ba w (.cells #[.int .i64 t, .int .i64 k, .bool true, .int .i64 oa, .int .i64 ob, .int .i64 oc, .bool true, .int .i64 na, .int .i64 nb, .int .i64 nc] 45)) hk2)
  have HC2 := Lib.hid (HC0.out.below (by simp) hk2)
  have HA2 := Lib.hid (RwAt.new w2 ⟨t, k, ⟨oa, ob, oc⟩⟩)
  have hl2 : w.heap.size < w2.heap.size := by have := hb2.size; simp only [World.size_alloc] at this; omega
  clear hb2 hk2 HC0
  obtain ⟨d0, d1, d2, d3, d4, d5, d6, d7, d8, d9⟩ := ChAt.cells HC2.out
  go_wp2_with fail
  (with_reducible refine (raft_true t k oa ob oc na nb nc true _).mono ?_)
  rintro e w3 ⟨rfl, hb3⟩
  have hk3 := bt hb3 (ba w3 (.cells #[.int .i64 t, .int .i64 k, .int .i64 na, .int .i64 nb, .int .i64 nc] 57))
  have HB3 := Lib.hid (bt HB2.out hk3)
  have HC3 := Lib.hid (HC2.out.below (by simp; omega) hk3)
  have HA3 := Lib.hid (HA2.out.below hk3)
  have HN3 := Lib.hid (RwAt.new w3 ⟨t, k, ⟨na, nb, nc⟩⟩)
  clear hb3 hk3 HC2 HA2 HB2 d0 d1 d2 d3 d4 d5 d6 d7 d8 d9
  obtain ⟨d0, d1, d2, d3, d4, d5, d6, d7, d8, d9⟩ := ChAt.cells HC3.out
  obtain ⟨a0, a1, a2, a3, a4⟩ := HA3.out
  obtain ⟨n0, n1, n2, n3, n4⟩ := HN3.out
  go_wp2_with fail
  (with_reducible refine (refValid_t ⟨t, k, ⟨oa, ob, oc⟩⟩ _ H3.out).mono ?_)
  rintro e w4 ⟨rfl, hb4⟩
  have HB4 := Lib.hid (bt HB3.out hb4)
  have HC4 := Lib.hid (HC3.out.below (World.block_lt_of_cell? _ _ d0) hb4)
  have HN4 := Lib.hid (HN3.out.below hb4)
  clear hb4 d0 d1 d2 d3 d4 d5 d6 d7 d8 d9 a0 a1 a2 a3 a4 n0 n1 n2 n3 n4
  obtain ⟨d0, d1, d2, d3, d4, d5, d6, d7, d8, d9⟩ := ChAt.cells HC4.out
  obtain ⟨n0, n1, n2, n3, n4⟩ := HN4.out
  go_wp2_with fail
  (with_reducible refine (refValid_f ⟨t, k, ⟨na, nb, nc⟩⟩ _ H4.out).mono ?_)
  rintro e w5 ⟨rfl, hb5⟩
  have HB5 := Lib.hid (bt HB4.out hb5)
  have HC5 := Lib.hid (HC4.out.below (World.block_lt_of_cell? _ _ d0) hb5)
  have HN5 := Lib.hid (HN4.out.below hb5)
  clear hb5 d0 d1 d2 d3 d4 d5 d6 d7 d8 d9 n0 n1 n2 n3 n4
  obtain ⟨d0, d1, d2, d3, d4, d5, d6, d7, d8, d9⟩ := ChAt.cells HC5.out
  obtain ⟨n0, n1, n2, n3, n4⟩ := HN5.out
  go_wp2_with fail
  go_ret
  exact ⟨rfl, HB5.out⟩
set_option maxRecDepth 100000 in
set_option maxHeartbeats 2000000 in
theorem refVC_true_true_ok (t k oa ob oc na nb nc : Int) (w : World) (h2 : ¬ (⟨oa, ob, oc⟩ : V3) = ⟨na, nb, nc⟩) (h3 : VRow ⟨t, k, ⟨oa, ob, oc⟩⟩) (h4 : VRow ⟨t, k, ⟨na, nb, nc⟩⟩) : Calls Tryz.prog 103 #[chV ⟨t, k, true, ⟨oa, ob, oc⟩, true, ⟨na, nb, nc⟩⟩] w fun e w' => e = .returned (.bool (vc ⟨t, k, true, ⟨oa, ob, oc⟩, true, ⟨na, nb, nc⟩⟩)) ∧ Below w.heap.size w w' := by
  have hv : Hid (vc ⟨t, k, true, ⟨oa, ob, oc⟩, true, ⟨na, nb, nc⟩⟩ = true) := Lib.hid (decide_eq_true (⟨.inl rfl, fun h => h2 h.2.2, ⟨fun _ => h3, fun h => by cases h⟩, ⟨fun _ => h4, fun h => by cases h⟩⟩))
  have he := fun w => eql3 oa ob oc na nb nc w
  rw [show v3e ⟨oa, ob, oc⟩ ⟨na, nb, nc⟩ = false from decide_eq_false h2] at he
  have H3 := Lib.hid h3
  have H4 := Lib.hid h4
  clear h2 h3 h4
  rw [hv.out]
  go_enter Tryz.func103, Tryz.ntmps103
  have HC0 : Hid (ChAt (w.alloc (.cells #[.int .i64 t, .int .i64 k, .bool true, .int .i64 oa, .int .i64 ob, .int .i64 oc, .bool true, .int .i64 na, .int .i64 nb, .int .i64 nc] 45)) w.heap.size 0 ⟨t, k, true, ⟨oa, ob, oc⟩, true, ⟨na, nb, nc⟩⟩) := Lib.hid (ChAt_new w ⟨t, k, true, ⟨oa, ob, oc⟩, true, ⟨na, nb, nc⟩⟩)
  go_wp2_with fail
  (with_reducible refine (rbef_true t k oa ob oc na nb nc true _).mono ?_)
  rintro e w2 ⟨rfl, hb2⟩
  have hk2 := bt hb2 (ba w2 (.cells #[.int .i64 t, .int .i64 k, .int .i64 oa, .int .i64 ob, .int .i64 oc] 57))
  have HB2 := Lib.hid (bt (ba w (.cells #[.int .i64 t, .int .i64 k, .bool true, .int .i64 oa, .int .i64 ob, .int .i64 oc, .bool true, .int .i64 na, .int .i64 nb, .int .i64 nc] 45)) hk2)
  have HC2 := Lib.hid (HC0.out.below (by simp) hk2)
  have HA2 := Lib.hid (RwAt.new w2 ⟨t, k, ⟨oa, ob, oc⟩⟩)
  have hl2 : w.heap.size < w2.heap.size := by have := hb2.size; simp only [World.size_alloc] at this; omega
  clear hb2 hk2 HC0
  obtain ⟨d0, d1, d2, d3, d4, d5, d6, d7, d8, d9⟩ := ChAt.cells HC2.out
  go_wp2_with fail
  (with_reducible refine (raft_true t k oa ob oc na nb nc true _).mono ?_)
  rintro e w3 ⟨rfl, hb3⟩
  have hk3 := bt hb3 (ba w3 (.cells #[.int .i64 t, .int .i64 k, .int .i64 na, .int .i64 nb, .int .i64 nc] 57))
  have HB3 := Lib.hid (bt HB2.out hk3)
  have HC3 := Lib.hid (HC2.out.below (by simp; omega) hk3)
  have HA3 := Lib.hid (HA2.out.below hk3)
  have HN3 := Lib.hid (RwAt.new w3 ⟨t, k, ⟨na, nb, nc⟩⟩)
  clear hb3 hk3 HC2 HA2 HB2 d0 d1 d2 d3 d4 d5 d6 d7 d8 d9
  obtain ⟨d0, d1, d2, d3, d4, d5, d6, d7, d8, d9⟩ := ChAt.cells HC3.out
  obtain ⟨a0, a1, a2, a3, a4⟩ := HA3.out
  obtain ⟨n0, n1, n2, n3, n4⟩ := HN3.out
  go_wp2_with fail
  (with_reducible refine (refValid_t ⟨t, k, ⟨oa, ob, oc⟩⟩ _ H3.out).mono ?_)
  rintro e w4 ⟨rfl, hb4⟩
  have HB4 := Lib.hid (bt HB3.out hb4)
  have HC4 := Lib.hid (HC3.out.below (World.block_lt_of_cell? _ _ d0) hb4)
  have HN4 := Lib.hid (HN3.out.below hb4)
  clear hb4 d0 d1 d2 d3 d4 d5 d6 d7 d8 d9 a0 a1 a2 a3 a4 n0 n1 n2 n3 n4
  obtain ⟨d0, d1, d2, d3, d4, d5, d6, d7, d8, d9⟩ := ChAt.cells HC4.out
  obtain ⟨n0, n1, n2, n3, n4⟩ := HN4.out
  go_wp2_with fail
  (with_reducible refine (refValid_t ⟨t, k, ⟨na, nb, nc⟩⟩ _ H4.out).mono ?_)
  rintro e w5 ⟨rfl, hb5⟩
  have HB5 := Lib.hid (bt HB4.out hb5)
  have HC5 := Lib.hid (HC4.out.below (World.block_lt_of_cell? _ _ d0) hb5)
  have HN5 := Lib.hid (HN4.out.below hb5)
  clear hb5 d0 d1 d2 d3 d4 d5 d6 d7 d8 d9 n0 n1 n2 n3 n4
  obtain ⟨d0, d1, d2, d3, d4, d5, d6, d7, d8, d9⟩ := ChAt.cells HC5.out
  obtain ⟨n0, n1, n2, n3, n4⟩ := HN5.out
  go_wp2_with fail
  go_ret
  exact ⟨rfl, HB5.out⟩
theorem refValidChange_any (c : MCh) (w : World) : Calls Tryz.prog 103 #[chV c] w fun e w' => e = .returned (.bool (vc c)) ∧ Below w.heap.size w w' := by
  obtain ⟨t, k, had, ⟨oa, ob, oc⟩, has, ⟨na, nb, nc⟩⟩ := c
  cases had <;> cases has
  · exact refVC_false_false_none t k oa ob oc na nb nc w
  · by_cases h3 : VRow ⟨t, k, ⟨na, nb, nc⟩⟩
    · by_cases h2 : (⟨oa, ob, oc⟩ : V3) = ⟨0, 0, 0⟩
      · exact refVC_false_true_ok t k oa ob oc na nb nc w h3 h2
      · exact refVC_false_true_z t k oa ob oc na nb nc w h3 h2
    · exact refVC_false_true_vn t k oa ob oc na nb nc w h3
  · by_cases h3 : VRow ⟨t, k, ⟨oa, ob, oc⟩⟩
    · by_cases h2 : (⟨na, nb, nc⟩ : V3) = ⟨0, 0, 0⟩
      · exact refVC_true_false_ok t k oa ob oc na nb nc w h3 h2
      · exact refVC_true_false_z t k oa ob oc na nb nc w h3 h2
    · exact refVC_true_false_vo t k oa ob oc na nb nc w h3
  · by_cases h2 : (⟨oa, ob, oc⟩ : V3) = ⟨na, nb, nc⟩
    · exact refVC_true_true_eq t k oa ob oc na nb nc w h2
    · by_cases h3 : VRow ⟨t, k, ⟨oa, ob, oc⟩⟩
      · by_cases h4 : VRow ⟨t, k, ⟨na, nb, nc⟩⟩
        · exact refVC_true_true_ok t k oa ob oc na nb nc w h2 h3 h4
        · exact refVC_true_true_vn t k oa ob oc na nb nc w h2 h3 h4
      · exact refVC_true_true_vo t k oa ob oc na nb nc w h2 h3
theorem refVC_t (c : MCh) (w : World) (h : VCh c) : Calls Tryz.prog 103 #[chV c] w fun e w' => e = .returned (.bool true) ∧ Below w.heap.size w w' :=
  (refValidChange_any c w).mono fun e w' hw => by rw [vc, decide_eq_true h] at hw; exact hw
theorem refVC_f (c : MCh) (w : World) (h : ¬ VCh c) : Calls Tryz.prog 103 #[chV c] w fun e w' => e = .returned (.bool false) ∧ Below w.heap.size w w' :=
  (refValidChange_any c w).mono fun e w' hw => by rw [vc, decide_eq_false h] at hw; exact hw
end Go.Proofs.YtgbnjjgnihjfgaaGreat
end

section
set_option linter.unusedVariables false
set_option linter.unusedSimpArgs false
namespace Go.Proofs.YtgbnjjgnihjfgaaGreat
open Go.RowKit Go.Sort
set_option maxRecDepth 100000 in
set_option maxHeartbeats 8000000 in
theorem refValidRecord_in (p : Int) (n cap : Nat) (L : List MCh) (w : World) (hn : n = L.length) (h1 : 1 ≤ p ∧ p ≤ 10000) (h2 : 1 ≤ n ∧ n ≤ 8) (b o : Nat) (hb : b < w.heap.size) (hc : ∀ i, i < n → ChAt w b (o + i * 10) (L.getD i chZ)) :
    Calls Tryz.prog 62 #[.agg #[.int .i64 p, .slice (some ⟨b, o, none⟩) n cap]] w fun e w' => e = .returned (.bool (vrec p L)) ∧ Below w.heap.size w w' := by
  have HN := Lib.hid hn
  have HC := Lib.hid hc
  have H1 := Lib.hid h1
  have H2 := Lib.hid h2
  have H2i : Hid ((1 : Int) ≤ (n : Int) ∧ (n : Int) ≤ 8) := Lib.hid (by omega)
  have hn8 : n ≤ 8 := h2.2
  clear hn hc h1 h2
  go_enter Tryz.func62, Tryz.ntmps62
  have HP0 := Lib.hid (⟨by simp [go_sem], by simp [go_sem]⟩ : (w.alloc (.cells #[.int .i64 p, .slice (some ⟨b, o, none⟩) n cap] 41)).cell? ⟨w.heap.size, 0, none⟩ = some (.int .i64 p) ∧ (w.alloc (.cells #[.int .i64 p, .slice (some ⟨b, o, none⟩) n cap] 41)).cell? ⟨w.heap.size, 1, none⟩ = some (.slice (some ⟨b, o, none⟩) n cap))
  go_wp2_with fail
  (with_reducible refine (within_t p _ _ _ H1.out).mono ?_)
  rintro e w1 ⟨rfl, rfl⟩
  go_wp2_with fail
  (with_reducible refine (within_t n _ _ _ H2i.out).mono ?_)
  rintro e w1 ⟨rfl, rfl⟩
  go_wp2_with fail
  go_loopw [3, 4, 5] (fun i _ _ wr => ∃ k : Nat, k ≤ n ∧ i = .int .i64 k ∧ Hid (Below (w.heap.size + 1) (w.alloc (.cells #[.int .i64 p, .slice (some ⟨b, o, none⟩) n cap] 41)) wr) ∧ Hid (∀ j, j < k → VGo L j)) (fun i _ _ _ => n - (intOf i).toNat)
  case atStart => exact ⟨0, by omega, rfl, Lib.hid (by simpa using Below.refl (w.alloc (.cells #[.int .i64 p, .slice (some ⟨b, o, none⟩) n cap] 41)).heap.size _), Lib.hid (fun j hj => by omega)⟩
  case round =>
    obtain ⟨k, hk, rfl, HB, HV⟩ := hrel
    have HB' : Hid (Below (w.alloc (.cells #[.int .i64 p, .slice (some ⟨b, o, none⟩) n cap] 41)).heap.size (w.alloc (.cells #[.int .i64 p, .slice (some ⟨b, o, none⟩) n cap] 41)) wr) := Lib.hid (by simpa using HB.out)
    have hsz : w.heap.size + 1 ≤ wr.heap.size := by have := HB'.out.size; simpa using this
    have Hw0 : Hid (Below w.heap.size w wr) := Lib.hid (bt (ba w _) HB'.out)
    have hr1 : wr.cell? ⟨w.heap.size, 1, none⟩ = some (.slice (some ⟨b, o, none⟩) n cap) := by rw [(bcell HB'.out).1 _ _ (by simp)]; exact HP0.out.2
    by_cases hlt : k < n
    · have HCk := (HC.out k hlt).below hb Hw0.out
      have HVk : Hid (VGo L k ↔ VCh (L.getD k chZ) ∧ (0 < k → Prec (L.getD (k - 1) chZ) (L.getD k chZ))) := Lib.hid Iff.rfl
      have HF : Hid (¬ VGo L k → ¬ VRec p L) := Lib.hid (fun h hh => h (hh.2.2 k (by rw [← HN.out]; exact hlt)))
      obtain ⟨c, HcE⟩ : ∃ c, Hid (L.getD k chZ = c) := ⟨_, Lib.hid rfl⟩
      rw [HcE.out] at HCk HVk
      obtain ⟨t, kk, had, ⟨oa, ob, oc⟩, has, ⟨na, nb, nc⟩⟩ := c
      obtain ⟨d0, d1, d2, d3, d4, d5, d6, d7, d8, d9⟩ := HCk.cells
      by_cases hv : VCh ⟨t, kk, had, ⟨oa, ob, oc⟩, has, ⟨na, nb, nc⟩⟩
      · have HVc := Lib.hid hv
        clear hv
        by_cases hk0 : 0 < k
        · obtain ⟨q, rfl⟩ : ∃ q, k = q + 1 := ⟨k - 1, by omega⟩
          have HCq := (HC.out q (by omega)).below hb Hw0.out
          obtain ⟨c', HcE'⟩ : ∃ c', Hid (L.getD q chZ = c') := ⟨_, Lib.hid rfl⟩
          rw [HcE'.out] at HCq
          rw [Nat.add_sub_cancel, HcE'.out] at HVk
          obtain ⟨t', kk', had', ⟨oa', ob', oc'⟩, has', ⟨na', nb', nc'⟩⟩ := c'
          by_cases hp : Prec ⟨t', kk', had', ⟨oa', ob', oc'⟩, has', ⟨na', nb', nc'⟩⟩ ⟨t, kk, had, ⟨oa, ob, oc⟩, has, ⟨na, nb, nc⟩⟩
          · have HNV : Hid (VGo L (q + 1)) := Lib.hid (HVk.out.2 ⟨HVc.out, fun _ => hp⟩)
            have HPt : Hid (t' < t ∨ t' = t ∧ kk' < kk) := Lib.hid hp
            clear hp hk0
            obtain ⟨b1, b2, b3, hd1, hd2, hd3, HX⟩ : ∃ b1 b2 b3, decide (t < t') = b1 ∧ (t' == t) = b2 ∧ decide (kk ≤ kk') = b3 ∧ Hid (b1 = false ∧ (b2 = false ∨ b3 = false)) := ⟨_, _, _, rfl, rfl, rfl, Lib.hid (by
              rcases HPt.out with h | ⟨h, h2⟩
              · exact ⟨decide_eq_false (by omega), .inl (by simp; omega)⟩
              · exact ⟨decide_eq_false (by omega), .inr (decide_eq_false (by omega))⟩)⟩
            obtain ⟨rfl, hb23⟩ := HX.out
            have hw1 : IntKind.i64.wrap ((q : Int) + 1 - 1) = (q : Int) := by rw [IntKind.wrap_i64]; omega
            go_wp2_with fail
            (with_reducible refine (refVC_t ⟨t, kk, had, ⟨oa, ob, oc⟩, has, ⟨na, nb, nc⟩⟩ _ HVc.out).mono ?_)
            rintro e w5 ⟨rfl, hb5⟩
            have HC5 := Lib.hid (ChAt.below (ChAt_new wr ⟨t, kk, had, ⟨oa, ob, oc⟩, has, ⟨na, nb, nc⟩⟩) (by simp) hb5)
            have hbk := bt (ba wr (.cells #[.int .i64 t, .int .i64 kk, .bool had, .int .i64 oa, .int .i64 ob, .int .i64 oc, .bool has, .int .i64 na, .int .i64 nb, .int .i64 nc] 45)) hb5
            have hr5 : w5.cell? ⟨w.heap.size, 1, none⟩ = some (.slice (some ⟨b, o, none⟩) n cap) := by rw [(bcell hbk).1 _ _ (by omega)]; exact hr1
            have HCq5 := HCq.below (Nat.lt_of_lt_of_le hb Hw0.out.size) hbk
            have hl5 : wr.heap.size < w5.heap.size := by have := hb5.size; simp only [World.size_alloc] at this; omega
            have HB7 : Hid (Below wr.heap.size wr (w5.alloc (.cells #[.int .i64 t', .int .i64 kk', .bool had', .int .i64 oa', .int .i64 ob', .int .i64 oc', .bool has', .int .i64 na', .int .i64 nb', .int .i64 nc'] 45))) := Lib.hid (bt hbk (ba _ _))
            have HBn : Hid (Below (w.heap.size + 1) (w.alloc (.cells #[.int .i64 p, .slice (some ⟨b, o, none⟩) n cap] 41)) (w5.alloc (.cells #[.int .i64 t', .int .i64 kk', .bool had', .int .i64 oa', .int .i64 ob', .int .i64 oc', .bool has', .int .i64 na', .int .i64 nb', .int .i64 nc'] 45))) := Lib.hid (HB.out.trans (HB7.out.mono hsz))
            clear hb5 hbk d0 d1 d2 d3 d4 d5 d6 d7 d8 d9 hr1
            obtain ⟨d0, d1, d2, d3, d4, d5, d6, d7, d8, d9⟩ := HC5.out.cells
            obtain ⟨e0, e1, e2, e3, e4, e5, e6, e7, e8, e9⟩ := HCq5.cells
            rcases hb23 with rfl | rfl
            · go_wp2_with fail
              exact ⟨⟨q + 1 + 1, by omega, by go_num, HBn, Lib.hid (fun j hj => by
                rcases Nat.lt_or_eq_of_le (Nat.le_of_lt_succ hj) with h | rfl
                · exact HV.out j h
                · exact HNV.out)⟩, by simp [intOf]; omega⟩
            · cases b2
              · go_wp2_with fail
                exact ⟨⟨q + 1 + 1, by omega, by go_num, HBn, Lib.hid (fun j hj => by
                  rcases Nat.lt_or_eq_of_le (Nat.le_of_lt_succ hj) with h | rfl
                  · exact HV.out j h
                  · exact HNV.out)⟩, by simp [intOf]; omega⟩
              · go_wp2_with fail
                exact ⟨⟨q + 1 + 1, by omega, by go_num, HBn, Lib.hid (fun j hj => by
                  rcases Nat.lt_or_eq_of_le (Nat.le_of_lt_succ hj) with h | rfl
                  · exact HV.out j h
                  · exact HNV.out)⟩, by simp [intOf]; omega⟩
          · have HPt : Hid (¬ (t' < t ∨ t' = t ∧ kk' < kk)) := Lib.hid hp
            have HNV : Hid (¬ VGo L (q + 1)) := Lib.hid (fun h => hp ((HVk.out.1 h).2 (by omega)))
            clear hp hk0
            obtain ⟨b1, b2, b3, hd1, hd2, hd3, HX⟩ : ∃ b1 b2 b3, decide (t < t') = b1 ∧ (t' == t) = b2 ∧ decide (kk ≤ kk') = b3 ∧ Hid (b1 = true ∨ (b1 = false ∧ b2 = true ∧ b3 = true)) := ⟨_, _, _, rfl, rfl, rfl, Lib.hid (by
              have h := HPt.out
              by_cases h1 : t < t'
              · exact .inl (decide_eq_true h1)
              · exact .inr ⟨decide_eq_false h1, by simp; omega, decide_eq_true (by omega)⟩)⟩
            have hw1 : IntKind.i64.wrap ((q : Int) + 1 - 1) = (q : Int) := by rw [IntKind.wrap_i64]; omega
            go_wp2_with fail
            (with_reducible refine (refVC_t ⟨t, kk, had, ⟨oa, ob, oc⟩, has, ⟨na, nb, nc⟩⟩ _ HVc.out).mono ?_)
            rintro e w5 ⟨rfl, hb5⟩
            have HC5 := Lib.hid (ChAt.below (ChAt_new wr ⟨t, kk, had, ⟨oa, ob, oc⟩, has, ⟨na, nb, nc⟩⟩) (by simp) hb5)
            have hbk := bt (ba wr (.cells #[.int .i64 t, .int .i64 kk, .bool had, .int .i64 oa, .int .i64 ob, .int .i64 oc, .bool has, .int .i64 na, .int .i64 nb, .int .i64 nc] 45)) hb5
            have hr5 : w5.cell? ⟨w.heap.size, 1, none⟩ = some (.slice (some ⟨b, o, none⟩) n cap) := by rw [(bcell hbk).1 _ _ (by omega)]; exact hr1
            have HCq5 := HCq.below (Nat.lt_of_lt_of_le hb Hw0.out.size) hbk
            have hl5 : wr.heap.size < w5.heap.size := by have := hb5.size; simp only [World.size_alloc] at this; omega
            have HB7 : Hid (Below wr.heap.size wr (w5.alloc (.cells #[.int .i64 t', .int .i64 kk', .bool had', .int .i64 oa', .int .i64 ob', .int .i64 oc', .bool has', .int .i64 na', .int .i64 nb', .int .i64 nc'] 45))) := Lib.hid (bt hbk (ba _ _))
            have HBn : Hid (Below (w.heap.size + 1) (w.alloc (.cells #[.int .i64 p, .slice (some ⟨b, o, none⟩) n cap] 41)) (w5.alloc (.cells #[.int .i64 t', .int .i64 kk', .bool had', .int .i64 oa', .int .i64 ob', .int .i64 oc', .bool has', .int .i64 na', .int .i64 nb', .int .i64 nc'] 45))) := Lib.hid (HB.out.trans (HB7.out.mono hsz))
            clear hb5 hbk d0 d1 d2 d3 d4 d5 d6 d7 d8 d9 hr1
            obtain ⟨d0, d1, d2, d3, d4, d5, d6, d7, d8, d9⟩ := HC5.out.cells
            obtain ⟨e0, e1, e2, e3, e4, e5, e6, e7, e8, e9⟩ := HCq5.cells
            rcases HX.out with rfl | ⟨rfl, rfl, rfl⟩
            · go_wp2_with fail
              go_ret
              exact ⟨vrec_f (HF.out HNV.out), bt Hw0.out HB7.out⟩
            · go_wp2_with fail
              go_ret
              exact ⟨vrec_f (HF.out HNV.out), bt Hw0.out HB7.out⟩
        · obtain rfl : k = 0 := by omega
          simp only [Nat.zero_mul, Nat.add_zero] at d0 d1 d2 d3 d4 d5 d6 d7 d8 d9
          have HNV : Hid (VGo L 0) := Lib.hid (HVk.out.2 ⟨HVc.out, fun h => by omega⟩)
          go_wp2_with fail
          (with_reducible refine (refVC_t ⟨t, kk, had, ⟨oa, ob, oc⟩, has, ⟨na, nb, nc⟩⟩ _ HVc.out).mono ?_)
          rintro e w5 ⟨rfl, hb5⟩
          have hbk := bt (ba wr (.cells #[.int .i64 t, .int .i64 kk, .bool had, .int .i64 oa, .int .i64 ob, .int .i64 oc, .bool has, .int .i64 na, .int .i64 nb, .int .i64 nc] 45)) hb5
          have HBn : Hid (Below (w.heap.size + 1) (w.alloc (.cells #[.int .i64 p, .slice (some ⟨b, o, none⟩) n cap] 41)) w5) := Lib.hid (HB.out.trans (hbk.mono hsz))
          go_wp2_with fail
          exact ⟨⟨0 + 1, by omega, by go_num, HBn, Lib.hid (fun j hj => by
            have e : j = 0 := (by omega)
            subst e
            exact HNV.out)⟩, by simp [intOf]; omega⟩
      · have HVc := Lib.hid hv
        have HNV : Hid (¬ VGo L k) := Lib.hid (fun h => HVc.out (HVk.out.1 h).1)
        clear hv
        go_wp2_with fail
        (with_reducible refine (refVC_f ⟨t, kk, had, ⟨oa, ob, oc⟩, has, ⟨na, nb, nc⟩⟩ _ HVc.out).mono ?_)
        rintro e w5 ⟨rfl, hb5⟩
        go_wp2_with fail
        go_ret
        exact ⟨vrec_f (HF.out HNV.out), bt Hw0.out (bt (ba wr (.cells #[.int .i64 t, .int .i64 kk, .bool had, .int .i64 oa, .int .i64 ob, .int .i64 oc, .bool has, .int .i64 na, .int .i64 nb, .int .i64 nc] 45)) hb5)⟩
    · obtain rfl : k = n := by omega
      have HR : Hid (VRec p L) := Lib.hid ⟨H1.out, by rw [← HN.out]; exact H2.out, fun j hj => HV.out j (by rw [HN.out]; exact hj)⟩
      go_wp2_with fail
      go_ret
      exact ⟨vrec_t HR.out, Hw0.out⟩
theorem refValidRecord_any (p : Int) (v : Value) (L : List MCh) (w : World) (hv : ChS w v L) :
    Calls Tryz.prog 62 #[.agg #[.int .i64 p, v]] w fun e w' => e = .returned (.bool (vrec p L)) ∧ Below w.heap.size w w' := by
  obtain ⟨a, n, cap, rfl, hn, hc1, hc2, hcell⟩ := hv
  by_cases h1 : 1 ≤ p ∧ p ≤ 10000
  · by_cases h2 : 1 ≤ n ∧ n ≤ 8
    · obtain ⟨b, o, rfl, hb, hc⟩ := hcell h2.1
      exact refValidRecord_in p n cap L w hn h1 h2 b o hb hc
    · have HR : Hid (¬ VRec p L) := Lib.hid (fun h => h2 (by rw [hn]; exact h.2.1))
      have H1 := Lib.hid h1
      have H2 : Hid (¬ ((1 : Int) ≤ (n : Int) ∧ (n : Int) ≤ 8)) := Lib.hid (by omega)
      clear h1 h2 hcell hn hc1 hc2
      go_enter Tryz.func62, Tryz.ntmps62
      go_wp2_with fail
      (with_reducible refine (within_t p _ _ _ H1.out).mono ?_)
      rintro e w1 ⟨rfl, rfl⟩
      go_wp2_with fail
      (with_reducible refine (within_f n _ _ _ H2.out).mono ?_)
      rintro e w1 ⟨rfl, rfl⟩
      go_wp2_with fail
      go_ret
      exact ⟨vrec_f HR.out, ba _ _⟩
  · have HR : Hid (¬ VRec p L) := Lib.hid (fun h => h1 h.1)
    have H1 := Lib.hid h1
    clear h1 hcell hn hc1 hc2
    go_enter Tryz.func62, Tryz.ntmps62
    go_wp2_with fail
    (with_reducible refine (within_f p _ _ _ H1.out).mono ?_)
    rintro e w1 ⟨rfl, rfl⟩
    go_wp2_with fail
    go_ret
    exact ⟨vrec_f HR.out, ba _ _⟩
end Go.Proofs.YtgbnjjgnihjfgaaGreat
end

section
set_option linter.unusedVariables false
set_option linter.unusedSimpArgs false
namespace Go.Proofs.YtgbnjjgnihjfgaaGreat

def rlt (r s : MRow) : Prop := r.t < s.t ∨ r.t = s.t ∧ r.k < s.k
instance (r s : MRow) : Decidable (rlt r s) := by unfold rlt; infer_instance
def Srt (L : List MRow) : Prop := L.Pairwise rlt
def atk (t k : Int) (r : MRow) : Bool := decide (r.t = t ∧ r.k = k)
def ltk (t k : Int) (r : MRow) : Bool := decide (r.t < t ∨ r.t = t ∧ r.k < k)
def gtk (t k : Int) (r : MRow) : Bool := decide (t < r.t ∨ t = r.t ∧ k < r.k)
def look (L : List MRow) (t k : Int) : Option MRow := L.find? (atk t k)
def stepC (L : List MRow) (c : MCh) : List MRow := L.filter (ltk c.t c.k) ++ ((if c.has then [⟨c.t, c.k, c.n⟩] else []) ++ L.filter (gtk c.t c.k))
def stepAll (L : List MRow) (cs : List MCh) : List MRow := cs.foldl stepC L

theorem rlt_trans {a b c : MRow} (h : rlt a b) (k : rlt b c) : rlt a c := by unfold rlt at *; omega
theorem rlt_irr {a : MRow} : ¬ rlt a a := by unfold rlt; omega

theorem srt_inj {L : List MRow} (h : Srt L) {r s : MRow} (hr : r ∈ L) (hs : s ∈ L) (ht : r.t = s.t) (hk : r.k = s.k) : r = s := by
  induction L with
  | nil => simp at hr
  | cons a L ih =>
    obtain ⟨h1, h2⟩ := List.pairwise_cons.1 h
    rcases List.mem_cons.1 hr with e1 | hr <;> rcases List.mem_cons.1 hs with e2 | hs
    · rw [e1, e2]
    · have := h1 s hs; rw [← e1] at this; unfold rlt at this; omega
    · have := h1 r hr; rw [← e2] at this; unfold rlt at this; omega
    · exact ih h2 hr hs

theorem look_some {L : List MRow} (h : Srt L) {t k : Int} {r : MRow} : look L t k = some r ↔ r ∈ L ∧ r.t = t ∧ r.k = k := by
  constructor
  · intro e
    have h1 := List.mem_of_find?_eq_some e
    have h2 := List.find?_some e
    simp only [atk, decide_eq_true_eq] at h2
    exact ⟨h1, h2⟩
  · rintro ⟨h1, h2, h3⟩
    cases e : look L t k with
    | none =>
      have := List.find?_eq_none.1 e r h1
      simp [atk, h2, h3] at this
    | some s =>
      have g1 := List.mem_of_find?_eq_some e
      have g2 := List.find?_some e
      simp only [atk, decide_eq_true_eq] at g2
      rw [srt_inj h g1 h1 (by omega) (by omega)]
theorem look_none {L : List MRow} {t k : Int} : look L t k = none ↔ ∀ r ∈ L, ¬ (r.t = t ∧ r.k = k) := by
  unfold look
  rw [List.find?_eq_none]
  simp [atk]

theorem srt_filter {L : List MRow} (h : Srt L) (p : MRow → Bool) : Srt (L.filter p) := List.Pairwise.filter p h
theorem srt_step {L : List MRow} (h : Srt L) (c : MCh) : Srt (stepC L c) := by
  unfold stepC Srt
  rw [List.pairwise_append, List.pairwise_append]
  refine ⟨srt_filter h _, ⟨?_, srt_filter h _, ?_⟩, ?_⟩
  · split <;> simp
  · intro a ha b hb
    have hb2 := (List.mem_filter.1 hb).2
    split at ha
    · simp only [List.mem_singleton] at ha
      subst ha
      simp only [gtk, decide_eq_true_eq] at hb2
      exact hb2
    · simp at ha
  · intro a ha b hb
    have ha2 := (List.mem_filter.1 ha).2
    simp only [ltk, decide_eq_true_eq] at ha2
    rcases List.mem_append.1 hb with hb | hb
    · split at hb
      · simp only [List.mem_singleton] at hb
        subst hb
        exact ha2
      · simp at hb
    · have hb2 := (List.mem_filter.1 hb).2
      simp only [gtk, decide_eq_true_eq] at hb2
      unfold rlt; omega
theorem mem_step {L : List MRow} {c : MCh} {r : MRow} : r ∈ stepC L c ↔ (r ∈ L ∧ ¬ (r.t = c.t ∧ r.k = c.k)) ∨ (c.has = true ∧ r = ⟨c.t, c.k, c.n⟩) := by
  unfold stepC
  simp only [List.mem_append, List.mem_filter, ltk, gtk, decide_eq_true_eq]
  constructor
  · rintro (⟨h1, h2⟩ | h | ⟨h1, h2⟩)
    · exact .inl ⟨h1, by omega⟩
    · split at h
      · exact .inr ⟨‹_›, by simpa using h⟩
      · simp at h
    · exact .inl ⟨h1, by omega⟩
  · rintro (⟨h1, h2⟩ | ⟨h1, h2⟩)
    · by_cases h3 : r.t < c.t ∨ r.t = c.t ∧ r.k < c.k
      · exact .inl ⟨h1, h3⟩
      · exact .inr (.inr ⟨h1, by omega⟩)
    · exact .inr (.inl (by rw [if_pos h1]; simp [h2]))

theorem look_step_same {L : List MRow} (h : Srt L) (c : MCh) : look (stepC L c) c.t c.k = if c.has then some ⟨c.t, c.k, c.n⟩ else none := by
  split
  · exact (look_some (srt_step h c)).2 ⟨mem_step.2 (.inr ⟨‹_›, rfl⟩), rfl, rfl⟩
  · rw [look_none]
    intro r hr
    rcases mem_step.1 hr with h1 | h1
    · exact h1.2
    · exact absurd h1.1 ‹_›
theorem look_step_other {L : List MRow} (h : Srt L) (c : MCh) {t k : Int} (hne : ¬ (t = c.t ∧ k = c.k)) : look (stepC L c) t k = look L t k := by
  cases e : look L t k with
  | none =>
    rw [look_none] at e ⊢
    intro r hr
    rcases mem_step.1 hr with h1 | ⟨_, rfl⟩
    · exact e r h1.1
    · exact fun h2 => hne ⟨h2.1.symm, h2.2.symm⟩
  | some r =>
    obtain ⟨h1, h2, h3⟩ := (look_some h).1 e
    exact (look_some (srt_step h c)).2 ⟨mem_step.2 (.inl ⟨h1, by rw [h2, h3]; exact hne⟩), h2, h3⟩

theorem split_at {L : List MRow} (h : Srt L) (t k : Int) : L = L.filter (ltk t k) ++ ((look L t k).toList ++ L.filter (gtk t k)) := by
  have hs : Srt (L.filter (ltk t k) ++ ((look L t k).toList ++ L.filter (gtk t k))) := by
    unfold Srt
    rw [List.pairwise_append, List.pairwise_append]
    refine ⟨srt_filter h _, ⟨?_, srt_filter h _, ?_⟩, ?_⟩
    · cases look L t k <;> simp
    · intro a ha b hb
      have hb2 := (List.mem_filter.1 hb).2
      have ha2 := (look_some h).1 (Option.mem_toList.1 ha)
      simp only [gtk, decide_eq_true_eq] at hb2
      unfold rlt; omega
    · intro a ha b hb
      have ha2 := (List.mem_filter.1 ha).2
      simp only [ltk, decide_eq_true_eq] at ha2
      rcases List.mem_append.1 hb with hb | hb
      · have hb2 := (look_some h).1 (Option.mem_toList.1 hb)
        unfold rlt; omega
      · have hb2 := (List.mem_filter.1 hb).2
        simp only [gtk, decide_eq_true_eq] at hb2
        unfold rlt; omega
  have nd : ∀ {L : List MRow}, Srt L → L.Nodup := fun h => h.imp (fun {a b} hab e => by subst e; exact rlt_irr hab)
  refine List.Perm.eq_of_pairwise (le := rlt) (fun a b _ _ h1 h2 => absurd (rlt_trans h1 h2) rlt_irr) h hs ((List.perm_ext_iff_of_nodup (nd h) (nd hs)).2 fun r => ?_)
  simp only [List.mem_append, List.mem_filter, ltk, gtk, decide_eq_true_eq, Option.mem_toList]
  constructor
  · intro hr
    by_cases h1 : r.t < t ∨ r.t = t ∧ r.k < k
    · exact .inl ⟨hr, h1⟩
    by_cases h2 : t < r.t ∨ t = r.t ∧ k < r.k
    · exact .inr (.inr ⟨hr, h2⟩)
    · exact .inr (.inl ((look_some h).2 ⟨hr, by omega, by omega⟩))
  · rintro (h1 | h1 | h1)
    · exact h1.1
    · exact ((look_some h).1 h1).1
    · exact h1.1

theorem length_step {L : List MRow} (h : Srt L) (c : MCh) : (stepC L c).length + (look L c.t c.k).toList.length = L.length + (if c.has then 1 else 0) := by
  have e := congrArg List.length (split_at h c.t c.k)
  simp only [List.length_append] at e
  unfold stepC
  simp only [List.length_append]
  split <;> simp <;> omega

/-- What is left of the rows without one key. -/
theorem perm_without (L : List MRow) (t k : Int) : (L.filter fun r => !atk t k r).Perm (L.filter (ltk t k) ++ L.filter (gtk t k)) := by
  induction L with
  | nil => simp
  | cons a L ih =>
    by_cases h1 : a.t < t ∨ a.t = t ∧ a.k < k
    · have e1 : ltk t k a = true := by simp [ltk, h1]
      have e2 : gtk t k a = false := by simp [gtk]; omega
      have e3 : (!atk t k a) = true := by simp [atk]; omega
      rw [List.filter_cons_of_pos (p := fun r => !atk t k r) e3, List.filter_cons_of_pos e1, List.filter_cons_of_neg (by simp [e2])]
      exact ih.cons _
    by_cases h2 : t < a.t ∨ t = a.t ∧ k < a.k
    · have e1 : ltk t k a = false := by simp [ltk]; omega
      have e2 : gtk t k a = true := by simp [gtk]; omega
      have e3 : (!atk t k a) = true := by simp [atk]; omega
      rw [List.filter_cons_of_pos (p := fun r => !atk t k r) e3, List.filter_cons_of_neg (by simp [e1]), List.filter_cons_of_pos e2]
      exact (ih.cons a).trans List.perm_middle.symm
    · have e1 : ltk t k a = false := by simp [ltk]; omega
      have e2 : gtk t k a = false := by simp [gtk]; omega
      have e3 : (!atk t k a) = false := by simp [atk]; omega
      rw [List.filter_cons_of_neg (p := fun r => !atk t k r) (by simp [e3]), List.filter_cons_of_neg (by simp [e1]), List.filter_cons_of_neg (by simp [e2])]
      exact ih
theorem perm_step (L : List MRow) (c : MCh) : (stepC L c).Perm ((if c.has then [⟨c.t, c.k, c.n⟩] else []) ++ L.filter fun r => !atk c.t c.k r) := by
  unfold stepC
  refine List.Perm.trans ?_ ((perm_without L c.t c.k).symm.append_left _)
  rw [← List.append_assoc, ← List.append_assoc]
  exact List.perm_append_comm.append_right _

/-! ### Records -/
def keyNe (c d : MCh) : Prop := ¬ (c.t = d.t ∧ c.k = d.k)
def Apart (cs : List MCh) : Prop := cs.Pairwise keyNe
def fitC (L : List MRow) (c : MCh) : Prop := look L c.t c.k = if c.had then some ⟨c.t, c.k, c.o⟩ else none
def Fits (L : List MRow) (cs : List MCh) : Prop := ∀ c ∈ cs, fitC L c
instance (L : List MRow) (c : MCh) : Decidable (fitC L c) := by unfold fitC; infer_instance
instance (L : List MRow) (cs : List MCh) : Decidable (Fits L cs) := by unfold Fits; infer_instance
def dlt (c : MCh) : Int := (if c.has then 1 else 0) - (if c.had then 1 else 0)
def cnt (n : Int) (cs : List MCh) : Int := cs.foldl (fun n c => n + dlt c) n
theorem cnt_cons (n : Int) (c : MCh) (cs : List MCh) : cnt n (c :: cs) = cnt (n + dlt c) cs := rfl
theorem cnt_snoc (n : Int) (c : MCh) (cs : List MCh) : cnt n (cs ++ [c]) = cnt n cs + dlt c := by simp [cnt, List.foldl_append]
theorem stepAll_snoc (L : List MRow) (cs : List MCh) (c : MCh) : stepAll L (cs ++ [c]) = stepC (stepAll L cs) c := by simp [stepAll, List.foldl_append]
theorem stepAll_cons (L : List MRow) (cs : List MCh) (c : MCh) : stepAll L (c :: cs) = stepAll (stepC L c) cs := rfl

theorem srt_all {L : List MRow} (h : Srt L) : ∀ cs : List MCh, Srt (stepAll L cs) := by
  intro cs
  induction cs generalizing L with
  | nil => exact h
  | cons c cs ih => exact ih (srt_step h c)

theorem fits_step {L : List MRow} (h : Srt L) {c : MCh} {cs : List MCh} (ha : Apart (c :: cs)) (hf : Fits L (c :: cs)) : Fits (stepC L c) cs := by
  intro d hd
  have h1 := (List.pairwise_cons.1 ha).1 d hd
  unfold fitC
  rw [look_step_other h c (fun e => h1 ⟨e.1.symm, e.2.symm⟩)]
  exact hf d (by simp [hd])
theorem fits_take {L : List MRow} (h : Srt L) {A B : List MCh} (ha : Apart (A ++ B)) (hf : Fits L (A ++ B)) : Fits (stepAll L A) B := by
  induction A generalizing L with
  | nil => exact hf
  | cons c A ih =>
    exact ih (srt_step h c) (List.pairwise_cons.1 ha).2 (fits_step h ha hf)

theorem length_all : ∀ {cs : List MCh} {L : List MRow}, Srt L → Apart cs → Fits L cs → ((stepAll L cs).length : Int) = cnt L.length cs := by
  intro cs
  induction cs with
  | nil => intro L _ _ _; rfl
  | cons c cs ih =>
    intro L h ha hf
    rw [stepAll_cons, ih (srt_step h c) (List.pairwise_cons.1 ha).2 (fits_step h ha hf), cnt_cons]
    congr 1
    have h1 := length_step h c
    have h2 := hf c (by simp)
    unfold fitC at h2
    rw [h2] at h1
    unfold dlt
    cases hc : c.had <;> cases hs : c.has <;> rw [hc, hs] at h1 <;> simp at h1 <;> simp <;> omega

end Go.Proofs.YtgbnjjgnihjfgaaGreat
end

section
set_option linter.unusedVariables false
set_option linter.unusedSimpArgs false
namespace Go.Proofs.YtgbnjjgnihjfgaaGreat
open Go.RowKit Go.Sort Go.ChangeMaps Go.MapKept

theorem laidOut : laidOutB Tryz.prog = true := by kernel_rfl
theorem row78 : (110 : TypeId) < Tryz.prog.types.size := of_decide_eq_true (by kernel_rfl)
theorem cells78 : Tryz.prog.cellsOf 110 = 2 := by kernel_rfl
theorem wide78 : (match Tryz.prog.underlying 110 with | some (.array _ _) | some (.struct _) => true | _ => false) = true := by kernel_rfl
set_option maxRecDepth 100000 in
theorem law78 : Maps.Keyed Tryz.prog 110 := Maps.Keyed.of_law (deep_law_laid laidOut (m := 2) (by omega) row78 (by kernel_rfl) wide78)
abbrev plV (t k : Int) : Value := .agg #[.int .i64 t, .int .i64 k]
abbrev rowZ : MRow := ⟨0, 0, ⟨0, 0, 0⟩⟩
theorem i64_wf {n : Int} (h : I64 n) : (Lit.int .i64 n).wf = true := by
  unfold I64 at h
  exact WalkArith.wf_i64 (by omega)
theorem is78 : ∃ fs, Tryz.prog.underlying 110 = some (.struct fs) ∧ (fs.all fun f => f.name != "_") = true ∧ fs.toList.map (fun f => (f.type, f.offset)) = [(3, 0), (3, 1)] := ⟨_, Tryz.underlying110, by kernel_rfl, by kernel_rfl⟩
theorem c3' : Tryz.prog.cellsOf 3 = 1 := by kernel_rfl
theorem key_of {t k : Int} (ht : I64 t) (hk : I64 k) : ∃ l, keyOf Tryz.prog 110 (plV t k) = some l := by
  obtain ⟨fs, hu, hn, hf⟩ := is78
  have hkt : Tryz.prog.keyType 110 = true := by kernel_rfl
  have hfm : (plV t k).formed Tryz.prog 110 = true := by simp [Value.formed, hu, cells78]
  have e3 : ∀ (d : Nat) (n : Int), I64 n → Tryz.prog.keyLits (d + 1) 3 [.int .i64 n] = some [.int .i64 n] := fun d n h => by
    simp [Program.keyLits, Tryz.underlying3, i64_wf h]
  have hl : ∃ ls, Tryz.prog.keyLits (Tryz.prog.types.size + 1) 110 (plV t k).cells.toList = some ls := by
    have hs : ∃ m, Tryz.prog.types.size = m + 1 := ⟨Tryz.prog.types.size - 1, by have : 0 < Tryz.prog.types.size := Nat.lt_of_le_of_lt (Nat.zero_le _) row78; omega⟩
    obtain ⟨m, hm⟩ := hs
    rw [hm]
    unfold Program.keyLits
    rw [hu]
    have hlen : (plV t k).cells.toList.length = Tryz.prog.cellsOf 110 := by rw [cells78]; rfl
    suffices h : ∃ ls, ((fs.toList.mapM fun f => Tryz.prog.keyLits (m + 1) f.type ((List.drop f.offset (plV t k).cells.toList).take (Tryz.prog.cellsOf f.type))).map List.flatten) = some ls from by
      obtain ⟨ls, h⟩ := h
      exact ⟨ls, (if_pos ⟨hlen, hn⟩).trans h⟩
    have hmm : (fs.toList.mapM fun f => Tryz.prog.keyLits (m + 1) f.type ((List.drop f.offset (plV t k).cells.toList).take (Tryz.prog.cellsOf f.type))) = ((fs.toList.map fun f => (f.type, f.offset)).mapM fun q => Tryz.prog.keyLits (m + 1) q.1 ((List.drop q.2 (plV t k).cells.toList).take (Tryz.prog.cellsOf q.1))) := by
      rw [List.mapM_map]
      simp only [Function.comp_def]
    rw [hmm, hf]
    simp [List.mapM_cons, Value.cells, c3', e3 m _ ht, e3 m _ hk]
  obtain ⟨ls, hl⟩ := hl
  refine ⟨.string (keyBytes ls), ?_⟩
  unfold keyOf
  rw [hu]
  exact (if_pos (by rw [hkt, hfm]; rfl)).trans (by rw [hl]; rfl)

/-! ### The block -/
def Ent (es : List MapEntry) (L : List MRow) : Prop := (es.map fun e => (e.key, e.val)).Perm (L.map fun r => (plV r.t r.k, rowV r))
def Wd (L : List MRow) : Prop := ∀ r ∈ L, I64 r.t ∧ I64 r.k
/-- Block b is a map whose entries are the rows of L. -/
def StMap (W : World) (b : Nat) (L : List MRow) : Prop := ∃ es clock, W.heap[b]? = some (.map es clock) ∧ Stamped es clock ∧ Ent es.toList L ∧ Wd L

theorem StMap.lt {W : World} {b : Nat} {L : List MRow} (h : StMap W b L) : b < W.heap.size := by
  obtain ⟨es, clock, hb, _⟩ := h
  exact (Array.getElem?_eq_some_iff.1 hb).1
theorem StMap.of_block {W W' : World} {b : Nat} {L : List MRow} (h : StMap W b L) (e : W'.heap[b]? = W.heap[b]?) : StMap W' b L := by
  obtain ⟨es, clock, hb, r⟩ := h
  exact ⟨es, clock, e.trans hb, r⟩
theorem StMap.perm {W : World} {b : Nat} {L M : List MRow} (h : StMap W b L) (hp : L.Perm M) : StMap W b M := by
  obtain ⟨es, clock, hb, hs, he, hw⟩ := h
  exact ⟨es, clock, hb, hs, List.Perm.trans he (hp.map _), fun r hr => hw r (hp.mem_iff.2 hr)⟩

theorem ent_keys {es : List MapEntry} {L : List MRow} (h : Ent es L) (hw : Wd L) : ∀ e ∈ es, ∃ l, keyOf Tryz.prog 110 e.key = some l := by
  intro e he
  have hm := h.mem_iff.1 (List.mem_map.2 ⟨e, he, rfl⟩)
  obtain ⟨r, hr, hre⟩ := List.mem_map.1 hm
  simp only [Prod.mk.injEq] at hre
  rw [← hre.1]
  exact key_of (hw r hr).1 (hw r hr).2
theorem plV_inj {t k t' k' : Int} (h : plV t k = plV t' k') : t = t' ∧ k = k' := by simpa [plV] using h
theorem ent_nodup {es : List MapEntry} {L : List MRow} (h : Ent es L) (hp : es.Pairwise fun x y => x.key ≠ y.key) : L.Pairwise fun r s => ¬ (r.t = s.t ∧ r.k = s.k) := by
  have h1 : (es.map fun e => (e.key, e.val)).Pairwise fun p q => p.1 ≠ q.1 := by rw [List.pairwise_map]; exact hp
  have h2 := (h.pairwise_iff (fun {a b} (hab : a.1 ≠ b.1) => hab.symm)).1 h1
  rw [List.pairwise_map] at h2
  exact h2.imp fun {a b} hab e => hab (by simp [e.1, e.2])
theorem look_perm {L : List MRow} (hp : L.Pairwise fun r s => ¬ (r.t = s.t ∧ r.k = s.k)) {r : MRow} (hr : r ∈ L) : look L r.t r.k = some r := by
  induction L with
  | nil => simp at hr
  | cons a L ih =>
    obtain ⟨h1, h2⟩ := List.pairwise_cons.1 hp
    unfold look
    rcases List.mem_cons.1 hr with e | hr
    · subst e
      rw [List.find?_cons_of_pos (by simp [atk])]
    · rw [List.find?_cons_of_neg (by simp only [atk, decide_eq_true_eq]; exact h1 r hr)]
      exact ih h2 hr

/-- 'v, ok := m[place]'. -/
theorem StMap.look {W : World} {b : Nat} {L : List MRow} (h : StMap W b L) {t k : Int} (ht : I64 t) (hk : I64 k) :
    (Instr.lookup 76 (.map (some b)) (plV t k) true).run Tryz.prog W = .ok (.tuple #[rowV ((YtgbnjjgnihjfgaaGreat.look L t k).getD rowZ), .bool (YtgbnjjgnihjfgaaGreat.look L t k).isSome]) W := by
  obtain ⟨es, clock, hb, hs, he, hw⟩ := h
  obtain ⟨l, hl⟩ := key_of ht hk
  have hz : (zeroValue 57).run Tryz.prog W = .ok (rowV rowZ) W := by kernel_rfl
  rcases law78.find W hl es.toList (ent_keys he hw) with ⟨h1, h2⟩ | ⟨j, e0, h1, h2, h3⟩
  · have hn : YtgbnjjgnihjfgaaGreat.look L t k = none := look_none.2 fun r hr e => by
      have hm := he.mem_iff.2 (List.mem_map.2 ⟨r, hr, rfl⟩)
      obtain ⟨x, hx, hxe⟩ := List.mem_map.1 hm
      simp only [Prod.mk.injEq] at hxe
      exact h2 x hx (by rw [hxe.1, e.1, e.2])
    rw [hn]
    simp [Instr.lookup, run_underlying Tryz.underlying76, MapKept.run_getObj_map hb, law78.check W _ hl, h1, hz, Result.andThen]
  · have hm0 : e0 ∈ es.toList := List.mem_of_getElem? h2
    have hm := he.mem_iff.1 (List.mem_map.2 ⟨e0, hm0, rfl⟩)
    obtain ⟨r, hr, hre⟩ := List.mem_map.1 hm
    simp only [Prod.mk.injEq] at hre
    rw [h3] at hre
    obtain ⟨e1, e2⟩ := plV_inj hre.1
    have hlk := look_perm (ent_nodup he ((stamped_iff es clock).1 hs).2.2) hr
    rw [e1, e2] at hlk
    rw [hlk]
    simp only [Option.getD_some, Option.isSome_some]
    rw [hre.2]
    simp [Instr.lookup, run_underlying Tryz.underlying76, MapKept.run_getObj_map hb, law78.check W _ hl, h1, Result.andThen]
theorem look_nilmap (W : World) {t k : Int} (ht : I64 t) (hk : I64 k) : (Instr.lookup 76 (.map none) (plV t k) true).run Tryz.prog W = .ok (.tuple #[rowV rowZ, .bool false]) W := by
  obtain ⟨l, hl⟩ := key_of ht hk
  have hz : (zeroValue 57).run Tryz.prog W = .ok (rowV rowZ) W := by kernel_rfl
  have := Maps.look_nil true law78 Tryz.underlying76 hz hl
  simpa using this

/-- 'len(m)'. -/
theorem StMap.len {W : World} {b : Nat} {L : List MRow} (h : StMap W b L) (ty : TypeId) : (Builtin.len_ #[76] ty #[.map (some b)]).run Tryz.prog W = .ok (.int .i64 L.length) W := by
  obtain ⟨es, clock, hb, hs, he, hw⟩ := h
  have hl : es.size = L.length := by have := he.length_eq; simpa using this
  simp [Builtin.len_, run_underlying Tryz.underlying76, MapKept.run_getObj_map hb, goInt, Result.andThen, hl]

/-- W' is W but for the entries of the map in block b. -/
def Turned (W W' : World) (b : Nat) : Prop := ∃ es clock es' clock', W.heap[b]? = some (.map es clock) ∧ W' = setBlock W b (.map es' clock')

/-- 'delete(m, place)'. -/
theorem StMap.del {W : World} {b : Nat} {L : List MRow} (h : StMap W b L) {t k : Int} (ht : I64 t) (hk : I64 k) (ty : TypeId) :
    ∃ W', (Builtin.delete_ #[76, 110] ty #[.map (some b), plV t k]).run Tryz.prog W = .ok (.tuple #[]) W' ∧ StMap W' b (L.filter fun r => !atk t k r) ∧ Turned W W' b := by
  obtain ⟨es, clock, hb, hs, he, hw⟩ := h
  obtain ⟨l, hl⟩ := key_of ht hk
  have hw' : Wd (L.filter fun r => !atk t k r) := fun r hr => hw r (List.mem_filter.1 hr).1
  have hapart := ((stamped_iff es clock).1 hs).2.2
  rcases law78.find W hl es.toList (ent_keys he hw) with ⟨h1, h2⟩ | ⟨j, e0, h1, h2, h3⟩
  · refine ⟨setBlock W b (.map es clock), ?_, ⟨es, clock, heap_setBlock_same hb _, hs, ?_, hw'⟩, ⟨es, clock, es, clock, hb, rfl⟩⟩
    · simp [Builtin.delete_, run_underlying Tryz.underlying76, MapKept.run_getObj_map hb, law78.check W _ hl, h1, MapKept.run_setObj_map _ hb, Result.andThen, setBlock]
    · rw [List.filter_eq_self.2 fun r hr => by
        have hm := he.mem_iff.2 (List.mem_map.2 ⟨r, hr, rfl⟩)
        obtain ⟨x, hx, hxe⟩ := List.mem_map.1 hm
        simp only [Prod.mk.injEq] at hxe
        have := h2 x hx
        rw [hxe.1] at this
        simp only [atk, Bool.not_eq_true', decide_eq_false_iff_not]
        exact fun e => this (by rw [e.1, e.2])]
      exact he
  · have hjl : j < es.toList.length := (List.getElem?_eq_some_iff.1 h2).1
    have hjs : j < es.size := by simpa using hjl
    have hsub : (es.eraseIdxIfInBounds j).toList = es.toList.eraseIdx j := by
      unfold Array.eraseIdxIfInBounds
      rw [dif_pos hjs]
      simp
    refine ⟨setBlock W b (.map (es.eraseIdxIfInBounds j) clock), ?_, ⟨_, clock, heap_setBlock_same hb _, stamped_erase hs j, ?_, hw'⟩, ⟨es, clock, _, clock, hb, rfl⟩⟩
    · simp [Builtin.delete_, run_underlying Tryz.underlying76, MapKept.run_getObj_map hb, law78.check W _ hl, h1, MapKept.run_setObj_map _ hb, Result.andThen, setBlock]
    · have hm0 : e0 ∈ es.toList := List.mem_of_getElem? h2
      have hm := he.mem_iff.1 (List.mem_map.2 ⟨e0, hm0, rfl⟩)
      obtain ⟨r, hr, hre⟩ := List.mem_map.1 hm
      simp only [Prod.mk.injEq] at hre
      rw [h3] at hre
      obtain ⟨e1, e2⟩ := plV_inj hre.1
      have hnd := ent_nodup he hapart
      -- L is r and the rest
      have hLp : L.Perm (r :: L.filter fun s => !atk t k s) := by
        clear he h1 h2 hs hw hw' hm hre hsub
        induction L with
        | nil => simp at hr
        | cons a L ih =>
          obtain ⟨n1, n2⟩ := List.pairwise_cons.1 hnd
          rcases List.mem_cons.1 hr with e | hr
          · subst e
            rw [List.filter_cons_of_neg (by simp [atk, e1, e2]), List.filter_eq_self.2]
            intro s hs
            have := n1 s hs
            simp only [atk, Bool.not_eq_true', decide_eq_false_iff_not]
            exact fun e => this ⟨by omega, by omega⟩
          · have hne : ¬ (a.t = t ∧ a.k = k) := fun e => n1 r hr ⟨by omega, by omega⟩
            rw [List.filter_cons_of_pos (by simp [atk]; omega)]
            exact ((ih hr n2).cons a).trans (List.Perm.swap _ _ _)
      have hEp : es.toList.Perm (e0 :: es.toList.eraseIdx j) := by
        have e5 : es.toList[j] = e0 := by have := List.getElem?_eq_getElem hjl; rw [h2] at this; exact (Option.some.inj this).symm
        have e6 : es.toList = es.toList.take j ++ e0 :: es.toList.drop (j + 1) := by
          rw [← e5, List.getElem_cons_drop, List.take_append_drop]
        rw [List.eraseIdx_eq_take_drop_succ]
        exact (List.Perm.of_eq e6).trans List.perm_middle
      have hA : ((e0 :: es.toList.eraseIdx j).map fun e => (e.key, e.val)).Perm ((r :: L.filter fun s => !atk t k s).map fun r => (plV r.t r.k, rowV r)) := (hEp.map _).symm.trans (List.Perm.trans he (hLp.map _))
      rw [List.map_cons, List.map_cons] at hA
      have hh : (e0.key, e0.val) = (plV r.t r.k, rowV r) := by rw [h3, hre.1, hre.2]
      rw [hh] at hA
      unfold Ent
      rw [hsub]
      exact hA.cons_inv
/-- 'm[place] = row', of a place that is not there. -/
theorem StMap.add {W : World} {b : Nat} {L : List MRow} (h : StMap W b L) (r : MRow) (ht : I64 r.t) (hk : I64 r.k) (hn : ∀ s ∈ L, ¬ (s.t = r.t ∧ s.k = r.k)) :
    ∃ W', (Instr.mapUpdate 76 (.map (some b)) (plV r.t r.k) (rowV r)).run Tryz.prog W = .ok () W' ∧ StMap W' b (r :: L) ∧ Turned W W' b := by
  obtain ⟨es, clock, hb, hs, he, hw⟩ := h
  obtain ⟨l, hl⟩ := key_of ht hk
  rcases law78.find W hl es.toList (ent_keys he hw) with ⟨h1, h2⟩ | ⟨j, e0, h1, h2, h3⟩
  · refine ⟨setBlock W b (.map (es.push ⟨plV r.t r.k, rowV r, clock⟩) (clock + 1)), ?_, ⟨_, _, heap_setBlock_same hb _, stamped_push hs h2, ?_, ?_⟩, ⟨es, clock, _, _, hb, rfl⟩⟩
    · simp [Instr.mapUpdate, run_underlying Tryz.underlying76, MapKept.run_getObj_map hb, law78.check W false hl, h1, MapKept.run_setObj_map _ hb, Result.andThen, setBlock]
    · unfold Ent
      rw [Array.toList_push, List.map_append, List.map_singleton, List.map_cons]
      exact (List.perm_append_singleton _ _).trans (List.Perm.cons _ he)
    · intro s hs
      rcases List.mem_cons.1 hs with e | hs
      · subst e; exact ⟨ht, hk⟩
      · exact hw s hs
  · exfalso
    have hm0 : e0 ∈ es.toList := List.mem_of_getElem? h2
    have hm := he.mem_iff.1 (List.mem_map.2 ⟨e0, hm0, rfl⟩)
    obtain ⟨s, hs, hse⟩ := List.mem_map.1 hm
    simp only [Prod.mk.injEq] at hse
    rw [h3] at hse
    obtain ⟨e1, e2⟩ := plV_inj hse.1
    exact hn s hs ⟨e1, e2⟩
end Go.Proofs.YtgbnjjgnihjfgaaGreat
end

