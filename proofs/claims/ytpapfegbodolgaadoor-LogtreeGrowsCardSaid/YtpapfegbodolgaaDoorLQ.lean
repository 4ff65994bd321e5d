/- EQUALITY of heads, as the walk asks it; lists of records in memory. -/
import Derived.Test.YtpapfegbodolgaaDoorLN
set_option linter.unusedVariables false
set_option linter.unusedSimpArgs false
namespace Go.Proofs.YtpapfegbodolgaaDoor
open Go.RowKit Go.Sort

/-- Go's == on heads. -/
def hdE (a b : MHead) : Bool := decide (a = b)
theorem und23h : Tryd.prog.underlying 23 = some (.struct (Tryd.prog.fieldsOf 23)) := by kernel_rfl
theorem stood23h : Tryd.prog.stoodInHeld 23 = false := by kernel_rfl
theorem fields23h : (Tryd.prog.fieldsOf 23).toList.map (fun f => (f.name, f.type, f.offset)) = [("Position", 3, 0), ("Chain", 9, 1), ("State", 9, 2)] := by kernel_rfl
set_option maxRecDepth 100000 in
theorem equalHd (d : Nat) (p : Int) (c s : ByteArray) (p' : Int) (c' s' : ByteArray) (w : World) :
    (Op.equalIn (d + 3) 23 (.agg #[.int .i64 p, .string c, .string s]) (.agg #[.int .i64 p', .string c', .string s'])).run Tryd.prog w = .ok (hdE ⟨p, c, s⟩ ⟨p', c', s'⟩) w := by
  rw [run_equalIn_struct w (d + 2) 23 _ _ und23h stood23h, eqFields_parts, fields23h]
  have e : ∀ (x y : Int) (w : World), (Op.equalIn (d + 2) 3 (.int .i64 x) (.int .i64 y)).run Tryd.prog w = .ok (x == y) w := fun x y w => run_equalIn_int w (d + 1) 3 .i64 .i64 x y Tryd.underlying3
  have f : ∀ (x y : ByteArray) (w : World), (Op.equalIn (d + 2) 9 (.string x) (.string y)).run Tryd.prog w = .ok (x.toList == y.toList) w := fun x y w => run_equalIn_string w (d + 1) 9 x y Tryd.underlying9
  have h : (eqParts (d + 2) #[.int .i64 p, .string c, .string s] #[.int .i64 p', .string c', .string s'] [("Position", 3, 0), ("Chain", 9, 1), ("State", 9, 2)]).run Tryd.prog w = .ok ((p == p') && ((c.toList == c'.toList) && ((s.toList == s'.toList) && true))) w := by
    refine run_eqPart (by decide) (fun w => part1 3 Tryd.isAgg3 _ 0 _ w rfl) (fun w => part1 3 Tryd.isAgg3 _ 0 _ w rfl) (fun w => e _ _ w) ?_
    refine run_eqPart (by decide) (fun w => part1 9 Tryd.isAgg9 _ 1 _ w rfl) (fun w => part1 9 Tryd.isAgg9 _ 1 _ w rfl) (fun w => f _ _ w) ?_
    exact run_eqPart (by decide) (fun w => part1 9 Tryd.isAgg9 _ 2 _ w rfl) (fun w => part1 9 Tryd.isAgg9 _ 2 _ w rfl) (fun w => f _ _ w) rfl
  rw [h]
  congr 1
  rw [str_dec, str_dec, hdE]
  by_cases h1 : p = p' <;> by_cases h2 : c = c' <;> by_cases h3 : s = s' <;> simp_all
theorem eqlHd (a b : MHead) (w : World) : (Go.binOp .eql 23 (.agg #[.int .i64 a.p, .string a.c, .string a.s]) (.agg #[.int .i64 b.p, .string b.c, .string b.s])).run Tryd.prog w = .ok (.bool (hdE a b)) w := by
  rw [run_eql_struct, equalHd]; rfl
theorem neqHd (a b : MHead) (w : World) : (Go.binOp .neq 23 (.agg #[.int .i64 a.p, .string a.c, .string a.s]) (.agg #[.int .i64 b.p, .string b.c, .string b.s])).run Tryd.prog w = .ok (.bool (!hdE a b)) w := by
  rw [run_neq_struct, equalHd]; rfl
theorem hdE_t {a b : MHead} (h : a = b) : hdE a b = true := decide_eq_true h
theorem hdE_f {a b : MHead} (h : ¬ a = b) : hdE a b = false := decide_eq_false h

/-! ### Lists of records -/
def recZ : MRec := ⟨0, []⟩
/-- The two cells of a record. -/
def RecAt (w : World) (b o : Nat) (r : MRec) : Prop :=
  w.cell? ⟨b, o, none⟩ = some (.int .i64 r.pos) ∧ ∃ v, w.cell? ⟨b, o + 1, none⟩ = some v ∧ ChS w v r.chs
/-- A slice that reads as a list of records. -/
def RecS (w : World) (v : Value) (R : List MRec) : Prop :=
  ∃ a n cap, v = .slice a n cap ∧ n = R.length ∧ n ≤ cap ∧ cap ≤ 9223372036854775807 ∧ (1 ≤ n → ∃ b o, a = some ⟨b, o, none⟩ ∧ b < w.heap.size ∧ ∀ i, i < n → RecAt w b (o + i * 2) (R.getD i recZ))
theorem RecAt.below {w w' : World} {b o : Nat} {r : MRec} (h : RecAt w b o r) (hb : b < w.heap.size) (k : Below w.heap.size w w') : RecAt w' b o r := by
  obtain ⟨h0, v, h1, h2⟩ := h
  exact ⟨(k.cell (p := ⟨b, o, none⟩) hb).trans h0, v, (k.cell (p := ⟨b, o + 1, none⟩) hb).trans h1, h2.below k⟩
theorem RecS.below {w w' : World} {v : Value} {R : List MRec} (h : RecS w v R) (k : Below w.heap.size w w') : RecS w' v R := by
  obtain ⟨a, n, cap, e, hn, h1, h2, h3⟩ := h
  refine ⟨a, n, cap, e, hn, h1, h2, fun hh => ?_⟩
  obtain ⟨b, o, ea, hb, hc⟩ := h3 hh
  exact ⟨b, o, ea, Nat.lt_of_lt_of_le hb k.size, fun i hi => (hc i hi).below hb k⟩
theorem RecS.nil (w : World) : RecS w (.slice none 0 0) [] := ⟨none, 0, 0, rfl, rfl, Nat.le_refl _, by omega, fun h => by omega⟩
end Go.Proofs.YtpapfegbodolgaaDoor
