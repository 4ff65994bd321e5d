/- LISTS OF CHANGES: taking, dropping, putting one in. -/
import Derived.Test.YtaapggeaoacikaaX8b
import Derived.Test.YtaapggeaoacikaaI1
set_option linter.unusedVariables false
set_option linter.unusedSimpArgs false
namespace Go.Proofs.Ytaapggeaoacikaa
open Go.RowKit Go.Sort Go.ChangeMaps Go.MapKept

theorem Try.info57c : (Try.prog.info? 57).map (fun i => (i.zero, i.size, i.bytes)) = some (some (.agg #[.int .i64 0, .int .i64 0, .bool false, .int .i64 0, .int .i64 0, .int .i64 0, .bool false, .int .i64 0, .int .i64 0, .int .i64 0]), 10, 80) := by kernel_rfl
theorem Try.info32 : (Try.prog.info? 32).map (fun i => (i.zero, i.size, i.bytes)) = some (some (.agg #[.int .i64 0, .slice none 0 0]), 2, 32) := by kernel_rfl
theorem flatC_cons (r : MCh) (M : List MCh) : flatC (r :: M) = ccl r ++ flatC M := rfl
theorem flatC_take (M : List MCh) : ∀ q : Nat, (flatC M).take (q * 10) = flatC (M.take q) := by
  induction M with
  | nil => intro q; simp [flatC]
  | cons r M ih =>
    intro q
    cases q with
    | zero => simp [flatC]
    | succ q =>
      rw [flatC_cons, List.take_succ_cons, flatC_cons, ← ih, show (q + 1) * 10 = (ccl r).length + q * 10 by rw [ccl_len]; omega, List.take_length_add_append]
theorem flatC_drop (M : List MCh) : ∀ q : Nat, (flatC M).drop (q * 10) = flatC (M.drop q) := by
  induction M with
  | nil => intro q; simp [flatC]
  | cons r M ih =>
    intro q
    cases q with
    | zero => simp
    | succ q =>
      rw [flatC_cons, List.drop_succ_cons, ← ih, show (q + 1) * 10 = (ccl r).length + q * 10 by rw [ccl_len]; omega, List.drop_length_add_append]
theorem ownC_cases {w : World} {B : Nat} {a : Option Addr} {n cap : Nat} {M : List MCh} (h : OwnC w B (.slice a n cap) M) : n = M.length ∧ n ≤ cap ∧ cap ≤ 9223372036854775807 ∧ ((a = none ∧ cap = 0 ∧ M = []) ∨ ∃ g, a = some ⟨g, 0, none⟩ ∧ g < w.heap.size) := by
  rcases h.2 with ⟨e, h0⟩ | ⟨g, cap', cur, e, _, hb, h1, h2, _⟩
  · simp at e
    obtain ⟨rfl, rfl, rfl⟩ := e
    exact ⟨h0.symm, Nat.le_refl _, by omega, .inl ⟨rfl, rfl, List.eq_nil_of_length_eq_zero h0⟩⟩
  · simp at e
    obtain ⟨rfl, rfl, rfl⟩ := e
    exact ⟨rfl, h1, by unfold maxLen at h2; omega, .inr ⟨g, rfl, lt_of_block hb⟩⟩

section
variable {w : World} {ops : Array Oper} {rest : List Oper} {o : Oper} {a : Act} {Q : Exit → Act → World → Prop}
theorem wpList_ins9C (hgd : o.guard = none) (s x : Operand) (ho : o.op = .call { callee := .builtin .append, args := #[s, x], argTypes := #[30, 30] })
    (g : Nat) (c : MCh) (hs : a.eval s = .slice (some ⟨g, 0, none⟩) 1 1) (hg : w.heap[g]? = some (.cells (chCells c) 57 (0, 0))) (u : Value) (m : Nat) (N : List MCh) (hx : a.eval x = u) (hr : RdX w 10 u m (flatC N)) (hm : m ≤ 1000)
    (h : ∀ v' w', RdX w' 10 v' (1 + m) (flatC (c :: N)) → w.grownBy w' (some g) → wpList Try.prog ops Q rest (a.put o.dst v') w') : wpList Try.prog ops Q (o :: rest) a w := by
  obtain ⟨i0, hI, hZ0, hZ1, hZ2⟩ := info_parts Try.info57c
  exact wpList_ins9 hgd s x 30 ho 57 i0 _ 10 80 Try.underlying30 hI hZ0 hZ1 hZ2 rfl (by decide) g (ccl c) hs (by simpa [ccl] using hg) (ccl_len c) u m (flatC N) hx hr (flatC_one N) (by unfold maxLen; omega) (by omega) h
theorem wpList_ins10C (hgd : o.guard = none) (s x : Operand) (ho : o.op = .call { callee := .builtin .append, args := #[s, x], argTypes := #[30, 30] })
    (ao : Option Addr) (q : Nat) (M N : List MCh) (hs : a.eval s = .slice ao q q) (hp : RdX w 10 (.slice ao q q) q (flatC M)) (u : Value) (m : Nat) (hx : a.eval x = u) (hr : RdX w 10 u (1 + m) (flatC N)) (hm : q ≤ 1000 ∧ m ≤ 1000)
    (h : ∀ v' w', OwnC w' w.heap.size v' (M ++ N) → w.grownBy w' none → wpList Try.prog ops Q rest (a.put o.dst v') w') : wpList Try.prog ops Q (o :: rest) a w := by
  obtain ⟨i0, hI, hZ0, hZ1, hZ2⟩ := info_parts Try.info57c
  refine wpList_ins10 hgd s x 30 ho 57 i0 _ 10 80 Try.underlying30 hI hZ0 hZ1 hZ2 rfl (by decide) ao q (flatC M) hs hp u m (flatC N) hx hr (flatC_one N) (by unfold maxLen; omega) (by omega) fun v' w' ho' hg => h v' w' ?_ hg
  have h1 := hp.1
  have h2 := hr.1
  rw [flatC_len] at h1 h2
  unfold OwnC
  rw [List.length_append, flatC_app, show M.length + N.length = q + (1 + m) by omega]
  exact ho'
end
theorem rdxC_take {w wz : World} {B g n cap : Nat} {M : List MCh} (h : OwnC w B (.slice (some ⟨g, 0, none⟩) n cap) M) (hB : Below w.heap.size w wz) (q cap' : Nat) (hq : q ≤ M.length) : RdX wz 10 (.slice (some ⟨g, 0, none⟩) q cap') q (flatC (M.take q)) := by
  obtain rfl := (ownC_cases h).1
  rw [← flatC_take]
  exact rdx_take h hB q cap' hq
theorem rdxC_drop {w wz : World} {B g n cap : Nat} {M : List MCh} (h : OwnC w B (.slice (some ⟨g, 0, none⟩) n cap) M) (hB : Below w.heap.size w wz) (q l cap' o : Nat) (hl : l = M.length - q) (ho : q < M.length → o = q * 10) : RdX wz 10 (.slice (some ⟨g, o, none⟩) l cap') l (flatC (M.drop q)) := by
  obtain rfl := (ownC_cases h).1
  rw [← flatC_drop]
  exact rdx_drop h hB q l cap' o hl ho
theorem fillC (c : MCh) : Instr.fill (fun i => some (i * 10, 10)) ((Array.range (1 * 10)).map ((Value.agg #[.int .i64 0, .int .i64 0, .bool false, .int .i64 0, .int .i64 0, .int .i64 0, .bool false, .int .i64 0, .int .i64 0, .int .i64 0]).cells[· % (Value.agg #[.int .i64 0, .int .i64 0, .bool false, .int .i64 0, .int .i64 0, .int .i64 0, .bool false, .int .i64 0, .int .i64 0, .int .i64 0]).cells.size]!)) [(0, Value.agg (chCells c))] = some (chCells c) := by
  kernel_rfl
theorem insert_C {ops : Array Oper} {Q : Exit → Act → World → Prop} {a : Act} {w : World} {o4 o5 o9 o10 o11 : Oper} (sb d4 d5 s3 s8 d9 d10 d11 : Nat)
    (g4 : o4.guard = none) (p4 : o4.op = .load 57 (.tmp sb)) (t4 : o4.dst = some d4) (g5 : o5.guard = none) (p5 : o5.op = .buildSlice 30 1 #[(0, .tmp d4)]) (t5 : o5.dst = some d5)
    (g9 : o9.guard = none) (p9 : o9.op = .call { callee := .builtin .append, args := #[.tmp d5, .tmp s8], argTypes := #[30, 30] }) (t9 : o9.dst = some d9)
    (g10 : o10.guard = none) (p10 : o10.op = .call { callee := .builtin .append, args := #[.tmp s3, .tmp d9], argTypes := #[30, 30] }) (t10 : o10.dst = some d10)
    (g11 : o11.guard = none) (p11 : o11.op = .assign (.tmp d10)) (t11 : o11.dst = some d11)
    (hsz : d4 < a.tmps.size ∧ d5 < a.tmps.size ∧ d9 < a.tmps.size ∧ d10 < a.tmps.size) (hne : d4 ≠ s8 ∧ d5 ≠ s8 ∧ d4 ≠ s3 ∧ d5 ≠ s3 ∧ d9 ≠ s3)
    (cb : Nat) (c : MCh) (hcb : w.heap[cb]? = some (.cells (chCells c) 57 (0, 0)))
    (hsb : a.eval (.tmp sb) = .pointer (some ⟨cb, 0, none⟩)) (ao : Option Addr) (q : Nat) (M : List MCh) (h3 : a.eval (.tmp s3) = .slice ao q q) (u : Value) (m : Nat) (N : List MCh) (h8 : a.eval (.tmp s8) = u)
    (HT : ∀ w', Below w.heap.size w w' → RdX w' 10 (.slice ao q q) q (flatC M)) (HD : ∀ w', Below w.heap.size w w' → RdX w' 10 u m (flatC N)) (hq : q ≤ 1000) (hm : m ≤ 1000)
    (h : ∀ v9 v10 w10, OwnC w10 w.heap.size v10 (M ++ c :: N) → Below w.heap.size w w10 →
      Q .normal (((((a.put (some d4) (.agg (chCells c))).put (some d5) (.slice (some ⟨w.heap.size, 0, none⟩) 1 1)).put (some d9) v9).put (some d10) v10).put (some d11) v10) w10) :
    wpList Try.prog ops Q [o4, o5, o9, o10, o11] a w := by
  obtain ⟨i0, hI, hZ0, hZ1, hZ2⟩ := info_parts Try.info57c
  have l1 := (HT w (Below.refl _ _)).1
  have l2 := (HD w (Below.refl _ _)).1
  rw [flatC_len] at l1 l2
  refine insert_tail sb d4 d5 s3 s8 d9 d10 d11 30 57 g4 p4 t4 g5 p5 t5 g9 p9 t9 g10 p10 t10 g11 p11 t11 hsz hne i0 _ 10 80 Try.underlying30 hI hZ0 hZ1 hZ2 rfl (by decide) (by decide) _ und57 rfl cb (chCells c) rfl hcb (ccl_one c) (fillC c) hsb ao q (flatC M) h3 u m (flatC N) h8 HT HD (flatC_one N) (by unfold maxLen; omega) (by omega) ?_
  intro v9 v10 w10 ho hb
  refine h v9 v10 w10 ?_ hb
  unfold OwnC
  rw [List.length_append, List.length_cons, flatC_app, flatC_cons, show M.length + (N.length + 1) = q + (1 + m) by omega]
  exact ho

theorem ownC_form2 {w : World} {base : Nat} {v : Value} {M : List MCh} (h : OwnC w base v M) : ∃ a n c, v = .slice a n c := by
  rcases h.2 with ⟨rfl, _⟩ | ⟨g, cap, cur, rfl, _⟩
  · exact ⟨_, _, _, rfl⟩
  · exact ⟨_, _, _, rfl⟩
theorem own_same {w w' : World} {base : Nat} {v : Value} {M : List MRow} (h : OwnR w base v M) (k : ∀ (g : Nat) (cur : Array Value), w.heap[g]? = some (Obj.cells cur 50 (0, 0)) → w'.heap[g]? = w.heap[g]?) : OwnR w' base v M := by
  obtain ⟨hl, h⟩ := h
  exact ⟨hl, h.imp id fun ⟨g, cap, cur, e, hg, hb, r⟩ => ⟨g, cap, cur, e, hg, (k g cur hb).trans hb, r⟩⟩
theorem own_sameC {w w' : World} {base : Nat} {v : Value} {M : List MCh} (h : OwnC w base v M) (k : ∀ (g : Nat) (cur : Array Value), w.heap[g]? = some (Obj.cells cur 57 (0, 0)) → w'.heap[g]? = w.heap[g]?) : OwnC w' base v M := by
  obtain ⟨hl, h⟩ := h
  exact ⟨hl, h.imp id fun ⟨g, cap, cur, e, hg, hb, r⟩ => ⟨g, cap, cur, e, hg, (k g cur hb).trans hb, r⟩⟩

/-- Holds a walk where it stands. -/
theorem hold {p : Prop} (h : Hid p) : p := h.out
theorem Try.follows : Try.prog.follows .mixedOrders = true := by kernel_rfl
end Go.Proofs.Ytaapggeaoacikaa
