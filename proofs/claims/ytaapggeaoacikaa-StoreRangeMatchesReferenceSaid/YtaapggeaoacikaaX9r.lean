/- LISTS OF ROWS: taking, dropping, putting one in. -/
import Derived.Test.YtaapggeaoacikaaX5b
import Derived.Test.YtaapggeaoacikaaX9a
set_option linter.unusedVariables false
set_option linter.unusedSimpArgs false
namespace Go.Proofs.Ytaapggeaoacikaa
open Go.RowKit Go.Sort Go.ChangeMaps Go.MapKept

theorem flat_cons (r : MRow) (M : List MRow) : flat (r :: M) = rcl r ++ flat M := rfl
theorem flat_take (M : List MRow) : ∀ q : Nat, (flat M).take (q * 5) = flat (M.take q) := by
  induction M with
  | nil => intro q; simp [flat]
  | cons r M ih =>
    intro q
    cases q with
    | zero => simp [flat]
    | succ q =>
      rw [flat_cons, List.take_succ_cons, flat_cons, ← ih, show (q + 1) * 5 = (rcl r).length + q * 5 by rw [rcl_len]; omega, List.take_length_add_append]
theorem flat_drop (M : List MRow) : ∀ q : Nat, (flat M).drop (q * 5) = flat (M.drop q) := by
  induction M with
  | nil => intro q; simp [flat]
  | cons r M ih =>
    intro q
    cases q with
    | zero => simp
    | succ q =>
      rw [flat_cons, List.drop_succ_cons, ← ih, show (q + 1) * 5 = (rcl r).length + q * 5 by rw [rcl_len]; omega, List.drop_length_add_append]
theorem ownR_cases {w : World} {B : Nat} {a : Option Addr} {n cap : Nat} {M : List MRow} (h : OwnR w B (.slice a n cap) M) : n = M.length ∧ n ≤ cap ∧ cap ≤ 9223372036854775807 ∧ ((a = none ∧ cap = 0 ∧ M = []) ∨ ∃ g, a = some ⟨g, 0, none⟩ ∧ g < w.heap.size) := by
  rcases h.2 with ⟨e, h0⟩ | ⟨g, cap', cur, e, _, hb, h1, h2, _⟩
  · simp at e
    obtain ⟨rfl, rfl, rfl⟩ := e
    exact ⟨h0.symm, Nat.le_refl _, by omega, .inl ⟨rfl, rfl, List.eq_nil_of_length_eq_zero h0⟩⟩
  · simp at e
    obtain ⟨rfl, rfl, rfl⟩ := e
    exact ⟨rfl, h1, by unfold maxLen at h2; omega, .inr ⟨g, rfl, lt_of_block hb⟩⟩
def rowAr (r : MRow) : Array Value := #[.int .i64 r.t, .int .i64 r.k, .int .i64 r.v.a, .int .i64 r.v.b, .int .i64 r.v.c]
theorem fillR (r : MRow) : Instr.fill (fun i => some (i * 5, 5)) ((Array.range (1 * 5)).map ((Value.agg #[.int .i64 0, .int .i64 0, .int .i64 0, .int .i64 0, .int .i64 0]).cells[· % (Value.agg #[.int .i64 0, .int .i64 0, .int .i64 0, .int .i64 0, .int .i64 0]).cells.size]!)) [(0, Value.agg (rowAr r))] = some (rowAr r) := by
  kernel_rfl
theorem insert_R {ops : Array Oper} {Q : Exit → Act → World → Prop} {a : Act} {w : World} {o4 o5 o9 o10 o11 : Oper} (sb d4 d5 s3 s8 d9 d10 d11 : Nat)
    (g4 : o4.guard = none) (p4 : o4.op = .load 50 (.tmp sb)) (t4 : o4.dst = some d4) (g5 : o5.guard = none) (p5 : o5.op = .buildSlice 36 1 #[(0, .tmp d4)]) (t5 : o5.dst = some d5)
    (g9 : o9.guard = none) (p9 : o9.op = .call { callee := .builtin .append, args := #[.tmp d5, .tmp s8], argTypes := #[36, 36] }) (t9 : o9.dst = some d9)
    (g10 : o10.guard = none) (p10 : o10.op = .call { callee := .builtin .append, args := #[.tmp s3, .tmp d9], argTypes := #[36, 36] }) (t10 : o10.dst = some d10)
    (g11 : o11.guard = none) (p11 : o11.op = .assign (.tmp d10)) (t11 : o11.dst = some d11)
    (hsz : d4 < a.tmps.size ∧ d5 < a.tmps.size ∧ d9 < a.tmps.size ∧ d10 < a.tmps.size) (hne : d4 ≠ s8 ∧ d5 ≠ s8 ∧ d4 ≠ s3 ∧ d5 ≠ s3 ∧ d9 ≠ s3)
    (cb : Nat) (r : MRow) (hcb : w.heap[cb]? = some (.cells (rowAr r) 50 (0, 0)))
    (hsb : a.eval (.tmp sb) = .pointer (some ⟨cb, 0, none⟩)) (ao : Option Addr) (q : Nat) (M : List MRow) (h3 : a.eval (.tmp s3) = .slice ao q q) (u : Value) (m : Nat) (N : List MRow) (h8 : a.eval (.tmp s8) = u)
    (HT : ∀ w', Below w.heap.size w w' → RdX w' 5 (.slice ao q q) q (flat M)) (HD : ∀ w', Below w.heap.size w w' → RdX w' 5 u m (flat N)) (hq : q ≤ 100000) (hm : m ≤ 100000)
    (h : ∀ v9 v10 w10, OwnR w10 w.heap.size v10 (M ++ r :: N) → Below w.heap.size w w10 →
      Q .normal (((((a.put (some d4) (.agg (rowAr r))).put (some d5) (.slice (some ⟨w.heap.size, 0, none⟩) 1 1)).put (some d9) v9).put (some d10) v10).put (some d11) v10) w10) :
    wpList Try.prog ops Q [o4, o5, o9, o10, o11] a w := by
  obtain ⟨i0, hI, hZ0, hZ1, hZ2⟩ := info_parts Try.info50
  have l1 := (HT w (Below.refl _ _)).1
  have l2 := (HD w (Below.refl _ _)).1
  rw [flat_len] at l1 l2
  refine insert_tail sb d4 d5 s3 s8 d9 d10 d11 36 50 g4 p4 t4 g5 p5 t5 g9 p9 t9 g10 p10 t10 g11 p11 t11 hsz hne i0 _ 5 40 Try.underlying36 hI hZ0 hZ1 hZ2 rfl (by decide) (by decide) _ und50 rfl cb (rowAr r) rfl hcb (rcl_one r) (fillR r) hsb ao q (flat M) h3 u m (flat N) h8 HT HD (flat_one N) (by unfold maxLen; omega) (by omega) ?_
  intro v9 v10 w10 ho hb
  refine h v9 v10 w10 ?_ hb
  unfold OwnR
  rw [List.length_append, List.length_cons, flat_app, flat_cons, show M.length + (N.length + 1) = q + (1 + m) by omega]
  exact ho
theorem rdxR_take {w wz : World} {B g n cap : Nat} {M : List MRow} (h : OwnR w B (.slice (some ⟨g, 0, none⟩) n cap) M) (hB : Below w.heap.size w wz) (q cap' : Nat) (hq : q ≤ M.length) : RdX wz 5 (.slice (some ⟨g, 0, none⟩) q cap') q (flat (M.take q)) := by
  obtain rfl := (ownR_cases h).1
  rw [← flat_take]
  exact rdx_take h hB q cap' hq
theorem rdxR_drop {w wz : World} {B g n cap : Nat} {M : List MRow} (h : OwnR w B (.slice (some ⟨g, 0, none⟩) n cap) M) (hB : Below w.heap.size w wz) (q l cap' o : Nat) (hl : l = M.length - q) (ho : q < M.length → o = q * 5) : RdX wz 5 (.slice (some ⟨g, o, none⟩) l cap') l (flat (M.drop q)) := by
  obtain rfl := (ownR_cases h).1
  rw [← flat_drop]
  exact rdx_drop h hB q l cap' o hl ho
end Go.Proofs.Ytaapggeaoacikaa
