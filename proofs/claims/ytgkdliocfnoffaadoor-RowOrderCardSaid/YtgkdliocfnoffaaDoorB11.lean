/- WALKS: RowOrder: laws of stores. -/
import Derived.Test.YtgkdliocfnoffaaDoorB9
import Derived.Test.YtgkdliocfnoffaaDoorB3
import Derived.Test.YtgkdliocfnoffaaDoorWPick
import Derived.Deep.Cut
import Derived.Deep.RegionHeld3
set_option linter.unusedVariables false
set_option linter.unusedSimpArgs false
namespace Go.Proofs.YtgkdliocfnoffaaDoor
open Go.RowKit Go.Sort

set_option maxHeartbeats 2000000 in
theorem run_storeVar_ch (w : World) (g o : Nat) (c : MCh) (hr : ∀ q : Nat, q < 10 → ∃ u, w.cell? ⟨g, o + q, none⟩ = some u) (hf : ∀ q, w.frozen? ⟨g, q, none⟩ = false) :
    (storeVar 42 ⟨g, o, none⟩ (.agg (chCells c))).run Tryd.prog w = .ok () (set10 w g o c) := by
  obtain ⟨i0, hi, hz0, hz1, hz2⟩ := info_parts info42
  obtain ⟨u0, h0⟩ := hr 0 (by omega)
  obtain ⟨u1, h1⟩ := hr 1 (by omega)
  obtain ⟨u2, h2⟩ := hr 2 (by omega)
  obtain ⟨u3, h3⟩ := hr 3 (by omega)
  obtain ⟨u4, h4⟩ := hr 4 (by omega)
  obtain ⟨u5, h5⟩ := hr 5 (by omega)
  obtain ⟨u6, h6⟩ := hr 6 (by omega)
  obtain ⟨u7, h7⟩ := hr 7 (by omega)
  obtain ⟨u8, h8⟩ := hr 8 (by omega)
  obtain ⟨u9, h9⟩ := hr 9 (by omega)
  simp only [Nat.add_zero] at h0
  obtain ⟨t, k, had, ⟨oa, ob, oc⟩, has, ⟨na, nb, nc⟩⟩ := c
  simp [go_sem, storeVar, sizeOf, typeInfo, hi, hz1, chCells, Value.cells, h0, h1, h2, h3, h4, h5, h6, h7, h8, h9, hf, set10]
theorem wpList_store_ch {ops : Array Oper} {rest : List Oper} {o : Oper} {a : Act} {w : World} {Q : Exit → Act → World → Prop} (hgd : o.guard = none) (x y : Operand) (ho : o.op = .store 42 x y) (hd : o.dst = none)
    (g off : Nat) (c : MCh) (hx : a.eval x = .pointer (some ⟨g, off, none⟩)) (hy : a.eval y = .agg (chCells c))
    (hr : ∀ q : Nat, q < 10 → ∃ u, w.cell? ⟨g, off + q, none⟩ = some u) (hf : ∀ q, w.frozen? ⟨g, q, none⟩ = false)
    (h : wpList Tryd.prog ops Q rest a (set10 w g off c)) : wpList Tryd.prog ops Q (o :: rest) a w :=
  wpList_plain hgd fun _ hK => by
    unfold Oper.wp execOp
    simp only [ho, hx, hy, Instr.storeAt, Instr.sureAddr, Sem.run_bind, Sem.run_pure, Result.andThen_ok, run_storeVar_ch w g off c hr hf]
    have := hK (a.put o.dst undef) _ (by rw [hd]; exact h)
    exact this
theorem step_store_ch {w : World} {ops : Array Oper} {o : Oper} {a : Act} {K : Act → World → Prop} {Q : Exit → Act → World → Prop} {E : Prop}
    (hg : o.guard = none) (x y : Operand) (hop : o.op = .store 42 x y) (hd : o.dst = none) (g off : Nat) (c : MCh) (hx : a.eval x = .pointer (some ⟨g, off, none⟩)) (hy : a.eval y = .agg (chCells c))
    (hr : ∀ q : Nat, q < 10 → ∃ u, w.cell? ⟨g, off + q, none⟩ = some u) (hf : ∀ q, w.frozen? ⟨g, q, none⟩ = false) (hK : ∀ w', w' = set10 w g off c → K a w') :
    if Region.wanted o (yielded ops a.tmps) = true then Oper.wp Tryd.prog o a w K Q else E := by
  have hw : Region.wanted o (yielded ops a.tmps) = true := by simp [Region.wanted, hg]
  rw [if_pos hw]
  unfold Oper.wp execOp
  simp only [hop, hx, hy, Instr.storeAt, Instr.sureAddr, Sem.run_bind, Sem.run_pure, Result.andThen_ok, run_storeVar_ch w g off c hr hf]
  have hp : a.put o.dst undef = a := by rw [hd]; rfl
  have := hK _ rfl
  rw [← hp] at this
  exact this
theorem own_set_of {w9 w : World} {g c i : Nat} {L : List MCh} {x : MCh} (e : w9 = set10 w g (i * 10) x) (h : OwnAt w g c L) (hi : i < L.length) : OwnAt w9 g c (L.set i x) := by subst e; exact h.set i hi x
theorem own_far_of {w9 w : World} {g g' c o : Nat} {L : List MCh} {x : MCh} (e : w9 = set10 w g o x) (h : OwnAt w g' c L) (hne : ¬ g' = g) : OwnAt w9 g' c L := by subst e; exact h.far10 hne _ _
theorem rec_far_of {w9 w : World} {X g o : Nat} {x : MCh} {p : Int} {u : Value} (e : w9 = set10 w g o x) (h : RecAt w X p u) (hne : ¬ X = g) : RecAt w9 X p u := by subst e; exact h.far10 hne _ _
theorem below_far_of {W w9 w : World} {g o : Nat} {x : MCh} (e : w9 = set10 w g o x) (h : Below W.heap.size W w) (hg : W.heap.size ≤ g) : Below W.heap.size W w9 := by subst e; exact below_set10 h hg _ _
theorem OwnAt.roomAt {w : World} {g c : Nat} {L : List MCh} (h : OwnAt w g c L) (i : Nat) (hi : i < L.length) : ∀ q : Nat, q < 10 → ∃ u, w.cell? ⟨g, i * 10 + q, none⟩ = some u := fun q hq => by
  rw [h.at i hi q hq]
  obtain ⟨u, hu, _⟩ := chCells_some (L.getD i chZ) q hq
  exact ⟨u, hu⟩
theorem OwnAt.heapEq {w w' : World} {g c : Nat} {L : List MCh} (h : OwnAt w g c L) (e : w'.heap[g]? = w.heap[g]?) : OwnAt w' g c L := by
  obtain ⟨cur, hr, r⟩ := h
  exact ⟨cur, e.trans hr, r⟩
theorem RecAt.set1 {w : World} {X : Nat} {p : Int} {u : Value} (h : RecAt w X p u) (u' : Value) : RecAt (w.setCell ⟨X, 1, none⟩ u') X p u' := by
  refine ⟨?_, ?_, ?_, ?_⟩
  · rw [World.cell?_setCell_other _ _ _ _ (by simp)]; exact h.c0
  · exact World.cell?_setCell_same _ _ _ h.c1
  all_goals (rw [World.frozen?_setCell]; first | exact h.f0 | exact h.f1)
theorem cellsOf_snoc (A : List MCh) (n : Nat) (c : MCh) (hn : A.length = n) : cellsOf A n ++ (chCells c).toList = cellsOf (A ++ [c]) (n + 1) := by
  apply List.ext_getElem?
  intro j
  by_cases hj : j < n * 10
  · rw [List.getElem?_append_left (by rw [cellsOf_len]; exact hj), cellsOf_get A n j hj, cellsOf_get _ _ j (by omega)]
    rw [show (A ++ [c]).getD (j / 10) chZ = A.getD (j / 10) chZ by rw [List.getD_eq_getElem?_getD, List.getElem?_append_left (by omega), ← List.getD_eq_getElem?_getD]]
  · rw [List.getElem?_append_right (by rw [cellsOf_len]; omega), cellsOf_len]
    by_cases hj2 : j < (n + 1) * 10
    · rw [cellsOf_get _ _ j hj2, show j / 10 = n by omega, show (A ++ [c]).getD n chZ = c by simp [List.getD_eq_getElem?_getD, ← hn], show j - n * 10 = j % 10 by omega]
      simp
    · rw [List.getElem?_eq_none (by simp [chCells]; omega), List.getElem?_eq_none (by rw [cellsOf_len]; omega)]
theorem chs_owns {w : World} {base g m cap : Nat} {L : List MCh} (h : w.ownsRow base 42 10 (.slice (some ⟨g, 0, none⟩) m cap) m (cellsOf L m)) (hm : m = L.length) : ChS w (.slice (some ⟨g, 0, none⟩) m cap) L := by
  have hch := chAt_of_owns h
  obtain ⟨hl, h | ⟨g', cap', cur, e, hb, hr, hn, hc, hs, ht⟩⟩ := h
  · simp at h
  · obtain ⟨⟨rfl, _⟩, _, rfl⟩ : ((g = g' ∧ True) ∧ True ∧ cap = cap') := by simpa using e
    exact ⟨_, m, cap, rfl, hm, hn, by unfold maxLen at hc; omega, fun _ => ⟨g, 0, rfl, (Array.getElem?_eq_some_iff.1 hr).1, fun i hi => by rw [Nat.zero_add]; exact hch i hi⟩⟩
theorem pickN (c : Int) (n : Nat) (h1 : -9223372036854775808 ≤ c) (h2 : c ≤ 9223372036854775807) (hn : 1 ≤ n) (hn2 : n ≤ 10) : ∃ q : Nat, q < n ∧ ∀ w, Calls Tryd.prog 21 #[.int .i64 c, .int .i64 n] w fun e w' => e = .returned (.int .i64 (q : Int)) ∧ Below w.heap.size w w' := by
  have hp : 0 ≤ pk c n ∧ pk c n < n := by
    unfold pk
    exact ⟨Int.emod_nonneg _ (by omega), Int.emod_lt_of_pos _ (by omega)⟩
  refine ⟨(pk c n).toNat, by omega, fun w => (pick_any c n w h1 h2 (by omega) (by omega)).mono fun e w' hw => ⟨?_, by rw [hw.2]; exact Below.refl _ _⟩⟩
  rw [hw.1, Int.toNat_of_nonneg hp.1]
end Go.Proofs.YtgkdliocfnoffaaDoor
