/- WALKS: change. -/
import Derived.Test.YtaapggeaoacikaaK2
set_option linter.unusedVariables false
set_option linter.unusedSimpArgs false
namespace Go.Proofs.Ytaapggeaoacikaa
open Go.RowKit Go.Sort Go.ChangeMaps Go.MapKept

section
variable {w : World} {ops : Array Oper} {rest : List Oper} {o : Oper} {a : Act} {Q : Exit → Act → World → Prop}
theorem wpList_del (hg : o.guard = none) (m x : Operand) (hop : o.op = Op.call { callee := Callee.builtin Builtin.delete, args := #[m, x], argTypes := #[69, 78] }) (b : Nat) (L : List MRow) (t k : Int)
    (hm : a.eval m = .map (some b)) (hx : a.eval x = plV t k) (hs : StMap w b L) (ht : I64 t) (hk : I64 k)
    (hK : ∀ w', StMap w' b (L.filter fun r => !atk t k r) → Turned w w' b → wpList Try.prog ops Q rest (a.put o.dst (.tuple #[])) w') : wpList Try.prog ops Q (o :: rest) a w := by
  refine wpList_plain hg fun K' hK' => ?_
  obtain ⟨w', hrun, r1, r2⟩ := hs.del ht hk o.type
  unfold Oper.wp
  simp [execOp, hop, resolve, invoke, builtin, hm, hx, hrun, Result.andThen]
  exact hK' _ _ (hK w' r1 r2)
theorem wpList_add (hg : o.guard = none) (m x v : Operand) (hop : o.op = Op.mapUpdate 69 m x v) (b : Nat) (L : List MRow) (r : MRow)
    (hm : a.eval m = .map (some b)) (hx : a.eval x = plV r.t r.k) (hv : a.eval v = rowV r) (hs : StMap w b L) (ht : I64 r.t) (hk : I64 r.k) (hn : ∀ s ∈ L, ¬ (s.t = r.t ∧ s.k = r.k))
    (hK : ∀ w', StMap w' b (r :: L) → Turned w w' b → wpList Try.prog ops Q rest (a.put o.dst undef) w') : wpList Try.prog ops Q (o :: rest) a w := by
  refine wpList_plain hg fun K' hK' => ?_
  obtain ⟨w', hrun, r1, r2⟩ := hs.add r ht hk hn
  unfold Oper.wp
  simp [execOp, hop, hm, hx, hv, hrun, Result.andThen]
  exact hK' _ _ (hK w' r1 r2)
end

theorem Kept.cell {F : Nat → Prop} {W W' : World} (h : Kept F W W') {p : Addr} (hp : p.block < W.heap.size) (hf : ¬ F p.block) : W'.cell? p = W.cell? p := World.cell?_of_block (w := W) (h.block p.block hp hf)
theorem ChAt.kept {F : Nat → Prop} {W W' : World} {b o : Nat} {c : MCh} (h : ChAt W b o c) (k : Kept F W W') (hb : b < W.heap.size) (hf : ¬ F b) : ChAt W' b o c := fun j hj => (k.cell (p := ⟨b, o + j, none⟩) hb hf).trans (h j hj)

theorem aft_true (t k oa ob oc na nb nc : Int) (x : Bool) (W : World) : Calls Try.prog 28 #[chV ⟨t, k, x, ⟨oa, ob, oc⟩, true, ⟨na, nb, nc⟩⟩] W fun e w' => e = .returned (.tuple #[rowV ⟨t, k, ⟨na, nb, nc⟩⟩, .bool true]) ∧ Below W.heap.size W w' := after_any ⟨t, k, x, ⟨oa, ob, oc⟩, true, ⟨na, nb, nc⟩⟩ W
theorem aft_false (t k oa ob oc na nb nc : Int) (x : Bool) (W : World) : Calls Try.prog 28 #[chV ⟨t, k, x, ⟨oa, ob, oc⟩, false, ⟨na, nb, nc⟩⟩] W fun e w' => e = .returned (.tuple #[rowV ⟨0, 0, ⟨0, 0, 0⟩⟩, .bool false]) ∧ Below W.heap.size W w' := after_any ⟨t, k, x, ⟨oa, ob, oc⟩, false, ⟨na, nb, nc⟩⟩ W

/-- What a step leaves of the entries, and nothing but the map's block and new ones turned. -/
def Stepped (W : World) (mb : Nat) (M : List MRow) (w' : World) : Prop := StMap w' mb M ∧ Kept (fun k => k = mb) W w'

set_option maxRecDepth 100000 in
set_option maxHeartbeats 4000000 in
theorem change_any {W : World} {b mb : Nat} {L : List MRow} {p : Int} (hb : W.heap[b]? = some (.cells #[.map (some mb), .int .i64 p] 73 (0, 0))) (hs : StMap W mb L) (hL : Srt L) (c : MCh) (hv : VCh c) :
    Calls Try.prog 36 #[.pointer (some ⟨b, 0, none⟩), chV c] W fun e w' => e = .returned (.tuple #[]) ∧ Stepped W mb (stepC L c) w' := by
  have Hit : Hid (I64 c.t ∧ I64 c.k) := Lib.hid (by
    obtain ⟨h1, h2, h3, h4⟩ := hv
    rcases h1 with h1 | h1
    · exact (h3.1 h1).i64
    · exact (h4.1 h1).i64)
  have HP := Lib.hid (perm_step L c)
  have HS := Lib.hid hs
  have HB := Lib.hid hb
  have hne : mb ≠ b := by
    intro e
    obtain ⟨es, clock, h1, _⟩ := hs
    rw [e, hb] at h1
    cases h1
  have hbl := lt_of_block hb
  have hml := hs.lt
  obtain ⟨t, kk, had, ⟨oa, ob, oc⟩, has, ⟨na, nb, nc⟩⟩ := c
  clear hs hb hv hL
  unfold chV
  go_enter Try.func36, Try.ntmps36
  go_wp2_with fail
  obtain ⟨wb, Hwb⟩ : ∃ wb, Hid (W.alloc (.cells #[.int .i64 t, .int .i64 kk, .bool had, .int .i64 oa, .int .i64 ob, .int .i64 oc, .bool has, .int .i64 na, .int .i64 nb, .int .i64 nc] 57) = wb) := ⟨_, Lib.hid rfl⟩
  rw [Hwb.out]
  have HCb : Hid (ChAt wb W.heap.size 0 ⟨t, kk, had, ⟨oa, ob, oc⟩, has, ⟨na, nb, nc⟩⟩) := Lib.hid (by rw [← Hwb.out]; exact ChAt_new W ⟨t, kk, had, ⟨oa, ob, oc⟩, has, ⟨na, nb, nc⟩⟩)
  have Hrb : Hid (Below W.heap.size W wb) := Lib.hid (by rw [← Hwb.out]; exact ba _ _)
  have hsz : W.heap.size < wb.heap.size := by rw [← Hwb.out]; simp
  -- what holds of every world in which nothing of W or of the change's block has turned
  have hcell : ∀ w0, BW wb w0 → ∀ j, j < 10 → ∀ d os, (grow (redrawn w0 d) os).cell? ⟨W.heap.size, j, none⟩ = (chCells ⟨t, kk, had, ⟨oa, ob, oc⟩, has, ⟨na, nb, nc⟩⟩)[j]? := fun w0 h j hj d os => by
    have := ((HCb.out.below hsz h).below (Nat.lt_of_lt_of_le hsz h.size) (below_regrown w0 d os)) j hj
    simpa using this
  have g0 := fun w0 h => hcell w0 h 0 (by omega)
  have g1 := fun w0 h => hcell w0 h 1 (by omega)
  have g2 := fun w0 h => hcell w0 h 2 (by omega)
  have g3 := fun w0 h => hcell w0 h 3 (by omega)
  have g4 := fun w0 h => hcell w0 h 4 (by omega)
  have g5 := fun w0 h => hcell w0 h 5 (by omega)
  have g6 := fun w0 h => hcell w0 h 6 (by omega)
  have g7 := fun w0 h => hcell w0 h 7 (by omega)
  have g8 := fun w0 h => hcell w0 h 8 (by omega)
  have g9 := fun w0 h => hcell w0 h 9 (by omega)
  simp only [chCells, List.getElem?_toArray, List.getElem?_cons_zero, List.getElem?_cons_succ] at g0 g1 g2 g3 g4 g5 g6 g7 g8 g9
  have HCell := Lib.hid hcell
  clear hcell
  have gm : ∀ w0, BW wb w0 → ∀ d os, (grow (redrawn w0 d) os).cell? ⟨b, 0, none⟩ = some (.map (some mb)) := fun w0 h d os => by
    have k : Below W.heap.size W (grow (redrawn w0 d) os) := bt Hrb.out (bt h (below_regrown w0 d os))
    have : (grow (redrawn w0 d) os).heap[b]? = W.heap[b]? := k.block b hbl
    simp [World.cell?, this, HB.out]
  refine wp_region_calm 6 7 [0, 1, 2, 3, 4, 5] (by kernel_rfl) (by kernel_rfl) (by intro oz h; simp at h) (by intro oz h; simp at h) (by rfl) ?_
  simp only [List.take_succ_cons, List.take_zero]
  iterate 5
    apply wpCalm_want
    · rfl
    · exact bc_refl
    · exact ⟨_, Below.refl _ _⟩
    · intro w0 hC0 K hK
      go_big_quiet_op
      exact hK
  apply wpCalm_want
  · rfl
  · exact bc_refl
  · exact ⟨_, Below.refl _ _⟩
  · intro w0 hC0 K hK
    go_big_quiet_op
    apply Exists.intro
    refine ⟨fun p => ?_, ?_⟩
    · exact Calls.regrown_of (placeOf_any ⟨t, kk, had, ⟨oa, ob, oc⟩, has, ⟨na, nb, nc⟩⟩ _)
    · exact hK
  refine wpCalm_nil ?_
  intro wc hbc
  simp only [List.drop_succ_cons, List.drop_zero]
  try go_frame
  have hcw : Below W.heap.size W wc := bt Hrb.out hbc
  refine wpList_del rfl _ _ rfl mb L t kk rfl rfl (HS.out.of_block (hcw.block mb hml)) Hit.out.1 Hit.out.2 ?_
  intro wd hsd htd
  try go_frame
  have HKd : Hid (Kept (fun k => k = mb) wb wd) := Lib.hid ((Kept.of_below hbc).trans htd.kept (fun _ _ f => f))
  have HSd := Lib.hid hsd
  clear g0 g1 g2 g3 g4 g5 g6 g7 g8 g9 gm hsd htd hcw hbc
  have HCd : Hid (ChAt wd W.heap.size 0 ⟨t, kk, had, ⟨oa, ob, oc⟩, has, ⟨na, nb, nc⟩⟩) := Lib.hid (HCb.out.kept HKd.out hsz (by omega))
  have hdl : W.heap.size < wd.heap.size := Nat.lt_of_lt_of_le hsz HKd.out.size
  have HBd : Hid (wd.heap[b]? = some (.cells #[.map (some mb), .int .i64 p] 73 (0, 0))) := Lib.hid (by
    rw [HKd.out.block b (by omega) (fun e => hne e.symm), Hrb.out.block b hbl]; exact HB.out)
  have HCd' := HCd.out.cells
  simp only [Nat.zero_add] at HCd'
  obtain ⟨d0, d1, d2, d3, d4, d5, d6, d7, d8, d9⟩ := HCd'
  cases has
  · go_wp2_with fail
    (with_reducible refine (aft_false t kk oa ob oc na nb nc had _).mono ?_)
    rintro e w2 ⟨rfl, hb2⟩
    have HB2 := Lib.hid (bt hb2 (ba w2 (.cells #[.int .i64 0, .int .i64 0, .int .i64 0, .int .i64 0, .int .i64 0] 50)))
    clear hb2
    go_wp2_with fail
    go_end0
    refine ⟨rfl, ?_, ?_⟩
    · have h1 := StMap.of_block HSd.out (HB2.out.block mb (Nat.lt_of_lt_of_le (by omega) HKd.out.size))
      exact h1.perm (by have := HP.out; simp only [Bool.false_eq_true, if_false, List.nil_append] at this; exact this.symm)
    · exact (Kept.of_below Hrb.out).trans ((HKd.out).then HB2.out) (fun _ _ f => f)
  · go_wp2_with fail
    (with_reducible refine (aft_true t kk oa ob oc na nb nc had _).mono ?_)
    rintro e w2 ⟨rfl, hb2⟩
    have HB2 := Lib.hid (bt hb2 (ba w2 (.cells #[.int .i64 t, .int .i64 kk, .int .i64 na, .int .i64 nb, .int .i64 nc] 50)))
    have hdl2 : W.heap.size < w2.heap.size := Nat.lt_of_lt_of_le hdl hb2.size
    clear hb2 d0 d1 d2 d3 d4 d5 d6 d7 d8 d9
    go_wp2_with fail
    have HY0 : Hid ((w2.alloc (.cells #[.int .i64 t, .int .i64 kk, .int .i64 na, .int .i64 nb, .int .i64 nc] 50)).heap[w2.heap.size]? = some (.cells #[.int .i64 t, .int .i64 kk, .int .i64 na, .int .i64 nb, .int .i64 nc] 50 (0, 0))) := Lib.hid (MapKept.heap_alloc w2 _).1
    have hz3 : w2.heap.size < (w2.alloc (.cells #[.int .i64 t, .int .i64 kk, .int .i64 na, .int .i64 nb, .int .i64 nc] 50)).heap.size := by simp
    obtain ⟨w3, Hw3⟩ : ∃ w3, Hid (w2.alloc (.cells #[.int .i64 t, .int .i64 kk, .int .i64 na, .int .i64 nb, .int .i64 nc] 50) = w3) := ⟨_, Lib.hid rfl⟩
    rw [Hw3.out] at HB2 HY0 hz3 ⊢
    have hcell : ∀ w0, BW w3 w0 → ∀ j, j < 10 → ∀ d os, (grow (redrawn w0 d) os).cell? ⟨W.heap.size, j, none⟩ = (chCells ⟨t, kk, had, ⟨oa, ob, oc⟩, true, ⟨na, nb, nc⟩⟩)[j]? := fun w0 h j hj d os => by
      have := (((HCd.out.below hdl HB2.out).below (by omega) h).below (Nat.lt_of_lt_of_le (show W.heap.size < w3.heap.size by omega) h.size) (below_regrown w0 d os)) j hj
      simpa using this
    have g0 := fun w0 h => hcell w0 h 0 (by omega)
    have g1 := fun w0 h => hcell w0 h 1 (by omega)
    have g2 := fun w0 h => hcell w0 h 2 (by omega)
    have g3 := fun w0 h => hcell w0 h 3 (by omega)
    have g4 := fun w0 h => hcell w0 h 4 (by omega)
    have g5 := fun w0 h => hcell w0 h 5 (by omega)
    have g6 := fun w0 h => hcell w0 h 6 (by omega)
    have g7 := fun w0 h => hcell w0 h 7 (by omega)
    have g8 := fun w0 h => hcell w0 h 8 (by omega)
    have g9 := fun w0 h => hcell w0 h 9 (by omega)
    simp only [chCells, List.getElem?_toArray, List.getElem?_cons_zero, List.getElem?_cons_succ] at g0 g1 g2 g3 g4 g5 g6 g7 g8 g9
    clear hcell
    have hrow : ∀ w0, BW w3 w0 → ∀ d os, RowAt (grow (redrawn w0 d) os) w2.heap.size ⟨t, kk, ⟨na, nb, nc⟩⟩ := fun w0 h d os =>
      rowAt_of (t := 50) (((below_regrown w0 d os).block _ (Nat.lt_of_lt_of_le hz3 h.size)).trans ((h.block _ hz3).trans HY0.out))
    have y0 := fun w0 h d os => (hrow w0 h d os).c0
    have y1 := fun w0 h d os => (hrow w0 h d os).c1
    have y2 := fun w0 h d os => (hrow w0 h d os).c2
    have y3 := fun w0 h d os => (hrow w0 h d os).c3
    have y4 := fun w0 h d os => (hrow w0 h d os).c4
    simp only at y0 y1 y2 y3 y4
    clear hrow
    have gm : ∀ w0, BW w3 w0 → ∀ d os, (grow (redrawn w0 d) os).cell? ⟨b, 0, none⟩ = some (.map (some mb)) := fun w0 h d os => by
      have k : Below wd.heap.size wd (grow (redrawn w0 d) os) := bt HB2.out (bt h (below_regrown w0 d os))
      have : (grow (redrawn w0 d) os).heap[b]? = wd.heap[b]? := k.block b (by omega)
      simp [World.cell?, this, HBd.out]
    refine wp_region_calm 7 8 [0, 1, 2, 3, 4, 5, 6] (by kernel_rfl) (by kernel_rfl) (by intro oz h; simp at h) (by intro oz h; simp at h) (by rfl) ?_
    simp only [List.take_succ_cons, List.take_zero]
    iterate 5
      apply wpCalm_want
      · rfl
      · exact bc_refl
      · exact ⟨_, Below.refl _ _⟩
      · intro w0 hC0 K hK
        go_big_quiet_op
        exact hK
    apply wpCalm_want
    · rfl
    · exact bc_refl
    · exact ⟨_, Below.refl _ _⟩
    · intro w0 hC0 K hK
      go_big_quiet_op
      apply Exists.intro
      refine ⟨fun p => ?_, ?_⟩
      · exact Calls.regrown_of (placeOf_any ⟨t, kk, had, ⟨oa, ob, oc⟩, true, ⟨na, nb, nc⟩⟩ _)
      · exact hK
    apply wpCalm_want
    · rfl
    · exact bc_refl
    · exact ⟨_, Below.refl _ _⟩
    · intro w0 hC0 K hK
      go_big_quiet_op
      exact hK
    refine wpCalm_nil ?_
    intro w4 hb4
    simp only [List.drop_succ_cons, List.drop_zero]
    try go_frame
    have h4 : Below wd.heap.size wd w4 := bt HB2.out hb4
    refine wpList_add rfl _ _ _ rfl mb _ ⟨t, kk, ⟨na, nb, nc⟩⟩ rfl rfl rfl (StMap.of_block HSd.out (h4.block mb (by omega))) Hit.out.1 Hit.out.2 (fun s hs e => by
      have := (List.mem_filter.1 hs).2
      simp [atk, e.1, e.2] at this) ?_
    intro w5 hs5 ht5
    try go_frame
    have HK5 : Hid (Kept (fun k => k = mb) wd w5) := Lib.hid ((Kept.of_below h4).trans ht5.kept (fun _ _ f => f))
    have HS5 := Lib.hid hs5
    clear g0 g1 g2 g3 g4 g5 g6 g7 g8 g9 gm y0 y1 y2 y3 y4 hs5 ht5 h4 hb4
    go_wp2_with fail
    go_end0
    refine ⟨rfl, ?_, ?_⟩
    · exact HS5.out.perm (by have := HP.out; simp only [if_true, List.cons_append, List.nil_append] at this; exact this.symm)
    · exact (Kept.of_below Hrb.out).trans (HKd.out.trans HK5.out (fun _ _ f => f)) (fun _ _ f => f)
end Go.Proofs.Ytaapggeaoacikaa
