/- WALKS: the reference: Before, After, ValidChange. -/
import Derived.Test.YtaapggeaoacikaaF1
set_option linter.unusedVariables false
set_option linter.unusedSimpArgs false
namespace Go.Proofs.Ytaapggeaoacikaa
open Go.RowKit Go.Sort
set_option maxRecDepth 100000 in
set_option maxHeartbeats 1000000 in
theorem refBefore_any (c : MCh) (w : World) :
    Calls Try.prog 58 #[chV c] w fun e w' => e = .returned (.tuple #[rowV (if c.had then ⟨c.t, c.k, c.o⟩ else ⟨0, 0, V3.zero⟩), .bool c.had]) ∧ Below w.heap.size w w' := by
  obtain ⟨t, k, had, ⟨oa, ob, oc⟩, has, ⟨na, nb, nc⟩⟩ := c
  cases had
  · unfold chV rowV
    go_enter Try.func58, Try.ntmps58
    go_wp2
    exact bodyPost_ret (v := .tuple #[.agg #[.int .i64 0, .int .i64 0, .int .i64 0, .int .i64 0, .int .i64 0], .bool false]) (by simp [results, Try.results58, go_sem]) rfl ⟨rfl, ((Below.refl _ w).alloc (Nat.le_refl _) _).alloc (by simp) _⟩
  · unfold chV rowV
    go_enter Try.func58, Try.ntmps58
    go_wp2
    exact bodyPost_ret (v := .tuple #[.agg #[.int .i64 t, .int .i64 k, .int .i64 oa, .int .i64 ob, .int .i64 oc], .bool true]) (by simp [results, Try.results58, go_sem]) rfl ⟨rfl, ((Below.refl _ w).alloc (Nat.le_refl _) _).alloc (by simp) _⟩
set_option maxRecDepth 100000 in
set_option maxHeartbeats 1000000 in
theorem refAfter_any (c : MCh) (w : World) :
    Calls Try.prog 39 #[chV c] w fun e w' => e = .returned (.tuple #[rowV (if c.has then ⟨c.t, c.k, c.n⟩ else ⟨0, 0, V3.zero⟩), .bool c.has]) ∧ Below w.heap.size w w' := by
  obtain ⟨t, k, had, ⟨oa, ob, oc⟩, has, ⟨na, nb, nc⟩⟩ := c
  cases has
  · unfold chV rowV
    go_enter Try.func39, Try.ntmps39
    go_wp2
    exact bodyPost_ret (v := .tuple #[.agg #[.int .i64 0, .int .i64 0, .int .i64 0, .int .i64 0, .int .i64 0], .bool false]) (by simp [results, Try.results39, go_sem]) rfl ⟨rfl, ((Below.refl _ w).alloc (Nat.le_refl _) _).alloc (by simp) _⟩
  · unfold chV rowV
    go_enter Try.func39, Try.ntmps39
    go_wp2
    exact bodyPost_ret (v := .tuple #[.agg #[.int .i64 t, .int .i64 k, .int .i64 na, .int .i64 nb, .int .i64 nc], .bool true]) (by simp [results, Try.results39, go_sem]) rfl ⟨rfl, ((Below.refl _ w).alloc (Nat.le_refl _) _).alloc (by simp) _⟩
theorem rbef_true (t k oa ob oc na nb nc : Int) (x : Bool) (W : World) : Calls Try.prog 58 #[chV ⟨t, k, true, ⟨oa, ob, oc⟩, x, ⟨na, nb, nc⟩⟩] W fun e w' => e = .returned (.tuple #[rowV ⟨t, k, ⟨oa, ob, oc⟩⟩, .bool true]) ∧ Below W.heap.size W w' := refBefore_any ⟨t, k, true, ⟨oa, ob, oc⟩, x, ⟨na, nb, nc⟩⟩ W
theorem rbef_false (t k oa ob oc na nb nc : Int) (x : Bool) (W : World) : Calls Try.prog 58 #[chV ⟨t, k, false, ⟨oa, ob, oc⟩, x, ⟨na, nb, nc⟩⟩] W fun e w' => e = .returned (.tuple #[rowV ⟨0, 0, ⟨0, 0, 0⟩⟩, .bool false]) ∧ Below W.heap.size W w' := refBefore_any ⟨t, k, false, ⟨oa, ob, oc⟩, x, ⟨na, nb, nc⟩⟩ W
theorem raft_true (t k oa ob oc na nb nc : Int) (x : Bool) (W : World) : Calls Try.prog 39 #[chV ⟨t, k, x, ⟨oa, ob, oc⟩, true, ⟨na, nb, nc⟩⟩] W fun e w' => e = .returned (.tuple #[rowV ⟨t, k, ⟨na, nb, nc⟩⟩, .bool true]) ∧ Below W.heap.size W w' := refAfter_any ⟨t, k, x, ⟨oa, ob, oc⟩, true, ⟨na, nb, nc⟩⟩ W
theorem raft_false (t k oa ob oc na nb nc : Int) (x : Bool) (W : World) : Calls Try.prog 39 #[chV ⟨t, k, x, ⟨oa, ob, oc⟩, false, ⟨na, nb, nc⟩⟩] W fun e w' => e = .returned (.tuple #[rowV ⟨0, 0, ⟨0, 0, 0⟩⟩, .bool false]) ∧ Below W.heap.size W w' := refAfter_any ⟨t, k, x, ⟨oa, ob, oc⟩, false, ⟨na, nb, nc⟩⟩ W
set_option maxRecDepth 100000 in
set_option maxHeartbeats 2000000 in
theorem refVC_false_false_none (t k oa ob oc na nb nc : Int) (w : World)  : Calls Try.prog 51 #[chV ⟨t, k, false, ⟨oa, ob, oc⟩, false, ⟨na, nb, nc⟩⟩] w fun e w' => e = .returned (.bool (vc ⟨t, k, false, ⟨oa, ob, oc⟩, false, ⟨na, nb, nc⟩⟩)) ∧ Below w.heap.size w w' := by
  have hv : Hid (vc ⟨t, k, false, ⟨oa, ob, oc⟩, false, ⟨na, nb, nc⟩⟩ = false) := Lib.hid (decide_eq_false (fun h => by rcases h.1 with h | h <;> cases h))
  rw [hv.out]
  go_enter Try.func51, Try.ntmps51
  have HC0 : Hid (ChAt (w.alloc (.cells #[.int .i64 t, .int .i64 k, .bool false, .int .i64 oa, .int .i64 ob, .int .i64 oc, .bool false, .int .i64 na, .int .i64 nb, .int .i64 nc] 57)) w.heap.size 0 ⟨t, k, false, ⟨oa, ob, oc⟩, false, ⟨na, nb, nc⟩⟩) := Lib.hid (ChAt_new w ⟨t, k, false, ⟨oa, ob, oc⟩, false, ⟨na, nb, nc⟩⟩)
  go_wp2_with fail
  (with_reducible refine (rbef_false t k oa ob oc na nb nc false _).mono ?_)
  rintro e w2 ⟨rfl, hb2⟩
  have hk2 := bt hb2 (ba w2 (.cells #[.int .i64 0, .int .i64 0, .int .i64 0, .int .i64 0, .int .i64 0] 50))
  have HB2 := Lib.hid (bt (ba w (.cells #[.int .i64 t, .int .i64 k, .bool false, .int .i64 oa, .int .i64 ob, .int .i64 oc, .bool false, .int .i64 na, .int .i64 nb, .int .i64 nc] 57)) hk2)
  have HC2 := Lib.hid (HC0.out.below (by simp) hk2)
  have HA2 := Lib.hid (RwAt.new w2 ⟨0, 0, ⟨0, 0, 0⟩⟩)
  have hl2 : w.heap.size < w2.heap.size := by have := hb2.size; simp only [World.size_alloc] at this; omega
  clear hb2 hk2 HC0
  obtain ⟨d0, d1, d2, d3, d4, d5, d6, d7, d8, d9⟩ := ChAt.cells HC2.out
  go_wp2_with fail
  (with_reducible refine (raft_false t k oa ob oc na nb nc false _).mono ?_)
  rintro e w3 ⟨rfl, hb3⟩
  have hk3 := bt hb3 (ba w3 (.cells #[.int .i64 0, .int .i64 0, .int .i64 0, .int .i64 0, .int .i64 0] 50))
  have HB3 := Lib.hid (bt HB2.out hk3)
  have HC3 := Lib.hid (HC2.out.below (by simp; omega) hk3)
  have HA3 := Lib.hid (HA2.out.below hk3)
  have HN3 := Lib.hid (RwAt.new w3 ⟨0, 0, ⟨0, 0, 0⟩⟩)
  clear hb3 hk3 HC2 HA2 HB2 d0 d1 d2 d3 d4 d5 d6 d7 d8 d9
  obtain ⟨d0, d1, d2, d3, d4, d5, d6, d7, d8, d9⟩ := ChAt.cells HC3.out
  obtain ⟨a0, a1, a2, a3, a4⟩ := HA3.out
  obtain ⟨n0, n1, n2, n3, n4⟩ := HN3.out
  go_wp2_with fail
  go_ret
  exact ⟨rfl, HB3.out⟩
set_option maxRecDepth 100000 in
set_option maxHeartbeats 2000000 in
theorem refVC_true_false_vo (t k oa ob oc na nb nc : Int) (w : World) (h3 : ¬ VRow ⟨t, k, ⟨oa, ob, oc⟩⟩) : Calls Try.prog 51 #[chV ⟨t, k, true, ⟨oa, ob, oc⟩, false, ⟨na, nb, nc⟩⟩] w fun e w' => e = .returned (.bool (vc ⟨t, k, true, ⟨oa, ob, oc⟩, false, ⟨na, nb, nc⟩⟩)) ∧ Below w.heap.size w w' := by
  have hv : Hid (vc ⟨t, k, true, ⟨oa, ob, oc⟩, false, ⟨na, nb, nc⟩⟩ = false) := Lib.hid (decide_eq_false (fun h => h3 (h.2.2.1.1 rfl)))
  have H3 := Lib.hid h3
  clear h3
  rw [hv.out]
  go_enter Try.func51, Try.ntmps51
  have HC0 : Hid (ChAt (w.alloc (.cells #[.int .i64 t, .int .i64 k, .bool true, .int .i64 oa, .int .i64 ob, .int .i64 oc, .bool false, .int .i64 na, .int .i64 nb, .int .i64 nc] 57)) w.heap.size 0 ⟨t, k, true, ⟨oa, ob, oc⟩, false, ⟨na, nb, nc⟩⟩) := Lib.hid (ChAt_new w ⟨t, k, true, ⟨oa, ob, oc⟩, false, ⟨na, nb, nc⟩⟩)
  go_wp2_with fail
  (with_reducible refine (rbef_true t k oa ob oc na nb nc false _).mono ?_)
  rintro e w2 ⟨rfl, hb2⟩
  have hk2 := bt hb2 (ba w2 (.cells #[.int .i64 t, .int .i64 k, .int .i64 oa, .int .i64 ob, .int .i64 oc] 50))
  have HB2 := Lib.hid (bt (ba w (.cells #[.int .i64 t, .int .i64 k, .bool true, .int .i64 oa, .int .i64 ob, .int .i64 oc, .bool false, .int .i64 na, .int .i64 nb, .int .i64 nc] 57)) hk2)
  have HC2 := Lib.hid (HC0.out.below (by simp) hk2)
  have HA2 := Lib.hid (RwAt.new w2 ⟨t, k, ⟨oa, ob, oc⟩⟩)
  have hl2 : w.heap.size < w2.heap.size := by have := hb2.size; simp only [World.size_alloc] at this; omega
  clear hb2 hk2 HC0
  obtain ⟨d0, d1, d2, d3, d4, d5, d6, d7, d8, d9⟩ := ChAt.cells HC2.out
  go_wp2_with fail
  (with_reducible refine (raft_false t k oa ob oc na nb nc true _).mono ?_)
  rintro e w3 ⟨rfl, hb3⟩
  have hk3 := bt hb3 (ba w3 (.cells #[.int .i64 0, .int .i64 0, .int .i64 0, .int .i64 0, .int .i64 0] 50))
  have HB3 := Lib.hid (bt HB2.out hk3)
  have HC3 := Lib.hid (HC2.out.below (by simp; omega) hk3)
  have HA3 := Lib.hid (HA2.out.below hk3)
  have HN3 := Lib.hid (RwAt.new w3 ⟨0, 0, ⟨0, 0, 0⟩⟩)
  clear hb3 hk3 HC2 HA2 HB2 d0 d1 d2 d3 d4 d5 d6 d7 d8 d9
  obtain ⟨d0, d1, d2, d3, d4, d5, d6, d7, d8, d9⟩ := ChAt.cells HC3.out
  obtain ⟨a0, a1, a2, a3, a4⟩ := HA3.out
  obtain ⟨n0, n1, n2, n3, n4⟩ := HN3.out
  go_wp2_with fail
  (with_reducible refine (refValid_f ⟨t, k, ⟨oa, ob, oc⟩⟩ _ H3.out).mono ?_)
  rintro e w4 ⟨rfl, hb4⟩
  have HB4 := Lib.hid (bt HB3.out hb4)
  have HC4 := Lib.hid (HC3.out.below (World.block_lt_of_cell? _ _ d0) hb4)
  have HN4 := Lib.hid (HN3.out.below hb4)
  clear hb4 d0 d1 d2 d3 d4 d5 d6 d7 d8 d9 a0 a1 a2 a3 a4 n0 n1 n2 n3 n4
  obtain ⟨d0, d1, d2, d3, d4, d5, d6, d7, d8, d9⟩ := ChAt.cells HC4.out
  obtain ⟨n0, n1, n2, n3, n4⟩ := HN4.out
  go_wp2_with fail
  go_ret
  exact ⟨rfl, HB4.out⟩
set_option maxRecDepth 100000 in
set_option maxHeartbeats 2000000 in
theorem refVC_true_false_z (t k oa ob oc na nb nc : Int) (w : World) (h3 : VRow ⟨t, k, ⟨oa, ob, oc⟩⟩) (h2 : ¬ (⟨na, nb, nc⟩ : V3) = ⟨0, 0, 0⟩) : Calls Try.prog 51 #[chV ⟨t, k, true, ⟨oa, ob, oc⟩, false, ⟨na, nb, nc⟩⟩] w fun e w' => e = .returned (.bool (vc ⟨t, k, true, ⟨oa, ob, oc⟩, false, ⟨na, nb, nc⟩⟩)) ∧ Below w.heap.size w w' := by
  have hv : Hid (vc ⟨t, k, true, ⟨oa, ob, oc⟩, false, ⟨na, nb, nc⟩⟩ = false) := Lib.hid (decide_eq_false (fun h => h2 (h.2.2.2.2 rfl)))
  have he := fun w => eql3 na nb nc 0 0 0 w
  rw [show v3e ⟨na, nb, nc⟩ ⟨0, 0, 0⟩ = false from decide_eq_false h2] at he
  have H3 := Lib.hid h3
  clear h2 h3
  rw [hv.out]
  go_enter Try.func51, Try.ntmps51
  have HC0 : Hid (ChAt (w.alloc (.cells #[.int .i64 t, .int .i64 k, .bool true, .int .i64 oa, .int .i64 ob, .int .i64 oc, .bool false, .int .i64 na, .int .i64 nb, .int .i64 nc] 57)) w.heap.size 0 ⟨t, k, true, ⟨oa, ob, oc⟩, false, ⟨na, nb, nc⟩⟩) := Lib.hid (ChAt_new w ⟨t, k, true, ⟨oa, ob, oc⟩, false, ⟨na, nb, nc⟩⟩)
  go_wp2_with fail
  (with_reducible refine (rbef_true t k oa ob oc na nb nc false _).mono ?_)
  rintro e w2 ⟨rfl, hb2⟩
  have hk2 := bt hb2 (ba w2 (.cells #[.int .i64 t, .int .i64 k, .int .i64 oa, .int .i64 ob, .int .i64 oc] 50))
  have HB2 := Lib.hid (bt (ba w (.cells #[.int .i64 t, .int .i64 k, .bool true, .int .i64 oa, .int .i64 ob, .int .i64 oc, .bool false, .int .i64 na, .int .i64 nb, .int .i64 nc] 57)) hk2)
  have HC2 := Lib.hid (HC0.out.below (by simp) hk2)
  have HA2 := Lib.hid (RwAt.new w2 ⟨t, k, ⟨oa, ob, oc⟩⟩)
  have hl2 : w.heap.size < w2.heap.size := by have := hb2.size; simp only [World.size_alloc] at this; omega
  clear hb2 hk2 HC0
  obtain ⟨d0, d1, d2, d3, d4, d5, d6, d7, d8, d9⟩ := ChAt.cells HC2.out
  go_wp2_with fail
  (with_reducible refine (raft_false t k oa ob oc na nb nc true _).mono ?_)
  rintro e w3 ⟨rfl, hb3⟩
  have hk3 := bt hb3 (ba w3 (.cells #[.int .i64 0, .int .i64 0, .int .i64 0, .int .i64 0, .int .i64 0] 50))
  have HB3 := Lib.hid (bt HB2.out hk3)
  have HC3 := Lib.hid (HC2.out.below (by simp; omega) hk3)
  have HA3 := Lib.hid (HA2.out.below hk3)
  have HN3 := Lib.hid (RwAt.new w3 ⟨0, 0, ⟨0, 0, 0⟩⟩)
  clear hb3 hk3 HC2 HA2 HB2 d0 d1 d2 d3 d4 d5 d6 d7 d8 d9
  obtain ⟨d0, d1, d2, d3, d4, d5, d6, d7, d8, d9⟩ := ChAt.cells HC3.out
  obtain ⟨a0, a1, a2, a3, a4⟩ := HA3.out
  obtain ⟨n0, n1, n2, n3, n4⟩ := HN3.out
  go_wp2_with fail
  (with_reducible refine (refValid_t ⟨t, k, ⟨oa, ob, oc⟩⟩ _ H3.out).mono ?_)
  rintro e w4 ⟨rfl, hb4⟩
  have HB4 := Lib.hid (bt HB3.out hb4)
  have HC4 := Lib.hid (HC3.out.below (World.block_lt_of_cell? _ _ d0) hb4)
  have HN4 := Lib.hid (HN3.out.below hb4)
  clear hb4 d0 d1 d2 d3 d4 d5 d6 d7 d8 d9 a0 a1 a2 a3 a4 n0 n1 n2 n3 n4
  obtain ⟨d0, d1, d2, d3, d4, d5, d6, d7, d8, d9⟩ := ChAt.cells HC4.out
  obtain ⟨n0, n1, n2, n3, n4⟩ := HN4.out
  go_wp2_with fail
  go_ret
  exact ⟨rfl, HB4.out⟩
set_option maxRecDepth 100000 in
set_option maxHeartbeats 2000000 in
theorem refVC_true_false_ok (t k oa ob oc na nb nc : Int) (w : World) (h3 : VRow ⟨t, k, ⟨oa, ob, oc⟩⟩) (h2 : (⟨na, nb, nc⟩ : V3) = ⟨0, 0, 0⟩) : Calls Try.prog 51 #[chV ⟨t, k, true, ⟨oa, ob, oc⟩, false, ⟨na, nb, nc⟩⟩] w fun e w' => e = .returned (.bool (vc ⟨t, k, true, ⟨oa, ob, oc⟩, false, ⟨na, nb, nc⟩⟩)) ∧ Below w.heap.size w w' := by
  have hv : Hid (vc ⟨t, k, true, ⟨oa, ob, oc⟩, false, ⟨na, nb, nc⟩⟩ = true) := Lib.hid (decide_eq_true (⟨.inl rfl, (fun h => by cases h.2.1), ⟨fun _ => h3, (fun h => by cases h)⟩, ⟨(fun h => by cases h), fun _ => h2⟩⟩))
  have he := fun w => eql3 na nb nc 0 0 0 w
  rw [show v3e ⟨na, nb, nc⟩ ⟨0, 0, 0⟩ = true from decide_eq_true h2] at he
  have H3 := Lib.hid h3
  clear h2 h3
  rw [hv.out]
  go_enter Try.func51, Try.ntmps51
  have HC0 : Hid (ChAt (w.alloc (.cells #[.int .i64 t, .int .i64 k, .bool true, .int .i64 oa, .int .i64 ob, .int .i64 oc, .bool false, .int .i64 na, .int .i64 nb, .int .i64 nc] 57)) w.heap.size 0 ⟨t, k, true, ⟨oa, ob, oc⟩, false, ⟨na, nb, nc⟩⟩) := Lib.hid (ChAt_new w ⟨t, k, true, ⟨oa, ob, oc⟩, false, ⟨na, nb, nc⟩⟩)
  go_wp2_with fail
  (with_reducible refine (rbef_true t k oa ob oc na nb nc false _).mono ?_)
  rintro e w2 ⟨rfl, hb2⟩
  have hk2 := bt hb2 (ba w2 (.cells #[.int .i64 t, .int .i64 k, .int .i64 oa, .int .i64 ob, .int .i64 oc] 50))
  have HB2 := Lib.hid (bt (ba w (.cells #[.int .i64 t, .int .i64 k, .bool true, .int .i64 oa, .int .i64 ob, .int .i64 oc, .bool false, .int .i64 na, .int .i64 nb, .int .i64 nc] 57)) hk2)
  have HC2 := Lib.hid (HC0.out.below (by simp) hk2)
  have HA2 := Lib.hid (RwAt.new w2 ⟨t, k, ⟨oa, ob, oc⟩⟩)
  have hl2 : w.heap.size < w2.heap.size := by have := hb2.size; simp only [World.size_alloc] at this; omega
  clear hb2 hk2 HC0
  obtain ⟨d0, d1, d2, d3, d4, d5, d6, d7, d8, d9⟩ := ChAt.cells HC2.out
  go_wp2_with fail
  (with_reducible refine (raft_false t k oa ob oc na nb nc true _).mono ?_)
  rintro e w3 ⟨rfl, hb3⟩
  have hk3 := bt hb3 (ba w3 (.cells #[.int .i64 0, .int .i64 0, .int .i64 0, .int .i64 0, .int .i64 0] 50))
  have HB3 := Lib.hid (bt HB2.out hk3)
  have HC3 := Lib.hid (HC2.out.below (by simp; omega) hk3)
  have HA3 := Lib.hid (HA2.out.below hk3)
  have HN3 := Lib.hid (RwAt.new w3 ⟨0, 0, ⟨0, 0, 0⟩⟩)
  clear hb3 hk3 HC2 HA2 HB2 d0 d1 d2 d3 d4 d5 d6 d7 d8 d9
  obtain ⟨d0, d1, d2, d3, d4, d5, d6, d7, d8, d9⟩ := ChAt.cells HC3.out
  obtain ⟨a0, a1, a2, a3, a4⟩ := HA3.out
  obtain ⟨n0, n1, n2, n3, n4⟩ := HN3.out
  go_wp2_with fail
  (with_reducible refine (refValid_t ⟨t, k, ⟨oa, ob, oc⟩⟩ _ H3.out).mono ?_)
  rintro e w4 ⟨rfl, hb4⟩
  have HB4 := Lib.hid (bt HB3.out hb4)
  have HC4 := Lib.hid (HC3.out.below (World.block_lt_of_cell? _ _ d0) hb4)
  have HN4 := Lib.hid (HN3.out.below hb4)
  clear hb4 d0 d1 d2 d3 d4 d5 d6 d7 d8 d9 a0 a1 a2 a3 a4 n0 n1 n2 n3 n4
  obtain ⟨d0, d1, d2, d3, d4, d5, d6, d7, d8, d9⟩ := ChAt.cells HC4.out
  obtain ⟨n0, n1, n2, n3, n4⟩ := HN4.out
  go_wp2_with fail
  go_ret
  exact ⟨rfl, HB4.out⟩
set_option maxRecDepth 100000 in
set_option maxHeartbeats 2000000 in
theorem refVC_false_true_vn (t k oa ob oc na nb nc : Int) (w : World) (h3 : ¬ VRow ⟨t, k, ⟨na, nb, nc⟩⟩) : Calls Try.prog 51 #[chV ⟨t, k, false, ⟨oa, ob, oc⟩, true, ⟨na, nb, nc⟩⟩] w fun e w' => e = .returned (.bool (vc ⟨t, k, false, ⟨oa, ob, oc⟩, true, ⟨na, nb, nc⟩⟩)) ∧ Below w.heap.size w w' := by
  have hv : Hid (vc ⟨t, k, false, ⟨oa, ob, oc⟩, true, ⟨na, nb, nc⟩⟩ = false) := Lib.hid (decide_eq_false (fun h => h3 (h.2.2.2.1 rfl)))
  have H3 := Lib.hid h3
  clear h3
  rw [hv.out]
  go_enter Try.func51, Try.ntmps51
  have HC0 : Hid (ChAt (w.alloc (.cells #[.int .i64 t, .int .i64 k, .bool false, .int .i64 oa, .int .i64 ob, .int .i64 oc, .bool true, .int .i64 na, .int .i64 nb, .int .i64 nc] 57)) w.heap.size 0 ⟨t, k, false, ⟨oa, ob, oc⟩, true, ⟨na, nb, nc⟩⟩) := Lib.hid (ChAt_new w ⟨t, k, false, ⟨oa, ob, oc⟩, true, ⟨na, nb, nc⟩⟩)
  go_wp2_with fail
  (with_reducible refine (rbef_false t k oa ob oc na nb nc true _).mono ?_)
  rintro e w2 ⟨rfl, hb2⟩
  have hk2 := bt hb2 (ba w2 (.cells #[.int .i64 0, .int .i64 0, .int .i64 0, .int .i64 0, .int .i64 0] 50))
  have HB2 := Lib.hid (bt (ba w (.cells #[.int .i64 t, .int .i64 k, .bool false, .int .i64 oa, .int .i64 ob, .int .i64 oc, .bool true, .int .i64 na, .int .i64 nb, .int .i64 nc] 57)) hk2)
  have HC2 := Lib.hid (HC0.out.below (by simp) hk2)
  have HA2 := Lib.hid (RwAt.new w2 ⟨0, 0, ⟨0, 0, 0⟩⟩)
  have hl2 : w.heap.size < w2.heap.size := by have := hb2.size; simp only [World.size_alloc] at this; omega
  clear hb2 hk2 HC0
  obtain ⟨d0, d1, d2, d3, d4, d5, d6, d7, d8, d9⟩ := ChAt.cells HC2.out
  go_wp2_with fail
  (with_reducible refine (raft_true t k oa ob oc na nb nc false _).mono ?_)
  rintro e w3 ⟨rfl, hb3⟩
  have hk3 := bt hb3 (ba w3 (.cells #[.int .i64 t, .int .i64 k, .int .i64 na, .int .i64 nb, .int .i64 nc] 50))
  have HB3 := Lib.hid (bt HB2.out hk3)
  have HC3 := Lib.hid (HC2.out.below (by simp; omega) hk3)
  have HA3 := Lib.hid (HA2.out.below hk3)
  have HN3 := Lib.hid (RwAt.new w3 ⟨t, k, ⟨na, nb, nc⟩⟩)
  clear hb3 hk3 HC2 HA2 HB2 d0 d1 d2 d3 d4 d5 d6 d7 d8 d9
  obtain ⟨d0, d1, d2, d3, d4, d5, d6, d7, d8, d9⟩ := ChAt.cells HC3.out
  obtain ⟨a0, a1, a2, a3, a4⟩ := HA3.out
  obtain ⟨n0, n1, n2, n3, n4⟩ := HN3.out
  go_wp2_with fail
  (with_reducible refine (refValid_f ⟨t, k, ⟨na, nb, nc⟩⟩ _ H3.out).mono ?_)
  rintro e w4 ⟨rfl, hb4⟩
  have HB4 := Lib.hid (bt HB3.out hb4)
  have HC4 := Lib.hid (HC3.out.below (World.block_lt_of_cell? _ _ d0) hb4)
  have HN4 := Lib.hid (HN3.out.below hb4)
  clear hb4 d0 d1 d2 d3 d4 d5 d6 d7 d8 d9 a0 a1 a2 a3 a4 n0 n1 n2 n3 n4
  obtain ⟨d0, d1, d2, d3, d4, d5, d6, d7, d8, d9⟩ := ChAt.cells HC4.out
  obtain ⟨n0, n1, n2, n3, n4⟩ := HN4.out
  go_wp2_with fail
  go_ret
  exact ⟨rfl, HB4.out⟩
set_option maxRecDepth 100000 in
set_option maxHeartbeats 2000000 in
theorem refVC_false_true_z (t k oa ob oc na nb nc : Int) (w : World) (h3 : VRow ⟨t, k, ⟨na, nb, nc⟩⟩) (h2 : ¬ (⟨oa, ob, oc⟩ : V3) = ⟨0, 0, 0⟩) : Calls Try.prog 51 #[chV ⟨t, k, false, ⟨oa, ob, oc⟩, true, ⟨na, nb, nc⟩⟩] w fun e w' => e = .returned (.bool (vc ⟨t, k, false, ⟨oa, ob, oc⟩, true, ⟨na, nb, nc⟩⟩)) ∧ Below w.heap.size w w' := by
  have hv : Hid (vc ⟨t, k, false, ⟨oa, ob, oc⟩, true, ⟨na, nb, nc⟩⟩ = false) := Lib.hid (decide_eq_false (fun h => h2 (h.2.2.1.2 rfl)))
  have he := fun w => eql3 oa ob oc 0 0 0 w
  rw [show v3e ⟨oa, ob, oc⟩ ⟨0, 0, 0⟩ = false from decide_eq_false h2] at he
  have H3 := Lib.hid h3
  clear h2 h3
  rw [hv.out]
  go_enter Try.func51, Try.ntmps51
  have HC0 : Hid (ChAt (w.alloc (.cells #[.int .i64 t, .int .i64 k, .bool false, .int .i64 oa, .int .i64 ob, .int .i64 oc, .bool true, .int .i64 na, .int .i64 nb, .int .i64 nc] 57)) w.heap.size 0 ⟨t, k, false, ⟨oa, ob, oc⟩, true, ⟨na, nb, nc⟩⟩) := Lib.hid (ChAt_new w ⟨t, k, false, ⟨oa, ob, oc⟩, true, ⟨na, nb, nc⟩⟩)
  go_wp2_with fail
  (with_reducible refine (rbef_false t k oa ob oc na nb nc true _).mono ?_)
  rintro e w2 ⟨rfl, hb2⟩
  have hk2 := bt hb2 (ba w2 (.cells #[.int .i64 0, .int .i64 0, .int .i64 0, .int .i64 0, .int .i64 0] 50))
  have HB2 := Lib.hid (bt (ba w (.cells #[.int .i64 t, .int .i64 k, .bool false, .int .i64 oa, .int .i64 ob, .int .i64 oc, .bool true, .int .i64 na, .int .i64 nb, .int .i64 nc] 57)) hk2)
  have HC2 := Lib.hid (HC0.out.below (by simp) hk2)
  have HA2 := Lib.hid (RwAt.new w2 ⟨0, 0, ⟨0, 0, 0⟩⟩)
  have hl2 : w.heap.size < w2.heap.size := by have := hb2.size; simp only [World.size_alloc] at this; omega
  clear hb2 hk2 HC0
  obtain ⟨d0, d1, d2, d3, d4, d5, d6, d7, d8, d9⟩ := ChAt.cells HC2.out
  go_wp2_with fail
  (with_reducible refine (raft_true t k oa ob oc na nb nc false _).mono ?_)
  rintro e w3 ⟨rfl, hb3⟩
  have hk3 := bt hb3 (ba w3 (.cells #[.int .i64 t, .int .i64 k, .int .i64 na, .int .i64 nb, .int .i64 nc] 50))
  have HB3 := Lib.hid (bt HB2.out hk3)
  have HC3 := Lib.hid (HC2.out.below (by simp; omega) hk3)
  have HA3 := Lib.hid (HA2.out.below hk3)
  have HN3 := Lib.hid (RwAt.new w3 ⟨t, k, ⟨na, nb, nc⟩⟩)
  clear hb3 hk3 HC2 HA2 HB2 d0 d1 d2 d3 d4 d5 d6 d7 d8 d9
  obtain ⟨d0, d1, d2, d3, d4, d5, d6, d7, d8, d9⟩ := ChAt.cells HC3.out
  obtain ⟨a0, a1, a2, a3, a4⟩ := HA3.out
  obtain ⟨n0, n1, n2, n3, n4⟩ := HN3.out
  go_wp2_with fail
  (with_reducible refine (refValid_t ⟨t, k, ⟨na, nb, nc⟩⟩ _ H3.out).mono ?_)
  rintro e w4 ⟨rfl, hb4⟩
  have HB4 := Lib.hid (bt HB3.out hb4)
  have HC4 := Lib.hid (HC3.out.below (World.block_lt_of_cell? _ _ d0) hb4)
  have HN4 := Lib.hid (HN3.out.below hb4)
  clear hb4 d0 d1 d2 d3 d4 d5 d6 d7 d8 d9 a0 a1 a2 a3 a4 n0 n1 n2 n3 n4
  obtain ⟨d0, d1, d2, d3, d4, d5, d6, d7, d8, d9⟩ := ChAt.cells HC4.out
  obtain ⟨n0, n1, n2, n3, n4⟩ := HN4.out
  go_wp2_with fail
  go_ret
  exact ⟨rfl, HB4.out⟩
set_option maxRecDepth 100000 in
set_option maxHeartbeats 2000000 in
theorem refVC_false_true_ok (t k oa ob oc na nb nc : Int) (w : World) (h3 : VRow ⟨t, k, ⟨na, nb, nc⟩⟩) (h2 : (⟨oa, ob, oc⟩ : V3) = ⟨0, 0, 0⟩) : Calls Try.prog 51 #[chV ⟨t, k, false, ⟨oa, ob, oc⟩, true, ⟨na, nb, nc⟩⟩] w fun e w' => e = .returned (.bool (vc ⟨t, k, false, ⟨oa, ob, oc⟩, true, ⟨na, nb, nc⟩⟩)) ∧ Below w.heap.size w w' := by
  have hv : Hid (vc ⟨t, k, false, ⟨oa, ob, oc⟩, true, ⟨na, nb, nc⟩⟩ = true) := Lib.hid (decide_eq_true (⟨.inr rfl, (fun h => by cases h.1), ⟨(fun h => by cases h), fun _ => h2⟩, ⟨fun _ => h3, (fun h => by cases h)⟩⟩))
  have he := fun w => eql3 oa ob oc 0 0 0 w
  rw [show v3e ⟨oa, ob, oc⟩ ⟨0, 0, 0⟩ = true from decide_eq_true h2] at he
  have H3 := Lib.hid h3
  clear h2 h3
  rw [hv.out]
  go_enter Try.func51, Try.ntmps51
  have HC0 : Hid (ChAt (w.alloc (.cells #[.int .i64 t, .int .i64 k, .bool false, .int .i64 oa, .int .i64 ob, .int .i64 oc, .bool true, .int .i64 na, .int .i64 nb, .int .i64 nc] 57)) w.heap.size 0 ⟨t, k, false, ⟨oa, ob, oc⟩, true, ⟨na, nb, nc⟩⟩) := Lib.hid (ChAt_new w ⟨t, k, false, ⟨oa, ob, oc⟩, true, ⟨na, nb, nc⟩⟩)
  go_wp2_with fail
  (with_reducible refine (rbef_false t k oa ob oc na nb nc true _).mono ?_)
  rintro e w2 ⟨rfl, hb2⟩
  have hk2 := bt hb2 (ba w2 (.cells #[.int .i64 0, .int .i64 0, .int .i64 0, .int .i64 0, .int .i64 0] 50))
  have HB2 := Lib.hid (bt (ba w (.cells #[.int .i64 t, .int .i64 k, .bool false, .int .i64 oa, .int .i64 ob, .int .i64 oc, .bool true, .int .i64 na, .int .i64 nb, .int .i64 nc] 57)) hk2)
  have HC2 := Lib.hid (HC0.out.below (by simp) hk2)
  have HA2 := Lib.hid (RwAt.new w2 ⟨0, 0, ⟨0, 0, 0⟩⟩)
  have hl2 : w.heap.size < w2.heap.size := by have := hb2.size; simp only [World.size_alloc] at this; omega
  clear hb2 hk2 HC0
  obtain ⟨d0, d1, d2, d3, d4, d5, d6, d7, d8, d9⟩ := ChAt.cells HC2.out
  go_wp2_with fail
  (with_reducible refine (raft_true t k oa ob oc na nb nc false _).mono ?_)
  rintro e w3 ⟨rfl, hb3⟩
  have hk3 := bt hb3 (ba w3 (.cells #[.int .i64 t, .int .i64 k, .int .i64 na, .int .i64 nb, .int .i64 nc] 50))
  have HB3 := Lib.hid (bt HB2.out hk3)
  have HC3 := Lib.hid (HC2.out.below (by simp; omega) hk3)
  have HA3 := Lib.hid (HA2.out.below hk3)
  have HN3 := Lib.hid (RwAt.new w3 ⟨t, k, ⟨na, nb, nc⟩⟩)
  clear hb3 hk3 HC2 HA2 HB2 d0 d1 d2 d3 d4 d5 d6 d7 d8 d9
  obtain ⟨d0, d1, d2, d3, d4, d5, d6, d7, d8, d9⟩ := ChAt.cells HC3.out
  obtain ⟨a0, a1, a2, a3, a4⟩ := HA3.out
  obtain ⟨n0, n1, n2, n3, n4⟩ := HN3.out
  go_wp2_with fail
  (with_reducible refine (refValid_t ⟨t, k, ⟨na, nb, nc⟩⟩ _ H3.out).mono ?_)
  rintro e w4 ⟨rfl, hb4⟩
  have HB4 := Lib.hid (bt HB3.out hb4)
  have HC4 := Lib.hid (HC3.out.below (World.block_lt_of_cell? _ _ d0) hb4)
  have HN4 := Lib.hid (HN3.out.below hb4)
  clear hb4 d0 d1 d2 d3 d4 d5 d6 d7 d8 d9 a0 a1 a2 a3 a4 n0 n1 n2 n3 n4
  obtain ⟨d0, d1, d2, d3, d4, d5, d6, d7, d8, d9⟩ := ChAt.cells HC4.out
  obtain ⟨n0, n1, n2, n3, n4⟩ := HN4.out
  go_wp2_with fail
  go_ret
  exact ⟨rfl, HB4.out⟩
set_option maxRecDepth 100000 in
set_option maxHeartbeats 2000000 in
theorem refVC_true_true_eq (t k oa ob oc na nb nc : Int) (w : World) (h2 : (⟨oa, ob, oc⟩ : V3) = ⟨na, nb, nc⟩) : Calls Try.prog 51 #[chV ⟨t, k, true, ⟨oa, ob, oc⟩, true, ⟨na, nb, nc⟩⟩] w fun e w' => e = .returned (.bool (vc ⟨t, k, true, ⟨oa, ob, oc⟩, true, ⟨na, nb, nc⟩⟩)) ∧ Below w.heap.size w w' := by
  have hv : Hid (vc ⟨t, k, true, ⟨oa, ob, oc⟩, true, ⟨na, nb, nc⟩⟩ = false) := Lib.hid (decide_eq_false (fun h => h.2.1 ⟨rfl, rfl, h2⟩))
  have he := fun w => eql3 oa ob oc na nb nc w
  rw [show v3e ⟨oa, ob, oc⟩ ⟨na, nb, nc⟩ = true from decide_eq_true h2] at he
  clear h2
  rw [hv.out]
  go_enter Try.func51, Try.ntmps51
  have HC0 : Hid (ChAt (w.alloc (.cells #[.int .i64 t, .int .i64 k, .bool true, .int .i64 oa, .int .i64 ob, .int .i64 oc, .bool true, .int .i64 na, .int .i64 nb, .int .i64 nc] 57)) w.heap.size 0 ⟨t, k, true, ⟨oa, ob, oc⟩, true, ⟨na, nb, nc⟩⟩) := Lib.hid (ChAt_new w ⟨t, k, true, ⟨oa, ob, oc⟩, true, ⟨na, nb, nc⟩⟩)
  go_wp2_with fail
  (with_reducible refine (rbef_true t k oa ob oc na nb nc true _).mono ?_)
  rintro e w2 ⟨rfl, hb2⟩
  have hk2 := bt hb2 (ba w2 (.cells #[.int .i64 t, .int .i64 k, .int .i64 oa, .int .i64 ob, .int .i64 oc] 50))
  have HB2 := Lib.hid (bt (ba w (.cells #[.int .i64 t, .int .i64 k, .bool true, .int .i64 oa, .int .i64 ob, .int .i64 oc, .bool true, .int .i64 na, .int .i64 nb, .int .i64 nc] 57)) hk2)
  have HC2 := Lib.hid (HC0.out.below (by simp) hk2)
  have HA2 := Lib.hid (RwAt.new w2 ⟨t, k, ⟨oa, ob, oc⟩⟩)
  have hl2 : w.heap.size < w2.heap.size := by have := hb2.size; simp only [World.size_alloc] at this; omega
  clear hb2 hk2 HC0
  obtain ⟨d0, d1, d2, d3, d4, d5, d6, d7, d8, d9⟩ := ChAt.cells HC2.out
  go_wp2_with fail
  (with_reducible refine (raft_true t k oa ob oc na nb nc true _).mono ?_)
  rintro e w3 ⟨rfl, hb3⟩
  have hk3 := bt hb3 (ba w3 (.cells #[.int .i64 t, .int .i64 k, .int .i64 na, .int .i64 nb, .int .i64 nc] 50))
  have HB3 := Lib.hid (bt HB2.out hk3)
  have HC3 := Lib.hid (HC2.out.below (by simp; omega) hk3)
  have HA3 := Lib.hid (HA2.out.below hk3)
  have HN3 := Lib.hid (RwAt.new w3 ⟨t, k, ⟨na, nb, nc⟩⟩)
  clear hb3 hk3 HC2 HA2 HB2 d0 d1 d2 d3 d4 d5 d6 d7 d8 d9
  obtain ⟨d0, d1, d2, d3, d4, d5, d6, d7, d8, d9⟩ := ChAt.cells HC3.out
  obtain ⟨a0, a1, a2, a3, a4⟩ := HA3.out
  obtain ⟨n0, n1, n2, n3, n4⟩ := HN3.out
  go_wp2_with fail
  go_ret
  exact ⟨rfl, HB3.out⟩
set_option maxRecDepth 100000 in
set_option maxHeartbeats 2000000 in
theorem refVC_true_true_vo (t k oa ob oc na nb nc : Int) (w : World) (h2 : ¬ (⟨oa, ob, oc⟩ : V3) = ⟨na, nb, nc⟩) (h3 : ¬ VRow ⟨t, k, ⟨oa, ob, oc⟩⟩) : Calls Try.prog 51 #[chV ⟨t, k, true, ⟨oa, ob, oc⟩, true, ⟨na, nb, nc⟩⟩] w fun e w' => e = .returned (.bool (vc ⟨t, k, true, ⟨oa, ob, oc⟩, true, ⟨na, nb, nc⟩⟩)) ∧ Below w.heap.size w w' := by
  have hv : Hid (vc ⟨t, k, true, ⟨oa, ob, oc⟩, true, ⟨na, nb, nc⟩⟩ = false) := Lib.hid (decide_eq_false (fun h => h3 (h.2.2.1.1 rfl)))
  have he := fun w => eql3 oa ob oc na nb nc w
  rw [show v3e ⟨oa, ob, oc⟩ ⟨na, nb, nc⟩ = false from decide_eq_false h2] at he
  have H3 := Lib.hid h3
  clear h2 h3
  rw [hv.out]
  go_enter Try.func51, Try.ntmps51
  have HC0 : Hid (ChAt (w.alloc (.cells #[.int .i64 t, .int .i64 k, .bool true, .int .i64 oa, .int .i64 ob, .int .i64 oc, .bool true, .int .i64 na, .int .i64 nb, .int .i64 nc] 57)) w.heap.size 0 ⟨t, k, true, ⟨oa, ob, oc⟩, true, ⟨na, nb, nc⟩⟩) := Lib.hid (ChAt_new w ⟨t, k, true, ⟨oa, ob, oc⟩, true, ⟨na, nb, nc⟩⟩)
  go_wp2_with fail
  (with_reducible refine (rbef_true t k oa ob oc na nb nc true _).mono ?_)
  rintro e w2 ⟨rfl, hb2⟩
  have hk2 := bt hb2 (ba w2 (.cells #[.int .i64 t, .int .i64 k, .int .i64 oa, .int .i64 ob, .int .i64 oc] 50))
  have HB2 := Lib.hid (bt (ba w (.cells #[.int .i64 t, .int .i64 k, .bool true, .int .i64 oa, .int .i64 ob, .int .i64 oc, .bool true, .int .i64 na, .int .i64 nb, .int .i64 nc] 57)) hk2)
  have HC2 := Lib.hid (HC0.out.below (by simp) hk2)
  have HA2 := Lib.hid (RwAt.new w2 ⟨t, k, ⟨oa, ob, oc⟩⟩)
  have hl2 : w.heap.size < w2.heap.size := by have := hb2.size; simp only [World.size_alloc] at this; omega
  clear hb2 hk2 HC0
  obtain ⟨d0, d1, d2, d3, d4, d5, d6, d7, d8, d9⟩ := ChAt.cells HC2.out
  go_wp2_with fail
  (with_reducible refine (raft_true t k oa ob oc na nb nc true _).mono ?_)
  rintro e w3 ⟨rfl, hb3⟩
  have hk3 := bt hb3 (ba w3 (.cells #[.int .i64 t, .int .i64 k, .int .i64 na, .int .i64 nb, .int .i64 nc] 50))
  have HB3 := Lib.hid (bt HB2.out hk3)
  have HC3 := Lib.hid (HC2.out.below (by simp; omega) hk3)
  have HA3 := Lib.hid (HA2.out.below hk3)
  have HN3 := Lib.hid (RwAt.new w3 ⟨t, k, ⟨na, nb, nc⟩⟩)
  clear hb3 hk3 HC2 HA2 HB2 d0 d1 d2 d3 d4 d5 d6 d7 d8 d9
  obtain ⟨d0, d1, d2, d3, d4, d5, d6, d7, d8, d9⟩ := ChAt.cells HC3.out
  obtain ⟨a0, a1, a2, a3, a4⟩ := HA3.out
  obtain ⟨n0, n1, n2, n3, n4⟩ := HN3.out
  go_wp2_with fail
  (with_reducible refine (refValid_f ⟨t, k, ⟨oa, ob, oc⟩⟩ _ H3.out).mono ?_)
  rintro e w4 ⟨rfl, hb4⟩
  have HB4 := Lib.hid (bt HB3.out hb4)
  have HC4 := Lib.hid (HC3.out.below (World.block_lt_of_cell? _ _ d0) hb4)
  have HN4 := Lib.hid (HN3.out.below hb4)
  clear hb4 d0 d1 d2 d3 d4 d5 d6 d7 d8 d9 a0 a1 a2 a3 a4 n0 n1 n2 n3 n4
  obtain ⟨d0, d1, d2, d3, d4, d5, d6, d7, d8, d9⟩ := ChAt.cells HC4.out
  obtain ⟨n0, n1, n2, n3, n4⟩ := HN4.out
  go_wp2_with fail
  go_ret
  exact ⟨rfl, HB4.out⟩
set_option maxRecDepth 100000 in
set_option maxHeartbeats 2000000 in
theorem refVC_true_true_vn (t k oa ob oc na nb nc : Int) (w : World) (h2 : ¬ (⟨oa, ob, oc⟩ : V3) = ⟨na, nb, nc⟩) (h3 : VRow ⟨t, k, ⟨oa, ob, oc⟩⟩) (h4 : ¬ VRow ⟨t, k, ⟨na, nb, nc⟩⟩) : Calls Try.prog 51 #[chV ⟨t, k, true, ⟨oa, ob, oc⟩, true, ⟨na, nb, nc⟩⟩] w fun e w' => e = .returned (.bool (vc ⟨t, k, true, ⟨oa, ob, oc⟩, true, ⟨na, nb, nc⟩⟩)) ∧ Below w.heap.size w w' := by
  have hv : Hid (vc ⟨t, k, true, ⟨oa, ob, oc⟩, true, ⟨na, nb, nc⟩⟩ = false) := Lib.hid (decide_eq_false (fun h => h4 (h.2.2.2.1 rfl)))
  have he := fun w => eql3 oa ob oc na nb nc w
  rw [show v3e ⟨oa, ob, oc⟩ ⟨na, nb, nc⟩ = false from decide_eq_false h2] at he
  have H3 := Lib.hid h3
  have H4 := Lib.hid h4
  clear h2 h3 h4
  rw [hv.out]
  go_enter Try.func51, Try.ntmps51
  have HC0 : Hid (ChAt (w.alloc (.cells #[.int .i64 t, .int .i64 k, .bool true, .int .i64 oa, .int .i64 ob, .int .i64 oc, .bool true, .int .i64 na, .int .i64 nb, .int .i64 nc] 57)) w.heap.size 0 ⟨t, k, true, ⟨oa, ob, oc⟩, true, ⟨na, nb, nc⟩⟩) := Lib.hid (ChAt_new w ⟨t, k, true, ⟨oa, ob, oc⟩, true, ⟨na, nb, nc⟩⟩)
  go_wp2_with fail
  (with_reducible refine (rbef_true t k oa ob oc na nb nc true _).mono ?_)
  rintro e w2 ⟨rfl, hb2⟩
  have hk2 := bt hb2 (ba w2 (.cells #[.int .i64 t, .int .i64 k, .int .i64 oa, .int .i64 ob, .int .i64 oc] 50))
  have HB2 := Lib.hid (bt (ba w (.cells #[.int .i64 t, .int .i64 k, .bool true, .int .i64 oa, .int .i64 ob, .int .i64 oc, .bool true, .int .i64 na, .int .i64 nb, .int .i64 nc] 57)) hk2)
  have HC2 := Lib.hid (HC0.out.below (by simp) hk2)
  have HA2 := Lib.hid (RwAt.new w2 ⟨t, k, ⟨oa, ob, oc⟩⟩)
  have hl2 : w.heap.size < w2.heap.size := by have := hb2.size; simp only [World.size_alloc] at this; omega
  clear hb2 hk2 HC0
  obtain ⟨d0, d1, d2, d3, d4, d5, d6, d7, d8, d9⟩ := ChAt.cells HC2.out
  go_wp2_with fail
  (with_reducible refine (raft_true t k oa ob oc na nb nc true _).mono ?_)
  rintro e w3 ⟨rfl, hb3⟩
  have hk3 := bt hb3 (ba w3 (.cells #[.int .i64 t, .int .i64 k, .int .i64 na, .int .i64 nb, .int .i64 nc] 50))
  have HB3 := Lib.hid (bt HB2.out hk3)
  have HC3 := Lib.hid (HC2.out.below (by simp; omega) hk3)
  have HA3 := Lib.hid (HA2.out.below hk3)
  have HN3 := Lib.hid (RwAt.new w3 ⟨t, k, ⟨na, nb, nc⟩⟩)
  clear hb3 hk3 HC2 HA2 HB2 d0 d1 d2 d3 d4 d5 d6 d7 d8 d9
  obtain ⟨d0, d1, d2, d3, d4, d5, d6, d7, d8, d9⟩ := ChAt.cells HC3.out
  obtain ⟨a0, a1, a2, a3, a4⟩ := HA3.out
  obtain ⟨n0, n1, n2, n3, n4⟩ := HN3.out
  go_wp2_with fail
  (with_reducible refine (refValid_t ⟨t, k, ⟨oa, ob, oc⟩⟩ _ H3.out).mono ?_)
  rintro e w4 ⟨rfl, hb4⟩
  have HB4 := Lib.hid (bt HB3.out hb4)
  have HC4 := Lib.hid (HC3.out.below (World.block_lt_of_cell? _ _ d0) hb4)
  have HN4 := Lib.hid (HN3.out.below hb4)
  clear hb4 d0 d1 d2 d3 d4 d5 d6 d7 d8 d9 a0 a1 a2 a3 a4 n0 n1 n2 n3 n4
  obtain ⟨d0, d1, d2, d3, d4, d5, d6, d7, d8, d9⟩ := ChAt.cells HC4.out
  obtain ⟨n0, n1, n2, n3, n4⟩ := HN4.out
  go_wp2_with fail
  (with_reducible refine (refValid_f ⟨t, k, ⟨na, nb, nc⟩⟩ _ H4.out).mono ?_)
  rintro e w5 ⟨rfl, hb5⟩
  have HB5 := Lib.hid (bt HB4.out hb5)
  have HC5 := Lib.hid (HC4.out.below (World.block_lt_of_cell? _ _ d0) hb5)
  have HN5 := Lib.hid (HN4.out.below hb5)
  clear hb5 d0 d1 d2 d3 d4 d5 d6 d7 d8 d9 n0 n1 n2 n3 n4
  obtain ⟨d0, d1, d2, d3, d4, d5, d6, d7, d8, d9⟩ := ChAt.cells HC5.out
  obtain ⟨n0, n1, n2, n3, n4⟩ := HN5.out
  go_wp2_with fail
  go_ret
  exact ⟨rfl, HB5.out⟩
set_option maxRecDepth 100000 in
set_option maxHeartbeats 2000000 in
theorem refVC_true_true_ok (t k oa ob oc na nb nc : Int) (w : World) (h2 : ¬ (⟨oa, ob, oc⟩ : V3) = ⟨na, nb, nc⟩) (h3 : VRow ⟨t, k, ⟨oa, ob, oc⟩⟩) (h4 : VRow ⟨t, k, ⟨na, nb, nc⟩⟩) : Calls Try.prog 51 #[chV ⟨t, k, true, ⟨oa, ob, oc⟩, true, ⟨na, nb, nc⟩⟩] w fun e w' => e = .returned (.bool (vc ⟨t, k, true, ⟨oa, ob, oc⟩, true, ⟨na, nb, nc⟩⟩)) ∧ Below w.heap.size w w' := by
  have hv : Hid (vc ⟨t, k, true, ⟨oa, ob, oc⟩, true, ⟨na, nb, nc⟩⟩ = true) := Lib.hid (decide_eq_true (⟨.inl rfl, fun h => h2 h.2.2, ⟨fun _ => h3, fun h => by cases h⟩, ⟨fun _ => h4, fun h => by cases h⟩⟩))
  have he := fun w => eql3 oa ob oc na nb nc w
  rw [show v3e ⟨oa, ob, oc⟩ ⟨na, nb, nc⟩ = false from decide_eq_false h2] at he
  have H3 := Lib.hid h3
  have H4 := Lib.hid h4
  clear h2 h3 h4
  rw [hv.out]
  go_enter Try.func51, Try.ntmps51
  have HC0 : Hid (ChAt (w.alloc (.cells #[.int .i64 t, .int .i64 k, .bool true, .int .i64 oa, .int .i64 ob, .int .i64 oc, .bool true, .int .i64 na, .int .i64 nb, .int .i64 nc] 57)) w.heap.size 0 ⟨t, k, true, ⟨oa, ob, oc⟩, true, ⟨na, nb, nc⟩⟩) := Lib.hid (ChAt_new w ⟨t, k, true, ⟨oa, ob, oc⟩, true, ⟨na, nb, nc⟩⟩)
  go_wp2_with fail
  (with_reducible refine (rbef_true t k oa ob oc na nb nc true _).mono ?_)
  rintro e w2 ⟨rfl, hb2⟩
  have hk2 := bt hb2 (ba w2 (.cells #[.int .i64 t, .int .i64 k, .int .i64 oa, .int .i64 ob, .int .i64 oc] 50))
  have HB2 := Lib.hid (bt (ba w (.cells #[.int .i64 t, .int .i64 k, .bool true, .int .i64 oa, .int .i64 ob, .int .i64 oc, .bool true, .int .i64 na, .int .i64 nb, .int .i64 nc] 57)) hk2)
  have HC2 := Lib.hid (HC0.out.below (by simp) hk2)
  have HA2 := Lib.hid (RwAt.new w2 ⟨t, k, ⟨oa, ob, oc⟩⟩)
  have hl2 : w.heap.size < w2.heap.size := by have := hb2.size; simp only [World.size_alloc] at this; omega
  clear hb2 hk2 HC0
  obtain ⟨d0, d1, d2, d3, d4, d5, d6, d7, d8, d9⟩ := ChAt.cells HC2.out
  go_wp2_with fail
  (with_reducible refine (raft_true t k oa ob oc na nb nc true _).mono ?_)
  rintro e w3 ⟨rfl, hb3⟩
  have hk3 := bt hb3 (ba w3 (.cells #[.int .i64 t, .int .i64 k, .int .i64 na, .int .i64 nb, .int .i64 nc] 50))
  have HB3 := Lib.hid (bt HB2.out hk3)
  have HC3 := Lib.hid (HC2.out.below (by simp; omega) hk3)
  have HA3 := Lib.hid (HA2.out.below hk3)
  have HN3 := Lib.hid (RwAt.new w3 ⟨t, k, ⟨na, nb, nc⟩⟩)
  clear hb3 hk3 HC2 HA2 HB2 d0 d1 d2 d3 d4 d5 d6 d7 d8 d9
  obtain ⟨d0, d1, d2, d3, d4, d5, d6, d7, d8, d9⟩ := ChAt.cells HC3.out
  obtain ⟨a0, a1, a2, a3, a4⟩ := HA3.out
  obtain ⟨n0, n1, n2, n3, n4⟩ := HN3.out
  go_wp2_with fail
  (with_reducible refine (refValid_t ⟨t, k, ⟨oa, ob, oc⟩⟩ _ H3.out).mono ?_)
  rintro e w4 ⟨rfl, hb4⟩
  have HB4 := Lib.hid (bt HB3.out hb4)
  have HC4 := Lib.hid (HC3.out.below (World.block_lt_of_cell? _ _ d0) hb4)
  have HN4 := Lib.hid (HN3.out.below hb4)
  clear hb4 d0 d1 d2 d3 d4 d5 d6 d7 d8 d9 a0 a1 a2 a3 a4 n0 n1 n2 n3 n4
  obtain ⟨d0, d1, d2, d3, d4, d5, d6, d7, d8, d9⟩ := ChAt.cells HC4.out
  obtain ⟨n0, n1, n2, n3, n4⟩ := HN4.out
  go_wp2_with fail
  (with_reducible refine (refValid_t ⟨t, k, ⟨na, nb, nc⟩⟩ _ H4.out).mono ?_)
  rintro e w5 ⟨rfl, hb5⟩
  have HB5 := Lib.hid (bt HB4.out hb5)
  have HC5 := Lib.hid (HC4.out.below (World.block_lt_of_cell? _ _ d0) hb5)
  have HN5 := Lib.hid (HN4.out.below hb5)
  clear hb5 d0 d1 d2 d3 d4 d5 d6 d7 d8 d9 n0 n1 n2 n3 n4
  obtain ⟨d0, d1, d2, d3, d4, d5, d6, d7, d8, d9⟩ := ChAt.cells HC5.out
  obtain ⟨n0, n1, n2, n3, n4⟩ := HN5.out
  go_wp2_with fail
  go_ret
  exact ⟨rfl, HB5.out⟩
theorem refValidChange_any (c : MCh) (w : World) : Calls Try.prog 51 #[chV c] w fun e w' => e = .returned (.bool (vc c)) ∧ Below w.heap.size w w' := by
  obtain ⟨t, k, had, ⟨oa, ob, oc⟩, has, ⟨na, nb, nc⟩⟩ := c
  cases had <;> cases has
  · exact refVC_false_false_none t k oa ob oc na nb nc w
  · by_cases h3 : VRow ⟨t, k, ⟨na, nb, nc⟩⟩
    · by_cases h2 : (⟨oa, ob, oc⟩ : V3) = ⟨0, 0, 0⟩
      · exact refVC_false_true_ok t k oa ob oc na nb nc w h3 h2
      · exact refVC_false_true_z t k oa ob oc na nb nc w h3 h2
    · exact refVC_false_true_vn t k oa ob oc na nb nc w h3
  · by_cases h3 : VRow ⟨t, k, ⟨oa, ob, oc⟩⟩
    · by_cases h2 : (⟨na, nb, nc⟩ : V3) = ⟨0, 0, 0⟩
      · exact refVC_true_false_ok t k oa ob oc na nb nc w h3 h2
      · exact refVC_true_false_z t k oa ob oc na nb nc w h3 h2
    · exact refVC_true_false_vo t k oa ob oc na nb nc w h3
  · by_cases h2 : (⟨oa, ob, oc⟩ : V3) = ⟨na, nb, nc⟩
    · exact refVC_true_true_eq t k oa ob oc na nb nc w h2
    · by_cases h3 : VRow ⟨t, k, ⟨oa, ob, oc⟩⟩
      · by_cases h4 : VRow ⟨t, k, ⟨na, nb, nc⟩⟩
        · exact refVC_true_true_ok t k oa ob oc na nb nc w h2 h3 h4
        · exact refVC_true_true_vn t k oa ob oc na nb nc w h2 h3 h4
      · exact refVC_true_true_vo t k oa ob oc na nb nc w h2 h3
theorem refVC_t (c : MCh) (w : World) (h : VCh c) : Calls Try.prog 51 #[chV c] w fun e w' => e = .returned (.bool true) ∧ Below w.heap.size w w' :=
  (refValidChange_any c w).mono fun e w' hw => by rw [vc, decide_eq_true h] at hw; exact hw
theorem refVC_f (c : MCh) (w : World) (h : ¬ VCh c) : Calls Try.prog 51 #[chV c] w fun e w' => e = .returned (.bool false) ∧ Below w.heap.size w w' :=
  (refValidChange_any c w).mono fun e w' hw => by rw [vc, decide_eq_false h] at hw; exact hw
end Go.Proofs.Ytaapggeaoacikaa
