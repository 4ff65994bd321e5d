/- WALKS: RowChanges. -/
import Derived.Test.YtgkdliocfnoffaaDoorB1
set_option linter.unusedVariables false
namespace Go.Proofs.YtgkdliocfnoffaaDoor
open Go.RowKit Go.Sort

/-- A row that lies in a block, in a world of the class. -/
theorem RwAt.regrown {W : World} {b : Nat} {r : MRow} (h : RwAt W b r) (d : Nat) (os : Array Obj) : RwAt (grow (redrawn W d) os) b r :=
  ⟨cell_regrown h.c0 d os, cell_regrown h.c1 d os, cell_regrown h.c2 d os, cell_regrown h.c3 d os, cell_regrown h.c4 d os⟩
theorem value_key (r : MRow) (W : World) : Calls Tryd.prog 19 #[rowV r, .int .i64 0] W fun e w' => e = .returned (.int .i64 r.k) ∧ Below W.heap.size W w' := by
  have := value_any r.t r.k r.v.a r.v.b r.v.c 0 W (by decide) (by decide)
  simpa [vget] using this
theorem bef_true (t k oa ob oc na nb nc : Int) (x : Bool) (W : World) : Calls Tryd.prog 23 #[chV ⟨t, k, true, ⟨oa, ob, oc⟩, x, ⟨na, nb, nc⟩⟩] W fun e w' => e = .returned (.tuple #[rowV ⟨t, k, ⟨oa, ob, oc⟩⟩, .bool true]) ∧ Below W.heap.size W w' := before_any ⟨t, k, true, ⟨oa, ob, oc⟩, x, ⟨na, nb, nc⟩⟩ W
theorem bef_false (t k oa ob oc na nb nc : Int) (x : Bool) (W : World) : Calls Tryd.prog 23 #[chV ⟨t, k, false, ⟨oa, ob, oc⟩, x, ⟨na, nb, nc⟩⟩] W fun e w' => e = .returned (.tuple #[rowV ⟨0, 0, ⟨0, 0, 0⟩⟩, .bool false]) ∧ Below W.heap.size W w' := before_any ⟨t, k, false, ⟨oa, ob, oc⟩, x, ⟨na, nb, nc⟩⟩ W
theorem aft_true (t k oa ob oc na nb nc : Int) (x : Bool) (W : World) : Calls Tryd.prog 24 #[chV ⟨t, k, x, ⟨oa, ob, oc⟩, true, ⟨na, nb, nc⟩⟩] W fun e w' => e = .returned (.tuple #[rowV ⟨t, k, ⟨na, nb, nc⟩⟩, .bool true]) ∧ Below W.heap.size W w' := after_any ⟨t, k, x, ⟨oa, ob, oc⟩, true, ⟨na, nb, nc⟩⟩ W
theorem aft_false (t k oa ob oc na nb nc : Int) (x : Bool) (W : World) : Calls Tryd.prog 24 #[chV ⟨t, k, x, ⟨oa, ob, oc⟩, false, ⟨na, nb, nc⟩⟩] W fun e w' => e = .returned (.tuple #[rowV ⟨0, 0, ⟨0, 0, 0⟩⟩, .bool false]) ∧ Below W.heap.size W w' := after_any ⟨t, k, x, ⟨oa, ob, oc⟩, false, ⟨na, nb, nc⟩⟩ W

set_option maxRecDepth 100000 in
set_option maxHeartbeats 4000000 in
theorem changes_true_true_True (t k oa ob oc na nb nc : Int) (W : World) (hE : Errs W) (hv : VCh ⟨t, k, true, ⟨oa, ob, oc⟩, true, ⟨na, nb, nc⟩⟩) : Calls Tryd.prog 9 #[chV ⟨t, k, true, ⟨oa, ob, oc⟩, true, ⟨na, nb, nc⟩⟩] W fun e w' => e = .returned (.bool true) ∧ Below W.heap.size W w' := by
  have HG : Hid (∀ w', Below W.heap.size W w' → Errs w') := Lib.hid (fun w' h => hE.below h)
  have HV := Lib.hid hv
  have HRa : Hid (VRow ⟨t, k, ⟨oa, ob, oc⟩⟩) := Lib.hid (hv.2.2.1.1 rfl)
  have HRn : Hid (VRow ⟨t, k, ⟨na, nb, nc⟩⟩) := Lib.hid (hv.2.2.2.1 rfl)
  have hqn := fun w => neqRow t k oa ob oc t k na nb nc w
  rw [show rowE ⟨t, k, ⟨oa, ob, oc⟩⟩ ⟨t, k, ⟨na, nb, nc⟩⟩ = false by (have h := hv.2.1; simp only [rowE]; refine decide_eq_false (fun e => h ⟨rfl, rfl, ?_⟩); simpa using e)] at hqn
  clear hE hv
  go_enter Tryd.func9, Tryd.ntmps9
  have HC0 : Hid (ChAt (W.alloc (.cells #[.int .i64 t, .int .i64 k, .bool true, .int .i64 oa, .int .i64 ob, .int .i64 oc, .bool true, .int .i64 na, .int .i64 nb, .int .i64 nc] 42)) W.heap.size 0 ⟨t, k, true, ⟨oa, ob, oc⟩, true, ⟨na, nb, nc⟩⟩) := Lib.hid (ChAt_new W ⟨t, k, true, ⟨oa, ob, oc⟩, true, ⟨na, nb, nc⟩⟩)
  go_wp2_with fail
  (with_reducible refine (sane_any _ (HG.out _ (ba _ _))).mono ?_)
  rintro e w1 ⟨rfl, hb1⟩
  have HB1 := Lib.hid (bt (ba W (.cells #[.int .i64 t, .int .i64 k, .bool true, .int .i64 oa, .int .i64 ob, .int .i64 oc, .bool true, .int .i64 na, .int .i64 nb, .int .i64 nc] 42)) hb1)
  have HC1 := Lib.hid (HC0.out.below (by simp) hb1)
  obtain ⟨d0, d1, d2, d3, d4, d5, d6, d7, d8, d9⟩ := ChAt.cells HC1.out
  clear hb1 HC0
  go_wp2_with fail
  (with_reducible refine (bef_true t k oa ob oc na nb nc true _).mono ?_)
  rintro e w2 ⟨rfl, hb2⟩
  have hk2 := bt hb2 (ba w2 (.cells #[.int .i64 t, .int .i64 k, .int .i64 oa, .int .i64 ob, .int .i64 oc] 24))
  have HB2 := Lib.hid (bt HB1.out hk2)
  have hlt1 : W.heap.size < w1.heap.size := World.block_lt_of_cell? w1 _ d0
  have HC2 := Lib.hid (HC1.out.below hlt1 hk2)
  have HA2 := Lib.hid (RwAt.new w2 ⟨t, k, ⟨oa, ob, oc⟩⟩)
  clear hb2 hk2 HB1 HC1 d0 d1 d2 d3 d4 d5 d6 d7 d8 d9
  obtain ⟨d0, d1, d2, d3, d4, d5, d6, d7, d8, d9⟩ := ChAt.cells HC2.out
  go_wp2_with fail
  (with_reducible refine (aft_true t k oa ob oc na nb nc true _).mono ?_)
  rintro e w3 ⟨rfl, hb3⟩
  have hk3 := bt hb3 (ba w3 (.cells #[.int .i64 t, .int .i64 k, .int .i64 na, .int .i64 nb, .int .i64 nc] 24))
  have HB3 := Lib.hid (bt HB2.out hk3)
  have hlt2 := World.block_lt_of_cell? _ _ d0
  have HC3 := Lib.hid (HC2.out.below hlt2 hk3)
  have HA3 := Lib.hid (HA2.out.below hk3)
  have HN3 := Lib.hid (RwAt.new w3 ⟨t, k, ⟨na, nb, nc⟩⟩)
  clear hb3 hk3 HB2 HC2 HA2 d0 d1 d2 d3 d4 d5 d6 d7 d8 d9
  obtain ⟨d0, d1, d2, d3, d4, d5, d6, d7, d8, d9⟩ := ChAt.cells HC3.out
  obtain ⟨a0, a1, a2, a3, a4⟩ := HA3.out
  obtain ⟨n0, n1, n2, n3, n4⟩ := HN3.out
  have hq := fun w => neqRow 0 0 0 0 0 0 0 0 0 0 w
  rw [show rowE ⟨0, 0, ⟨0, 0, 0⟩⟩ ⟨0, 0, ⟨0, 0, 0⟩⟩ = true by simp [rowE]] at hq
  go_wp2_with fail
  (with_reducible refine (vc_t ⟨t, k, true, ⟨oa, ob, oc⟩, true, ⟨na, nb, nc⟩⟩ _ HV.out).mono ?_)
  rintro e w4 ⟨rfl, hb4⟩
  have HB4 := Lib.hid (bt HB3.out hb4)
  have hlt3 := World.block_lt_of_cell? _ _ d0
  have HC4 := HC3.out.below hlt3 hb4
  have HA4 := HA3.out.below hb4
  have HN4 := HN3.out.below hb4
  obtain ⟨c0, c1, _⟩ := ChAt.cells HC4
  have g0 := fun d os => cell_regrown c0 d os
  have g1 := fun d os => cell_regrown c1 d os
  simp only [Nat.zero_add] at g1
  have aa0 := fun d os => cell_regrown HA4.c0 d os
  have aa1 := fun d os => cell_regrown HA4.c1 d os
  have aa2 := fun d os => cell_regrown HA4.c2 d os
  have aa3 := fun d os => cell_regrown HA4.c3 d os
  have aa4 := fun d os => cell_regrown HA4.c4 d os
  have hav : ∀ d os, Calls Tryd.prog 17 #[rowV ⟨t, k, ⟨oa, ob, oc⟩⟩] (grow (redrawn w4 d) os) fun e w'' => e = .returned (.bool true) ∧ ∃ p : Regrown, w'' = grow (redrawn w4 p.d) p.os := fun d os => Calls.regrown_of (valid_t _ _ HRa.out)
  have hak : ∀ d os, Calls Tryd.prog 19 #[rowV ⟨t, k, ⟨oa, ob, oc⟩⟩, .int .i64 0] (grow (redrawn w4 d) os) fun e w'' => e = .returned (.int .i64 k) ∧ ∃ p : Regrown, w'' = grow (redrawn w4 p.d) p.os := fun d os => Calls.regrown_of (value_key ⟨t, k, ⟨oa, ob, oc⟩⟩ _)
  have nn0 := fun d os => cell_regrown HN4.c0 d os
  have nn1 := fun d os => cell_regrown HN4.c1 d os
  have nn2 := fun d os => cell_regrown HN4.c2 d os
  have nn3 := fun d os => cell_regrown HN4.c3 d os
  have nn4 := fun d os => cell_regrown HN4.c4 d os
  have hnv : ∀ d os, Calls Tryd.prog 17 #[rowV ⟨t, k, ⟨na, nb, nc⟩⟩] (grow (redrawn w4 d) os) fun e w'' => e = .returned (.bool true) ∧ ∃ p : Regrown, w'' = grow (redrawn w4 p.d) p.os := fun d os => Calls.regrown_of (valid_t _ _ HRn.out)
  have hnk : ∀ d os, Calls Tryd.prog 19 #[rowV ⟨t, k, ⟨na, nb, nc⟩⟩, .int .i64 0] (grow (redrawn w4 d) os) fun e w'' => e = .returned (.int .i64 k) ∧ ∃ p : Regrown, w'' = grow (redrawn w4 p.d) p.os := fun d os => Calls.regrown_of (value_key ⟨t, k, ⟨na, nb, nc⟩⟩ _)
  clear hb4 d0 d1 d2 d3 d4 d5 d6 d7 d8 d9 a0 a1 a2 a3 a4 n0 n1 n2 n3 n4 hq
  go_wp2_with fail
  refine wp_region_quiet_below (by kernel_rfl) (by kernel_rfl) ?_
  repeat (first | go_big_quiet_step (first | with_reducible exact hav _ _ | with_reducible exact hak _ _ | with_reducible exact hnv _ _ | with_reducible exact hnk _ _) | quiet_step (first | with_reducible exact hav _ _ | with_reducible exact hak _ _ | with_reducible exact hnv _ _ | with_reducible exact hnk _ _))
  refine wpQuiet_nil ?_
  intro _ hw'
  obtain ⟨⟨dq, osq⟩, hw''⟩ := hw'
  subst hw''
  have HBq := Lib.hid (bt HB4.out (below_regrown w4 dq osq))
  go_wp2_with fail
  go_ret
  exact ⟨rfl, HBq.out⟩

set_option maxRecDepth 100000 in
set_option maxHeartbeats 4000000 in
theorem changes_true_true_False (t k oa ob oc na nb nc : Int) (W : World) (hE : Errs W) (hv : ¬ VCh ⟨t, k, true, ⟨oa, ob, oc⟩, true, ⟨na, nb, nc⟩⟩) : Calls Tryd.prog 9 #[chV ⟨t, k, true, ⟨oa, ob, oc⟩, true, ⟨na, nb, nc⟩⟩] W fun e w' => e = .returned (.bool true) ∧ Below W.heap.size W w' := by
  have HG : Hid (∀ w', Below W.heap.size W w' → Errs w') := Lib.hid (fun w' h => hE.below h)
  have HV := Lib.hid hv
  clear hE hv
  go_enter Tryd.func9, Tryd.ntmps9
  have HC0 : Hid (ChAt (W.alloc (.cells #[.int .i64 t, .int .i64 k, .bool true, .int .i64 oa, .int .i64 ob, .int .i64 oc, .bool true, .int .i64 na, .int .i64 nb, .int .i64 nc] 42)) W.heap.size 0 ⟨t, k, true, ⟨oa, ob, oc⟩, true, ⟨na, nb, nc⟩⟩) := Lib.hid (ChAt_new W ⟨t, k, true, ⟨oa, ob, oc⟩, true, ⟨na, nb, nc⟩⟩)
  go_wp2_with fail
  (with_reducible refine (sane_any _ (HG.out _ (ba _ _))).mono ?_)
  rintro e w1 ⟨rfl, hb1⟩
  have HB1 := Lib.hid (bt (ba W (.cells #[.int .i64 t, .int .i64 k, .bool true, .int .i64 oa, .int .i64 ob, .int .i64 oc, .bool true, .int .i64 na, .int .i64 nb, .int .i64 nc] 42)) hb1)
  have HC1 := Lib.hid (HC0.out.below (by simp) hb1)
  obtain ⟨d0, d1, d2, d3, d4, d5, d6, d7, d8, d9⟩ := ChAt.cells HC1.out
  clear hb1 HC0
  go_wp2_with fail
  (with_reducible refine (bef_true t k oa ob oc na nb nc true _).mono ?_)
  rintro e w2 ⟨rfl, hb2⟩
  have hk2 := bt hb2 (ba w2 (.cells #[.int .i64 t, .int .i64 k, .int .i64 oa, .int .i64 ob, .int .i64 oc] 24))
  have HB2 := Lib.hid (bt HB1.out hk2)
  have hlt1 : W.heap.size < w1.heap.size := World.block_lt_of_cell? w1 _ d0
  have HC2 := Lib.hid (HC1.out.below hlt1 hk2)
  have HA2 := Lib.hid (RwAt.new w2 ⟨t, k, ⟨oa, ob, oc⟩⟩)
  clear hb2 hk2 HB1 HC1 d0 d1 d2 d3 d4 d5 d6 d7 d8 d9
  obtain ⟨d0, d1, d2, d3, d4, d5, d6, d7, d8, d9⟩ := ChAt.cells HC2.out
  go_wp2_with fail
  (with_reducible refine (aft_true t k oa ob oc na nb nc true _).mono ?_)
  rintro e w3 ⟨rfl, hb3⟩
  have hk3 := bt hb3 (ba w3 (.cells #[.int .i64 t, .int .i64 k, .int .i64 na, .int .i64 nb, .int .i64 nc] 24))
  have HB3 := Lib.hid (bt HB2.out hk3)
  have hlt2 := World.block_lt_of_cell? _ _ d0
  have HC3 := Lib.hid (HC2.out.below hlt2 hk3)
  have HA3 := Lib.hid (HA2.out.below hk3)
  have HN3 := Lib.hid (RwAt.new w3 ⟨t, k, ⟨na, nb, nc⟩⟩)
  clear hb3 hk3 HB2 HC2 HA2 d0 d1 d2 d3 d4 d5 d6 d7 d8 d9
  obtain ⟨d0, d1, d2, d3, d4, d5, d6, d7, d8, d9⟩ := ChAt.cells HC3.out
  obtain ⟨a0, a1, a2, a3, a4⟩ := HA3.out
  obtain ⟨n0, n1, n2, n3, n4⟩ := HN3.out
  have hq := fun w => neqRow 0 0 0 0 0 0 0 0 0 0 w
  rw [show rowE ⟨0, 0, ⟨0, 0, 0⟩⟩ ⟨0, 0, ⟨0, 0, 0⟩⟩ = true by simp [rowE]] at hq
  go_wp2_with fail
  (with_reducible refine (vc_f ⟨t, k, true, ⟨oa, ob, oc⟩, true, ⟨na, nb, nc⟩⟩ _ HV.out).mono ?_)
  rintro e w4 ⟨rfl, hb4⟩
  have HB4 := Lib.hid (bt HB3.out hb4)
  clear hb4 d0 d1 d2 d3 d4 d5 d6 d7 d8 d9 a0 a1 a2 a3 a4 n0 n1 n2 n3 n4 hq
  go_wp2_with fail
  go_ret
  exact ⟨rfl, HB4.out⟩

set_option maxRecDepth 100000 in
set_option maxHeartbeats 4000000 in
theorem changes_true_false_True (t k oa ob oc na nb nc : Int) (W : World) (hE : Errs W) (hv : VCh ⟨t, k, true, ⟨oa, ob, oc⟩, false, ⟨na, nb, nc⟩⟩) : Calls Tryd.prog 9 #[chV ⟨t, k, true, ⟨oa, ob, oc⟩, false, ⟨na, nb, nc⟩⟩] W fun e w' => e = .returned (.bool true) ∧ Below W.heap.size W w' := by
  have HG : Hid (∀ w', Below W.heap.size W w' → Errs w') := Lib.hid (fun w' h => hE.below h)
  have HV := Lib.hid hv
  have HRa : Hid (VRow ⟨t, k, ⟨oa, ob, oc⟩⟩) := Lib.hid (hv.2.2.1.1 rfl)
  clear hE hv
  go_enter Tryd.func9, Tryd.ntmps9
  have HC0 : Hid (ChAt (W.alloc (.cells #[.int .i64 t, .int .i64 k, .bool true, .int .i64 oa, .int .i64 ob, .int .i64 oc, .bool false, .int .i64 na, .int .i64 nb, .int .i64 nc] 42)) W.heap.size 0 ⟨t, k, true, ⟨oa, ob, oc⟩, false, ⟨na, nb, nc⟩⟩) := Lib.hid (ChAt_new W ⟨t, k, true, ⟨oa, ob, oc⟩, false, ⟨na, nb, nc⟩⟩)
  go_wp2_with fail
  (with_reducible refine (sane_any _ (HG.out _ (ba _ _))).mono ?_)
  rintro e w1 ⟨rfl, hb1⟩
  have HB1 := Lib.hid (bt (ba W (.cells #[.int .i64 t, .int .i64 k, .bool true, .int .i64 oa, .int .i64 ob, .int .i64 oc, .bool false, .int .i64 na, .int .i64 nb, .int .i64 nc] 42)) hb1)
  have HC1 := Lib.hid (HC0.out.below (by simp) hb1)
  obtain ⟨d0, d1, d2, d3, d4, d5, d6, d7, d8, d9⟩ := ChAt.cells HC1.out
  clear hb1 HC0
  go_wp2_with fail
  (with_reducible refine (bef_true t k oa ob oc na nb nc false _).mono ?_)
  rintro e w2 ⟨rfl, hb2⟩
  have hk2 := bt hb2 (ba w2 (.cells #[.int .i64 t, .int .i64 k, .int .i64 oa, .int .i64 ob, .int .i64 oc] 24))
  have HB2 := Lib.hid (bt HB1.out hk2)
  have hlt1 : W.heap.size < w1.heap.size := World.block_lt_of_cell? w1 _ d0
  have HC2 := Lib.hid (HC1.out.below hlt1 hk2)
  have HA2 := Lib.hid (RwAt.new w2 ⟨t, k, ⟨oa, ob, oc⟩⟩)
  clear hb2 hk2 HB1 HC1 d0 d1 d2 d3 d4 d5 d6 d7 d8 d9
  obtain ⟨d0, d1, d2, d3, d4, d5, d6, d7, d8, d9⟩ := ChAt.cells HC2.out
  go_wp2_with fail
  (with_reducible refine (aft_false t k oa ob oc na nb nc true _).mono ?_)
  rintro e w3 ⟨rfl, hb3⟩
  have hk3 := bt hb3 (ba w3 (.cells #[.int .i64 0, .int .i64 0, .int .i64 0, .int .i64 0, .int .i64 0] 24))
  have HB3 := Lib.hid (bt HB2.out hk3)
  have hlt2 := World.block_lt_of_cell? _ _ d0
  have HC3 := Lib.hid (HC2.out.below hlt2 hk3)
  have HA3 := Lib.hid (HA2.out.below hk3)
  have HN3 := Lib.hid (RwAt.new w3 ⟨0, 0, ⟨0, 0, 0⟩⟩)
  clear hb3 hk3 HB2 HC2 HA2 d0 d1 d2 d3 d4 d5 d6 d7 d8 d9
  obtain ⟨d0, d1, d2, d3, d4, d5, d6, d7, d8, d9⟩ := ChAt.cells HC3.out
  obtain ⟨a0, a1, a2, a3, a4⟩ := HA3.out
  obtain ⟨n0, n1, n2, n3, n4⟩ := HN3.out
  have hq := fun w => neqRow 0 0 0 0 0 0 0 0 0 0 w
  rw [show rowE ⟨0, 0, ⟨0, 0, 0⟩⟩ ⟨0, 0, ⟨0, 0, 0⟩⟩ = true by simp [rowE]] at hq
  go_wp2_with fail
  (with_reducible refine (vc_t ⟨t, k, true, ⟨oa, ob, oc⟩, false, ⟨na, nb, nc⟩⟩ _ HV.out).mono ?_)
  rintro e w4 ⟨rfl, hb4⟩
  have HB4 := Lib.hid (bt HB3.out hb4)
  have hlt3 := World.block_lt_of_cell? _ _ d0
  have HC4 := HC3.out.below hlt3 hb4
  have HA4 := HA3.out.below hb4
  have HN4 := HN3.out.below hb4
  obtain ⟨c0, c1, _⟩ := ChAt.cells HC4
  have g0 := fun d os => cell_regrown c0 d os
  have g1 := fun d os => cell_regrown c1 d os
  simp only [Nat.zero_add] at g1
  have aa0 := fun d os => cell_regrown HA4.c0 d os
  have aa1 := fun d os => cell_regrown HA4.c1 d os
  have aa2 := fun d os => cell_regrown HA4.c2 d os
  have aa3 := fun d os => cell_regrown HA4.c3 d os
  have aa4 := fun d os => cell_regrown HA4.c4 d os
  have hav : ∀ d os, Calls Tryd.prog 17 #[rowV ⟨t, k, ⟨oa, ob, oc⟩⟩] (grow (redrawn w4 d) os) fun e w'' => e = .returned (.bool true) ∧ ∃ p : Regrown, w'' = grow (redrawn w4 p.d) p.os := fun d os => Calls.regrown_of (valid_t _ _ HRa.out)
  have hak : ∀ d os, Calls Tryd.prog 19 #[rowV ⟨t, k, ⟨oa, ob, oc⟩⟩, .int .i64 0] (grow (redrawn w4 d) os) fun e w'' => e = .returned (.int .i64 k) ∧ ∃ p : Regrown, w'' = grow (redrawn w4 p.d) p.os := fun d os => Calls.regrown_of (value_key ⟨t, k, ⟨oa, ob, oc⟩⟩ _)
  clear hb4 d0 d1 d2 d3 d4 d5 d6 d7 d8 d9 a0 a1 a2 a3 a4 n0 n1 n2 n3 n4 hq
  go_wp2_with fail
  refine wp_region_quiet_below (by kernel_rfl) (by kernel_rfl) ?_
  repeat (first | go_big_quiet_step (first | with_reducible exact hav _ _ | with_reducible exact hak _ _) | quiet_step (first | with_reducible exact hav _ _ | with_reducible exact hak _ _))
  refine wpQuiet_nil ?_
  intro _ hw'
  obtain ⟨⟨dq, osq⟩, hw''⟩ := hw'
  subst hw''
  have HBq := Lib.hid (bt HB4.out (below_regrown w4 dq osq))
  go_wp2_with fail
  go_ret
  exact ⟨rfl, HBq.out⟩

set_option maxRecDepth 100000 in
set_option maxHeartbeats 4000000 in
theorem changes_true_false_False (t k oa ob oc na nb nc : Int) (W : World) (hE : Errs W) (hv : ¬ VCh ⟨t, k, true, ⟨oa, ob, oc⟩, false, ⟨na, nb, nc⟩⟩) : Calls Tryd.prog 9 #[chV ⟨t, k, true, ⟨oa, ob, oc⟩, false, ⟨na, nb, nc⟩⟩] W fun e w' => e = .returned (.bool true) ∧ Below W.heap.size W w' := by
  have HG : Hid (∀ w', Below W.heap.size W w' → Errs w') := Lib.hid (fun w' h => hE.below h)
  have HV := Lib.hid hv
  clear hE hv
  go_enter Tryd.func9, Tryd.ntmps9
  have HC0 : Hid (ChAt (W.alloc (.cells #[.int .i64 t, .int .i64 k, .bool true, .int .i64 oa, .int .i64 ob, .int .i64 oc, .bool false, .int .i64 na, .int .i64 nb, .int .i64 nc] 42)) W.heap.size 0 ⟨t, k, true, ⟨oa, ob, oc⟩, false, ⟨na, nb, nc⟩⟩) := Lib.hid (ChAt_new W ⟨t, k, true, ⟨oa, ob, oc⟩, false, ⟨na, nb, nc⟩⟩)
  go_wp2_with fail
  (with_reducible refine (sane_any _ (HG.out _ (ba _ _))).mono ?_)
  rintro e w1 ⟨rfl, hb1⟩
  have HB1 := Lib.hid (bt (ba W (.cells #[.int .i64 t, .int .i64 k, .bool true, .int .i64 oa, .int .i64 ob, .int .i64 oc, .bool false, .int .i64 na, .int .i64 nb, .int .i64 nc] 42)) hb1)
  have HC1 := Lib.hid (HC0.out.below (by simp) hb1)
  obtain ⟨d0, d1, d2, d3, d4, d5, d6, d7, d8, d9⟩ := ChAt.cells HC1.out
  clear hb1 HC0
  go_wp2_with fail
  (with_reducible refine (bef_true t k oa ob oc na nb nc false _).mono ?_)
  rintro e w2 ⟨rfl, hb2⟩
  have hk2 := bt hb2 (ba w2 (.cells #[.int .i64 t, .int .i64 k, .int .i64 oa, .int .i64 ob, .int .i64 oc] 24))
  have HB2 := Lib.hid (bt HB1.out hk2)
  have hlt1 : W.heap.size < w1.heap.size := World.block_lt_of_cell? w1 _ d0
  have HC2 := Lib.hid (HC1.out.below hlt1 hk2)
  have HA2 := Lib.hid (RwAt.new w2 ⟨t, k, ⟨oa, ob, oc⟩⟩)
  clear hb2 hk2 HB1 HC1 d0 d1 d2 d3 d4 d5 d6 d7 d8 d9
  obtain ⟨d0, d1, d2, d3, d4, d5, d6, d7, d8, d9⟩ := ChAt.cells HC2.out
  go_wp2_with fail
  (with_reducible refine (aft_false t k oa ob oc na nb nc true _).mono ?_)
  rintro e w3 ⟨rfl, hb3⟩
  have hk3 := bt hb3 (ba w3 (.cells #[.int .i64 0, .int .i64 0, .int .i64 0, .int .i64 0, .int .i64 0] 24))
  have HB3 := Lib.hid (bt HB2.out hk3)
  have hlt2 := World.block_lt_of_cell? _ _ d0
  have HC3 := Lib.hid (HC2.out.below hlt2 hk3)
  have HA3 := Lib.hid (HA2.out.below hk3)
  have HN3 := Lib.hid (RwAt.new w3 ⟨0, 0, ⟨0, 0, 0⟩⟩)
  clear hb3 hk3 HB2 HC2 HA2 d0 d1 d2 d3 d4 d5 d6 d7 d8 d9
  obtain ⟨d0, d1, d2, d3, d4, d5, d6, d7, d8, d9⟩ := ChAt.cells HC3.out
  obtain ⟨a0, a1, a2, a3, a4⟩ := HA3.out
  obtain ⟨n0, n1, n2, n3, n4⟩ := HN3.out
  have hq := fun w => neqRow 0 0 0 0 0 0 0 0 0 0 w
  rw [show rowE ⟨0, 0, ⟨0, 0, 0⟩⟩ ⟨0, 0, ⟨0, 0, 0⟩⟩ = true by simp [rowE]] at hq
  go_wp2_with fail
  (with_reducible refine (vc_f ⟨t, k, true, ⟨oa, ob, oc⟩, false, ⟨na, nb, nc⟩⟩ _ HV.out).mono ?_)
  rintro e w4 ⟨rfl, hb4⟩
  have HB4 := Lib.hid (bt HB3.out hb4)
  clear hb4 d0 d1 d2 d3 d4 d5 d6 d7 d8 d9 a0 a1 a2 a3 a4 n0 n1 n2 n3 n4 hq
  go_wp2_with fail
  go_ret
  exact ⟨rfl, HB4.out⟩

set_option maxRecDepth 100000 in
set_option maxHeartbeats 4000000 in
theorem changes_false_true_True (t k oa ob oc na nb nc : Int) (W : World) (hE : Errs W) (hv : VCh ⟨t, k, false, ⟨oa, ob, oc⟩, true, ⟨na, nb, nc⟩⟩) : Calls Tryd.prog 9 #[chV ⟨t, k, false, ⟨oa, ob, oc⟩, true, ⟨na, nb, nc⟩⟩] W fun e w' => e = .returned (.bool true) ∧ Below W.heap.size W w' := by
  have HG : Hid (∀ w', Below W.heap.size W w' → Errs w') := Lib.hid (fun w' h => hE.below h)
  have HV := Lib.hid hv
  have HRn : Hid (VRow ⟨t, k, ⟨na, nb, nc⟩⟩) := Lib.hid (hv.2.2.2.1 rfl)
  clear hE hv
  go_enter Tryd.func9, Tryd.ntmps9
  have HC0 : Hid (ChAt (W.alloc (.cells #[.int .i64 t, .int .i64 k, .bool false, .int .i64 oa, .int .i64 ob, .int .i64 oc, .bool true, .int .i64 na, .int .i64 nb, .int .i64 nc] 42)) W.heap.size 0 ⟨t, k, false, ⟨oa, ob, oc⟩, true, ⟨na, nb, nc⟩⟩) := Lib.hid (ChAt_new W ⟨t, k, false, ⟨oa, ob, oc⟩, true, ⟨na, nb, nc⟩⟩)
  go_wp2_with fail
  (with_reducible refine (sane_any _ (HG.out _ (ba _ _))).mono ?_)
  rintro e w1 ⟨rfl, hb1⟩
  have HB1 := Lib.hid (bt (ba W (.cells #[.int .i64 t, .int .i64 k, .bool false, .int .i64 oa, .int .i64 ob, .int .i64 oc, .bool true, .int .i64 na, .int .i64 nb, .int .i64 nc] 42)) hb1)
  have HC1 := Lib.hid (HC0.out.below (by simp) hb1)
  obtain ⟨d0, d1, d2, d3, d4, d5, d6, d7, d8, d9⟩ := ChAt.cells HC1.out
  clear hb1 HC0
  go_wp2_with fail
  (with_reducible refine (bef_false t k oa ob oc na nb nc true _).mono ?_)
  rintro e w2 ⟨rfl, hb2⟩
  have hk2 := bt hb2 (ba w2 (.cells #[.int .i64 0, .int .i64 0, .int .i64 0, .int .i64 0, .int .i64 0] 24))
  have HB2 := Lib.hid (bt HB1.out hk2)
  have hlt1 : W.heap.size < w1.heap.size := World.block_lt_of_cell? w1 _ d0
  have HC2 := Lib.hid (HC1.out.below hlt1 hk2)
  have HA2 := Lib.hid (RwAt.new w2 ⟨0, 0, ⟨0, 0, 0⟩⟩)
  clear hb2 hk2 HB1 HC1 d0 d1 d2 d3 d4 d5 d6 d7 d8 d9
  obtain ⟨d0, d1, d2, d3, d4, d5, d6, d7, d8, d9⟩ := ChAt.cells HC2.out
  go_wp2_with fail
  (with_reducible refine (aft_true t k oa ob oc na nb nc false _).mono ?_)
  rintro e w3 ⟨rfl, hb3⟩
  have hk3 := bt hb3 (ba w3 (.cells #[.int .i64 t, .int .i64 k, .int .i64 na, .int .i64 nb, .int .i64 nc] 24))
  have HB3 := Lib.hid (bt HB2.out hk3)
  have hlt2 := World.block_lt_of_cell? _ _ d0
  have HC3 := Lib.hid (HC2.out.below hlt2 hk3)
  have HA3 := Lib.hid (HA2.out.below hk3)
  have HN3 := Lib.hid (RwAt.new w3 ⟨t, k, ⟨na, nb, nc⟩⟩)
  clear hb3 hk3 HB2 HC2 HA2 d0 d1 d2 d3 d4 d5 d6 d7 d8 d9
  obtain ⟨d0, d1, d2, d3, d4, d5, d6, d7, d8, d9⟩ := ChAt.cells HC3.out
  obtain ⟨a0, a1, a2, a3, a4⟩ := HA3.out
  obtain ⟨n0, n1, n2, n3, n4⟩ := HN3.out
  have hq := fun w => neqRow 0 0 0 0 0 0 0 0 0 0 w
  rw [show rowE ⟨0, 0, ⟨0, 0, 0⟩⟩ ⟨0, 0, ⟨0, 0, 0⟩⟩ = true by simp [rowE]] at hq
  go_wp2_with fail
  (with_reducible refine (vc_t ⟨t, k, false, ⟨oa, ob, oc⟩, true, ⟨na, nb, nc⟩⟩ _ HV.out).mono ?_)
  rintro e w4 ⟨rfl, hb4⟩
  have HB4 := Lib.hid (bt HB3.out hb4)
  have hlt3 := World.block_lt_of_cell? _ _ d0
  have HC4 := HC3.out.below hlt3 hb4
  have HA4 := HA3.out.below hb4
  have HN4 := HN3.out.below hb4
  obtain ⟨c0, c1, _⟩ := ChAt.cells HC4
  have g0 := fun d os => cell_regrown c0 d os
  have g1 := fun d os => cell_regrown c1 d os
  simp only [Nat.zero_add] at g1
  have nn0 := fun d os => cell_regrown HN4.c0 d os
  have nn1 := fun d os => cell_regrown HN4.c1 d os
  have nn2 := fun d os => cell_regrown HN4.c2 d os
  have nn3 := fun d os => cell_regrown HN4.c3 d os
  have nn4 := fun d os => cell_regrown HN4.c4 d os
  have hnv : ∀ d os, Calls Tryd.prog 17 #[rowV ⟨t, k, ⟨na, nb, nc⟩⟩] (grow (redrawn w4 d) os) fun e w'' => e = .returned (.bool true) ∧ ∃ p : Regrown, w'' = grow (redrawn w4 p.d) p.os := fun d os => Calls.regrown_of (valid_t _ _ HRn.out)
  have hnk : ∀ d os, Calls Tryd.prog 19 #[rowV ⟨t, k, ⟨na, nb, nc⟩⟩, .int .i64 0] (grow (redrawn w4 d) os) fun e w'' => e = .returned (.int .i64 k) ∧ ∃ p : Regrown, w'' = grow (redrawn w4 p.d) p.os := fun d os => Calls.regrown_of (value_key ⟨t, k, ⟨na, nb, nc⟩⟩ _)
  clear hb4 d0 d1 d2 d3 d4 d5 d6 d7 d8 d9 a0 a1 a2 a3 a4 n0 n1 n2 n3 n4 hq
  go_wp2_with fail
  refine wp_region_quiet_below (by kernel_rfl) (by kernel_rfl) ?_
  repeat (first | go_big_quiet_step (first | with_reducible exact hnv _ _ | with_reducible exact hnk _ _) | quiet_step (first | with_reducible exact hnv _ _ | with_reducible exact hnk _ _))
  refine wpQuiet_nil ?_
  intro _ hw'
  obtain ⟨⟨dq, osq⟩, hw''⟩ := hw'
  subst hw''
  have HBq := Lib.hid (bt HB4.out (below_regrown w4 dq osq))
  go_wp2_with fail
  go_ret
  exact ⟨rfl, HBq.out⟩

set_option maxRecDepth 100000 in
set_option maxHeartbeats 4000000 in
theorem changes_false_true_False (t k oa ob oc na nb nc : Int) (W : World) (hE : Errs W) (hv : ¬ VCh ⟨t, k, false, ⟨oa, ob, oc⟩, true, ⟨na, nb, nc⟩⟩) : Calls Tryd.prog 9 #[chV ⟨t, k, false, ⟨oa, ob, oc⟩, true, ⟨na, nb, nc⟩⟩] W fun e w' => e = .returned (.bool true) ∧ Below W.heap.size W w' := by
  have HG : Hid (∀ w', Below W.heap.size W w' → Errs w') := Lib.hid (fun w' h => hE.below h)
  have HV := Lib.hid hv
  clear hE hv
  go_enter Tryd.func9, Tryd.ntmps9
  have HC0 : Hid (ChAt (W.alloc (.cells #[.int .i64 t, .int .i64 k, .bool false, .int .i64 oa, .int .i64 ob, .int .i64 oc, .bool true, .int .i64 na, .int .i64 nb, .int .i64 nc] 42)) W.heap.size 0 ⟨t, k, false, ⟨oa, ob, oc⟩, true, ⟨na, nb, nc⟩⟩) := Lib.hid (ChAt_new W ⟨t, k, false, ⟨oa, ob, oc⟩, true, ⟨na, nb, nc⟩⟩)
  go_wp2_with fail
  (with_reducible refine (sane_any _ (HG.out _ (ba _ _))).mono ?_)
  rintro e w1 ⟨rfl, hb1⟩
  have HB1 := Lib.hid (bt (ba W (.cells #[.int .i64 t, .int .i64 k, .bool false, .int .i64 oa, .int .i64 ob, .int .i64 oc, .bool true, .int .i64 na, .int .i64 nb, .int .i64 nc] 42)) hb1)
  have HC1 := Lib.hid (HC0.out.below (by simp) hb1)
  obtain ⟨d0, d1, d2, d3, d4, d5, d6, d7, d8, d9⟩ := ChAt.cells HC1.out
  clear hb1 HC0
  go_wp2_with fail
  (with_reducible refine (bef_false t k oa ob oc na nb nc true _).mono ?_)
  rintro e w2 ⟨rfl, hb2⟩
  have hk2 := bt hb2 (ba w2 (.cells #[.int .i64 0, .int .i64 0, .int .i64 0, .int .i64 0, .int .i64 0] 24))
  have HB2 := Lib.hid (bt HB1.out hk2)
  have hlt1 : W.heap.size < w1.heap.size := World.block_lt_of_cell? w1 _ d0
  have HC2 := Lib.hid (HC1.out.below hlt1 hk2)
  have HA2 := Lib.hid (RwAt.new w2 ⟨0, 0, ⟨0, 0, 0⟩⟩)
  clear hb2 hk2 HB1 HC1 d0 d1 d2 d3 d4 d5 d6 d7 d8 d9
  obtain ⟨d0, d1, d2, d3, d4, d5, d6, d7, d8, d9⟩ := ChAt.cells HC2.out
  go_wp2_with fail
  (with_reducible refine (aft_true t k oa ob oc na nb nc false _).mono ?_)
  rintro e w3 ⟨rfl, hb3⟩
  have hk3 := bt hb3 (ba w3 (.cells #[.int .i64 t, .int .i64 k, .int .i64 na, .int .i64 nb, .int .i64 nc] 24))
  have HB3 := Lib.hid (bt HB2.out hk3)
  have hlt2 := World.block_lt_of_cell? _ _ d0
  have HC3 := Lib.hid (HC2.out.below hlt2 hk3)
  have HA3 := Lib.hid (HA2.out.below hk3)
  have HN3 := Lib.hid (RwAt.new w3 ⟨t, k, ⟨na, nb, nc⟩⟩)
  clear hb3 hk3 HB2 HC2 HA2 d0 d1 d2 d3 d4 d5 d6 d7 d8 d9
  obtain ⟨d0, d1, d2, d3, d4, d5, d6, d7, d8, d9⟩ := ChAt.cells HC3.out
  obtain ⟨a0, a1, a2, a3, a4⟩ := HA3.out
  obtain ⟨n0, n1, n2, n3, n4⟩ := HN3.out
  have hq := fun w => neqRow 0 0 0 0 0 0 0 0 0 0 w
  rw [show rowE ⟨0, 0, ⟨0, 0, 0⟩⟩ ⟨0, 0, ⟨0, 0, 0⟩⟩ = true by simp [rowE]] at hq
  go_wp2_with fail
  (with_reducible refine (vc_f ⟨t, k, false, ⟨oa, ob, oc⟩, true, ⟨na, nb, nc⟩⟩ _ HV.out).mono ?_)
  rintro e w4 ⟨rfl, hb4⟩
  have HB4 := Lib.hid (bt HB3.out hb4)
  clear hb4 d0 d1 d2 d3 d4 d5 d6 d7 d8 d9 a0 a1 a2 a3 a4 n0 n1 n2 n3 n4 hq
  go_wp2_with fail
  go_ret
  exact ⟨rfl, HB4.out⟩

set_option maxRecDepth 100000 in
set_option maxHeartbeats 4000000 in
theorem changes_false_false_True (t k oa ob oc na nb nc : Int) (W : World) (hE : Errs W) (hv : VCh ⟨t, k, false, ⟨oa, ob, oc⟩, false, ⟨na, nb, nc⟩⟩) : Calls Tryd.prog 9 #[chV ⟨t, k, false, ⟨oa, ob, oc⟩, false, ⟨na, nb, nc⟩⟩] W fun e w' => e = .returned (.bool true) ∧ Below W.heap.size W w' := by
  have HG : Hid (∀ w', Below W.heap.size W w' → Errs w') := Lib.hid (fun w' h => hE.below h)
  have HV := Lib.hid hv
  clear hE hv
  go_enter Tryd.func9, Tryd.ntmps9
  have HC0 : Hid (ChAt (W.alloc (.cells #[.int .i64 t, .int .i64 k, .bool false, .int .i64 oa, .int .i64 ob, .int .i64 oc, .bool false, .int .i64 na, .int .i64 nb, .int .i64 nc] 42)) W.heap.size 0 ⟨t, k, false, ⟨oa, ob, oc⟩, false, ⟨na, nb, nc⟩⟩) := Lib.hid (ChAt_new W ⟨t, k, false, ⟨oa, ob, oc⟩, false, ⟨na, nb, nc⟩⟩)
  go_wp2_with fail
  (with_reducible refine (sane_any _ (HG.out _ (ba _ _))).mono ?_)
  rintro e w1 ⟨rfl, hb1⟩
  have HB1 := Lib.hid (bt (ba W (.cells #[.int .i64 t, .int .i64 k, .bool false, .int .i64 oa, .int .i64 ob, .int .i64 oc, .bool false, .int .i64 na, .int .i64 nb, .int .i64 nc] 42)) hb1)
  have HC1 := Lib.hid (HC0.out.below (by simp) hb1)
  obtain ⟨d0, d1, d2, d3, d4, d5, d6, d7, d8, d9⟩ := ChAt.cells HC1.out
  clear hb1 HC0
  go_wp2_with fail
  (with_reducible refine (bef_false t k oa ob oc na nb nc false _).mono ?_)
  rintro e w2 ⟨rfl, hb2⟩
  have hk2 := bt hb2 (ba w2 (.cells #[.int .i64 0, .int .i64 0, .int .i64 0, .int .i64 0, .int .i64 0] 24))
  have HB2 := Lib.hid (bt HB1.out hk2)
  have hlt1 : W.heap.size < w1.heap.size := World.block_lt_of_cell? w1 _ d0
  have HC2 := Lib.hid (HC1.out.below hlt1 hk2)
  have HA2 := Lib.hid (RwAt.new w2 ⟨0, 0, ⟨0, 0, 0⟩⟩)
  clear hb2 hk2 HB1 HC1 d0 d1 d2 d3 d4 d5 d6 d7 d8 d9
  obtain ⟨d0, d1, d2, d3, d4, d5, d6, d7, d8, d9⟩ := ChAt.cells HC2.out
  go_wp2_with fail
  (with_reducible refine (aft_false t k oa ob oc na nb nc false _).mono ?_)
  rintro e w3 ⟨rfl, hb3⟩
  have hk3 := bt hb3 (ba w3 (.cells #[.int .i64 0, .int .i64 0, .int .i64 0, .int .i64 0, .int .i64 0] 24))
  have HB3 := Lib.hid (bt HB2.out hk3)
  have hlt2 := World.block_lt_of_cell? _ _ d0
  have HC3 := Lib.hid (HC2.out.below hlt2 hk3)
  have HA3 := Lib.hid (HA2.out.below hk3)
  have HN3 := Lib.hid (RwAt.new w3 ⟨0, 0, ⟨0, 0, 0⟩⟩)
  clear hb3 hk3 HB2 HC2 HA2 d0 d1 d2 d3 d4 d5 d6 d7 d8 d9
  obtain ⟨d0, d1, d2, d3, d4, d5, d6, d7, d8, d9⟩ := ChAt.cells HC3.out
  obtain ⟨a0, a1, a2, a3, a4⟩ := HA3.out
  obtain ⟨n0, n1, n2, n3, n4⟩ := HN3.out
  have hq := fun w => neqRow 0 0 0 0 0 0 0 0 0 0 w
  rw [show rowE ⟨0, 0, ⟨0, 0, 0⟩⟩ ⟨0, 0, ⟨0, 0, 0⟩⟩ = true by simp [rowE]] at hq
  go_wp2_with fail
  (with_reducible refine (vc_t ⟨t, k, false, ⟨oa, ob, oc⟩, false, ⟨na, nb, nc⟩⟩ _ HV.out).mono ?_)
  rintro e w4 ⟨rfl, hb4⟩
  have HB4 := Lib.hid (bt HB3.out hb4)
  exact absurd HV.out.1 (by simp)

set_option maxRecDepth 100000 in
set_option maxHeartbeats 4000000 in
theorem changes_false_false_False (t k oa ob oc na nb nc : Int) (W : World) (hE : Errs W) (hv : ¬ VCh ⟨t, k, false, ⟨oa, ob, oc⟩, false, ⟨na, nb, nc⟩⟩) : Calls Tryd.prog 9 #[chV ⟨t, k, false, ⟨oa, ob, oc⟩, false, ⟨na, nb, nc⟩⟩] W fun e w' => e = .returned (.bool true) ∧ Below W.heap.size W w' := by
  have HG : Hid (∀ w', Below W.heap.size W w' → Errs w') := Lib.hid (fun w' h => hE.below h)
  have HV := Lib.hid hv
  clear hE hv
  go_enter Tryd.func9, Tryd.ntmps9
  have HC0 : Hid (ChAt (W.alloc (.cells #[.int .i64 t, .int .i64 k, .bool false, .int .i64 oa, .int .i64 ob, .int .i64 oc, .bool false, .int .i64 na, .int .i64 nb, .int .i64 nc] 42)) W.heap.size 0 ⟨t, k, false, ⟨oa, ob, oc⟩, false, ⟨na, nb, nc⟩⟩) := Lib.hid (ChAt_new W ⟨t, k, false, ⟨oa, ob, oc⟩, false, ⟨na, nb, nc⟩⟩)
  go_wp2_with fail
  (with_reducible refine (sane_any _ (HG.out _ (ba _ _))).mono ?_)
  rintro e w1 ⟨rfl, hb1⟩
  have HB1 := Lib.hid (bt (ba W (.cells #[.int .i64 t, .int .i64 k, .bool false, .int .i64 oa, .int .i64 ob, .int .i64 oc, .bool false, .int .i64 na, .int .i64 nb, .int .i64 nc] 42)) hb1)
  have HC1 := Lib.hid (HC0.out.below (by simp) hb1)
  obtain ⟨d0, d1, d2, d3, d4, d5, d6, d7, d8, d9⟩ := ChAt.cells HC1.out
  clear hb1 HC0
  go_wp2_with fail
  (with_reducible refine (bef_false t k oa ob oc na nb nc false _).mono ?_)
  rintro e w2 ⟨rfl, hb2⟩
  have hk2 := bt hb2 (ba w2 (.cells #[.int .i64 0, .int .i64 0, .int .i64 0, .int .i64 0, .int .i64 0] 24))
  have HB2 := Lib.hid (bt HB1.out hk2)
  have hlt1 : W.heap.size < w1.heap.size := World.block_lt_of_cell? w1 _ d0
  have HC2 := Lib.hid (HC1.out.below hlt1 hk2)
  have HA2 := Lib.hid (RwAt.new w2 ⟨0, 0, ⟨0, 0, 0⟩⟩)
  clear hb2 hk2 HB1 HC1 d0 d1 d2 d3 d4 d5 d6 d7 d8 d9
  obtain ⟨d0, d1, d2, d3, d4, d5, d6, d7, d8, d9⟩ := ChAt.cells HC2.out
  go_wp2_with fail
  (with_reducible refine (aft_false t k oa ob oc na nb nc false _).mono ?_)
  rintro e w3 ⟨rfl, hb3⟩
  have hk3 := bt hb3 (ba w3 (.cells #[.int .i64 0, .int .i64 0, .int .i64 0, .int .i64 0, .int .i64 0] 24))
  have HB3 := Lib.hid (bt HB2.out hk3)
  have hlt2 := World.block_lt_of_cell? _ _ d0
  have HC3 := Lib.hid (HC2.out.below hlt2 hk3)
  have HA3 := Lib.hid (HA2.out.below hk3)
  have HN3 := Lib.hid (RwAt.new w3 ⟨0, 0, ⟨0, 0, 0⟩⟩)
  clear hb3 hk3 HB2 HC2 HA2 d0 d1 d2 d3 d4 d5 d6 d7 d8 d9
  obtain ⟨d0, d1, d2, d3, d4, d5, d6, d7, d8, d9⟩ := ChAt.cells HC3.out
  obtain ⟨a0, a1, a2, a3, a4⟩ := HA3.out
  obtain ⟨n0, n1, n2, n3, n4⟩ := HN3.out
  have hq := fun w => neqRow 0 0 0 0 0 0 0 0 0 0 w
  rw [show rowE ⟨0, 0, ⟨0, 0, 0⟩⟩ ⟨0, 0, ⟨0, 0, 0⟩⟩ = true by simp [rowE]] at hq
  go_wp2_with fail
  (with_reducible refine (vc_f ⟨t, k, false, ⟨oa, ob, oc⟩, false, ⟨na, nb, nc⟩⟩ _ HV.out).mono ?_)
  rintro e w4 ⟨rfl, hb4⟩
  have HB4 := Lib.hid (bt HB3.out hb4)
  clear hb4 d0 d1 d2 d3 d4 d5 d6 d7 d8 d9 a0 a1 a2 a3 a4 n0 n1 n2 n3 n4 hq
  go_wp2_with fail
  go_ret
  exact ⟨rfl, HB4.out⟩

theorem changes_walk (c : MCh) (W : World) (hE : Errs W) : Calls Tryd.prog 9 #[chV c] W fun e w' => e = .returned (.bool true) ∧ Below W.heap.size W w' := by
  by_cases hv : VCh c
  · obtain ⟨t, k, had, ⟨oa, ob, oc⟩, has, ⟨na, nb, nc⟩⟩ := c
    cases had <;> cases has
    · exact changes_false_false_True _ _ _ _ _ _ _ _ W hE hv
    · exact changes_false_true_True _ _ _ _ _ _ _ _ W hE hv
    · exact changes_true_false_True _ _ _ _ _ _ _ _ W hE hv
    · exact changes_true_true_True _ _ _ _ _ _ _ _ W hE hv
  · obtain ⟨t, k, had, ⟨oa, ob, oc⟩, has, ⟨na, nb, nc⟩⟩ := c
    cases had <;> cases has
    · exact changes_false_false_False _ _ _ _ _ _ _ _ W hE hv
    · exact changes_false_true_False _ _ _ _ _ _ _ _ W hE hv
    · exact changes_true_false_False _ _ _ _ _ _ _ _ W hE hv
    · exact changes_true_true_False _ _ _ _ _ _ _ _ W hE hv
end Go.Proofs.YtgkdliocfnoffaaDoor
