/- WALKS: Apply, where the record can be applied. -/
import Derived.Test.YtaapggeaoacikaaK4
import Derived.Carry
set_option linter.unusedVariables false
set_option linter.unusedSimpArgs false
namespace Go.Proofs.Ytaapggeaoacikaa
open Go.RowKit Go.Sort Go.ChangeMaps Go.MapKept

theorem chat_ne {W : World} {vb o b : Nat} {c : MCh} {x y : Value} {t : TypeId} {fr : Nat × Nat} (h : ChAt W vb o c) (hb : W.heap[b]? = some (.cells #[x, y] t fr)) : vb ≠ b := by
  intro e
  have := h 9 (by omega)
  rw [e] at this
  simp [World.cell?, hb, chCells] at this
theorem chat_ne_map {W : World} {vb o b : Nat} {c : MCh} {L : List MRow} (h : ChAt W vb o c) (hs : StMap W b L) : vb ≠ b := by
  intro e
  obtain ⟨es, clock, hb, _⟩ := hs
  have := h 9 (by omega)
  rw [e] at this
  simp [World.cell?, hb, chCells] at this
theorem stMap_nil {W : World} {b : Nat} (h : W.heap[b]? = some (.map #[] 0)) : StMap W b [] := ⟨#[], 0, h, stamped_empty 0, List.Perm.refl _, fun r hr => by simp at hr⟩

set_option maxRecDepth 100000 in
set_option maxHeartbeats 8000000 in
theorem apply_ok_some {W : World} {b : Nat} {mb : Nat} {L : List MRow} {p : Int} (h : StAt W b (some mb) L p) {pos : Int} {cs : List MCh} {v : Value} (hv : ChS W v cs) (ho : Okay L p pos cs) :
    Calls Try.prog 15 #[.pointer (some ⟨b, 0, none⟩), .agg #[.int .i64 pos, v]] W fun e w' => e = .returned (.int .i64 0) ∧ ∃ m', StAt w' b m' (stepAll L cs) pos ∧ Kept (foot b (some mb)) W w' ∧ m' = some mb := by
  have HS := Lib.hid h
  have HV := Lib.hid hv
  have HO := Lib.hid ho
  have hw1 : IntKind.i64.wrap (p + 1) = p + 1 := by rw [IntKind.wrap_i64]; have := h.pos; omega
  have d2 : (pos != p + 1) = false := by simp [ho.2.1]
  have hmn := fun w => run_eql_map_nil (P := Try.prog) w 69 78 50 (some mb) Try.underlying69
  have hmk := fun w => run_makeMap (P := Try.prog) 69 w
  have hblt := h.lt
  have hmlt : mb < W.heap.size := h.mlt rfl
  obtain ⟨a, n, cap, rfl, hn, hc1, hc2, hcell⟩ := hv
  have hn1 : 1 ≤ n := by rw [hn]; exact ho.1.2.1.1
  have hn8 : n ≤ 8 := by rw [hn]; exact ho.1.2.1.2
  obtain ⟨vb, vo, rfl, hvb, hc⟩ := hcell hn1
  have HN := Lib.hid hn
  have HC := Lib.hid hc
  have hnb : vb ≠ b := chat_ne (hc 0 hn1) h.blk
  clear h ho hn hc hcell
  go_enter Try.func15, Try.ntmps15
  go_wp2_with fail
  obtain ⟨wb, Hwb⟩ : ∃ wb, Hid (W.alloc (.cells #[.int .i64 pos, .slice (some ⟨vb, vo, none⟩) n cap] 32) = wb) := ⟨_, Lib.hid rfl⟩
  rw [Hwb.out]
  have Hrb : Hid (Below W.heap.size W wb) := Lib.hid (by rw [← Hwb.out]; exact ba _ _)
  have HR : Hid (wb.heap[W.heap.size]? = some (.cells #[.int .i64 pos, .slice (some ⟨vb, vo, none⟩) n cap] 32 (0, 0))) := Lib.hid (by rw [← Hwb.out]; exact (MapKept.heap_alloc W _).1)
  have hwz : W.heap.size < wb.heap.size := by rw [← Hwb.out]; simp
  have r0 : ∀ d os, (grow (redrawn wb d) os).cell? ⟨W.heap.size, 0, none⟩ = some (.int .i64 pos) := fun d os => cell_regrown (by simp [World.cell?, HR.out]) d os
  have r1 : ∀ d os, (grow (redrawn wb d) os).cell? ⟨W.heap.size, 1, none⟩ = some (.slice (some ⟨vb, vo, none⟩) n cap) := fun d os => cell_regrown (by simp [World.cell?, HR.out]) d os
  have s1 : ∀ d os, (grow (redrawn wb d) os).cell? ⟨b, 1, none⟩ = some (.int .i64 p) := fun d os => cell_regrown (HS.out.below Hrb.out).cells.2.1 d os
  have hvr : ∀ d os, Calls Try.prog 34 #[.agg #[.int .i64 pos, .slice (some ⟨vb, vo, none⟩) n cap]] (grow (redrawn wb d) os) fun e w'' => e = .returned (.bool true) ∧ ∃ p : Regrown, w'' = grow (redrawn wb p.d) p.os := fun d os => Calls.regrown_of (vrC_t _ _ _ _ (HV.out.below (bt Hrb.out (below_regrown wb d os))) HO.out.1)
  have hft : ∀ d os, Calls Try.prog 35 #[.pointer (some ⟨b, 0, none⟩), .slice (some ⟨vb, vo, none⟩) n cap] (grow (redrawn wb d) os) fun e w'' => e = .returned (.bool true) ∧ ∃ p : Regrown, w'' = grow (redrawn wb p.d) p.os := fun d os => Calls.regrown_of (fit_ct (HS.out.below (bt Hrb.out (below_regrown wb d os))) (HV.out.below (bt Hrb.out (below_regrown wb d os))) HO.out.1 HO.out.2.2)
  refine wp_region_quiet_below (by kernel_rfl) (by kernel_rfl) ?_
  repeat (first | go_big_quiet_step (first | with_reducible exact hvr _ _ | with_reducible exact hft _ _) | quiet_step (first | with_reducible exact hvr _ _ | with_reducible exact hft _ _))
  refine wpQuiet_nil ?_
  intro _ hw'
  obtain ⟨⟨dq, osq⟩, hw''⟩ := hw'
  subst hw''
  have HBq : Hid (Below wb.heap.size wb (grow (redrawn wb dq) osq)) := Lib.hid (below_regrown wb dq osq)
  obtain ⟨w1, Hw1⟩ : ∃ w1, Hid (grow (redrawn wb dq) osq = w1) := ⟨_, Lib.hid rfl⟩
  rw [Hw1.out] at HBq ⊢
  clear r0 r1 s1 hvr hft
  have HS1 := Lib.hid (HS.out.below (bt Hrb.out HBq.out))
  have HR1 : Hid (w1.heap[W.heap.size]? = some (.cells #[.int .i64 pos, .slice (some ⟨vb, vo, none⟩) n cap] 32 (0, 0))) := Lib.hid ((HBq.out.block _ hwz).trans HR.out)
  have HW1 : Hid (Below W.heap.size W w1) := Lib.hid (bt Hrb.out HBq.out)
  have hz1 : W.heap.size < w1.heap.size := Nat.lt_of_lt_of_le hwz HBq.out.size
  obtain ⟨c0, c1, f0, f1⟩ := HS1.out.cells
  have q0 : w1.cell? ⟨W.heap.size, 0, none⟩ = some (.int .i64 pos) := by simp [World.cell?, HR1.out]
  have q1 : w1.cell? ⟨W.heap.size, 1, none⟩ = some (.slice (some ⟨vb, vo, none⟩) n cap) := by simp [World.cell?, HR1.out]
  go_wp2_with fail
  clear hmn hmk
  have HSm : Hid (StMap w1 mb L) := Lib.hid HS1.out.mp
  have HBb : Hid (w1.heap[b]? = some (.cells #[.map (some mb), .int .i64 p] 73 (0, 0))) := Lib.hid HS1.out.blk
  have hbm : mb ≠ b := fun e => HS1.out.ne (by rw [e])
  have HC1 : Hid (∀ i, i < n → ChAt w1 vb (vo + i * 10) (cs.getD i chZ)) := Lib.hid (fun i hi => (HC.out i hi).below hvb HW1.out)
  have hvm : vb ≠ mb := chat_ne_map (HC1.out 0 hn1) HSm.out
  have HK1 : Hid (Kept (foot b (some mb)) W w1) := Lib.hid (Kept.of_below HW1.out)
  have hml : mb < w1.heap.size := HSm.out.lt
  obtain ⟨w2, Hw2⟩ : ∃ w2, Hid (w1 = w2) := ⟨_, Lib.hid rfl⟩
  rw [Hw2.out] at HSm HBb HC1 HK1 HR1 hz1 hml ⊢
  clear c0 c1 f0 f1 q0 q1
  go_loopw [46] (fun i wr => ∃ k : Nat, k ≤ n ∧ i = .int .i64 k ∧ Hid (StMap wr mb (stepAll L (cs.take k))) ∧ Hid (Kept (fun j => j = mb) w2 wr)) (fun i _ => n - (intOf i).toNat)
  case atStart => exact ⟨0, by omega, rfl, HSm, Lib.hid (Kept.refl _ _)⟩
  case round =>
    obtain ⟨k, hk, rfl, HSr, HKr⟩ := hrel
    have hrz := HKr.out.size
    by_cases hlt : k < n
    · have HCk := (HC1.out k hlt).kept HKr.out (Nat.lt_of_lt_of_le hvb HK1.out.size) hvm
      obtain ⟨c, HcE⟩ : ∃ c, Hid (cs.getD k chZ = c) := ⟨_, Lib.hid rfl⟩
      have HVc : Hid (VCh c) := Lib.hid (by rw [← HcE.out]; exact (HO.out.1.2.2 k (by rw [← HN.out]; exact hlt)).1)
      have Htk : Hid (stepAll L (cs.take (k + 1)) = stepC (stepAll L (cs.take k)) c) := Lib.hid (by rw [take_snoc' (d := chZ) (by rw [← HN.out]; exact hlt), stepAll_snoc, HcE.out])
      rw [HcE.out] at HCk
      obtain ⟨t, kk, had, ⟨oa, ob, oc⟩, has, ⟨na, nb, nc⟩⟩ := c
      obtain ⟨d0, d1, d2', d3, d4, d5, d6, d7, d8, d9⟩ := HCk.cells
      go_wp2_with fail
      obtain ⟨wx, Hwx⟩ : ∃ wx, Hid (wr.alloc (.cells #[.int .i64 t, .int .i64 kk, .bool had, .int .i64 oa, .int .i64 ob, .int .i64 oc, .bool has, .int .i64 na, .int .i64 nb, .int .i64 nc] 57) = wx) := ⟨_, Lib.hid rfl⟩
      rw [Hwx.out]
      have HCx : Hid (ChAt wx wr.heap.size 0 ⟨t, kk, had, ⟨oa, ob, oc⟩, has, ⟨na, nb, nc⟩⟩) := Lib.hid (by rw [← Hwx.out]; exact ChAt_new wr ⟨t, kk, had, ⟨oa, ob, oc⟩, has, ⟨na, nb, nc⟩⟩)
      have Hrx : Hid (Below wr.heap.size wr wx) := Lib.hid (by rw [← Hwx.out]; exact ba _ _)
      have hsz : wr.heap.size < wx.heap.size := by rw [← Hwx.out]; simp
      have hcell : ∀ w0, BW wx w0 → ∀ j, j < 10 → ∀ d os, (grow (redrawn w0 d) os).cell? ⟨wr.heap.size, j, none⟩ = (chCells ⟨t, kk, had, ⟨oa, ob, oc⟩, has, ⟨na, nb, nc⟩⟩)[j]? := fun w0 h j hj d os => by
        have := ((HCx.out.below hsz h).below (Nat.lt_of_lt_of_le hsz h.size) (below_regrown w0 d os)) j hj
        simpa using this
      have g0 := fun w0 h => hcell w0 h 0 (by omega)
      have g1 := fun w0 h => hcell w0 h 1 (by omega)
      have g2 := fun w0 h => hcell w0 h 2 (by omega)
      have g3 := fun w0 h => hcell w0 h 3 (by omega)
      have g4 := fun w0 h => hcell w0 h 4 (by omega)
      have g5 := fun w0 h => hcell w0 h 5 (by omega)
      have g6 := fun w0 h => hcell w0 h 6 (by omega)
      have g7 := fun w0 h => hcell w0 h 7 (by omega)
      have g8 := fun w0 h => hcell w0 h 8 (by omega)
      have g9 := fun w0 h => hcell w0 h 9 (by omega)
      simp only [chCells, List.getElem?_toArray, List.getElem?_cons_zero, List.getElem?_cons_succ] at g0 g1 g2 g3 g4 g5 g6 g7 g8 g9
      clear hcell d0 d1 d2' d3 d4 d5 d6 d7 d8 d9
      refine wp_region_calm 4 5 [0, 1, 2, 3] (by kernel_rfl) (by kernel_rfl) (by intro oz h; simp at h) (by intro oz h; simp at h) (by rfl) ?_
      simp only [List.take_succ_cons, List.take_zero]
      iterate 4
        apply wpCalm_want
        · rfl
        · exact bc_refl
        · exact ⟨_, Below.refl _ _⟩
        · intro w0 hC0 K hK
          go_big_quiet_op
          exact hK
      refine wpCalm_nil ?_
      intro wy hby
      simp only [List.drop_succ_cons, List.drop_zero]
      clear g0 g1 g2 g3 g4 g5 g6 g7 g8 g9
      have hry : Below wr.heap.size wr wy := bt Hrx.out hby
      have HSy : Hid (StMap wy mb (stepAll L (cs.take k))) := Lib.hid (HSr.out.of_block (hry.block mb (by omega)))
      have HBy : Hid (wy.heap[b]? = some (.cells #[.map (some mb), .int .i64 p] 73 (0, 0))) := Lib.hid (by
        have hb2 : b < w2.heap.size := lt_of_block HBb.out
        rw [hry.block b (by omega), HKr.out.block b hb2 (fun e => hbm e.symm)]
        exact HBb.out)
      have HKy : Hid (Kept (fun j => j = mb) w2 wy) := Lib.hid (HKr.out.then hry)
      clear hry hby
      have HSt : Hid (Srt (stepAll L (cs.take k))) := Lib.hid (srt_all HS.out.good.1 _)
      go_wp2_with fail
      (with_reducible refine (change_any HBy.out HSy.out HSt.out _ HVc.out).mono ?_)
      rintro e wz ⟨rfl, hst, hkt⟩
      have HSz := Lib.hid hst
      have HKz : Hid (Kept (fun j => j = mb) w2 wz) := Lib.hid (HKy.out.trans hkt (fun _ _ f => f))
      clear hst hkt
      go_wp2_with fail
      exact ⟨⟨k + 1, by omega, by go_num, Lib.hid (by rw [Htk.out]; exact HSz.out), HKz⟩, by simp [intOf]; omega⟩
    · obtain rfl : k = n := by omega
      have HRr : Hid (wr.heap[W.heap.size]? = some (.cells #[.int .i64 pos, .slice (some ⟨vb, vo, none⟩) k cap] 32 (0, 0))) := Lib.hid ((HKr.out.block _ hz1 (fun e => by
        have := HSm.out
        rw [← e] at this
        obtain ⟨es, cl, h1, _⟩ := this
        rw [HR1.out] at h1
        cases h1)).trans HR1.out)
      have HBr : Hid (wr.heap[b]? = some (.cells #[.map (some mb), .int .i64 p] 73 (0, 0))) := Lib.hid ((HKr.out.block b (lt_of_block HBb.out) (fun e => hbm e.symm)).trans HBb.out)
      have q0 : wr.cell? ⟨W.heap.size, 0, none⟩ = some (.int .i64 pos) := by simp [World.cell?, HRr.out]
      have b1 : wr.cell? ⟨b, 1, none⟩ = some (.int .i64 p) := by simp [World.cell?, HBr.out]
      have f1 : wr.frozen? ⟨b, 1, none⟩ = false := by simp [World.frozen?, HBr.out]
      go_wp2_with fail
      go_ret
      refine ⟨rfl, some mb, ⟨two_setCell1 HBr.out, ?_, good_all HS.out.good HO.out, by have := HO.out.1.1; omega⟩, ?_, rfl⟩
      · have := HSr.out
        rw [HN.out, List.take_length] at this
        exact StMap.of_block this (Below.heap_setCell _ _ _ _ hbm)
      · refine Kept.setCell (HK1.out.trans HKr.out (fun i hi e => ?_)) (.inl (.inl rfl)) _
        exact .inr (by rw [e])

set_option maxRecDepth 100000 in
set_option maxHeartbeats 8000000 in
theorem apply_ok_none {W : World} {b : Nat} {L : List MRow} {p : Int} (h : StAt W b (none) L p) {pos : Int} {cs : List MCh} {v : Value} (hv : ChS W v cs) (ho : Okay L p pos cs) :
    Calls Try.prog 15 #[.pointer (some ⟨b, 0, none⟩), .agg #[.int .i64 pos, v]] W fun e w' => e = .returned (.int .i64 0) ∧ ∃ m', StAt w' b m' (stepAll L cs) pos ∧ Kept (foot b (none)) W w' ∧ ∃ x, m' = some x ∧ W.heap.size ≤ x := by
  have HS := Lib.hid h
  have HV := Lib.hid hv
  have HO := Lib.hid ho
  have hw1 : IntKind.i64.wrap (p + 1) = p + 1 := by rw [IntKind.wrap_i64]; have := h.pos; omega
  have d2 : (pos != p + 1) = false := by simp [ho.2.1]
  have hmn := fun w => run_eql_map_nil (P := Try.prog) w 69 78 50 (none) Try.underlying69
  have hmk := fun w => run_makeMap (P := Try.prog) 69 w
  have hblt := h.lt

  obtain ⟨a, n, cap, rfl, hn, hc1, hc2, hcell⟩ := hv
  have hn1 : 1 ≤ n := by rw [hn]; exact ho.1.2.1.1
  have hn8 : n ≤ 8 := by rw [hn]; exact ho.1.2.1.2
  obtain ⟨vb, vo, rfl, hvb, hc⟩ := hcell hn1
  have HN := Lib.hid hn
  have HC := Lib.hid hc
  have hnb : vb ≠ b := chat_ne (hc 0 hn1) h.blk
  clear h ho hn hc hcell
  go_enter Try.func15, Try.ntmps15
  go_wp2_with fail
  obtain ⟨wb, Hwb⟩ : ∃ wb, Hid (W.alloc (.cells #[.int .i64 pos, .slice (some ⟨vb, vo, none⟩) n cap] 32) = wb) := ⟨_, Lib.hid rfl⟩
  rw [Hwb.out]
  have Hrb : Hid (Below W.heap.size W wb) := Lib.hid (by rw [← Hwb.out]; exact ba _ _)
  have HR : Hid (wb.heap[W.heap.size]? = some (.cells #[.int .i64 pos, .slice (some ⟨vb, vo, none⟩) n cap] 32 (0, 0))) := Lib.hid (by rw [← Hwb.out]; exact (MapKept.heap_alloc W _).1)
  have hwz : W.heap.size < wb.heap.size := by rw [← Hwb.out]; simp
  have r0 : ∀ d os, (grow (redrawn wb d) os).cell? ⟨W.heap.size, 0, none⟩ = some (.int .i64 pos) := fun d os => cell_regrown (by simp [World.cell?, HR.out]) d os
  have r1 : ∀ d os, (grow (redrawn wb d) os).cell? ⟨W.heap.size, 1, none⟩ = some (.slice (some ⟨vb, vo, none⟩) n cap) := fun d os => cell_regrown (by simp [World.cell?, HR.out]) d os
  have s1 : ∀ d os, (grow (redrawn wb d) os).cell? ⟨b, 1, none⟩ = some (.int .i64 p) := fun d os => cell_regrown (HS.out.below Hrb.out).cells.2.1 d os
  have hvr : ∀ d os, Calls Try.prog 34 #[.agg #[.int .i64 pos, .slice (some ⟨vb, vo, none⟩) n cap]] (grow (redrawn wb d) os) fun e w'' => e = .returned (.bool true) ∧ ∃ p : Regrown, w'' = grow (redrawn wb p.d) p.os := fun d os => Calls.regrown_of (vrC_t _ _ _ _ (HV.out.below (bt Hrb.out (below_regrown wb d os))) HO.out.1)
  have hft : ∀ d os, Calls Try.prog 35 #[.pointer (some ⟨b, 0, none⟩), .slice (some ⟨vb, vo, none⟩) n cap] (grow (redrawn wb d) os) fun e w'' => e = .returned (.bool true) ∧ ∃ p : Regrown, w'' = grow (redrawn wb p.d) p.os := fun d os => Calls.regrown_of (fit_ct (HS.out.below (bt Hrb.out (below_regrown wb d os))) (HV.out.below (bt Hrb.out (below_regrown wb d os))) HO.out.1 HO.out.2.2)
  refine wp_region_quiet_below (by kernel_rfl) (by kernel_rfl) ?_
  repeat (first | go_big_quiet_step (first | with_reducible exact hvr _ _ | with_reducible exact hft _ _) | quiet_step (first | with_reducible exact hvr _ _ | with_reducible exact hft _ _))
  refine wpQuiet_nil ?_
  intro _ hw'
  obtain ⟨⟨dq, osq⟩, hw''⟩ := hw'
  subst hw''
  have HBq : Hid (Below wb.heap.size wb (grow (redrawn wb dq) osq)) := Lib.hid (below_regrown wb dq osq)
  obtain ⟨w1, Hw1⟩ : ∃ w1, Hid (grow (redrawn wb dq) osq = w1) := ⟨_, Lib.hid rfl⟩
  rw [Hw1.out] at HBq ⊢
  clear r0 r1 s1 hvr hft
  have HS1 := Lib.hid (HS.out.below (bt Hrb.out HBq.out))
  have HR1 : Hid (w1.heap[W.heap.size]? = some (.cells #[.int .i64 pos, .slice (some ⟨vb, vo, none⟩) n cap] 32 (0, 0))) := Lib.hid ((HBq.out.block _ hwz).trans HR.out)
  have HW1 : Hid (Below W.heap.size W w1) := Lib.hid (bt Hrb.out HBq.out)
  have hz1 : W.heap.size < w1.heap.size := Nat.lt_of_lt_of_le hwz HBq.out.size
  obtain ⟨c0, c1, f0, f1⟩ := HS1.out.cells
  have q0 : w1.cell? ⟨W.heap.size, 0, none⟩ = some (.int .i64 pos) := by simp [World.cell?, HR1.out]
  have q1 : w1.cell? ⟨W.heap.size, 1, none⟩ = some (.slice (some ⟨vb, vo, none⟩) n cap) := by simp [World.cell?, HR1.out]
  have hbw : b < w1.heap.size := HS1.out.lt
  have hbne : ¬ b = w1.heap.size := by omega
  go_wp2_with fail
  clear hmn hmk hbne
  have hzs : Hid ((w1.setCell ⟨b, 0, none⟩ (.map (some w1.heap.size))).heap.size = w1.heap.size) := Lib.hid (by simp)
  obtain ⟨mb, Hmb⟩ : ∃ mb, Hid (w1.heap.size = mb) := ⟨_, Lib.hid rfl⟩
  have hml : mb < ((w1.setCell ⟨b, 0, none⟩ (.map (some w1.heap.size))).alloc (.map #[] 0)).heap.size := by rw [← Hmb.out]; simp
  have hbm : mb ≠ b := by rw [← Hmb.out]; omega
  have HSm : Hid (StMap ((w1.setCell ⟨b, 0, none⟩ (.map (some w1.heap.size))).alloc (.map #[] 0)) mb L) := Lib.hid (by
    have hL : L = [] := HS1.out.mp
    rw [hL]
    refine stMap_nil ?_
    rw [← Hmb.out]
    have := (MapKept.heap_alloc (w1.setCell ⟨b, 0, none⟩ (.map (some w1.heap.size))) (.map #[] 0)).1
    rwa [hzs.out] at this)
  have HBb : Hid (((w1.setCell ⟨b, 0, none⟩ (.map (some w1.heap.size))).alloc (.map #[] 0)).heap[b]? = some (.cells #[.map (some mb), .int .i64 p] 73 (0, 0))) := Lib.hid (by
    rw [← Hmb.out]
    exact ((MapKept.heap_alloc (w1.setCell ⟨b, 0, none⟩ (.map (some w1.heap.size))) (.map #[] 0)).2 b (by rw [hzs.out]; exact hbw)).trans (two_setCell0 HS1.out.blk))
  have HKa : Hid (Kept (fun k => k = b) w1 ((w1.setCell ⟨b, 0, none⟩ (.map (some w1.heap.size))).alloc (.map #[] 0))) := Lib.hid (((Kept.refl (fun k => k = b) w1).setCell (p := ⟨b, 0, none⟩) (.inl rfl) _).then (ba _ _))
  have HC1 : Hid (∀ i, i < n → ChAt ((w1.setCell ⟨b, 0, none⟩ (.map (some w1.heap.size))).alloc (.map #[] 0)) vb (vo + i * 10) (cs.getD i chZ)) := Lib.hid (fun i hi => ((HC.out i hi).below hvb HW1.out).kept HKa.out (Nat.lt_of_lt_of_le hvb HW1.out.size) hnb)
  have hvm : vb ≠ mb := chat_ne_map (HC1.out 0 hn1) HSm.out
  have HK1 : Hid (Kept (foot b (none)) W ((w1.setCell ⟨b, 0, none⟩ (.map (some w1.heap.size))).alloc (.map #[] 0))) := Lib.hid ((Kept.of_below HW1.out).trans HKa.out (fun i _ e => .inl e))
  have HRn : Hid (((w1.setCell ⟨b, 0, none⟩ (.map (some w1.heap.size))).alloc (.map #[] 0)).heap[W.heap.size]? = some (.cells #[.int .i64 pos, .slice (some ⟨vb, vo, none⟩) n cap] 32 (0, 0))) := Lib.hid ((HKa.out.block _ hz1 (by omega)).trans HR1.out)
  have hz2 : W.heap.size < ((w1.setCell ⟨b, 0, none⟩ (.map (some w1.heap.size))).alloc (.map #[] 0)).heap.size := Nat.lt_of_lt_of_le hz1 HKa.out.size
  have hmW : W.heap.size ≤ mb := by rw [← Hmb.out]; omega
  obtain ⟨w2, Hw2⟩ : ∃ w2, Hid ((w1.setCell ⟨b, 0, none⟩ (.map (some w1.heap.size))).alloc (.map #[] 0) = w2) := ⟨_, Lib.hid rfl⟩
  rw [Hw2.out] at HSm HBb HC1 HK1 HRn hz2 hml ⊢
  clear HKa HR1 hz1 Hmb hbw hzs
  have HR1 := HRn
  have hz1 := hz2
  clear HRn hz2
  clear c0 c1 f0 f1 q0 q1
  go_loopw [46] (fun i wr => ∃ k : Nat, k ≤ n ∧ i = .int .i64 k ∧ Hid (StMap wr mb (stepAll L (cs.take k))) ∧ Hid (Kept (fun j => j = mb) w2 wr)) (fun i _ => n - (intOf i).toNat)
  case atStart => exact ⟨0, by omega, rfl, HSm, Lib.hid (Kept.refl _ _)⟩
  case round =>
    obtain ⟨k, hk, rfl, HSr, HKr⟩ := hrel
    have hrz := HKr.out.size
    by_cases hlt : k < n
    · have HCk := (HC1.out k hlt).kept HKr.out (Nat.lt_of_lt_of_le hvb HK1.out.size) hvm
      obtain ⟨c, HcE⟩ : ∃ c, Hid (cs.getD k chZ = c) := ⟨_, Lib.hid rfl⟩
      have HVc : Hid (VCh c) := Lib.hid (by rw [← HcE.out]; exact (HO.out.1.2.2 k (by rw [← HN.out]; exact hlt)).1)
      have Htk : Hid (stepAll L (cs.take (k + 1)) = stepC (stepAll L (cs.take k)) c) := Lib.hid (by rw [take_snoc' (d := chZ) (by rw [← HN.out]; exact hlt), stepAll_snoc, HcE.out])
      rw [HcE.out] at HCk
      obtain ⟨t, kk, had, ⟨oa, ob, oc⟩, has, ⟨na, nb, nc⟩⟩ := c
      obtain ⟨d0, d1, d2', d3, d4, d5, d6, d7, d8, d9⟩ := HCk.cells
      go_wp2_with fail
      obtain ⟨wx, Hwx⟩ : ∃ wx, Hid (wr.alloc (.cells #[.int .i64 t, .int .i64 kk, .bool had, .int .i64 oa, .int .i64 ob, .int .i64 oc, .bool has, .int .i64 na, .int .i64 nb, .int .i64 nc] 57) = wx) := ⟨_, Lib.hid rfl⟩
      rw [Hwx.out]
      have HCx : Hid (ChAt wx wr.heap.size 0 ⟨t, kk, had, ⟨oa, ob, oc⟩, has, ⟨na, nb, nc⟩⟩) := Lib.hid (by rw [← Hwx.out]; exact ChAt_new wr ⟨t, kk, had, ⟨oa, ob, oc⟩, has, ⟨na, nb, nc⟩⟩)
      have Hrx : Hid (Below wr.heap.size wr wx) := Lib.hid (by rw [← Hwx.out]; exact ba _ _)
      have hsz : wr.heap.size < wx.heap.size := by rw [← Hwx.out]; simp
      have hcell : ∀ w0, BW wx w0 → ∀ j, j < 10 → ∀ d os, (grow (redrawn w0 d) os).cell? ⟨wr.heap.size, j, none⟩ = (chCells ⟨t, kk, had, ⟨oa, ob, oc⟩, has, ⟨na, nb, nc⟩⟩)[j]? := fun w0 h j hj d os => by
        have := ((HCx.out.below hsz h).below (Nat.lt_of_lt_of_le hsz h.size) (below_regrown w0 d os)) j hj
        simpa using this
      have g0 := fun w0 h => hcell w0 h 0 (by omega)
      have g1 := fun w0 h => hcell w0 h 1 (by omega)
      have g2 := fun w0 h => hcell w0 h 2 (by omega)
      have g3 := fun w0 h => hcell w0 h 3 (by omega)
      have g4 := fun w0 h => hcell w0 h 4 (by omega)
      have g5 := fun w0 h => hcell w0 h 5 (by omega)
      have g6 := fun w0 h => hcell w0 h 6 (by omega)
      have g7 := fun w0 h => hcell w0 h 7 (by omega)
      have g8 := fun w0 h => hcell w0 h 8 (by omega)
      have g9 := fun w0 h => hcell w0 h 9 (by omega)
      simp only [chCells, List.getElem?_toArray, List.getElem?_cons_zero, List.getElem?_cons_succ] at g0 g1 g2 g3 g4 g5 g6 g7 g8 g9
      clear hcell d0 d1 d2' d3 d4 d5 d6 d7 d8 d9
      refine wp_region_calm 4 5 [0, 1, 2, 3] (by kernel_rfl) (by kernel_rfl) (by intro oz h; simp at h) (by intro oz h; simp at h) (by rfl) ?_
      simp only [List.take_succ_cons, List.take_zero]
      iterate 4
        apply wpCalm_want
        · rfl
        · exact bc_refl
        · exact ⟨_, Below.refl _ _⟩
        · intro w0 hC0 K hK
          go_big_quiet_op
          exact hK
      refine wpCalm_nil ?_
      intro wy hby
      simp only [List.drop_succ_cons, List.drop_zero]
      clear g0 g1 g2 g3 g4 g5 g6 g7 g8 g9
      have hry : Below wr.heap.size wr wy := bt Hrx.out hby
      have HSy : Hid (StMap wy mb (stepAll L (cs.take k))) := Lib.hid (HSr.out.of_block (hry.block mb (by omega)))
      have HBy : Hid (wy.heap[b]? = some (.cells #[.map (some mb), .int .i64 p] 73 (0, 0))) := Lib.hid (by
        have hb2 : b < w2.heap.size := lt_of_block HBb.out
        rw [hry.block b (by omega), HKr.out.block b hb2 (fun e => hbm e.symm)]
        exact HBb.out)
      have HKy : Hid (Kept (fun j => j = mb) w2 wy) := Lib.hid (HKr.out.then hry)
      clear hry hby
      have HSt : Hid (Srt (stepAll L (cs.take k))) := Lib.hid (srt_all HS.out.good.1 _)
      go_wp2_with fail
      (with_reducible refine (change_any HBy.out HSy.out HSt.out _ HVc.out).mono ?_)
      rintro e wz ⟨rfl, hst, hkt⟩
      have HSz := Lib.hid hst
      have HKz : Hid (Kept (fun j => j = mb) w2 wz) := Lib.hid (HKy.out.trans hkt (fun _ _ f => f))
      clear hst hkt
      go_wp2_with fail
      exact ⟨⟨k + 1, by omega, by go_num, Lib.hid (by rw [Htk.out]; exact HSz.out), HKz⟩, by simp [intOf]; omega⟩
    · obtain rfl : k = n := by omega
      have HRr : Hid (wr.heap[W.heap.size]? = some (.cells #[.int .i64 pos, .slice (some ⟨vb, vo, none⟩) k cap] 32 (0, 0))) := Lib.hid ((HKr.out.block _ hz1 (fun e => by
        have := HSm.out
        rw [← e] at this
        obtain ⟨es, cl, h1, _⟩ := this
        rw [HR1.out] at h1
        cases h1)).trans HR1.out)
      have HBr : Hid (wr.heap[b]? = some (.cells #[.map (some mb), .int .i64 p] 73 (0, 0))) := Lib.hid ((HKr.out.block b (lt_of_block HBb.out) (fun e => hbm e.symm)).trans HBb.out)
      have q0 : wr.cell? ⟨W.heap.size, 0, none⟩ = some (.int .i64 pos) := by simp [World.cell?, HRr.out]
      have b1 : wr.cell? ⟨b, 1, none⟩ = some (.int .i64 p) := by simp [World.cell?, HBr.out]
      have f1 : wr.frozen? ⟨b, 1, none⟩ = false := by simp [World.frozen?, HBr.out]
      go_wp2_with fail
      go_ret
      refine ⟨rfl, some mb, ⟨two_setCell1 HBr.out, ?_, good_all HS.out.good HO.out, by have := HO.out.1.1; omega⟩, ?_, mb, rfl, hmW⟩
      · have := HSr.out
        rw [HN.out, List.take_length] at this
        exact StMap.of_block this (Below.heap_setCell _ _ _ _ hbm)
      · refine Kept.setCell (HK1.out.trans HKr.out (fun i hi e => ?_)) (.inl (.inl rfl)) _
        omega

theorem apply_ok {W : World} {b : Nat} {m : Option Nat} {L : List MRow} {p : Int} (h : StAt W b m L p) {pos : Int} {cs : List MCh} {v : Value} (hv : ChS W v cs) (ho : Okay L p pos cs) :
    Calls Try.prog 15 #[.pointer (some ⟨b, 0, none⟩), .agg #[.int .i64 pos, v]] W fun e w' => e = .returned (.int .i64 0) ∧ ∃ m', StAt w' b m' (stepAll L cs) pos ∧ Kept (foot b m) W w' ∧ (m' = m ∨ ∃ x, m' = some x ∧ W.heap.size ≤ x) := by
  cases m with
  | none => exact (apply_ok_none h hv ho).mono fun e w' ⟨he, m', h1, h2, h3⟩ => ⟨he, m', h1, h2, .inr h3⟩
  | some mb => exact (apply_ok_some h hv ho).mono fun e w' ⟨he, m', h1, h2, h3⟩ => ⟨he, m', h1, h2, .inl h3⟩
end Go.Proofs.Ytaapggeaoacikaa
