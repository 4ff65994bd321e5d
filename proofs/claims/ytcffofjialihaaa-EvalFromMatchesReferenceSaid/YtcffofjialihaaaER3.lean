/- WALK: the reference's Of (27). -/
import Derived.Test.YtcffofjialihaaaER2
import Derived.Test.YtcffofjialihaaaA8
set_option linter.unusedVariables false
set_option linter.unusedSimpArgs false
namespace Go.Proofs.Ytcffofjialihaaa
open Go.RowKit Go.Sort Go.ChangeMaps Go.MapKept

theorem RfAt.below' {W W' : World} {b : Nat} {v : Value} {L : List MRow} {p : Int} (h : RfAt W b v L p) (k : Below W.heap.size W W') : RfAt W' b v L p :=
  ⟨(k.block _ (lt_of_block h.blk)).trans h.blk, h.own.below k, h.good, h.pos⟩

set_option maxRecDepth 100000 in
set_option maxHeartbeats 8000000 in
theorem ofR_bad {q : MQ} (hv : validB q = false) (b : Nat) (W : World) : Calls Try.prog 27 #[ptr b, qV q] W fun e w' => e = .returned (.tuple #[resV (.slice none 0 0) 0 false, .int .i64 50]) ∧ Below W.heap.size W w' := by
  have HRV := Lib.hid (fun w => rvalid_any q w)
  rw [hv] at HRV
  obtain ⟨qk, qt, qc, ql, qh, qy, qo⟩ := q
  unfold qV at HRV ⊢
  simp only at HRV
  have hWn : W.heap.size ≤ W.heap.size + 1 := by omega
  clear hv
  go_enter Try.func27, Try.ntmps27
  go_upto_region 1 with fail
  generalize hw1 : (W.alloc _).alloc _ = w1
  have HB1 : Hid (Below W.heap.size W w1) := Lib.hid (by rw [← hw1]; exact bt (ba W _) (ba _ _))
  have HQ1 : Hid (w1.heap[W.heap.size]? = some (.cells (qC ⟨qk, qt, qc, ql, qh, qy, qo⟩) 23 (0, 0))) := Lib.hid (by rw [← hw1]; exact ((ba (W.alloc _) _).block _ (by simp)).trans (heap_alloc_new W _))
  have HT1 : Hid (w1.heap[W.heap.size + 1]? = some (.cells (resC (.slice none 0 0) 0 false) 27 (0, 0))) := Lib.hid (by
    rw [← hw1]
    have h := heap_alloc_new (W.alloc (.cells (qC ⟨qk, qt, qc, ql, qh, qy, qo⟩) 23)) (.cells (resC (.slice none 0 0) 0 false) 27)
    rw [World.size_alloc] at h
    exact h)
  clear hw1
  have c0 : w1.cell? ⟨W.heap.size, 0, none⟩ = some (.int .i64 qk) := by simp [World.cell?, qC, HQ1.out]
  have c1 : w1.cell? ⟨W.heap.size, 1, none⟩ = some (.int .i64 qt) := by simp [World.cell?, qC, HQ1.out]
  have c2 : w1.cell? ⟨W.heap.size, 2, none⟩ = some (.int .i64 qc) := by simp [World.cell?, qC, HQ1.out]
  have c3 : w1.cell? ⟨W.heap.size, 3, none⟩ = some (.int .i64 ql) := by simp [World.cell?, qC, HQ1.out]
  have c4 : w1.cell? ⟨W.heap.size, 4, none⟩ = some (.int .i64 qh) := by simp [World.cell?, qC, HQ1.out]
  have c5 : w1.cell? ⟨W.heap.size, 5, none⟩ = some (.int .i64 qy) := by simp [World.cell?, qC, HQ1.out]
  have c6 : w1.cell? ⟨W.heap.size, 6, none⟩ = some (.int .i64 qo) := by simp [World.cell?, qC, HQ1.out]
  go_wp2_with fail
  (with_reducible refine (HRV.out _).mono ?_)
  rintro e w2 ⟨rfl, hb⟩
  have HB2 := Lib.hid (bt HB1.out hb)
  have HT2 := Lib.hid ((hb.block _ (lt_of_block HT1.out)).trans HT1.out)
  clear hb c0 c1 c2 c3 c4 c5 c6
  have t0 : w2.cell? ⟨W.heap.size + 1, 0, none⟩ = some (.slice none 0 0) := by simp [World.cell?, HT2.out]
  have t1 : w2.cell? ⟨W.heap.size + 1, 1, none⟩ = some (.int .i64 0) := by simp [World.cell?, HT2.out]
  have t2 : w2.cell? ⟨W.heap.size + 1, 2, none⟩ = some (.bool false) := by simp [World.cell?, HT2.out]
  have tf : ∀ j, w2.frozen? ⟨W.heap.size + 1, j, none⟩ = false := fun j => by simp [World.frozen?, HT2.out]
  go_wp2_with fail
  refine bodyPost_ret (v := .tuple #[resV (.slice none 0 0) 0 false, .int .i64 50]) (results_cell_row_tmp rfl _ _ (W.heap.size + 1) 27 _ (0, 0) _ rfl (set3_heap HT2.out) Try.underlying27 rfl (by kernel_rfl) rfl) rfl ⟨rfl, below_setCell (below_setCell (below_setCell HB2.out hWn _) hWn _) hWn _⟩

set_option maxRecDepth 100000 in
set_option maxHeartbeats 8000000 in
theorem ofR_any {W : World} {b : Nat} {vs : Value} {L : List MRow} {p : Int} (hS : RfAt W b vs L p) {q : MQ} (hv : validB q = true) : Calls Try.prog 27 #[ptr b, qV q] W (OfOut W L q) := by
  have HRV := Lib.hid (fun w => rvalid_any q w)
  rw [hv] at HRV
  have HVq := Lib.hid hv
  have HS := Lib.hid hS
  have hcol := valid_ok' hv
  have hy := (valid_ok hv).1.2.2.2.2.2.1
  obtain ⟨qk, qt, qc, ql, qh, qy, qo⟩ := q
  unfold qV at HRV ⊢
  simp only at HRV hcol hy
  have HC := Lib.hid hcol
  have HY := Lib.hid hy
  have hWn : W.heap.size ≤ W.heap.size + 1 := by omega
  clear hv hS hcol hy
  go_enter Try.func27, Try.ntmps27
  go_upto_region 1 with fail
  generalize hw1 : (W.alloc _).alloc _ = w1
  have HB1 : Hid (Below W.heap.size W w1) := Lib.hid (by rw [← hw1]; exact bt (ba W _) (ba _ _))
  have HQ1 : Hid (w1.heap[W.heap.size]? = some (.cells (qC ⟨qk, qt, qc, ql, qh, qy, qo⟩) 23 (0, 0))) := Lib.hid (by rw [← hw1]; exact ((ba (W.alloc _) _).block _ (by simp)).trans (heap_alloc_new W _))
  have HT1 : Hid (w1.heap[W.heap.size + 1]? = some (.cells (resC (.slice none 0 0) 0 false) 27 (0, 0))) := Lib.hid (by
    rw [← hw1]
    have h := heap_alloc_new (W.alloc (.cells (qC ⟨qk, qt, qc, ql, qh, qy, qo⟩) 23)) (.cells (resC (.slice none 0 0) 0 false) 27)
    rw [World.size_alloc] at h
    exact h)
  clear hw1
  have c0 : w1.cell? ⟨W.heap.size, 0, none⟩ = some (.int .i64 qk) := by simp [World.cell?, qC, HQ1.out]
  have c1 : w1.cell? ⟨W.heap.size, 1, none⟩ = some (.int .i64 qt) := by simp [World.cell?, qC, HQ1.out]
  have c2 : w1.cell? ⟨W.heap.size, 2, none⟩ = some (.int .i64 qc) := by simp [World.cell?, qC, HQ1.out]
  have c3 : w1.cell? ⟨W.heap.size, 3, none⟩ = some (.int .i64 ql) := by simp [World.cell?, qC, HQ1.out]
  have c4 : w1.cell? ⟨W.heap.size, 4, none⟩ = some (.int .i64 qh) := by simp [World.cell?, qC, HQ1.out]
  have c5 : w1.cell? ⟨W.heap.size, 5, none⟩ = some (.int .i64 qy) := by simp [World.cell?, qC, HQ1.out]
  have c6 : w1.cell? ⟨W.heap.size, 6, none⟩ = some (.int .i64 qo) := by simp [World.cell?, qC, HQ1.out]
  go_wp2_with fail
  (with_reducible refine (HRV.out _).mono ?_)
  rintro e w2 ⟨rfl, hb⟩
  have HB2 := Lib.hid (bt HB1.out hb)
  have HT2 := Lib.hid ((hb.block _ (lt_of_block HT1.out)).trans HT1.out)
  have HQ2 := Lib.hid ((hb.block _ (lt_of_block HQ1.out)).trans HQ1.out)
  have HS2 := Lib.hid (HS.out.below' HB2.out)
  have hW2 : W.heap.size + 1 < w2.heap.size := lt_of_block HT2.out
  clear hb c0 c1 c2 c3 c4 c5 c6 HRV HB1 HQ1 HT1 HS
  have HC74 : Hid (∀ w, Hid (Below w2.heap.size w2 w) → Calls Try.prog 74 #[.pointer (some ⟨b, 0, none⟩), .int .i64 qt, .int .i64 qc, .int .i64 ql, .int .i64 qh] w fun e w' => ∃ va M, e = .returned va ∧ Hid (RowS w' va M) ∧ Hid (SortOf L (selR qt qc ql qh) qc M) ∧ Hid (Below w2.heap.size w2 w')) := Lib.hid (fun w hb => by
    refine (rangeR_any (HS2.out.below' hb.out) qt qc ql qh HC.out.1 HC.out.2).mono fun e w' hw => ?_
    obtain ⟨v, M, rfl, ho, hs, hb'⟩ := hw
    exact ⟨v, M, rfl, Lib.hid ho.rowS, Lib.hid hs, Lib.hid (bt hb.out hb')⟩)
  have HC75 : Hid (∀ w va M, Hid (Below w2.heap.size w2 w) → Hid (RowS w va M) → Calls Try.prog 75 #[.pointer (some ⟨b, 0, none⟩), .int .i64 qo] w fun e w' => ∃ vb, e = .returned vb ∧ Hid (RowS w' vb (L.filter (selT qo))) ∧ Hid (RowS w' va M) ∧ Hid (Below w2.heap.size w2 w')) := Lib.hid (fun w va M hb hr => by
    refine (rowsR_any (HS2.out.below' hb.out) qo).mono fun e w' hw => ?_
    obtain ⟨v, rfl, ho, hb'⟩ := hw
    exact ⟨v, rfl, Lib.hid ho.rowS, Lib.hid (hr.out.below hb'), Lib.hid (bt hb.out hb')⟩)
  have HC18 : Hid (∀ w va vb M, Hid (Below w2.heap.size w2 w) → Hid (RowS w va M) → Hid (RowS w vb (L.filter (selT qo))) → Hid (SortOf L (selR qt qc ql qh) qc M) → Calls Try.prog 18 #[.agg #[.int .i64 qk, .int .i64 qt, .int .i64 qc, .int .i64 ql, .int .i64 qh, .int .i64 qy, .int .i64 qo], va, vb] w fun e w' => ∃ ua un uc rv rf, e = .returned (.agg #[.slice ua un uc, .int .i64 rv, .bool rf]) ∧ Hid (OwnR w' w2.heap.size (.slice ua un uc) (resM ⟨qk, qt, qc, ql, qh, qy, qo⟩ M (L.filter (selT qo))).rows) ∧ Hid (rv = (resM ⟨qk, qt, qc, ql, qh, qy, qo⟩ M (L.filter (selT qo))).val ∧ rf = (resM ⟨qk, qt, qc, ql, qh, qy, qo⟩ M (L.filter (selT qo))).fnd ∧ SortOf L (selR qt qc ql qh) qc M) ∧ Hid (Below w2.heap.size w2 w')) := Lib.hid (fun w va vb M hb hr hr2 hs => by
    refine (fromR_any (q := ⟨qk, qt, qc, ql, qh, qy, qo⟩) hr.out hr2.out HY.out (by have := sort_len hs.out; have := HS2.out.good.2.2; omega)).mono fun e w' hw => ?_
    obtain ⟨u, rfl, ho, hb'⟩ := hw
    obtain ⟨ua, un, uc, rfl⟩ := ho.form
    exact ⟨ua, un, uc, _, _, rfl, Lib.hid (ho.mono hb.out.size), Lib.hid ⟨rfl, rfl, hs.out⟩, Lib.hid (bt hb.out hb')⟩)
  have HKc : Hid (∀ w, Below w2.heap.size w2 w → w.cell? ⟨W.heap.size, 0, none⟩ = some (.int .i64 qk) ∧ w.cell? ⟨W.heap.size, 1, none⟩ = some (.int .i64 qt) ∧ w.cell? ⟨W.heap.size, 2, none⟩ = some (.int .i64 qc) ∧ w.cell? ⟨W.heap.size, 3, none⟩ = some (.int .i64 ql) ∧ w.cell? ⟨W.heap.size, 4, none⟩ = some (.int .i64 qh) ∧ w.cell? ⟨W.heap.size, 5, none⟩ = some (.int .i64 qy) ∧ w.cell? ⟨W.heap.size, 6, none⟩ = some (.int .i64 qo)) := Lib.hid (fun w hb => by
    have h1 := (hb.block _ (lt_of_block HQ2.out)).trans HQ2.out
    refine ⟨?_, ?_, ?_, ?_, ?_, ?_, ?_⟩ <;> simp [World.cell?, qC, h1])
  have HKs : Hid (∀ w', Below w2.heap.size w2 w' → ∀ x0 x1 x2 : Value, ∀ w, w = (((w'.setCell ⟨W.heap.size + 1, 0, none⟩ x0).setCell ⟨W.heap.size + 1, 1, none⟩ x1).setCell ⟨W.heap.size + 1, 2, none⟩ x2) → w.cell? ⟨W.heap.size, 0, none⟩ = some (.int .i64 qk) ∧ w.cell? ⟨W.heap.size, 1, none⟩ = some (.int .i64 qt) ∧ w.cell? ⟨W.heap.size, 2, none⟩ = some (.int .i64 qc) ∧ w.cell? ⟨W.heap.size, 3, none⟩ = some (.int .i64 ql) ∧ w.cell? ⟨W.heap.size, 4, none⟩ = some (.int .i64 qh) ∧ w.cell? ⟨W.heap.size, 5, none⟩ = some (.int .i64 qy) ∧ w.cell? ⟨W.heap.size, 6, none⟩ = some (.int .i64 qo)) := Lib.hid (fun w' hb x0 x1 x2 w e => by
    subst e
    obtain ⟨h0, h1, h2, h3, h4, h5, h6⟩ := HKc.out w' hb
    have hne : W.heap.size + 1 ≠ W.heap.size := by omega
    exact ⟨cell_set3 h0 hne, cell_set3 h1 hne, cell_set3 h2 hne, cell_set3 h3 hne, cell_set3 h4 hne, cell_set3 h5 hne, cell_set3 h6 hne⟩)
  have HYc : Hid (∀ w, Below w2.heap.size w2 w → w.heap[W.heap.size + 1]? = some (.cells (resC (.slice none 0 0) 0 false) 27 (0, 0))) := Lib.hid (fun w hb => (hb.block _ (lt_of_block HT2.out)).trans HT2.out)
  have HBd : Hid (Below w2.heap.size w2 w2.drew) := Lib.hid (below_drew _)
  go_upto_region 3 with fail
  go_region_held3 (fun w => w.cell? ⟨W.heap.size, 0, none⟩ = some (.int .i64 qk) ∧ w.cell? ⟨W.heap.size, 1, none⟩ = some (.int .i64 qt) ∧ w.cell? ⟨W.heap.size, 2, none⟩ = some (.int .i64 qc) ∧ w.cell? ⟨W.heap.size, 3, none⟩ = some (.int .i64 ql) ∧ w.cell? ⟨W.heap.size, 4, none⟩ = some (.int .i64 qh) ∧ w.cell? ⟨W.heap.size, 5, none⟩ = some (.int .i64 qy) ∧ w.cell? ⟨W.heap.size, 6, none⟩ = some (.int .i64 qo))
    (first | exact HKc.out _ HBd.out | exact HKc.out _ HB3.out | exact HKc.out _ HB4.out | exact HKc.out _ HB5.out | exact HKs.out _ HB5.out _ _ _ _ rfl)
    (first
      | (go_at_call 74; (with_reducible refine (HC74.out _ HBd).mono ?_); rintro e w3 ⟨va, M, rfl, HRw, HSo, HB3⟩)
      | (go_at_call 75; (with_reducible refine (HC75.out _ _ _ HB3 HRw).mono ?_); rintro e w4 ⟨vb, rfl, HRo, HRw4, HB4⟩)
      | (go_at_call 18; (with_reducible refine (HC18.out _ _ _ _ HB4 HRw4 HRo HSo).mono ?_); rintro e w5 ⟨ua, un, uc, rv, rf, rfl, HOw, HEq, HB5⟩; have f0 : ∀ j, w5.frozen? ⟨W.heap.size + 1, j, none⟩ = false := (fun j => by simp [World.frozen?, HYc.out _ HB5.out]); have x0 : w5.cell? ⟨W.heap.size + 1, 0, none⟩ = some (.slice none 0 0) := (by simp [World.cell?, HYc.out _ HB5.out]); have x1 : w5.cell? ⟨W.heap.size + 1, 1, none⟩ = some (.int .i64 0) := (by simp [World.cell?, HYc.out _ HB5.out]); have x2 : w5.cell? ⟨W.heap.size + 1, 2, none⟩ = some (.bool false) := (by simp [World.cell?, HYc.out _ HB5.out])))
  have HY5 := Lib.hid (HYc.out _ HB5.out)
  have HB6 := Lib.hid (bt HB2.out HB5.out)
  have HBn : Hid (∀ x0 x1 x2, Below W.heap.size W (((w5.setCell ⟨W.heap.size + 1, 0, none⟩ x0).setCell ⟨W.heap.size + 1, 1, none⟩ x1).setCell ⟨W.heap.size + 1, 2, none⟩ x2)) := Lib.hid (fun x0 x1 x2 => below_setCell (below_setCell (below_setCell HB6.out hWn _) hWn _) hWn _)
  clear f0 x0 x1 x2
  go_wp2_with fail
  refine bodyPost_ret (v := .tuple #[resV (.slice ua un uc) rv rf, .int .i64 0]) (results_cell_row_tmp rfl _ _ (W.heap.size + 1) 27 _ (0, 0) _ rfl (set3_heap HY5.out) Try.underlying27 rfl (by kernel_rfl) rfl) rfl ⟨_, M, ?_, own_set3 HOw.out hW2 (by omega) _ _ _, HEq.out.2.2, HBn.out _ _ _⟩
  rw [HEq.out.1, HEq.out.2.1]
end Go.Proofs.Ytcffofjialihaaa
