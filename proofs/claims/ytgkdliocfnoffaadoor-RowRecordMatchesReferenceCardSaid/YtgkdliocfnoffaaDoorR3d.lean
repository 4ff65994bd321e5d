/- WALKS: readChange, a change with marks 3. -/
import Derived.Test.YtgkdliocfnoffaaDoorR3
set_option linter.unusedVariables false
namespace Go.Proofs.YtgkdliocfnoffaaDoor
open Go.RowKit Go.Sort

set_option maxRecDepth 100000 in
set_option maxHeartbeats 16000000 in
theorem readChange_3 (s : ByteArray) (rb k : Nat) (a0 a1 : Addr) (w : World) (hs : s.size ≤ maxLen) (hk : k ≤ s.size) (hr : RdAt w rb s k) (hg : w.cell? ⟨0, 0, none⟩ = some (errV a0)) (hg1 : w.cell? ⟨1, 0, none⟩ = some (errV a1)) (h0 : 1 < rb) {t q : Int} {m1 m2 m3 : Nat} (h1 : decInt (s.data.toList.drop k) = some (t, m1)) (h2 : decInt (s.data.toList.drop (k + m1)) = some (q, m2)) (h3 : decInt (s.data.toList.drop (k + m1 + m2)) = some (3, m3)) :
    Calls Tryd.prog 64 #[nextV rb] w (ROut s rb a0 a1 w chV (rdCh.run s.data.toList k)) := by
  have hk1 := dec_le hk h1
  have hk2 := dec_le hk1 h2
  have hk3 := dec_le hk2 h3
  have hE3 : rdCh.run s.data.toList k = (rdChT t q 3).run s.data.toList (k + m1 + m2 + m3) := (run_get_some (f := fun t => Rd.get fun k => Rd.get fun m => rdChT t k m) h1).trans ((run_get_some (f := fun k => Rd.get fun m => rdChT t k m) h2).trans (run_get_some (f := fun m => rdChT t q m) h3))
  have H1 := Lib.hid h1
  have H2 := Lib.hid h2
  have H3 := Lib.hid h3
  clear h1 h2 h3
  have hrl := hr.lt
  have hne : ¬ w.heap.size = rb := by omega
  have hne0 : ¬ 0 = rb := by omega
  have hne1 : ¬ 1 = rb := by omega
  have h00 : 0 < rb := by omega
  have hz0 : 0 < w.heap.size := by omega
  have hz1 : 1 < w.heap.size := by omega
  have hb11 : bits .and .i64 1 1 = 1 := by decide
  have hb12 : bits .and .i64 1 2 = 0 := by decide
  have hb21 : bits .and .i64 2 1 = 0 := by decide
  have hb22 : bits .and .i64 2 2 = 2 := by decide
  have hb31 : bits .and .i64 3 1 = 1 := by decide
  have hb32 : bits .and .i64 3 2 = 2 := by decide
  have HR := Lib.hid hr
  have HG : Hid (∀ w', Kx rb w w' → w'.cell? ⟨0, 0, none⟩ = some (errV a0)) := Lib.hid (fun w' h => by rw [h.cell.1 _ _ hz0 hne0]; exact hg)
  have HG1 : Hid (∀ w', Kx rb w w' → w'.cell? ⟨1, 0, none⟩ = some (errV a1)) := Lib.hid (fun w' h => by rw [h.cell.1 _ _ hz1 hne1]; exact hg1)
  have HA0 := Lib.hid (Kx.alloc rb w (.cells #[.int .i64 0, .int .i64 0, .bool false, .int .i64 0, .int .i64 0, .int .i64 0, .bool false, .int .i64 0, .int .i64 0, .int .i64 0] 42))
  clear hr hg hg1
  cases h4 : rd3.run s.data.toList (k + m1 + m2 + m3) with
  | error eb =>
    obtain rfl := rd3_no h4
    have HX : Hid (rdCh.run s.data.toList k = .error false) := Lib.hid (hE3.trans (by rw [rdChT_3]; exact run_bind_err h4))
    have H4 := Lib.hid h4
    clear h4 hE3
    go_enter Tryd.func64, Tryd.ntmps64
    go_wp2_with fail
    (with_reducible refine (number_ok s rb k _ hs hk (HR.out.below (ba _ _)) H1.out).mono ?_)
    rintro e w1 ⟨rfl, hr1, hx1⟩
    have HR1 := Lib.hid hr1
    have HK1 := Lib.hid (HA0.out.trans hx1)
    have HX1 := Lib.hid hx1
    clear hr1 hx1
    go_wp2_with fail
    (with_reducible refine (number_ok s rb (k + m1) _ hs hk1 HR1.out H2.out).mono ?_)
    rintro e w2 ⟨rfl, hr2, hx2⟩
    have HR2 := Lib.hid hr2
    have HK2 := Lib.hid (HK1.out.trans hx2)
    have HX2 := Lib.hid (HX1.out.trans hx2)
    have hsz2 : w.heap.size < w2.heap.size := by have := HX2.out.size; simp only [World.size_alloc] at this; omega
    clear hr2 hx2
    go_wp2_with fail
    have HKa := Lib.hid (HK2.out.trans (Kx.alloc rb w2 (.cells #[.int .i64 t, .int .i64 q, .bool false, .int .i64 0, .int .i64 0, .int .i64 0, .bool false, .int .i64 0, .int .i64 0, .int .i64 0] 42)))
    (with_reducible refine (number_ok s rb (k + m1 + m2) _ hs hk2 (HR2.out.below (ba _ _)) H3.out).mono ?_)
    rintro e w3 ⟨rfl, hr3, hx3⟩
    have HR3 := Lib.hid hr3
    have HK3 := Lib.hid (HKa.out.trans hx3)
    have HX3 := Lib.hid hx3
    have hsz3 : w2.heap.size < w3.heap.size := by have := hx3.size; simp only [World.size_alloc] at this; omega
    have hneC : ¬ w2.heap.size = rb := by omega
    clear hr3 hx3
    go_wp2_with fail
    (with_reducible refine (upTo_ok 3 3 _ (by omega) (by omega)).mono ?_)
    rintro e w3' ⟨rfl, hw3⟩
    rw [hw3]
    clear hw3 w3'
    go_wp2_with fail
    (with_reducible refine (Calls.rno (readValues_any s rb (k + m1 + m2 + m3) a0 a1 _ hs hk3 HR3.out (HG.out _ HK3.out) h00) H4.out).mono ?_)
    rintro e w4 ⟨rfl, hx4⟩
    go_wp2_with fail
    exact ⟨rfl, ROut.no HX rfl (HK3.out.trans hx4)⟩
  | ok q4 =>
    obtain ⟨⟨xa, xb, xc⟩, k4⟩ := q4
    have hk4 := run_le hk3 h4
    have hE4 : rdCh.run s.data.toList k = (rd3.bind fun n => Rd.ret (⟨t, q, true, ⟨xa, xb, xc⟩, true, n⟩ : MCh)).run s.data.toList k4 := hE3.trans (by rw [rdChT_3]; exact run_bind_ok h4)
    have H4 := Lib.hid h4
    clear h4 hE3
    cases h5 : rd3.run s.data.toList k4 with
    | error eb =>
      obtain rfl := rd3_no h5
      have HX : Hid (rdCh.run s.data.toList k = .error false) := Lib.hid (hE4.trans (run_bind_err h5))
      have H5 := Lib.hid h5
      clear h5 hE4
      go_enter Tryd.func64, Tryd.ntmps64
      go_wp2_with fail
      (with_reducible refine (number_ok s rb k _ hs hk (HR.out.below (ba _ _)) H1.out).mono ?_)
      rintro e w1 ⟨rfl, hr1, hx1⟩
      have HR1 := Lib.hid hr1
      have HK1 := Lib.hid (HA0.out.trans hx1)
      have HX1 := Lib.hid hx1
      clear hr1 hx1
      go_wp2_with fail
      (with_reducible refine (number_ok s rb (k + m1) _ hs hk1 HR1.out H2.out).mono ?_)
      rintro e w2 ⟨rfl, hr2, hx2⟩
      have HR2 := Lib.hid hr2
      have HK2 := Lib.hid (HK1.out.trans hx2)
      have HX2 := Lib.hid (HX1.out.trans hx2)
      have hsz2 : w.heap.size < w2.heap.size := by have := HX2.out.size; simp only [World.size_alloc] at this; omega
      clear hr2 hx2
      go_wp2_with fail
      have HKa := Lib.hid (HK2.out.trans (Kx.alloc rb w2 (.cells #[.int .i64 t, .int .i64 q, .bool false, .int .i64 0, .int .i64 0, .int .i64 0, .bool false, .int .i64 0, .int .i64 0, .int .i64 0] 42)))
      (with_reducible refine (number_ok s rb (k + m1 + m2) _ hs hk2 (HR2.out.below (ba _ _)) H3.out).mono ?_)
      rintro e w3 ⟨rfl, hr3, hx3⟩
      have HR3 := Lib.hid hr3
      have HK3 := Lib.hid (HKa.out.trans hx3)
      have HX3 := Lib.hid hx3
      have hsz3 : w2.heap.size < w3.heap.size := by have := hx3.size; simp only [World.size_alloc] at this; omega
      have hneC : ¬ w2.heap.size = rb := by omega
      clear hr3 hx3
      go_wp2_with fail
      (with_reducible refine (upTo_ok 3 3 _ (by omega) (by omega)).mono ?_)
      rintro e w3' ⟨rfl, hw3⟩
      rw [hw3]
      clear hw3 w3'
      go_wp2_with fail
      (with_reducible refine (Calls.rok (readValues_any s rb (k + m1 + m2 + m3) a0 a1 _ hs hk3 HR3.out (HG.out _ HK3.out) h00) H4.out).mono ?_)
      rintro e w4 ⟨rfl, hr4, hx4⟩
      have HR4 := Lib.hid hr4
      have HK4 := Lib.hid (HK3.out.trans hx4)
      have hsz4 : w3.heap.size ≤ w4.heap.size := hx4.size
      have hszC4 : w2.heap.size < w4.heap.size := by omega
      have hszR4 : w.heap.size < w4.heap.size := by omega
      obtain ⟨hc4, hf4⟩ := (HX3.out.trans hx4).cell
      have HC4 : Hid (w4.heap[w2.heap.size]? = some (.cells #[.int .i64 t, .int .i64 q, .bool false, .int .i64 0, .int .i64 0, .int .i64 0, .bool false, .int .i64 0, .int .i64 0, .int .i64 0] 42 (0, 0))) := Lib.hid (((HX3.out.trans hx4).block _ (by simp) hneC).trans (heap_alloc_new w2 _))
      have HRr4 : Hid (w4.heap[w.heap.size]? = some (.cells #[.int .i64 0, .int .i64 0, .bool false, .int .i64 0, .int .i64 0, .int .i64 0, .bool false, .int .i64 0, .int .i64 0, .int .i64 0] 42 (0, 0))) := Lib.hid (((HX3.out.trans hx4).block _ (by simp; omega) hne).trans ((heap_alloc_old w2 _ _ hsz2).trans ((HX2.out.block _ (by simp) hne).trans (heap_alloc_new w _))))
      have hRC : ¬ w.heap.size = w2.heap.size := by omega
      have hwC : w.heap.size ≤ w2.heap.size := by omega
      clear hr4 hx4
      go_wp2_with fail
      have HRK4 : Hid (RK s rb k4 w ((((w4.setCell ⟨w2.heap.size, 2, none⟩ (.bool true)).setCell ⟨w2.heap.size, 3, none⟩ (.int .i64 xa)).setCell ⟨w2.heap.size, 4, none⟩ (.int .i64 xb)).setCell ⟨w2.heap.size, 5, none⟩ (.int .i64 xc))) := Lib.hid ((((RK.set ⟨HR4.out, HK4.out⟩ hwC hneC _ _).set hwC hneC _ _).set hwC hneC _ _).set hwC hneC _ _)
      (with_reducible refine (Calls.rno (readValues_any s rb k4 a0 a1 _ hs hk4 (RK.rd HRK4.out) (HG.out _ (RK.kx HRK4.out)) h00) H5.out).mono ?_)
      rintro e w5 ⟨rfl, hx5⟩
      go_wp2_with fail
      exact ⟨rfl, ROut.no HX rfl (HRK4.out.2.trans hx5)⟩
    | ok q5 =>
      obtain ⟨⟨ya, yb, yc⟩, k5⟩ := q5
      have HX : Hid (rdCh.run s.data.toList k = .ok (⟨t, q, true, ⟨xa, xb, xc⟩, true, ⟨ya, yb, yc⟩⟩, k5)) := Lib.hid (hE4.trans ((run_bind_ok h5).trans rfl))
      have H5 := Lib.hid h5
      clear h5 hE4
      go_enter Tryd.func64, Tryd.ntmps64
      go_wp2_with fail
      (with_reducible refine (number_ok s rb k _ hs hk (HR.out.below (ba _ _)) H1.out).mono ?_)
      rintro e w1 ⟨rfl, hr1, hx1⟩
      have HR1 := Lib.hid hr1
      have HK1 := Lib.hid (HA0.out.trans hx1)
      have HX1 := Lib.hid hx1
      clear hr1 hx1
      go_wp2_with fail
      (with_reducible refine (number_ok s rb (k + m1) _ hs hk1 HR1.out H2.out).mono ?_)
      rintro e w2 ⟨rfl, hr2, hx2⟩
      have HR2 := Lib.hid hr2
      have HK2 := Lib.hid (HK1.out.trans hx2)
      have HX2 := Lib.hid (HX1.out.trans hx2)
      have hsz2 : w.heap.size < w2.heap.size := by have := HX2.out.size; simp only [World.size_alloc] at this; omega
      clear hr2 hx2
      go_wp2_with fail
      have HKa := Lib.hid (HK2.out.trans (Kx.alloc rb w2 (.cells #[.int .i64 t, .int .i64 q, .bool false, .int .i64 0, .int .i64 0, .int .i64 0, .bool false, .int .i64 0, .int .i64 0, .int .i64 0] 42)))
      (with_reducible refine (number_ok s rb (k + m1 + m2) _ hs hk2 (HR2.out.below (ba _ _)) H3.out).mono ?_)
      rintro e w3 ⟨rfl, hr3, hx3⟩
      have HR3 := Lib.hid hr3
      have HK3 := Lib.hid (HKa.out.trans hx3)
      have HX3 := Lib.hid hx3
      have hsz3 : w2.heap.size < w3.heap.size := by have := hx3.size; simp only [World.size_alloc] at this; omega
      have hneC : ¬ w2.heap.size = rb := by omega
      clear hr3 hx3
      go_wp2_with fail
      (with_reducible refine (upTo_ok 3 3 _ (by omega) (by omega)).mono ?_)
      rintro e w3' ⟨rfl, hw3⟩
      rw [hw3]
      clear hw3 w3'
      go_wp2_with fail
      (with_reducible refine (Calls.rok (readValues_any s rb (k + m1 + m2 + m3) a0 a1 _ hs hk3 HR3.out (HG.out _ HK3.out) h00) H4.out).mono ?_)
      rintro e w4 ⟨rfl, hr4, hx4⟩
      have HR4 := Lib.hid hr4
      have HK4 := Lib.hid (HK3.out.trans hx4)
      have hsz4 : w3.heap.size ≤ w4.heap.size := hx4.size
      have hszC4 : w2.heap.size < w4.heap.size := by omega
      have hszR4 : w.heap.size < w4.heap.size := by omega
      obtain ⟨hc4, hf4⟩ := (HX3.out.trans hx4).cell
      have HC4 : Hid (w4.heap[w2.heap.size]? = some (.cells #[.int .i64 t, .int .i64 q, .bool false, .int .i64 0, .int .i64 0, .int .i64 0, .bool false, .int .i64 0, .int .i64 0, .int .i64 0] 42 (0, 0))) := Lib.hid (((HX3.out.trans hx4).block _ (by simp) hneC).trans (heap_alloc_new w2 _))
      have HRr4 : Hid (w4.heap[w.heap.size]? = some (.cells #[.int .i64 0, .int .i64 0, .bool false, .int .i64 0, .int .i64 0, .int .i64 0, .bool false, .int .i64 0, .int .i64 0, .int .i64 0] 42 (0, 0))) := Lib.hid (((HX3.out.trans hx4).block _ (by simp; omega) hne).trans ((heap_alloc_old w2 _ _ hsz2).trans ((HX2.out.block _ (by simp) hne).trans (heap_alloc_new w _))))
      have hRC : ¬ w.heap.size = w2.heap.size := by omega
      have hwC : w.heap.size ≤ w2.heap.size := by omega
      clear hr4 hx4
      go_wp2_with fail
      have HRK4 : Hid (RK s rb k4 w ((((w4.setCell ⟨w2.heap.size, 2, none⟩ (.bool true)).setCell ⟨w2.heap.size, 3, none⟩ (.int .i64 xa)).setCell ⟨w2.heap.size, 4, none⟩ (.int .i64 xb)).setCell ⟨w2.heap.size, 5, none⟩ (.int .i64 xc))) := Lib.hid ((((RK.set ⟨HR4.out, HK4.out⟩ hwC hneC _ _).set hwC hneC _ _).set hwC hneC _ _).set hwC hneC _ _)
      have HCr1 : Hid (((((w4.setCell ⟨w2.heap.size, 2, none⟩ (.bool true)).setCell ⟨w2.heap.size, 3, none⟩ (.int .i64 xa)).setCell ⟨w2.heap.size, 4, none⟩ (.int .i64 xb)).setCell ⟨w2.heap.size, 5, none⟩ (.int .i64 xc)).heap[w2.heap.size]? = some (.cells #[.int .i64 t, .int .i64 q, .bool true, .int .i64 xa, .int .i64 xb, .int .i64 xc, .bool false, .int .i64 0, .int .i64 0, .int .i64 0] 42 (0, 0))) := Lib.hid (heap_setCell_row (heap_setCell_row (heap_setCell_row (heap_setCell_row HC4.out _ _) _ _) _ _) _ _)
      have HRr1 : Hid (((((w4.setCell ⟨w2.heap.size, 2, none⟩ (.bool true)).setCell ⟨w2.heap.size, 3, none⟩ (.int .i64 xa)).setCell ⟨w2.heap.size, 4, none⟩ (.int .i64 xb)).setCell ⟨w2.heap.size, 5, none⟩ (.int .i64 xc)).heap[w.heap.size]? = some (.cells #[.int .i64 0, .int .i64 0, .bool false, .int .i64 0, .int .i64 0, .int .i64 0, .bool false, .int .i64 0, .int .i64 0, .int .i64 0] 42 (0, 0))) := Lib.hid ((heap_setCell_far hRC _ _).trans ((heap_setCell_far hRC _ _).trans ((heap_setCell_far hRC _ _).trans ((heap_setCell_far hRC _ _).trans HRr4.out))))
      (with_reducible refine (Calls.rok (readValues_any s rb k4 a0 a1 _ hs hk4 (RK.rd HRK4.out) (HG.out _ (RK.kx HRK4.out)) h00) H5.out).mono ?_)
      rintro e w5 ⟨rfl, hr5, hx5⟩
      have HRK5 : Hid (RK s rb k5 w w5) := Lib.hid ⟨hr5, HRK4.out.2.trans hx5⟩
      have HC5 : Hid (w5.heap[w2.heap.size]? = some (.cells #[.int .i64 t, .int .i64 q, .bool true, .int .i64 xa, .int .i64 xb, .int .i64 xc, .bool false, .int .i64 0, .int .i64 0, .int .i64 0] 42 (0, 0))) := Lib.hid ((hx5.block _ (by simpa using hszC4) hneC).trans HCr1.out)
      have HRr5 : Hid (w5.heap[w.heap.size]? = some (.cells #[.int .i64 0, .int .i64 0, .bool false, .int .i64 0, .int .i64 0, .int .i64 0, .bool false, .int .i64 0, .int .i64 0, .int .i64 0] 42 (0, 0))) := Lib.hid ((hx5.block _ (by simpa using hszR4) hne).trans HRr1.out)
      obtain ⟨hc5, hf5⟩ := hx5.cell
      clear hr5 hx5
      have HCr : Hid (((((w5.setCell ⟨w2.heap.size, 6, none⟩ (.bool true)).setCell ⟨w2.heap.size, 7, none⟩ (.int .i64 ya)).setCell ⟨w2.heap.size, 8, none⟩ (.int .i64 yb)).setCell ⟨w2.heap.size, 9, none⟩ (.int .i64 yc)).heap[w2.heap.size]? = some (.cells #[.int .i64 t, .int .i64 q, .bool true, .int .i64 xa, .int .i64 xb, .int .i64 xc, .bool true, .int .i64 ya, .int .i64 yb, .int .i64 yc] 42 (0, 0))) := Lib.hid (heap_setCell_row (heap_setCell_row (heap_setCell_row (heap_setCell_row HC5.out _ _) _ _) _ _) _ _)
      have HRr : Hid (((((w5.setCell ⟨w2.heap.size, 6, none⟩ (.bool true)).setCell ⟨w2.heap.size, 7, none⟩ (.int .i64 ya)).setCell ⟨w2.heap.size, 8, none⟩ (.int .i64 yb)).setCell ⟨w2.heap.size, 9, none⟩ (.int .i64 yc)).heap[w.heap.size]? = some (.cells #[.int .i64 0, .int .i64 0, .bool false, .int .i64 0, .int .i64 0, .int .i64 0, .bool false, .int .i64 0, .int .i64 0, .int .i64 0] 42 (0, 0))) := Lib.hid ((heap_setCell_far hRC _ _).trans ((heap_setCell_far hRC _ _).trans ((heap_setCell_far hRC _ _).trans ((heap_setCell_far hRC _ _).trans HRr5.out))))
      go_wp2_with (first | (refine wpList_load_row rfl 42 _ rfl w2.heap.size rfl 42 _ _ _ HCr.out Tryd.underlying42 rfl (by kernel_rfl) ?_) | (refine wpList_store_row rfl 42 _ _ rfl w.heap.size _ rfl rfl 42 _ HRr.out (by kernel_rfl) rfl (by simp [Value.oneCell']) ?_))
      refine bodyPost_ret (v := .agg #[.int .i64 t, .int .i64 q, .bool true, .int .i64 xa, .int .i64 xb, .int .i64 xc, .bool true, .int .i64 ya, .int .i64 yb, .int .i64 yc]) (results_cell_row rfl _ _ w.heap.size 42 _ (0, 0) _ rfl (setRow_heap _ _ _ _ _ _ HRr.out) Tryd.underlying42 rfl (by kernel_rfl)) rfl ?_
      exact ROut.rk HX rfl (RK.setRow ((((RK.set HRK5.out hwC hneC _ _).set hwC hneC _ _).set hwC hneC _ _).set hwC hneC _ _) (Nat.le_refl _) hne _)
end Go.Proofs.YtgkdliocfnoffaaDoor
