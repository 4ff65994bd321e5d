/- WALK: the reference's partner (67). -/
import Derived.Test.YtcffofjialihaaaEN1
set_option linter.unusedVariables false
set_option linter.unusedSimpArgs false
namespace Go.Proofs.Ytcffofjialihaaa
open Go.RowKit Go.Sort Go.ChangeMaps Go.MapKept

theorem firstM_none {t k : Int} {M : List MRow} (h : ∀ r ∈ M, ¬ (r.t = t ∧ r.k = k)) : firstM t k M = none := by
  unfold firstM
  rw [List.find?_eq_none]
  intro r hr
  simpa using h r hr
theorem firstM_at {t k : Int} {M : List MRow} {i : Nat} (hi : i < M.length) (h : ∀ r ∈ M.take i, ¬ (r.t = t ∧ r.k = k)) (ha : (M.getD i rowZ).t = t ∧ (M.getD i rowZ).k = k) : firstM t k M = some (M.getD i rowZ) := by
  have e : M = M.take i ++ (M.getD i rowZ :: M.drop (i + 1)) := by
    conv => lhs; rw [← List.take_append_drop i M]
    rw [List.drop_eq_getElem_cons hi, List.getD_eq_getElem?_getD, List.getElem?_eq_getElem hi]
    rfl
  unfold firstM
  generalize M.getD i rowZ = r at *
  rw [e, List.find?_append, show (M.take i).find? (fun r => decide (r.t = t ∧ r.k = k)) = none from firstM_none h]
  simp [ha]
theorem set5_heap {w : World} {b : Nat} {a0 a1 a2 a3 a4 x0 x1 x2 x3 x4 : Value} {t : TypeId} (h : w.heap[b]? = some (.cells #[a0, a1, a2, a3, a4] t (0, 0))) : (((((w.setCell ⟨b, 0, none⟩ x0).setCell ⟨b, 1, none⟩ x1).setCell ⟨b, 2, none⟩ x2).setCell ⟨b, 3, none⟩ x3).setCell ⟨b, 4, none⟩ x4).heap[b]? = some (.cells #[x0, x1, x2, x3, x4] t (0, 0)) :=
  setC_heap (setC_heap (setC_heap (setC_heap (setC_heap h 0 x0) 1 x1) 2 x2) 3 x3) 4 x4
theorem below_set5 {B : Nat} {w0 w : World} (h : Below B w0 w) {b : Nat} (hb : B ≤ b) (x0 x1 x2 x3 x4 : Value) : Below B w0 (((((w.setCell ⟨b, 0, none⟩ x0).setCell ⟨b, 1, none⟩ x1).setCell ⟨b, 2, none⟩ x2).setCell ⟨b, 3, none⟩ x3).setCell ⟨b, 4, none⟩ x4) :=
  below_setCell (below_setCell (below_setCell (below_setCell (below_setCell h hb _) hb _) hb _) hb _) hb _

set_option maxRecDepth 100000 in
set_option maxHeartbeats 4000000 in
theorem partner_any {W : World} {u : Value} {O : List MRow} (h : RowS W u O) (t k : Int) :
    Calls Try.prog 67 #[u, .int .i64 t, .int .i64 k] W fun e w' => e = .returned (.tuple #[rowV ((firstM t k O).getD rowZ), .bool (firstM t k O).isSome]) ∧ Below W.heap.size W w' := by
  obtain ⟨a, n, cap, rfl, hn, hc1, hc2, hcell⟩ := h
  have HN := Lib.hid hn
  have HC := Lib.hid hcell
  have hn63 : n ≤ 9223372036854775807 := by omega
  have hWn : W.heap.size ≤ W.heap.size := Nat.le_refl _
  clear hn hcell
  go_enter Try.func67, Try.ntmps67
  go_upto_region 1 with fail
  generalize hw1 : W.alloc _ = w1
  have HB1 : Hid (Below W.heap.size W w1) := Lib.hid (by rw [← hw1]; exact ba _ _)
  have HO1 : Hid (w1.heap[W.heap.size]? = some (.cells #[.int .i64 0, .int .i64 0, .int .i64 0, .int .i64 0, .int .i64 0] 31 (0, 0))) := Lib.hid (by rw [← hw1]; exact heap_alloc_new W _)
  clear hw1
  go_wp2_with fail
  go_loopw [8] (fun i wr => ∃ j : Nat, j ≤ n ∧ i = .int .i64 j ∧ Hid (∀ r ∈ O.take j, ¬ (r.t = t ∧ r.k = k)) ∧ Hid (Below w1.heap.size w1 wr)) (fun i _ => n - (intOf i).toNat)
  case atStart => exact ⟨0, by omega, rfl, Lib.hid (fun r hr => by simp at hr), Lib.hid (Below.refl _ _)⟩
  case round =>
    obtain ⟨j, hj, rfl, HZ, HB⟩ := hrel
    have HOr := Lib.hid ((HB.out.block _ (lt_of_block HO1.out)).trans HO1.out)
    have HBW := Lib.hid (bt HB1.out HB.out)
    have fz : ∀ i, wr.frozen? ⟨W.heap.size, i, none⟩ = false := fun i => by simp [World.frozen?, HOr.out]
    have z0 : wr.cell? ⟨W.heap.size, 0, none⟩ = some (.int .i64 0) := by simp [World.cell?, HOr.out]
    have z1 : wr.cell? ⟨W.heap.size, 1, none⟩ = some (.int .i64 0) := by simp [World.cell?, HOr.out]
    have z2 : wr.cell? ⟨W.heap.size, 2, none⟩ = some (.int .i64 0) := by simp [World.cell?, HOr.out]
    have z3 : wr.cell? ⟨W.heap.size, 3, none⟩ = some (.int .i64 0) := by simp [World.cell?, HOr.out]
    have z4 : wr.cell? ⟨W.heap.size, 4, none⟩ = some (.int .i64 0) := by simp [World.cell?, HOr.out]
    by_cases hlt : j < n
    · have hji : (j : Int) < n := by omega
      obtain ⟨vb, vo, rfl, hvb, hcs⟩ := HC.out (by omega)
      have hvr : vb < w1.heap.size := Nat.lt_of_lt_of_le hvb HB1.out.size
      have HR := Lib.hid ((hcs j hlt).below hvb HBW.out)
      have hjO : j < O.length := by rw [← HN.out]; exact hlt
      have Ht : Hid (O.take (j + 1) = O.take j ++ [O.getD j rowZ]) := Lib.hid (take_snoc' hjO)
      have HA := Lib.hid (fun ha => firstM_at (t := t) (k := k) hjO HZ.out ha)
      clear hcs
      obtain ⟨⟨rt, rk, ⟨ra, rb, rc⟩⟩, Hr⟩ : ∃ r, Hid (O.getD j rowZ = r) := ⟨_, Lib.hid rfl⟩
      rw [Hr.out] at HR Ht HA
      simp only at HA
      obtain ⟨y0, y1, y2, y3, y4⟩ := HR.out.cells
      simp only at y0 y1 y2 y3 y4
      have hvne : vb ≠ W.heap.size := by omega
      clear HR hvr hvb
      by_cases g1 : rt = t
      · have d1 : (rt == t) = true := by simp [g1]
        by_cases g2 : rk = k
        · have d2 : (rk == k) = true := by simp [g2]
          have HE := Lib.hid (HA.out ⟨g1, g2⟩)
          clear g1 g2 HA
          go_wp2_with fail
          refine bodyPost_ret (v := .tuple #[rowV ⟨rt, rk, ⟨ra, rb, rc⟩⟩, .bool true]) (results_cell_row_tmp rfl _ _ W.heap.size 31 _ (0, 0) _ rfl (set5_heap HOr.out) Try.underlying31 rfl (by kernel_rfl) rfl) rfl ⟨?_, below_set5 HBW.out (Nat.le_refl _) _ _ _ _ _⟩
          rw [HE.out]
          rfl
        · have d2 : (rk == k) = false := by simp [g2]
          have HZ' : Hid (∀ r ∈ O.take (j + 1), ¬ (r.t = t ∧ r.k = k)) := Lib.hid (fun r hr => by
            rw [Ht.out] at hr
            rcases List.mem_append.1 hr with hr | hr
            · exact HZ.out r hr
            · rw [List.mem_singleton.1 hr]
              exact fun e => g2 e.2)
          clear g1 g2 HA
          go_wp2_with fail
          exact ⟨⟨j + 1, by omega, by go_num, HZ', HB⟩, by simp [intOf]; omega⟩
      · have d1 : (rt == t) = false := by simp [g1]
        have HZ' : Hid (∀ r ∈ O.take (j + 1), ¬ (r.t = t ∧ r.k = k)) := Lib.hid (fun r hr => by
          rw [Ht.out] at hr
          rcases List.mem_append.1 hr with hr | hr
          · exact HZ.out r hr
          · rw [List.mem_singleton.1 hr]
            exact fun e => g1 e.1)
        clear g1 HA
        go_wp2_with fail
        exact ⟨⟨j + 1, by omega, by go_num, HZ', HB⟩, by simp [intOf]; omega⟩
    · have HE : Hid (firstM t k O = none) := Lib.hid (by
        have h := HZ.out
        rw [show j = O.length from by rw [← HN.out]; omega, List.take_length] at h
        exact firstM_none h)
      go_wp2_with fail
      refine bodyPost_ret (v := .tuple #[rowV rowZ, .bool false]) (results_cell_row_tmp rfl _ _ W.heap.size 31 _ (0, 0) _ rfl (set5_heap HOr.out) Try.underlying31 rfl (by kernel_rfl) rfl) rfl ⟨?_, below_set5 HBW.out (Nat.le_refl _) _ _ _ _ _⟩
      rw [HE.out]
      rfl
end Go.Proofs.Ytcffofjialihaaa
