/- WALK: EvalPairs. -/
import Derived.Test.YtcffofjialihaaaEH
set_option linter.unusedVariables false
set_option linter.unusedSimpArgs false
namespace Go.Proofs.Ytcffofjialihaaa
open Go.RowKit Go.Sort Go.ChangeMaps Go.MapKept

set_option maxRecDepth 100000 in
set_option maxHeartbeats 8000000 in
theorem evalPairs_of {W : World} {v : Value} {n : Nat} (h : XS4 W v n) {x : X4} (hx : x.Ok) {bv ov : Int} (hbv : I64 bv) (hov : I64 ov) : Calls Try.prog 8 #[v, x4V x, .int .i64 bv, .int .i64 ov] W fun e w' => e = .returned (.bool true) ∧ Below W.heap.size W w' := by
  have HX := Lib.hid h
  obtain ⟨x0, x1, x2, x3⟩ := x
  obtain ⟨hx0, hx1, hx2, hx3⟩ := hx
  simp only at hx0 hx1 hx2 hx3
  have P1 := Lib.hid (fun w => pickB x0 2 w hx0 (by omega) (by omega))
  have P2 := Lib.hid (fun w => pickB x1 4 w hx1 (by omega) (by omega))
  have P3 := Lib.hid (fun w => pickB x2 12 w hx2 (by omega) (by omega))
  have P4 := Lib.hid (fun w => pickB x3 12 w hx3 (by omega) (by omega))
  have P5 := Lib.hid (fun w => pickB bv 3 w hbv (by omega) (by omega))
  have P6 := Lib.hid (fun w => pickB ov 2 w hov (by omega) (by omega))
  have r1 := pk_range x0 (n := 2) (by omega)
  have r2 := pk_range x1 (n := 4) (by omega)
  have r3 := pk_range x2 (n := 12) (by omega)
  have r4 := pk_range x3 (n := 12) (by omega)
  have r5 := pk_range bv (n := 3) (by omega)
  have r6 := pk_range ov (n := 2) (by omega)
  generalize pk x0 2 = z1 at *
  generalize pk x1 4 = z2 at *
  generalize pk x2 12 = z3 at *
  generalize pk x3 12 = z4 at *
  generalize pk bv 3 = z5 at *
  generalize pk ov 2 = z6 at *
  have hw4 : wrap64 (12 + z4) = 12 + z4 := by unfold wrap64; omega
  have hw5 : wrap64 (1 + z5) = 1 + z5 := by unfold wrap64; omega
  obtain ⟨y4, Hy4⟩ : ∃ y, Hid (12 + z4 = y) := ⟨_, Lib.hid rfl⟩
  obtain ⟨y5, Hy5⟩ : ∃ y, Hid (1 + z5 = y) := ⟨_, Lib.hid rfl⟩
  rw [Hy4.out] at hw4
  rw [Hy5.out] at hw5
  have HV : Hid (validB ⟨7, z1, z2, z3, y4, y5, z6⟩ = true) := Lib.hid (by
    have e4 := Hy4.out
    have e5 := Hy5.out
    simp [validB, scanB]
    omega)
  have HI : Hid (I64 y5 ∧ I64 z6 ∧ 0 ≤ z2 ∧ z2 ≤ 3) := Lib.hid (by
    have e5 := Hy5.out
    unfold I64
    omega)
  unfold x4V
  simp only
  clear hx0 hx1 hx2 hx3 hbv hov r1 r2 r3 r4 r5 r6 h
  go_enter Try.func8, Try.ntmps8
  go_upto_region 1 with fail
  generalize hw0 : W.alloc (.cells #[.int .i64 x0, .int .i64 x1, .int .i64 x2, .int .i64 x3] 24) = w0
  have HB0 : Hid (Below W.heap.size W w0) := Lib.hid (by rw [← hw0]; exact ba _ _)
  have HC0 : Hid (w0.heap[W.heap.size]? = some (.cells #[.int .i64 x0, .int .i64 x1, .int .i64 x2, .int .i64 x3] 24 (0, 0))) := Lib.hid (by rw [← hw0]; exact heap_alloc_new W _)
  clear hw0
  go_wp2_with fail
  refine (sane_any _).mono ?_
  rintro e w1 ⟨rfl, hb⟩
  have HB1 := Lib.hid (bt HB0.out hb)
  have HC1 := Lib.hid ((hb.block _ (lt_of_block HC0.out)).trans HC0.out)
  clear hb HC0 HB0
  go_wp2_with fail
  refine (state_any (HX.out.below HB1.out)).mono ?_
  rintro e wb ⟨R, sb, sm, rfl, hst, -, -, -, hb⟩
  obtain ⟨L, HLe⟩ : ∃ L, Hid (rowsOf R = L) := ⟨_, Lib.hid rfl⟩
  obtain ⟨sp, Hsp⟩ : ∃ p : Int, Hid ((R.length : Int) = p) := ⟨_, Lib.hid rfl⟩
  rw [HLe.out, Hsp.out] at hst
  have HS := Lib.hid hst
  have HBb := Lib.hid (bt HB1.out hb)
  have HCb := Lib.hid ((hb.block _ (lt_of_block HC1.out)).trans HC1.out)
  clear hb HC1 HB1 hst HX HLe Hsp
  go_upto_region 3 with fail
  have HG : Hid (∀ w0, BW wb w0 → ∀ d' os, (grow (redrawn w0 d') os).heap[W.heap.size]? = some (.cells #[.int .i64 x0, .int .i64 x1, .int .i64 x2, .int .i64 x3] 24 (0, 0))) := Lib.hid (fun w0 h d' os => ((show Below wb.heap.size wb (grow (redrawn w0 d') os) from bt h (below_regrown w0 d' os)).block _ (lt_of_block HCb.out)).trans HCb.out)
  have g0 : ∀ w0, BW wb w0 → ∀ d' os, (grow (redrawn w0 d') os).cell? ⟨W.heap.size, 0, none⟩ = some (.int .i64 x0) := fun w0 h d' os => by simp [World.cell?, HG.out w0 h d' os]
  have g1 : ∀ w0, BW wb w0 → ∀ d' os, (grow (redrawn w0 d') os).cell? ⟨W.heap.size, 1, none⟩ = some (.int .i64 x1) := fun w0 h d' os => by simp [World.cell?, HG.out w0 h d' os]
  have g2 : ∀ w0, BW wb w0 → ∀ d' os, (grow (redrawn w0 d') os).cell? ⟨W.heap.size, 2, none⟩ = some (.int .i64 x2) := fun w0 h d' os => by simp [World.cell?, HG.out w0 h d' os]
  have g3 : ∀ w0, BW wb w0 → ∀ d' os, (grow (redrawn w0 d') os).cell? ⟨W.heap.size, 3, none⟩ = some (.int .i64 x3) := fun w0 h d' os => by simp [World.cell?, HG.out w0 h d' os]
  refine wp_region_calm1 20 21 19 [0, 1, 2, 3, 4, 5, 6, 7, 8, 9, 10, 11, 12, 13, 14, 15, 16, 17, 18] (obj := .cells (qC ⟨0, 0, 0, 0, 0, 0, 0⟩) 23 (0, 0)) (by kernel_rfl) (by kernel_rfl) (by intro oz h; simp at h) (by intro oz h; simp at h) (by rfl) (by rfl) (fun a w => by kernel_rfl) ?_
  simp only [List.take_succ_cons, List.take_zero, List.eraseIdx_cons_succ, List.eraseIdx_cons_zero]
  apply wpCalm_want
  · rfl
  · exact bc_refl
  · exact ⟨_, Below.refl _ _⟩
  · intro w00 hC0 K hK
    go_big_quiet_op
    exact hK
  apply wpCalm_want
  · rfl
  · exact bc_refl
  · exact ⟨_, Below.refl _ _⟩
  · intro w00 hC0 K hK
    go_big_quiet_op
    exact hK
  apply wpCalm_want
  · rfl
  · exact bc_refl
  · exact ⟨_, Below.refl _ _⟩
  · intro w00 hC0 K hK
    go_big_quiet_op
    apply Exists.intro
    refine ⟨fun p => ?_, ?_⟩
    · exact Calls.regrown_of (P1.out _)
    · exact hK
  apply wpCalm_want
  · rfl
  · exact bc_refl
  · exact ⟨_, Below.refl _ _⟩
  · intro w00 hC0 K hK
    go_big_quiet_op
    exact hK
  apply wpCalm_want
  · rfl
  · exact bc_refl
  · exact ⟨_, Below.refl _ _⟩
  · intro w00 hC0 K hK
    go_big_quiet_op
    exact hK
  apply wpCalm_want
  · rfl
  · exact bc_refl
  · exact ⟨_, Below.refl _ _⟩
  · intro w00 hC0 K hK
    go_big_quiet_op
    apply Exists.intro
    refine ⟨fun p => ?_, ?_⟩
    · exact Calls.regrown_of (P2.out _)
    · exact hK
  apply wpCalm_want
  · rfl
  · exact bc_refl
  · exact ⟨_, Below.refl _ _⟩
  · intro w00 hC0 K hK
    go_big_quiet_op
    exact hK
  apply wpCalm_want
  · rfl
  · exact bc_refl
  · exact ⟨_, Below.refl _ _⟩
  · intro w00 hC0 K hK
    go_big_quiet_op
    exact hK
  apply wpCalm_want
  · rfl
  · exact bc_refl
  · exact ⟨_, Below.refl _ _⟩
  · intro w00 hC0 K hK
    go_big_quiet_op
    apply Exists.intro
    refine ⟨fun p => ?_, ?_⟩
    · exact Calls.regrown_of (P3.out _)
    · exact hK
  apply wpCalm_want
  · rfl
  · exact bc_refl
  · exact ⟨_, Below.refl _ _⟩
  · intro w00 hC0 K hK
    go_big_quiet_op
    exact hK
  apply wpCalm_want
  · rfl
  · exact bc_refl
  · exact ⟨_, Below.refl _ _⟩
  · intro w00 hC0 K hK
    go_big_quiet_op
    exact hK
  apply wpCalm_want
  · rfl
  · exact bc_refl
  · exact ⟨_, Below.refl _ _⟩
  · intro w00 hC0 K hK
    go_big_quiet_op
    apply Exists.intro
    refine ⟨fun p => ?_, ?_⟩
    · exact Calls.regrown_of (P4.out _)
    · exact hK
  apply wpCalm_want
  · rfl
  · exact bc_refl
  · exact ⟨_, Below.refl _ _⟩
  · intro w00 hC0 K hK
    go_big_quiet_op
    exact hK
  simp only [Hy4.out, hw4]
  apply wpCalm_want
  · rfl
  · exact bc_refl
  · exact ⟨_, Below.refl _ _⟩
  · intro w00 hC0 K hK
    go_big_quiet_op
    exact hK
  apply wpCalm_want
  · rfl
  · exact bc_refl
  · exact ⟨_, Below.refl _ _⟩
  · intro w00 hC0 K hK
    go_big_quiet_op
    apply Exists.intro
    refine ⟨fun p => ?_, ?_⟩
    · exact Calls.regrown_of (P5.out _)
    · exact hK
  apply wpCalm_want
  · rfl
  · exact bc_refl
  · exact ⟨_, Below.refl _ _⟩
  · intro w00 hC0 K hK
    go_big_quiet_op
    exact hK
  simp only [Hy5.out, hw5]
  apply wpCalm_want
  · rfl
  · exact bc_refl
  · exact ⟨_, Below.refl _ _⟩
  · intro w00 hC0 K hK
    go_big_quiet_op
    exact hK
  apply wpCalm_want
  · rfl
  · exact bc_refl
  · exact ⟨_, Below.refl _ _⟩
  · intro w00 hC0 K hK
    go_big_quiet_op
    apply Exists.intro
    refine ⟨fun p => ?_, ?_⟩
    · exact Calls.regrown_of (P6.out _)
    · exact hK
  apply wpCalm_want
  · rfl
  · exact bc_refl
  · exact ⟨_, Below.refl _ _⟩
  · intro w00 hC0 K hK
    go_big_quiet_op
    exact hK
  refine wpCalm_nil ?_
  intro qb wc0 hbc hqb hblk
  simp only [List.drop_succ_cons, List.drop_zero, List.getElem_toArray, List.getElem_cons_succ, List.getElem_cons_zero]
  go_frame
  clear g0 g1 g2 g3 hw4 hw5
  refine wpList_store_row rfl 23 _ _ rfl qb (qC ⟨7, z1, z2, z3, y4, y5, z6⟩) rfl rfl 23 _ hblk (by kernel_rfl) rfl (by simp [qC, Value.oneCell']) ?_
  go_frame
  generalize hw3 : wc0.setRow qb (qC ⟨7, z1, z2, z3, y4, y5, z6⟩) = w3
  have HQ3 : Hid (w3.heap[qb]? = some (.cells (qC ⟨7, z1, z2, z3, y4, y5, z6⟩) 23 (0, 0))) := Lib.hid (by rw [← hw3]; exact setRow_heap _ _ _ _ _ _ hblk)
  have HB3 : Hid (Below wb.heap.size wb w3) := Lib.hid (by rw [← hw3]; exact below_row hbc hqb _)
  have HBW3 := Lib.hid (bt HBb.out HB3.out)
  have HS3 := Lib.hid (HS.out.below HB3.out)
  clear hbc hqb hblk hw3 HG HCb P1 P2 P3 P4 P5 P6 HB3 HBb HS Hy4 Hy5
  have c0 : w3.cell? ⟨qb, 0, none⟩ = some (.int .i64 7) := by simp [World.cell?, qC, HQ3.out]
  have c1 : w3.cell? ⟨qb, 1, none⟩ = some (.int .i64 z1) := by simp [World.cell?, qC, HQ3.out]
  have c2 : w3.cell? ⟨qb, 2, none⟩ = some (.int .i64 z2) := by simp [World.cell?, qC, HQ3.out]
  have c3 : w3.cell? ⟨qb, 3, none⟩ = some (.int .i64 z3) := by simp [World.cell?, qC, HQ3.out]
  have c4 : w3.cell? ⟨qb, 4, none⟩ = some (.int .i64 y4) := by simp [World.cell?, qC, HQ3.out]
  have c5 : w3.cell? ⟨qb, 5, none⟩ = some (.int .i64 y5) := by simp [World.cell?, qC, HQ3.out]
  have c6 : w3.cell? ⟨qb, 6, none⟩ = some (.int .i64 z6) := by simp [World.cell?, qC, HQ3.out]
  have HOf := Lib.hid (of_any HS3.out HV.out)
  unfold qV ptr at HOf
  simp only at HOf
  go_wp2_with fail
  (with_reducible refine HOf.out.mono ?_)
  rintro e w4 ⟨u, M, rfl, ho, hsm, hb⟩
  rw [pairs_rows HV.out rfl L M] at ho ⊢
  simp only at ho ⊢
  have HM := Lib.hid hsm
  have hlenM : M.length ≤ 2000 := Nat.le_trans (sort_len hsm) HS3.out.good.2.2
  have HLm := Lib.hid hlenM
  obtain ⟨T, HT⟩ : ∃ T, Hid (M.flatMap (partR L z6 y5) = T) := ⟨_, Lib.hid rfl⟩
  rw [HT.out] at ho
  obtain ⟨l1, n1, p1, rfl⟩ := ho.form
  have HO := Lib.hid ho
  have HN1 : Hid (n1 = T.length ∧ n1 % 2 = 0 ∧ n1 ≤ 4000) := Lib.hid (by
    obtain ⟨a, m, cap, e, e2, _⟩ := ho.rowS
    simp only [Value.slice.injEq] at e
    obtain ⟨rfl, rfl, rfl⟩ := e
    have := parts_len L z6 y5 M
    rw [HT.out] at this
    omega)
  have HQ4 := Lib.hid ((hb.block _ (lt_of_block HQ3.out)).trans HQ3.out)
  have HB4 := Lib.hid (bt HBW3.out hb)
  have HS4 := Lib.hid (HS3.out.below hb)
  clear ho hsm hlenM hb HQ3 HBW3 HS3 HOf c0 c1 c2 c3 c4 c5 c6
  unfold resV
  go_upto_region 5 with fail
  generalize hw5 : w4.alloc _ = w5
  have HR5 : Hid (w5.heap[w4.heap.size]? = some (.cells (resC (.slice l1 n1 p1) 0 false) 27 (0, 0))) := Lib.hid (by rw [← hw5]; exact heap_alloc_new w4 _)
  have HB45 : Hid (Below w4.heap.size w4 w5) := Lib.hid (by rw [← hw5]; exact ba _ _)
  obtain ⟨rB, HrB⟩ : ∃ b, Hid (w4.heap.size = b) := ⟨_, Lib.hid rfl⟩
  have HB5 := Lib.hid (bt HB4.out HB45.out)
  have HQ5 := Lib.hid ((HB45.out.block _ (lt_of_block HQ4.out)).trans HQ4.out)
  have HS5 := Lib.hid (HS4.out.below HB45.out)
  have HO5 := Lib.hid ((HO.out.below HB45.out).rowS)
  rw [HrB.out] at HR5 ⊢
  clear hw5 HO HQ4 HS4 HB4 HB45 HrB
  have r0 : w5.cell? ⟨rB, 0, none⟩ = some (.slice l1 n1 p1) := by simp [World.cell?, HR5.out]
  have hmod : ((n1 : Int) % 2 != 0) = false := by
    have := HN1.out.2.1
    simp
    omega
  have c0 : w5.cell? ⟨qb, 0, none⟩ = some (.int .i64 7) := by simp [World.cell?, qC, HQ5.out]
  have c1 : w5.cell? ⟨qb, 1, none⟩ = some (.int .i64 z1) := by simp [World.cell?, qC, HQ5.out]
  have c2 : w5.cell? ⟨qb, 2, none⟩ = some (.int .i64 z2) := by simp [World.cell?, qC, HQ5.out]
  have c3 : w5.cell? ⟨qb, 3, none⟩ = some (.int .i64 z3) := by simp [World.cell?, qC, HQ5.out]
  have c4 : w5.cell? ⟨qb, 4, none⟩ = some (.int .i64 y4) := by simp [World.cell?, qC, HQ5.out]
  have c5 : w5.cell? ⟨qb, 5, none⟩ = some (.int .i64 y5) := by simp [World.cell?, qC, HQ5.out]
  have c6 : w5.cell? ⟨qb, 6, none⟩ = some (.int .i64 z6) := by simp [World.cell?, qC, HQ5.out]
  have HRg := Lib.hid (range_any HS5.out z1 z2 z3 y4 HI.out.2.2.1 HI.out.2.2.2)
  go_upto_region 7 with fail
  clear hmod
  go_wp2_with fail
  refine HRg.out.mono ?_
  rintro e w6 ⟨u2, N, rfl, ho, hsn, hb⟩
  have hNM : N = M := sortOf_unique (t := z1) HS5.out.good.1 (fun r hr => by unfold selR at hr; simp at hr; exact hr.1) hsn HM.out
  subst hNM
  obtain ⟨l2, n2, p2, rfl⟩ := ho.form
  have HN2 : Hid (n2 = N.length) := Lib.hid (by
    obtain ⟨a, m, cap, e, e2, _⟩ := ho.rowS
    simp only [Value.slice.injEq] at e
    obtain ⟨rfl, rfl, rfl⟩ := e
    exact e2)
  have HVr : Hid (∀ r ∈ N, VRow r) := Lib.hid (fun r hr => HS5.out.good.2.1 r (sort_mem hsn hr))
  have HP2 := Lib.hid ho.rowS
  have HQ6 := Lib.hid ((hb.block _ (lt_of_block HQ5.out)).trans HQ5.out)
  have HR6 := Lib.hid ((hb.block _ (lt_of_block HR5.out)).trans HR5.out)
  have HB6 := Lib.hid (bt HB5.out hb)
  have HS6 := Lib.hid (HS5.out.below hb)
  have HP1 := Lib.hid (HO5.out.below hb)
  clear ho hsn hb HQ5 HR5 HB5 HS5 HO5 HRg r0 c0 c1 c2 c3 c4 c5 c6
  have hn2 : n2 ≤ 2000 := by have := HN2.out; have := HLm.out; omega
  have hn1 : n1 ≤ 4000 := HN1.out.2.2
  go_wp2_with fail
  go_loopw [15, 16] (fun nv i wr => ∃ k a : Nat, k ≤ n2 ∧ a ≤ n1 ∧ i = .int .i64 k ∧ nv = .int .i64 a ∧ Hid (((N.take k).flatMap (partR L z6 y5)).length = a) ∧ Hid (Below w6.heap.size w6 wr)) (fun _ i _ => n2 - (intOf i).toNat)
  case atStart => exact ⟨0, 0, by omega, by omega, rfl, rfl, Lib.hid rfl, Lib.hid (Below.refl _ _)⟩
  case round =>
    obtain ⟨k, a, hk, ha, rfl, rfl, HA, HB⟩ := hrel
    by_cases hlt : k < n2
    · have hki : (k : Int) < n2 := by omega
      have hkN : Hid (k < N.length) := Lib.hid (by rw [← HN2.out]; exact hlt)
      obtain ⟨g2, o2, cp2, e2, hg2, -⟩ := rowS_form n2 HP2.out HN2.out.symm (by omega)
      simp only [Value.slice.injEq] at e2
      obtain ⟨rfl, -, rfl⟩ := e2
      have HRw := Lib.hid ((rowS_at HP2.out k hlt).below hg2 HB.out)
      have hvr := HVr.out (N.getD k rowZ) (by
        rw [List.getD_eq_getElem?_getD, List.getElem?_eq_getElem hkN.out, Option.getD_some]
        exact List.getElem_mem _)
      obtain ⟨⟨rt, rk, ⟨ra, rb, rc⟩⟩, Hr⟩ : ∃ r, Hid (N.getD k rowZ = r) := ⟨_, Lib.hid rfl⟩
      rw [Hr.out] at HRw hvr
      obtain ⟨m, Hm⟩ : ∃ m, Hid (vget ⟨rt, rk, ⟨ra, rb, rc⟩⟩ y5 = m) := ⟨_, Lib.hid rfl⟩
      have hm64 : I64 m := by rw [← Hm.out]; exact vrow_i64 hvr y5
      have HM64 := Lib.hid hm64
      have HVal := Lib.hid (fun w => value_any rt rk ra rb rc y5 w HI.out.1.1 HI.out.1.2)
      simp only [Hm.out] at HVal
      unfold rowV at HVal
      simp only at HVal
      have HQr := Lib.hid ((HB.out.block _ (lt_of_block HQ6.out)).trans HQ6.out)
      have HRr := Lib.hid ((HB.out.block _ (lt_of_block HR6.out)).trans HR6.out)
      clear hvr hm64
      go_upto_region 12 with fail
      have HGr : Hid (∀ w0, BW wr w0 → ∀ d' os, RwO (grow (redrawn w0 d') os) g2 (o2 + k * 5) ⟨rt, rk, ⟨ra, rb, rc⟩⟩) := Lib.hid (fun w0 h d' os => HRw.out.below (Nat.lt_of_lt_of_le hg2 HB.out.size) (bt h (below_regrown w0 d' os)))
      have HGq : Hid (∀ w0, BW wr w0 → ∀ d' os, (grow (redrawn w0 d') os).heap[qb]? = some (.cells (qC ⟨7, z1, z2, z3, y4, y5, z6⟩) 23 (0, 0))) := Lib.hid (fun w0 h d' os => ((show Below wr.heap.size wr (grow (redrawn w0 d') os) from bt h (below_regrown w0 d' os)).block _ (lt_of_block HQr.out)).trans HQr.out)
      have g5 : ∀ w0, BW wr w0 → ∀ d' os, (grow (redrawn w0 d') os).cell? ⟨qb, 5, none⟩ = some (.int .i64 y5) := fun w0 h d' os => by simp [World.cell?, qC, HGq.out w0 h d' os]
      have g0 : ∀ w0, BW wr w0 → ∀ d' os, (grow (redrawn w0 d') os).cell? ⟨g2, o2 + k * 5, none⟩ = some (.int .i64 rt) := fun w0 h d' os => (HGr.out w0 h d' os).cells.1
      have g1 : ∀ w0, BW wr w0 → ∀ d' os, (grow (redrawn w0 d') os).cell? ⟨g2, o2 + k * 5 + 1, none⟩ = some (.int .i64 rk) := fun w0 h d' os => (HGr.out w0 h d' os).cells.2.1
      have gg2 : ∀ w0, BW wr w0 → ∀ d' os, (grow (redrawn w0 d') os).cell? ⟨g2, o2 + k * 5 + 2, none⟩ = some (.int .i64 ra) := fun w0 h d' os => (HGr.out w0 h d' os).cells.2.2.1
      have g3 : ∀ w0, BW wr w0 → ∀ d' os, (grow (redrawn w0 d') os).cell? ⟨g2, o2 + k * 5 + 3, none⟩ = some (.int .i64 rb) := fun w0 h d' os => (HGr.out w0 h d' os).cells.2.2.2.1
      have g4 : ∀ w0, BW wr w0 → ∀ d' os, (grow (redrawn w0 d') os).cell? ⟨g2, o2 + k * 5 + 4, none⟩ = some (.int .i64 rc) := fun w0 h d' os => (HGr.out w0 h d' os).cells.2.2.2.2
      refine wp_region_calm 7 8 [0, 1, 2, 3, 4, 5, 6] (by kernel_rfl) (by kernel_rfl) (by intro oz h; simp at h) (by intro oz h; simp at h) (by rfl) ?_
      simp only [List.take_succ_cons, List.take_zero]
      apply wpCalm_want
      · rfl
      · exact bc_refl
      · exact ⟨_, Below.refl _ _⟩
      · intro w00 hC0 K hK
        go_big_quiet_op
        exact hK
      apply wpCalm_want
      · rfl
      · exact bc_refl
      · exact ⟨_, Below.refl _ _⟩
      · intro w00 hC0 K hK
        go_big_quiet_op
        exact hK
      apply wpCalm_want
      · rfl
      · exact bc_refl
      · exact ⟨_, Below.refl _ _⟩
      · intro w00 hC0 K hK
        go_big_quiet_op
        exact hK
      apply wpCalm_want
      · rfl
      · exact bc_refl
      · exact ⟨_, Below.refl _ _⟩
      · intro w00 hC0 K hK
        go_big_quiet_op
        exact hK
      apply wpCalm_want
      · rfl
      · exact bc_refl
      · exact ⟨_, Below.refl _ _⟩
      · intro w00 hC0 K hK
        go_big_quiet_op
        exact hK
      apply wpCalm_want
      · rfl
      · exact bc_refl
      · exact ⟨_, Below.refl _ _⟩
      · intro w00 hC0 K hK
        go_big_quiet_op
        exact hK
      apply wpCalm_want
      · rfl
      · exact bc_refl
      · exact ⟨_, Below.refl _ _⟩
      · intro w00 hC0 K hK
        go_big_quiet_op
        apply Exists.intro
        refine ⟨fun p => ?_, ?_⟩
        · exact Calls.regrown_of (HVal.out _)
        · exact hK
      refine wpCalm_nil ?_
      intro wq hbq
      simp only [List.drop_succ_cons, List.drop_zero]
      clear g0 g1 gg2 g3 g4 g5
      have HBq := Lib.hid (bt HB.out hbq)
      have HQq := Lib.hid ((hbq.block _ (lt_of_block HQr.out)).trans HQr.out)
      have HRq := Lib.hid ((hbq.block _ (lt_of_block HRr.out)).trans HRr.out)
      have HRwq := Lib.hid (HRw.out.below (Nat.lt_of_lt_of_le hg2 HB.out.size) hbq)
      have HG := Lib.hid (get_any (HS6.out.below HBq.out) (t := z6) (k := m) HI.out.2.1 HM64.out)
      obtain ⟨ok, Hok⟩ : ∃ ok, Hid ((look L z6 m).isSome = ok) := ⟨_, Lib.hid rfl⟩
      obtain ⟨⟨pt, pk', ⟨pa, pb, pc⟩⟩, Hp⟩ : ∃ r, Hid ((look L z6 m).getD rowZ = r) := ⟨_, Lib.hid rfl⟩
      rw [Hok.out, Hp.out] at HG
      unfold rowV at HG
      simp only at HG
      have q6 : wq.cell? ⟨qb, 6, none⟩ = some (.int .i64 z6) := by simp [World.cell?, qC, HQq.out]
      clear hbq HGr HGq HQr HRr HRw HVal
      go_upto_region 13 with fail
      go_wp2_with fail
      (with_reducible refine HG.out.mono ?_)
      rintro e w8 ⟨rfl, hb⟩
      clear q6
      go_upto_region 14 with fail
      generalize hw9 : w8.alloc _ = w9
      have HB89 : Hid (Below wq.heap.size wq w9) := Lib.hid (by rw [← hw9]; exact bt hb (ba _ _))
      have HPb : Hid (w9.heap[w8.heap.size]? = some (.cells #[.int .i64 pt, .int .i64 pk', .int .i64 pa, .int .i64 pb, .int .i64 pc] 31 (0, 0))) := Lib.hid (by rw [← hw9]; exact heap_alloc_new w8 _)
      obtain ⟨pB, HpB⟩ : ∃ b, Hid (w8.heap.size = b) := ⟨_, Lib.hid rfl⟩
      rw [HpB.out] at HPb ⊢
      have HB9 := Lib.hid (bt HBq.out HB89.out)
      have HRw9 := Lib.hid (HRwq.out.below (Nat.lt_of_lt_of_le hg2 HBq.out.size) HB89.out)
      have HR9 := Lib.hid ((HB89.out.block _ (lt_of_block HRq.out)).trans HRq.out)
      clear hw9 hb HRq HRwq HQq HB89 HpB HG HBq
      cases ok
      · have hf : partR L z6 y5 (N.getD k rowZ) = [] := by
          unfold partR
          rw [Hr.out, Hm.out]
          have h := Hok.out
          cases hl : look L z6 m with
          | none => rfl
          | some p => rw [hl] at h; simp at h
        have HA' : Hid (((N.take (k + 1)).flatMap (partR L z6 y5)).length = a) := Lib.hid ((flat_none hkN.out hf).trans HA.out)
        clear hf
        go_wp2_with fail
        exact ⟨⟨k + 1, a, by omega, by omega, by go_num, rfl, HA', HB9⟩, by simp [intOf]; omega⟩
      · have hl : look L z6 m = some ⟨pt, pk', ⟨pa, pb, pc⟩⟩ := by
          have h := Hok.out
          have h2 := Hp.out
          cases hl : look L z6 m with
          | none => rw [hl] at h; simp at h
          | some p => rw [hl] at h2; simpa using h2
        have hf : partR L z6 y5 (N.getD k rowZ) = [⟨rt, rk, ⟨ra, rb, rc⟩⟩, ⟨pt, pk', ⟨pa, pb, pc⟩⟩] := by
          unfold partR
          rw [Hr.out, Hm.out, hl]
        have hpk : pk' = m := ((look_some HS6.out.good.1).1 hl).2.2
        subst hpk
        have HF2 := Lib.hid (flat_two hkN.out hf HA.out)
        rw [HT.out] at HF2
        have HA' : Hid (((N.take (k + 1)).flatMap (partR L z6 y5)).length = a + 2) := Lib.hid HF2.out.2.2.2
        have ha2 : a + 2 ≤ n1 := by have := HF2.out.1; have := HN1.out.1; omega
        clear hf hl
        obtain ⟨g1, o1, cp1, e1, hg1, -⟩ := rowS_form n1 HP1.out HN1.out.1.symm (by omega)
        simp only [Value.slice.injEq] at e1
        obtain ⟨rfl, -, rfl⟩ := e1
        have HX1 := ((rowS_at HP1.out a (by omega)).below hg1 HB9.out).cells
        have HX2 := ((rowS_at HP1.out (a + 1) (by omega)).below hg1 HB9.out).cells
        rw [HF2.out.2.1] at HX1
        rw [HF2.out.2.2.1] at HX2
        obtain ⟨u0, u1, u2, u3, u4⟩ := HX1
        obtain ⟨t0, t1, t2, t3, t4⟩ := HX2
        obtain ⟨y0', y1', y2', y3', y4'⟩ := HRw9.out.cells
        simp only at u0 u1 u2 u3 u4 t0 t1 t2 t3 t4 y0' y1' y2' y3' y4'
        have r0 : w9.cell? ⟨rB, 0, none⟩ = some (.slice (some ⟨g1, o1, none⟩) n1 p1) := by simp [World.cell?, HR9.out]
        have pp0 : w9.cell? ⟨pB, 0, none⟩ = some (.int .i64 pt) := by simp [World.cell?, HPb.out]
        have pp1 : w9.cell? ⟨pB, 1, none⟩ = some (.int .i64 pk') := by simp [World.cell?, HPb.out]
        have pp2 : w9.cell? ⟨pB, 2, none⟩ = some (.int .i64 pa) := by simp [World.cell?, HPb.out]
        have pp3 : w9.cell? ⟨pB, 3, none⟩ = some (.int .i64 pb) := by simp [World.cell?, HPb.out]
        have pp4 : w9.cell? ⟨pB, 4, none⟩ = some (.int .i64 pc) := by simp [World.cell?, HPb.out]
        have hne1 := fun w => neqRow rt rk ra rb rc rt rk ra rb rc w
        have hne2 := fun w => neqRow pt pk' pa pb pc pt pk' pa pb pc w
        have hr1 : rowE ⟨rt, rk, ⟨ra, rb, rc⟩⟩ ⟨rt, rk, ⟨ra, rb, rc⟩⟩ = true := by simp [rowE]
        have hr2 : rowE ⟨pt, pk', ⟨pa, pb, pc⟩⟩ ⟨pt, pk', ⟨pa, pb, pc⟩⟩ = true := by simp [rowE]
        simp only [hr1, Bool.not_true] at hne1
        simp only [hr2, Bool.not_true] at hne2
        clear hr1 hr2
        have hd1 : decide ((n1 : Int) ≤ (a : Int) + 1) = false := decide_eq_false (by omega)
        go_upto_region 15 with fail
        go_quiet (fail)
        have HB10 := Lib.hid (bt HB9.out (below_drewN w9 nq))
        go_wp2_with fail
        exact ⟨⟨k + 1, a + 2, by omega, by omega, by go_num, by go_num, HA', HB10⟩, by simp [intOf]; omega⟩
    · obtain rfl : k = n2 := by omega
      have HE : Hid (n1 = a) := Lib.hid (by
        have h1 := HA.out
        have h2 := HN1.out.1
        rw [HN2.out, List.take_length, HT.out] at h1
        omega)
      have hea : n1 = a := HE.out
      subst hea
      have HRr := Lib.hid ((HB.out.block _ (lt_of_block HR6.out)).trans HR6.out)
      have HBf := Lib.hid (bt HB6.out HB.out)
      have r0 : wr.cell? ⟨rB, 0, none⟩ = some (.slice l1 n1 p1) := by simp [World.cell?, HRr.out]
      have r1 : wr.cell? ⟨rB, 1, none⟩ = some (.int .i64 0) := by simp [World.cell?, HRr.out]
      have r2 : wr.cell? ⟨rB, 2, none⟩ = some (.bool false) := by simp [World.cell?, HRr.out]
      go_wp2_with fail
      go_ret
      exact ⟨rfl, HBf.out⟩
end Go.Proofs.Ytcffofjialihaaa
