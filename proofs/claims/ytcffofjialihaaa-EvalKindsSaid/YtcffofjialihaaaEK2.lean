/- WALK: EvalKinds. -/
import Derived.Test.YtcffofjialihaaaEK
set_option linter.unusedVariables false
set_option linter.unusedSimpArgs false
namespace Go.Proofs.Ytcffofjialihaaa
open Go.RowKit Go.Sort Go.ChangeMaps Go.MapKept

set_option maxRecDepth 100000 in
set_option maxHeartbeats 16000000 in
theorem kinds_of {W : World} {v : Value} {n : Nat} (h : XS4 W v n) {x : X4} (hx : x.Ok) {bv : Int} (hbv : I64 bv) : Calls Try.prog 5 #[v, x4V x, .int .i64 bv] W fun e w' => e = .returned (.bool true) ∧ Below W.heap.size W w' := by
  have HX := Lib.hid h
  obtain ⟨x0, x1, x2, x3⟩ := x
  obtain ⟨hx0, hx1, hx2, hx3⟩ := hx
  simp only at hx0 hx1 hx2 hx3
  have P1 := Lib.hid (fun w => pickB x0 2 w hx0 (by omega) (by omega))
  have P2 := Lib.hid (fun w => pickB x1 4 w hx1 (by omega) (by omega))
  have P3 := Lib.hid (fun w => pickB x2 10 w hx2 (by omega) (by omega))
  have P5 := Lib.hid (fun w => pick6_any bv 3 w hbv (by omega) (by omega))
  have P6 := Lib.hid (fun w => pick6_any bv 2 w hbv (by omega) (by omega))
  have r1 := pk_range x0 (n := 2) (by omega)
  have r2 := pk_range x1 (n := 4) (by omega)
  have r3 := pk_range x2 (n := 10) (by omega)
  have r5 := pk_range bv (n := 3) (by omega)
  have r6 := pk_range bv (n := 2) (by omega)
  generalize pk x0 2 = z1 at *
  generalize pk x1 4 = z2 at *
  generalize pk x2 10 = z3 at *
  generalize pk bv 3 = z5 at *
  generalize pk bv 2 = z6 at *
  have HR := Lib.hid (And.intro r1 (And.intro r2 (And.intro r3 (And.intro r5 r6))))
  obtain ⟨y5, Hy5⟩ : ∃ y, Hid (1 + z5 = y) := ⟨_, Lib.hid rfl⟩
  have hw5 : wrap64 (1 + z5) = y5 := by rw [← Hy5.out]; unfold wrap64; omega
  have HQf := Lib.hid (fun (a : Int) (ha : I64 a) w => query_any ⟨a, x1, x2, x3⟩ ⟨ha, hx1, hx2, hx3⟩ w)
  unfold x4V at *
  simp only at *
  have hdx : I64 (Int.tdiv x0 7) := tdiv_i64 hx0 (by omega)
  have hwd : wrap64 (Int.tdiv x0 7) = Int.tdiv x0 7 := by unfold I64 at hdx; unfold wrap64; omega
  clear hx0 hx1 hx2 hx3 hbv r1 r2 r3 r5 r6 h hdx
  go_enter Try.func5, Try.ntmps5
  go_upto_region 1 with fail
  generalize hw0 : W.alloc (.cells #[.int .i64 x0, .int .i64 x1, .int .i64 x2, .int .i64 x3] 24) = w0
  have HB0 : Hid (Below W.heap.size W w0) := Lib.hid (by rw [← hw0]; exact ba _ _)
  have HC0 : Hid (w0.heap[W.heap.size]? = some (.cells #[.int .i64 x0, .int .i64 x1, .int .i64 x2, .int .i64 x3] 24 (0, 0))) := Lib.hid (by rw [← hw0]; exact heap_alloc_new W _)
  clear hw0
  go_wp2_with fail
  refine (sane_any _).mono ?_
  rintro e w1 ⟨rfl, hb⟩
  have HB1 := Lib.hid (bt HB0.out hb)
  have HC1 := Lib.hid ((hb.block _ (lt_of_block HC0.out)).trans HC0.out)
  clear hb HC0 HB0
  go_wp2_with fail
  refine (state_any (HX.out.below HB1.out)).mono ?_
  rintro e wb ⟨R, sb, sm, rfl, hst, -, -, -, hb⟩
  obtain ⟨L, HLe⟩ : ∃ L, Hid (rowsOf R = L) := ⟨_, Lib.hid rfl⟩
  obtain ⟨sp, Hsp⟩ : ∃ p : Int, Hid ((R.length : Int) = p) := ⟨_, Lib.hid rfl⟩
  rw [HLe.out, Hsp.out] at hst
  have HS := Lib.hid hst
  have HBb := Lib.hid (bt HB1.out hb)
  have HCb := Lib.hid ((hb.block _ (lt_of_block HC1.out)).trans HC1.out)
  clear hb HC1 HB1 hst HX HLe Hsp
  have y0 : wb.cell? ⟨W.heap.size, 0, none⟩ = some (.int .i64 x0) := by simp [World.cell?, HCb.out]
  have y1 : wb.cell? ⟨W.heap.size, 1, none⟩ = some (.int .i64 x1) := by simp [World.cell?, HCb.out]
  have y2 : wb.cell? ⟨W.heap.size, 2, none⟩ = some (.int .i64 x2) := by simp [World.cell?, HCb.out]
  have y3 : wb.cell? ⟨W.heap.size, 3, none⟩ = some (.int .i64 x3) := by simp [World.cell?, HCb.out]
  go_wp2_with fail
  (with_reducible refine (HQf.out _ (by unfold I64 wrap64; omega) _).mono ?_)
  rintro e w3 ⟨rfl, hb⟩
  have HV0 := Lib.hid (qryX_valid ⟨wrap64 (wrap64 (7 * x0.tdiv 7) + 1), x1, x2, x3⟩)
  obtain ⟨⟨qk, qt, qc, ql, qh, qy, qo⟩, Hq⟩ : ∃ q, Hid (qryX ⟨wrap64 (wrap64 (7 * x0.tdiv 7) + 1), x1, x2, x3⟩ = q) := ⟨_, Lib.hid rfl⟩
  rw [Hq.out] at HV0 ⊢
  unfold qV
  simp only
  clear Hq HQf y0 y1 y2 y3 hwd
  go_upto_region 4 with fail
  generalize hw4 : w3.alloc _ = w4
  have HB34 := Lib.hid (show Below wb.heap.size wb w4 by rw [← hw4]; exact bt hb (ba w3 _))
  have HQ4 : Hid (w4.heap[w3.heap.size]? = some (.cells (qC ⟨qk, qt, qc, ql, qh, qy, qo⟩) 23 (0, 0))) := Lib.hid (by rw [← hw4]; exact heap_alloc_new w3 _)
  have hqbx := lt_of_block HCb.out
  have hqby := HS.out.lt
  have hqbz := hb.size
  have HNq : Hid (wb.heap.size ≤ w3.heap.size) := Lib.hid hb.size
  obtain ⟨qb, Hqb⟩ : ∃ b, Hid (w3.heap.size = b) := ⟨_, Lib.hid rfl⟩
  rw [Hqb.out] at HQ4 HNq ⊢
  have HC4 := Lib.hid ((HB34.out.block _ (lt_of_block HCb.out)).trans HCb.out)
  clear hw4 hb HCb hqbx hqby hqbz Hqb
  have q0 : w4.cell? ⟨qb, 0, none⟩ = some (.int .i64 qk) := by simp [World.cell?, HQ4.out]
  go_upto_if 45 with fail
  go_cut [] (fun wy => ∃ t c l h, Hid (validB ⟨2, t, c, l, h, 0, 0⟩ = true) ∧ Hid (Below wb.heap.size wb wy) ∧ Hid (wy.heap[qb]? = some (.cells (qC ⟨2, t, c, l, h, 0, 0⟩) 23 (0, 0))))
  case first =>
    by_cases hk2 : qk = 2
    · have hne : (qk != 2) = false := by simp [hk2]
      have HK : Hid (qy = 0 ∧ qo = 0) := Lib.hid (by
        have h := HV0.out
        subst hk2
        simp [validB, scanB] at h
        omega)
      subst hk2
      go_wp2_with fail
      go_meet
      refine ⟨qt, qc, ql, qh, Lib.hid ?_, HB34, Lib.hid ?_⟩
      · have h := HV0.out
        rw [HK.out.1, HK.out.2] at h
        exact h
      · have h := HQ4.out
        rw [HK.out.1, HK.out.2] at h
        exact h
    · have hne : (qk != 2) = true := by simp [hk2]
      clear hk2
      go_upto_region 5 with fail
      have HG : Hid (∀ w0, BW w4 w0 → ∀ d' os, (grow (redrawn w0 d') os).heap[W.heap.size]? = some (.cells #[.int .i64 x0, .int .i64 x1, .int .i64 x2, .int .i64 x3] 24 (0, 0))) := Lib.hid (fun w0 h d' os => ((show Below w4.heap.size w4 (grow (redrawn w0 d') os) from bt h (below_regrown w0 d' os)).block _ (lt_of_block HC4.out)).trans HC4.out)
      have g0 : ∀ w0, BW w4 w0 → ∀ d' os, (grow (redrawn w0 d') os).cell? ⟨W.heap.size, 0, none⟩ = some (.int .i64 x0) := fun w0 h d' os => by simp [World.cell?, HG.out w0 h d' os]
      have g1 : ∀ w0, BW w4 w0 → ∀ d' os, (grow (redrawn w0 d') os).cell? ⟨W.heap.size, 1, none⟩ = some (.int .i64 x1) := fun w0 h d' os => by simp [World.cell?, HG.out w0 h d' os]
      have g2 : ∀ w0, BW w4 w0 → ∀ d' os, (grow (redrawn w0 d') os).cell? ⟨W.heap.size, 2, none⟩ = some (.int .i64 x2) := fun w0 h d' os => by simp [World.cell?, HG.out w0 h d' os]
      refine wp_region_calm 10 11 [0, 1, 2, 3, 4, 5, 6, 7, 8, 9] (by kernel_rfl) (by kernel_rfl) (by intro oz h; simp at h) (by intro oz h; simp at h) (by rfl) ?_
      simp only [List.take_succ_cons, List.take_zero]
      apply wpCalm_want
      · rfl
      · exact bc_refl
      · exact ⟨_, Below.refl _ _⟩
      · intro w00 hC0 K hK
        go_big_quiet_op
        exact hK
      apply wpCalm_want
      · rfl
      · exact bc_refl
      · exact ⟨_, Below.refl _ _⟩
      · intro w00 hC0 K hK
        go_big_quiet_op
        exact hK
      apply wpCalm_want
      · rfl
      · exact bc_refl
      · exact ⟨_, Below.refl _ _⟩
      · intro w00 hC0 K hK
        go_big_quiet_op
        apply Exists.intro
        refine ⟨fun p => ?_, ?_⟩
        · exact Calls.regrown_of (P1.out _)
        · exact hK
      apply wpCalm_want
      · rfl
      · exact bc_refl
      · exact ⟨_, Below.refl _ _⟩
      · intro w00 hC0 K hK
        go_big_quiet_op
        exact hK
      apply wpCalm_want
      · rfl
      · exact bc_refl
      · exact ⟨_, Below.refl _ _⟩
      · intro w00 hC0 K hK
        go_big_quiet_op
        exact hK
      apply wpCalm_want
      · rfl
      · exact bc_refl
      · exact ⟨_, Below.refl _ _⟩
      · intro w00 hC0 K hK
        go_big_quiet_op
        apply Exists.intro
        refine ⟨fun p => ?_, ?_⟩
        · exact Calls.regrown_of (P2.out _)
        · exact hK
      apply wpCalm_want
      · rfl
      · exact bc_refl
      · exact ⟨_, Below.refl _ _⟩
      · intro w00 hC0 K hK
        go_big_quiet_op
        exact hK
      apply wpCalm_want
      · rfl
      · exact bc_refl
      · exact ⟨_, Below.refl _ _⟩
      · intro w00 hC0 K hK
        go_big_quiet_op
        exact hK
      apply wpCalm_want
      · rfl
      · exact bc_refl
      · exact ⟨_, Below.refl _ _⟩
      · intro w00 hC0 K hK
        go_big_quiet_op
        apply Exists.intro
        refine ⟨fun p => ?_, ?_⟩
        · exact Calls.regrown_of (P3.out _)
        · exact hK
      apply wpCalm_want
      · rfl
      · exact bc_refl
      · exact ⟨_, Below.refl _ _⟩
      · intro w00 hC0 K hK
        go_big_quiet_op
        exact hK
      refine wpCalm_nil ?_
      intro wq hbq
      try simp only [List.drop_succ_cons, List.drop_zero]
      try go_frame
      clear g0 g1 g2
      have HQq := Lib.hid ((hbq.block _ (lt_of_block HQ4.out)).trans HQ4.out)
      refine wpList_store_row rfl 23 _ _ rfl qb (qC ⟨2, z1, z2, z3, 12, 0, 0⟩) rfl rfl 23 _ HQq.out (by kernel_rfl) rfl (by simp [qC, Value.oneCell']) ?_
      go_frame
      generalize hwr : wq.setRow qb (qC ⟨2, z1, z2, z3, 12, 0, 0⟩) = wz
      have HQz : Hid (wz.heap[qb]? = some (.cells (qC ⟨2, z1, z2, z3, 12, 0, 0⟩) 23 (0, 0))) := Lib.hid (by rw [← hwr]; exact setRow_heap _ _ _ _ _ _ HQq.out)
      have HBz : Hid (Below wb.heap.size wb wz) := Lib.hid (by rw [← hwr]; exact below_row (bt HB34.out hbq) HNq.out _)
      clear hwr hbq q0 hne HG
      go_wp2_with fail
      go_meet
      refine ⟨z1, z2, z3, 12, Lib.hid ?_, HBz, HQz⟩
      have := HR.out
      simp [validB, scanB]
      omega
  case rest =>
    obtain ⟨t, c, l, h, HV2, HBy, HQy⟩ := hcut
    rename World => wy
    clear HV0 HQ4 HC4 q0 HB34 P1 P2 P3
    have HE0 : Hid (SEg L sp W wy sb sm qb ⟨2, t, c, l, h, 0, 0⟩ [] []) := Lib.hid ⟨HS.out.below HBy.out, by have := HS.out.lt; have := HNq.out; omega, fun e => by have := HS.out.mlt e; have := HNq.out; omega, HQy.out, fun x hx => by simp at hx, fun x hx => by simp at hx, bt HBb.out HBy.out, Nat.le_trans HBb.out.size HNq.out⟩
    have HR' := HR.out
    have HVs : Hid (validB ⟨3, t, c, l, h, 0, 0⟩ = true ∧ validB ⟨4, t, c, l, h, y5, 0⟩ = true ∧ validB ⟨5, t, c, l, h, y5, 0⟩ = true ∧ validB ⟨6, t, c, l, h, y5, 0⟩ = true ∧ validB ⟨7, t, c, l, h, y5, z6⟩ = true) := Lib.hid (by
      have h0 := HV2.out
      have e5 := Hy5.out
      simp [validB, scanB] at h0 ⊢
      omega)
    clear HR'
    obtain ⟨q0, q1, q2, q3, q4, q5, q6⟩ := qAt_of HE0.out.qblk
    simp only at q0 q1 q2 q3 q4 q5 q6
    have HC := Lib.hid (of_any HE0.out.st HV2.out)
    unfold ptr qV at HC
    simp only at HC
    go_wp2_with fail
    refine HC.out.mono ?_
    rintro e u1 ⟨u, M, rfl, ho, hsm, hb⟩
    rw [res2 HV2.out rfl] at ho ⊢
    simp only at ho ⊢
    have HM := Lib.hid hsm
    have HLM : Hid (M.length ≤ 2000) := Lib.hid (Nat.le_trans (sort_len hsm) HE0.out.st.good.2.2)
    have HVr : Hid (∀ r ∈ M, VRow r) := Lib.hid (fun r hr => HE0.out.st.good.2.1 r (sort_mem hsm hr))
    obtain ⟨a1, n1, c1, rfl⟩ := ho.form
    have HN1 : Hid (n1 = M.length) := Lib.hid (by
      obtain ⟨a, m, cap, e, e2, _⟩ := ho.rowS
      simp only [Value.slice.injEq] at e
      obtain ⟨rfl, rfl, rfl⟩ := e
      exact e2)
    have HEn := Lib.hid ((HE0.out.below hb).res' a1 n1 c1 0 false M (ho.mono (Nat.succ_le_of_lt (lt_of_block HE0.out.qblk))))
    clear ho hb hsm HC q0 q1 q2 q3 q4 q5 q6
    unfold resV
    go_upto_region 7 with fail
    generalize hz1 : u1.alloc (.cells #[.slice a1 n1 c1, .int .i64 0, .bool false] 27) = x1 at HEn ⊢
    obtain ⟨rb1, Hrb1⟩ : ∃ x, Hid (u1.heap.size = x) := ⟨_, Lib.hid rfl⟩
    rw [Hrb1.out] at HEn ⊢
    have HE1 := HEn
    clear hz1 HEn
    go_upto_region 9 with fail
    have f0 : x1.frozen? ⟨qb, 0, none⟩ = false := by simp [World.frozen?, HE1.out.qblk]
    obtain ⟨q0, q1, q2, q3, q4, q5, q6⟩ := qAt_of HE1.out.qblk
    simp only at q0 q1 q2 q3 q4 q5 q6
    go_upto_region 10 with fail
    have HEs := Lib.hid (HE1.out.set (j := 0) (u := .int .i64 3) (q' := ⟨3, t, c, l, h, 0, 0⟩) rfl)
    generalize hy1_0 : x1.setCell ⟨qb, 0, none⟩ (.int .i64 3) = y1_0 at HEs ⊢
    have HEs1_0 := HEs
    clear hy1_0 HEs f0 q0 q1 q2 q3 q4 q5 q6
    obtain ⟨lv, Hlv⟩ : ∃ x, Hid ((extF ltB y5 M).1 = x) := ⟨_, Lib.hid rfl⟩
    obtain ⟨lf, Hlf⟩ : ∃ x, Hid ((extF ltB y5 M).2 = x) := ⟨_, Lib.hid rfl⟩
    obtain ⟨gv, Hgv⟩ : ∃ x, Hid ((extF gtB y5 M).1 = x) := ⟨_, Lib.hid rfl⟩
    obtain ⟨gf, Hgf⟩ : ∃ x, Hid ((extF gtB y5 M).2 = x) := ⟨_, Lib.hid rfl⟩
    obtain ⟨sv, Hsv⟩ : ∃ x, Hid (sumM y5 M = x) := ⟨_, Lib.hid rfl⟩
    obtain ⟨T, HT⟩ : ∃ x, Hid (M.flatMap (partR L z6 y5) = x) := ⟨_, Lib.hid rfl⟩
    obtain ⟨q0, q1, q2, q3, q4, q5, q6⟩ := qAt_of HEs1_0.out.qblk
    simp only at q0 q1 q2 q3 q4 q5 q6
    have HC := Lib.hid (ofG_any (rows := []) (v := n1) (f := false) (q := ⟨3, t, c, l, h, 0, 0⟩) HEs1_0.out.st HVs.out.1 HM.out ((res3 HVs.out.1 rfl M _).trans (by rw [← HN1.out])))
    unfold ptr qV at HC
    simp only at HC
    go_wp2_with fail
    refine HC.out.mono ?_
    rintro e u2 ⟨a2, n2, c2, rfl, ho, hb⟩
    have HEn := Lib.hid ((HEs1_0.out.below hb).res' a2 n2 c2 n1 false [] (ho.mono (Nat.succ_le_of_lt (lt_of_block HEs1_0.out.qblk))))
    clear ho hb HC q0 q1 q2 q3 q4 q5 q6
    go_upto_region 11 with fail
    generalize hz2 : u2.alloc (.cells #[.slice a2 n2 c2, .int .i64 n1, .bool false] 27) = x2 at HEn ⊢
    obtain ⟨rb2, Hrb2⟩ : ∃ x, Hid (u2.heap.size = x) := ⟨_, Lib.hid rfl⟩
    rw [Hrb2.out] at HEn ⊢
    have HE2 := HEn
    clear hz2 HEn
    have f0 : x2.frozen? ⟨qb, 5, none⟩ = false := by simp [World.frozen?, HE2.out.qblk]
    obtain ⟨q0, q1, q2, q3, q4, q5, q6⟩ := qAt_of HE2.out.qblk
    simp only at q0 q1 q2 q3 q4 q5 q6
    go_wp2_with fail
    refine (P5.out _).mono ?_
    rintro e wpk ⟨rfl, rfl⟩
    go_upto_region 12 with fail
    have HEs := Lib.hid (HE2.out.set (j := 5) (u := .int .i64 y5) (q' := ⟨3, t, c, l, h, y5, 0⟩) rfl)
    generalize hy2_0 : x2.setCell ⟨qb, 5, none⟩ (.int .i64 y5) = y2_0 at HEs ⊢
    have HEs2_0 := HEs
    clear hy2_0 HEs f0 q0 q1 q2 q3 q4 q5 q6
    have f0 : y2_0.frozen? ⟨qb, 0, none⟩ = false := by simp [World.frozen?, HEs2_0.out.qblk]
    obtain ⟨q0, q1, q2, q3, q4, q5, q6⟩ := qAt_of HEs2_0.out.qblk
    simp only at q0 q1 q2 q3 q4 q5 q6
    go_upto_region 13 with fail
    have HEs := Lib.hid (HEs2_0.out.set (j := 0) (u := .int .i64 4) (q' := ⟨4, t, c, l, h, y5, 0⟩) rfl)
    generalize hy2_1 : y2_0.setCell ⟨qb, 0, none⟩ (.int .i64 4) = y2_1 at HEs ⊢
    have HEs2_1 := HEs
    clear hy2_1 HEs f0 q0 q1 q2 q3 q4 q5 q6
    obtain ⟨q0, q1, q2, q3, q4, q5, q6⟩ := qAt_of HEs2_1.out.qblk
    simp only at q0 q1 q2 q3 q4 q5 q6
    have HC := Lib.hid (ofG_any (rows := []) (v := sv) (f := false) (q := ⟨4, t, c, l, h, y5, 0⟩) HEs2_1.out.st HVs.out.2.1 HM.out ((res4 HVs.out.2.1 rfl M _).trans (by simp only [Hsv.out])))
    unfold ptr qV at HC
    simp only at HC
    go_wp2_with fail
    refine HC.out.mono ?_
    rintro e u3 ⟨a3, n3, c3, rfl, ho, hb⟩
    have HEn := Lib.hid ((HEs2_1.out.below hb).res' a3 n3 c3 sv false [] (ho.mono (Nat.succ_le_of_lt (lt_of_block HEs2_1.out.qblk))))
    clear ho hb HC q0 q1 q2 q3 q4 q5 q6
    go_upto_region 14 with fail
    generalize hz3 : u3.alloc (.cells #[.slice a3 n3 c3, .int .i64 sv, .bool false] 27) = x3 at HEn ⊢
    obtain ⟨rb3, Hrb3⟩ : ∃ x, Hid (u3.heap.size = x) := ⟨_, Lib.hid rfl⟩
    rw [Hrb3.out] at HEn ⊢
    have HE3 := HEn
    clear hz3 HEn
    have f0 : x3.frozen? ⟨qb, 0, none⟩ = false := by simp [World.frozen?, HE3.out.qblk]
    obtain ⟨q0, q1, q2, q3, q4, q5, q6⟩ := qAt_of HE3.out.qblk
    simp only at q0 q1 q2 q3 q4 q5 q6
    go_upto_region 15 with fail
    have HEs := Lib.hid (HE3.out.set (j := 0) (u := .int .i64 5) (q' := ⟨5, t, c, l, h, y5, 0⟩) rfl)
    generalize hy3_0 : x3.setCell ⟨qb, 0, none⟩ (.int .i64 5) = y3_0 at HEs ⊢
    have HEs3_0 := HEs
    clear hy3_0 HEs f0 q0 q1 q2 q3 q4 q5 q6
    obtain ⟨q0, q1, q2, q3, q4, q5, q6⟩ := qAt_of HEs3_0.out.qblk
    simp only at q0 q1 q2 q3 q4 q5 q6
    have HC := Lib.hid (ofG_any (rows := []) (v := lv) (f := lf) (q := ⟨5, t, c, l, h, y5, 0⟩) HEs3_0.out.st HVs.out.2.2.1 HM.out ((res5 HVs.out.2.2.1 rfl M _).trans (by simp only [Hlv.out, Hlf.out])))
    unfold ptr qV at HC
    simp only at HC
    go_wp2_with fail
    refine HC.out.mono ?_
    rintro e u4 ⟨a4, n4, c4, rfl, ho, hb⟩
    have HEn := Lib.hid ((HEs3_0.out.below hb).res' a4 n4 c4 lv lf [] (ho.mono (Nat.succ_le_of_lt (lt_of_block HEs3_0.out.qblk))))
    clear ho hb HC q0 q1 q2 q3 q4 q5 q6
    go_upto_region 16 with fail
    generalize hz4 : u4.alloc (.cells #[.slice a4 n4 c4, .int .i64 lv, .bool lf] 27) = x4 at HEn ⊢
    obtain ⟨rb4, Hrb4⟩ : ∃ x, Hid (u4.heap.size = x) := ⟨_, Lib.hid rfl⟩
    rw [Hrb4.out] at HEn ⊢
    have HE4 := HEn
    clear hz4 HEn
    have f0 : x4.frozen? ⟨qb, 0, none⟩ = false := by simp [World.frozen?, HE4.out.qblk]
    obtain ⟨q0, q1, q2, q3, q4, q5, q6⟩ := qAt_of HE4.out.qblk
    simp only at q0 q1 q2 q3 q4 q5 q6
    go_upto_region 17 with fail
    have HEs := Lib.hid (HE4.out.set (j := 0) (u := .int .i64 6) (q' := ⟨6, t, c, l, h, y5, 0⟩) rfl)
    generalize hy4_0 : x4.setCell ⟨qb, 0, none⟩ (.int .i64 6) = y4_0 at HEs ⊢
    have HEs4_0 := HEs
    clear hy4_0 HEs f0 q0 q1 q2 q3 q4 q5 q6
    obtain ⟨q0, q1, q2, q3, q4, q5, q6⟩ := qAt_of HEs4_0.out.qblk
    simp only at q0 q1 q2 q3 q4 q5 q6
    have HC := Lib.hid (ofG_any (rows := []) (v := gv) (f := gf) (q := ⟨6, t, c, l, h, y5, 0⟩) HEs4_0.out.st HVs.out.2.2.2.1 HM.out ((res6 HVs.out.2.2.2.1 rfl M _).trans (by simp only [Hgv.out, Hgf.out])))
    unfold ptr qV at HC
    simp only at HC
    go_wp2_with fail
    refine HC.out.mono ?_
    rintro e u5 ⟨a5, n5, c5, rfl, ho, hb⟩
    have HEn := Lib.hid ((HEs4_0.out.below hb).res' a5 n5 c5 gv gf [] (ho.mono (Nat.succ_le_of_lt (lt_of_block HEs4_0.out.qblk))))
    clear ho hb HC q0 q1 q2 q3 q4 q5 q6
    go_upto_region 18 with fail
    generalize hz5 : u5.alloc (.cells #[.slice a5 n5 c5, .int .i64 gv, .bool gf] 27) = x5 at HEn ⊢
    obtain ⟨rb5, Hrb5⟩ : ∃ x, Hid (u5.heap.size = x) := ⟨_, Lib.hid rfl⟩
    rw [Hrb5.out] at HEn ⊢
    have HE5 := HEn
    clear hz5 HEn
    have f0 : x5.frozen? ⟨qb, 0, none⟩ = false := by simp [World.frozen?, HE5.out.qblk]
    obtain ⟨q0, q1, q2, q3, q4, q5, q6⟩ := qAt_of HE5.out.qblk
    simp only at q0 q1 q2 q3 q4 q5 q6
    go_upto_region 19 with fail
    have HEs := Lib.hid (HE5.out.set (j := 0) (u := .int .i64 7) (q' := ⟨7, t, c, l, h, y5, 0⟩) rfl)
    generalize hy5_0 : x5.setCell ⟨qb, 0, none⟩ (.int .i64 7) = y5_0 at HEs ⊢
    have HEs5_0 := HEs
    clear hy5_0 HEs f0 q0 q1 q2 q3 q4 q5 q6
    have f0 : y5_0.frozen? ⟨qb, 6, none⟩ = false := by simp [World.frozen?, HEs5_0.out.qblk]
    obtain ⟨q0, q1, q2, q3, q4, q5, q6⟩ := qAt_of HEs5_0.out.qblk
    simp only at q0 q1 q2 q3 q4 q5 q6
    go_wp2_with fail
    refine (P6.out _).mono ?_
    rintro e wpk ⟨rfl, rfl⟩
    go_upto_region 20 with fail
    have HEs := Lib.hid (HEs5_0.out.set (j := 6) (u := .int .i64 z6) (q' := ⟨7, t, c, l, h, y5, z6⟩) rfl)
    generalize hy5_1 : y5_0.setCell ⟨qb, 6, none⟩ (.int .i64 z6) = y5_1 at HEs ⊢
    have HEs5_1 := HEs
    clear hy5_1 HEs f0 q0 q1 q2 q3 q4 q5 q6
    obtain ⟨q0, q1, q2, q3, q4, q5, q6⟩ := qAt_of HEs5_1.out.qblk
    simp only at q0 q1 q2 q3 q4 q5 q6
    have HC := Lib.hid (ofG_any (rows := T) (v := 0) (f := false) (q := ⟨7, t, c, l, h, y5, z6⟩) HEs5_1.out.st HVs.out.2.2.2.2 HM.out ((pairs_rows HVs.out.2.2.2.2 rfl L M).trans (by simp only [HT.out])))
    unfold ptr qV at HC
    simp only at HC
    go_wp2_with fail
    refine HC.out.mono ?_
    rintro e u6 ⟨a6, n6, c6, rfl, ho, hb⟩
    have HN6 : Hid (n6 = T.length ∧ n6 ≤ 2 * n1 ∧ n6 ≤ 4000) := Lib.hid (by
      obtain ⟨a, m, cap, e, e2, _⟩ := ho.rowS
      simp only [Value.slice.injEq] at e
      obtain ⟨rfl, rfl, rfl⟩ := e
      have := parts_len L z6 y5 M
      rw [HT.out] at this
      have := HN1.out
      have := HLM.out
      omega)
    have HEn := Lib.hid ((HEs5_1.out.below hb).res' a6 n6 c6 0 false T (ho.mono (Nat.succ_le_of_lt (lt_of_block HEs5_1.out.qblk))))
    clear ho hb HC q0 q1 q2 q3 q4 q5 q6
    go_upto_region 21 with fail
    generalize hz6 : u6.alloc (.cells #[.slice a6 n6 c6, .int .i64 0, .bool false] 27) = x6 at HEn ⊢
    obtain ⟨rb6, Hrb6⟩ : ∃ x, Hid (u6.heap.size = x) := ⟨_, Lib.hid rfl⟩
    rw [Hrb6.out] at HEn ⊢
    have HE6 := HEn
    clear hz6 HEn
    clear HE0 HE1 HE2 HE3 HE4 HE5 HEs1_0 HEs2_0 HEs2_1 HEs3_0 HEs4_0 HEs5_0 HEs5_1 P5 P6
    have HF : Hid (∀ w, Below x6.heap.size x6 w → w.cell? ⟨rb1, 0, none⟩ = some (.slice a1 n1 c1) ∧ w.cell? ⟨rb2, 1, none⟩ = some (.int .i64 n1) ∧ w.cell? ⟨rb3, 1, none⟩ = some (.int .i64 sv) ∧ w.cell? ⟨rb4, 1, none⟩ = some (.int .i64 lv) ∧ w.cell? ⟨rb4, 2, none⟩ = some (.bool lf) ∧ w.cell? ⟨rb5, 1, none⟩ = some (.int .i64 gv) ∧ w.cell? ⟨rb5, 2, none⟩ = some (.bool gf) ∧ w.cell? ⟨rb6, 0, none⟩ = some (.slice a6 n6 c6) ∧ w.cell? ⟨qb, 5, none⟩ = some (.int .i64 y5)) := Lib.hid (fun w hb => by
      have h := HE6.out.below hb
      have r1 := (h.res (rb1, .slice a1 n1 c1, 0, false) (by simp)).1
      have r2 := (h.res (rb2, .slice a2 n2 c2, n1, false) (by simp)).1
      have r3 := (h.res (rb3, .slice a3 n3 c3, sv, false) (by simp)).1
      have r4 := (h.res (rb4, .slice a4 n4 c4, lv, lf) (by simp)).1
      have r5 := (h.res (rb5, .slice a5 n5 c5, gv, gf) (by simp)).1
      have r6 := (h.res (rb6, .slice a6 n6 c6, 0, false) (by simp)).1
      have rq := h.qblk
      simp only at r1 r2 r3 r4 r5 r6
      refine ⟨?_, ?_, ?_, ?_, ?_, ?_, ?_, ?_, ?_⟩ <;> simp only [World.cell?, r1, r2, r3, r4, r5, r6, rq] <;> rfl)
    have HRw : Hid (∀ w, Below x6.heap.size x6 w → RowS w (.slice a1 n1 c1) M) := Lib.hid (fun w hb => ((HE6.out.below hb).rows (.slice a1 n1 c1, M) (by simp)).rowS)
    have HBx := Lib.hid HE6.out.old
    have HXf := Lib.hid (ext_facts y5 M)
    rw [Hlv.out, Hlf.out, Hgv.out, Hgf.out] at HXf
    have HY5 : Hid (-9223372036854775808 ≤ y5 ∧ y5 ≤ 9223372036854775807) := Lib.hid (by have := Hy5.out; have := HR.out; omega)
    clear HE6 HS HNq HBb HVs HV2 HBy HQy HR
    have hn1 : n1 ≤ 2000 := by have := HN1.out; have := HLM.out; omega
    have hn6 : n6 ≤ 2 * n1 := HN6.out.2.1
    go_upto_region 24 with fail
    go_loopw [22, 23, 24] (fun nv bv' iv wr => ∃ k : Nat, k ≤ n1 ∧ iv = .int .i64 k ∧ ∃ b z, bv' = .bool b ∧ nv = .int .i64 z ∧ Hid (sumM y5 (M.take k) = z) ∧ Hid (b = (M.take k).any (fun r => vget r y5 == lv)) ∧ Hid (Below x6.heap.size x6 wr)) (fun _ _ i _ => n1 - (intOf i).toNat)
    case atStart => exact ⟨0, by omega, rfl, false, 0, rfl, rfl, Lib.hid rfl, Lib.hid rfl, Lib.hid (Below.refl _ _)⟩
    case round =>
      obtain ⟨k, hk, rfl, b, z, rfl, rfl, HZ, HBo, HB⟩ := hrel
      by_cases hlt : k < n1
      · have hki : (k : Int) < n1 := by omega
        have hkM : Hid (k < M.length) := Lib.hid (by rw [← HN1.out]; exact hlt)
        obtain ⟨g1, o1, cp1, e1, hg1, -⟩ := rowS_form n1 (HRw.out _ (Below.refl _ _)) HN1.out.symm (by omega)
        simp only [Value.slice.injEq] at e1
        obtain ⟨rfl, -, rfl⟩ := e1
        have HRo := Lib.hid (fun w hb => rowS_at (HRw.out w hb) k hlt)
        have hmem : M.getD k rowZ ∈ M := by
          rw [List.getD_eq_getElem?_getD, List.getElem?_eq_getElem hkM.out, Option.getD_some]
          exact List.getElem_mem _
        have hvr := HVr.out _ hmem
        have hlm := HXf.out.1 _ hmem
        have Hs1 := Lib.hid (sum_take (y := y5) hkM.out)
        have Ht1 : Hid (M.take (k + 1) = M.take k ++ [M.getD k rowZ]) := Lib.hid (take_snoc' hkM.out)
        obtain ⟨⟨rt, rk, ⟨ra, rb, rc⟩⟩, Hr⟩ : ∃ r, Hid (M.getD k rowZ = r) := ⟨_, Lib.hid rfl⟩
        rw [Hr.out] at HRo hvr hlm Hs1 Ht1
        have HVal := Lib.hid (fun w => value_any rt rk ra rb rc y5 w HY5.out.1 HY5.out.2)
        obtain ⟨m, Hm⟩ : ∃ m, Hid (vget ⟨rt, rk, ⟨ra, rb, rc⟩⟩ y5 = m) := ⟨_, Lib.hid rfl⟩
        rw [Hm.out] at hlm Hs1
        simp only [Hm.out] at HVal
        unfold rowV at HVal
        simp only at HVal
        have Hlm := Lib.hid hlm
        clear hvr hmem hlm
        obtain ⟨c0_, c1_, c2_, c3_, c4_, c5_, c6_, c7_, c8_⟩ := HF.out _ HB.out
        go_upto_region 26 with fail
        clear c0_ c1_ c2_ c3_ c4_ c5_ c6_ c7_ c8_
        have HGb : Hid (∀ w0, BW wr w0 → ∀ d' os, Below x6.heap.size x6 (grow (redrawn w0 d') os)) := Lib.hid (fun w0 h d' os => bt HB.out (bt h (below_regrown w0 d' os)))
        have gs : ∀ w0, BW wr w0 → ∀ d' os, (grow (redrawn w0 d') os).cell? ⟨rb1, 0, none⟩ = some (.slice (some ⟨g1, o1, none⟩) n1 c1) := fun w0 h d' os => (HF.out _ (HGb.out w0 h d' os)).1
        have gy : ∀ w0, BW wr w0 → ∀ d' os, (grow (redrawn w0 d') os).cell? ⟨qb, 5, none⟩ = some (.int .i64 y5) := fun w0 h d' os => (HF.out _ (HGb.out w0 h d' os)).2.2.2.2.2.2.2.2
        have gr0 : ∀ w0, BW wr w0 → ∀ d' os, (grow (redrawn w0 d') os).cell? ⟨g1, o1 + k * 5, none⟩ = some (.int .i64 rt) := fun w0 h d' os => (HRo.out _ (HGb.out w0 h d' os)).cells.1
        have gr1 : ∀ w0, BW wr w0 → ∀ d' os, (grow (redrawn w0 d') os).cell? ⟨g1, o1 + k * 5 + 1, none⟩ = some (.int .i64 rk) := fun w0 h d' os => (HRo.out _ (HGb.out w0 h d' os)).cells.2.1
        have gr2 : ∀ w0, BW wr w0 → ∀ d' os, (grow (redrawn w0 d') os).cell? ⟨g1, o1 + k * 5 + 2, none⟩ = some (.int .i64 ra) := fun w0 h d' os => (HRo.out _ (HGb.out w0 h d' os)).cells.2.2.1
        have gr3 : ∀ w0, BW wr w0 → ∀ d' os, (grow (redrawn w0 d') os).cell? ⟨g1, o1 + k * 5 + 3, none⟩ = some (.int .i64 rb) := fun w0 h d' os => (HRo.out _ (HGb.out w0 h d' os)).cells.2.2.2.1
        have gr4 : ∀ w0, BW wr w0 → ∀ d' os, (grow (redrawn w0 d') os).cell? ⟨g1, o1 + k * 5 + 4, none⟩ = some (.int .i64 rc) := fun w0 h d' os => (HRo.out _ (HGb.out w0 h d' os)).cells.2.2.2.2
        refine wp_region_calm 8 9 [0, 1, 2, 3, 4, 5, 6, 7] (by kernel_rfl) (by kernel_rfl) (by intro oz h; simp at h) (by intro oz h; simp at h) (by rfl) ?_
        simp only [List.take_succ_cons, List.take_zero]
        apply wpCalm_want
        · rfl
        · exact bc_refl
        · exact ⟨_, Below.refl _ _⟩
        · intro w00 hC0 K hK
          go_big_quiet_op
          exact hK
        apply wpCalm_want
        · rfl
        · exact bc_refl
        · exact ⟨_, Below.refl _ _⟩
        · intro w00 hC0 K hK
          go_big_quiet_op
          exact hK
        apply wpCalm_want
        · rfl
        · exact bc_refl
        · exact ⟨_, Below.refl _ _⟩
        · intro w00 hC0 K hK
          go_big_quiet_op
          exact hK
        apply wpCalm_want
        · rfl
        · exact bc_refl
        · exact ⟨_, Below.refl _ _⟩
        · intro w00 hC0 K hK
          go_big_quiet_op
          exact hK
        apply wpCalm_want
        · rfl
        · exact bc_refl
        · exact ⟨_, Below.refl _ _⟩
        · intro w00 hC0 K hK
          go_big_quiet_op
          exact hK
        apply wpCalm_want
        · rfl
        · exact bc_refl
        · exact ⟨_, Below.refl _ _⟩
        · intro w00 hC0 K hK
          go_big_quiet_op
          exact hK
        apply wpCalm_want
        · rfl
        · exact bc_refl
        · exact ⟨_, Below.refl _ _⟩
        · intro w00 hC0 K hK
          go_big_quiet_op
          exact hK
        apply wpCalm_want
        · rfl
        · exact bc_refl
        · exact ⟨_, Below.refl _ _⟩
        · intro w00 hC0 K hK
          go_big_quiet_op
          apply Exists.intro
          refine ⟨fun p => ?_, ?_⟩
          · exact Calls.regrown_of (HVal.out _)
          · exact hK
        refine wpCalm_nil ?_
        intro wq hbq
        try simp only [List.drop_succ_cons, List.drop_zero]
        clear gs gy gr0 gr1 gr2 gr3 gr4
        have HBq := Lib.hid (bt HB.out hbq)
        clear hbq HGb
        obtain ⟨c0_, c1_, c2_, c3_, c4_, c5_, c6_, c7_, c8_⟩ := HF.out _ HBq.out
        have d1 : decide (m < lv) = false := decide_eq_false (by have := Hlm.out; omega)
        have d2 : decide (gv < m) = false := decide_eq_false (by have := Hlm.out; omega)
        have HZ' : Hid (sumM y5 (M.take (k + 1)) = wrap64 (z + m)) := Lib.hid (by rw [Hs1.out, HZ.out]; rfl)
        have HAny : Hid ((b || (m == lv)) = (M.take (k + 1)).any (fun r => vget r y5 == lv)) := Lib.hid (by
          rw [Ht1.out, List.any_append, ← HBo.out]
          simp [Hm.out])
        cases b
        · by_cases hml : m = lv
          · have d3 : (m == lv) = true := by simp [hml]
            have HA1 : Hid (true = (M.take (k + 1)).any (fun r => vget r y5 == lv)) := Lib.hid (by rw [← HAny.out, d3]; rfl)
            clear hml HAny
            go_wp2_with fail
            exact ⟨⟨k + 1, by omega, by go_num, true, _, rfl, rfl, HZ', HA1, HBq⟩, by simp [intOf]; omega⟩
          · have d3 : (m == lv) = false := by simp [hml]
            have HA1 : Hid (false = (M.take (k + 1)).any (fun r => vget r y5 == lv)) := Lib.hid (by rw [← HAny.out, d3]; rfl)
            clear hml HAny
            go_wp2_with fail
            exact ⟨⟨k + 1, by omega, by go_num, false, _, rfl, rfl, HZ', HA1, HBq⟩, by simp [intOf]; omega⟩
        · have HA1 : Hid (true = (M.take (k + 1)).any (fun r => vget r y5 == lv)) := Lib.hid (by rw [← HAny.out]; rfl)
          clear HAny
          go_wp2_with fail
          exact ⟨⟨k + 1, by omega, by go_num, true, _, rfl, rfl, HZ', HA1, HBq⟩, by simp [intOf]; omega⟩
      · obtain rfl : n1 = k := by omega
        have HZe : Hid (sv = z) := Lib.hid (by
          have h := HZ.out
          rw [HN1.out, List.take_length, Hsv.out] at h
          exact h)
        have hze := HZe.out
        subst hze
        have HAe : Hid (b = decide (0 < n1)) := Lib.hid (by
          have h := HBo.out
          rw [HN1.out, List.take_length] at h
          rw [h, HN1.out]
          by_cases h0 : 0 < M.length
          · obtain ⟨r, hr, e⟩ := HXf.out.2.2.2.2 h0
            rw [decide_eq_true h0, List.any_eq_true]
            exact ⟨r, hr, by simp [e]⟩
          · rw [decide_eq_false h0]
            have : M = [] := List.length_eq_zero_iff.1 (by omega)
            subst this
            rfl)
        have hbe := HAe.out
        have hlf : lf = decide (0 < n1) := by rw [HN1.out]; exact HXf.out.2.1
        have hgf : gf = decide (0 < n1) := by rw [HN1.out]; exact HXf.out.2.2.1
        have HBf := Lib.hid (bt HBx.out HB.out)
        obtain ⟨c0_, c1_, c2_, c3_, c4_, c5_, c6_, c7_, c8_⟩ := HF.out _ HB.out
        have hw2 : wrap64 (2 * (n1 : Int)) = 2 * (n1 : Int) := by unfold wrap64; omega
        have d6 : decide ((n6 : Int) ≤ 2 * (n1 : Int)) = true := decide_eq_true (by omega)
        have d7 : decide (lv ≤ gv) = true := decide_eq_true HXf.out.2.2.2.1
        clear HAe HZe HBo
        by_cases h0 : 0 < n1
        · rw [decide_eq_true h0] at hbe hlf hgf
          have d5 : decide (0 < (n1 : Int)) = true := decide_eq_true (by omega)
          subst hbe hlf hgf
          have H0 := Lib.hid h0
          clear h0
          go_wp2_with fail
          all_goals first
            | (exfalso; have := H0.out; omega)
            | (go_ret; exact ⟨rfl, HBf.out⟩)
        · rw [decide_eq_false h0] at hbe hlf hgf
          have d5 : decide (0 < (n1 : Int)) = false := decide_eq_false (by omega)
          subst hbe hlf hgf
          have H0 := Lib.hid h0
          clear h0
          go_wp2_with fail
          all_goals first
            | (exfalso; have := H0.out; omega)
            | (go_ret; exact ⟨rfl, HBf.out⟩)
end Go.Proofs.Ytcffofjialihaaa
