/- WALK: EvalDivided. -/
import Derived.Test.YtcffofjialihaaaEM1
set_option linter.unusedVariables false
set_option linter.unusedSimpArgs false
namespace Go.Proofs.Ytcffofjialihaaa
open Go.RowKit Go.Sort Go.ChangeMaps Go.MapKept

theorem own_rowX {w : World} {base : Nat} {v : Value} {M : List MRow} (h : OwnR w base v M) : RowX w v M := by
  have hr := h.rowS
  unfold OwnR at h
  rcases h.2 with ⟨rfl, h0⟩ | ⟨g, cap, cur, rfl, _⟩
  · exact .inl ⟨rfl, List.length_eq_zero_iff.1 h0⟩
  · obtain ⟨a, n, cap', e, hn, _, _, hc⟩ := hr
    simp only [Value.slice.injEq] at e
    obtain ⟨rfl, rfl, rfl⟩ := e
    refine .inr ⟨g, 0, _, _, rfl, rfl, fun i hi => ?_⟩
    obtain ⟨b, o, e1, _, hcs⟩ := hc (by omega)
    simp at e1
    obtain ⟨rfl, rfl⟩ := e1
    exact hcs i hi
theorem RowX.below {w w' : World} {u : Value} {N : List MRow} (h : RowX w u N) (hk : ∀ i, u.ownBlock = some i → i < w.heap.size) (k : Below w.heap.size w w') : RowX w' u N :=
  h.kept (F := fun _ => False) (Kept.of_below k) (fun i hi => ⟨id, hk i hi⟩)
theorem step_append_rows {w : World} {ops : Array Oper} {o : Oper} {a : Act} {K : Act → World → Prop} {Q : Exit → Act → World → Prop} {E : Prop} (hgd : o.guard = none) (s x : Operand)
    (ho : o.op = .call { callee := .builtin .append, args := #[s, x], argTypes := #[25, 25] })
    (base : Nat) (v u : Value) (M N : List MRow) (hs : a.eval s = v) (hx : a.eval x = u) (hown : OwnR w base v M) (hN : RowX w u N) (hlen : M.length + N.length ≤ 100000) (hbase : base ≤ w.heap.size)
    (h : ∀ v' w', OwnR w' base v' (M ++ N) → w.grownBy w' v.ownBlock → K (a.put o.dst v') w') : if Region.wanted o (yielded ops a.tmps) = true then Oper.wp Try.prog o a w K Q else E := by
  have hwt : Region.wanted o (yielded ops a.tmps) = true := by simp [Region.wanted, hgd]
  rw [if_pos hwt]
  obtain ⟨i0, hI, hZ0, hZ1, hZ2⟩ := info_parts Try.info31
  rcases hN with ⟨rfl, rfl⟩ | ⟨b, p, n, cap, rfl, rfl, hc⟩
  · have hrun := run_append_owned_none (P := Try.prog) (w := w) base 25 o.type 31 i0 5 Try.underlying25 hI v M.length (flat M) hown
    have hh := h v w (by rw [List.append_nil]; exact hown) ⟨rfl, rfl, rfl, Nat.le_refl _, fun _ _ _ => rfl⟩
    unfold Oper.wp
    simp [execOp, ho, resolve, invoke, builtin, hs, hx, hrun, Result.andThen]
    exact hh
  · refine wp_append_own w s x 25 ho base 31 i0 (.agg #[.int .i64 0, .int .i64 0, .int .i64 0, .int .i64 0, .int .i64 0]) 5 40 Try.underlying25 hI hZ0 hZ1 hZ2 rfl (by decide) v M.length (flat M) hs hown ⟨b, p, none⟩ N.length cap (flat N) hx (flat_len N) (rowX_news hc) (flat_one N) (by unfold maxLen; omega) (by omega) hbase ?_
    intro v' w' hown' hg _
    refine h v' w' ?_ hg
    unfold OwnR
    rw [List.length_append, flat_app]
    exact hown'
theorem empty_own (w : World) (base : Nat) (hb : base ≤ w.heap.size) : OwnR (w.alloc (.cells #[] 31)) base (.slice (some ⟨w.heap.size, 0, none⟩) 0 0) [] := ⟨rfl, .inr ⟨w.heap.size, 0, #[], rfl, hb, heap_alloc_new w _, Nat.le_refl _, by unfold maxLen; omega, rfl, rfl⟩⟩
theorem qryX_rng (x : X4) (h : ¬ (qryX x).kind = 1) : -3 ≤ (qryX x).low ∧ (qryX x).low ≤ 16 ∧ (qryX x).low ≤ (qryX x).high ∧ (qryX x).high ≤ (qryX x).low + 14 := by
  have h5 := pk_range x.c (n := 20) (by omega)
  have h6 := pk_range (Int.tdiv x.c 20) (n := 15) (by omega)
  unfold qryX at h ⊢
  simp only at h ⊢
  by_cases hk : 1 + pk x.a 7 = 1
  · rw [if_pos hk] at h
    exact absurd rfl h
  · rw [if_neg hk]
    simp only
    omega

theorem res_len {q : MQ} (hv : validB q = true) (L M : List MRow) : (resM q M (L.filter (selT q.other))).rows.length ≤ 2 * M.length := by
  by_cases k7 : q.kind = 7
  · rw [pairs_rows hv k7]
    exact (parts_len _ _ _ _).2
  · unfold resM
    rw [if_neg (by rw [hv]; decide), if_neg k7]
    repeat' split
    all_goals simp
    all_goals omega
theorem valid_sub {k t c l h y o l' h' : Int} (hv : validB ⟨k, t, c, l, h, y, o⟩ = true) (hk : ¬ k = 1) (h1 : l ≤ l') (h2 : l' ≤ h') (h3 : h' ≤ h) : validB ⟨k, t, c, l', h', y, o⟩ = true := by
  unfold validB scanB at hv ⊢
  rw [if_neg hk] at hv ⊢
  simp only [Bool.and_eq_true, decide_eq_true_eq] at hv ⊢
  exact ⟨by have := hv.1; omega, hv.2⟩

set_option maxRecDepth 100000 in
set_option maxHeartbeats 16000000 in
theorem divided_of {W : World} {v : Value} {n : Nat} (h : XS4 W v n) {x : X4} (hx : x.Ok) {av : Int} (hav : I64 av) : Calls Try.prog 6 #[v, x4V x, .int .i64 av] W fun e w' => e = .returned (.bool true) ∧ Below W.heap.size W w' := by
  have HX := Lib.hid h
  have HQ := Lib.hid (fun w => query_any x hx w)
  have HQv := Lib.hid (qryX_valid x)
  have HQr := Lib.hid (qryX_rng x)
  have HAv := Lib.hid hav
  obtain ⟨q, Hq⟩ : ∃ q, Hid (qryX x = q) := ⟨_, Lib.hid rfl⟩
  rw [Hq.out] at HQ HQv HQr
  obtain ⟨x0, x1, x2, x3⟩ := x
  unfold x4V at *
  obtain ⟨qk, qt, qc, ql, qh, qy, qo⟩ := q
  unfold qV at HQ
  simp only at *
  clear Hq hx h hav
  go_enter Try.func6, Try.ntmps6
  go_upto_region 1 with fail
  generalize hw0 : W.alloc (.cells #[.int .i64 x0, .int .i64 x1, .int .i64 x2, .int .i64 x3] 24) = w0
  have HB0 : Hid (Below W.heap.size W w0) := Lib.hid (by rw [← hw0]; exact ba _ _)
  have HC0 : Hid (w0.heap[W.heap.size]? = some (.cells #[.int .i64 x0, .int .i64 x1, .int .i64 x2, .int .i64 x3] 24 (0, 0))) := Lib.hid (by rw [← hw0]; exact heap_alloc_new W _)
  clear hw0
  go_wp2_with fail
  refine (sane_any _).mono ?_
  rintro e w1 ⟨rfl, hb⟩
  have HB1 := Lib.hid (bt HB0.out hb)
  have HC1 := Lib.hid ((hb.block _ (lt_of_block HC0.out)).trans HC0.out)
  clear hb HC0 HB0
  go_wp2_with fail
  refine (state_any (HX.out.below HB1.out)).mono ?_
  rintro e wb ⟨R, sb, sm, rfl, hst, -, -, -, hb⟩
  obtain ⟨L, HLe⟩ : ∃ L, Hid (rowsOf R = L) := ⟨_, Lib.hid rfl⟩
  obtain ⟨sp, Hsp⟩ : ∃ p : Int, Hid ((R.length : Int) = p) := ⟨_, Lib.hid rfl⟩
  rw [HLe.out, Hsp.out] at hst
  have HS := Lib.hid hst
  have HBb := Lib.hid (bt HB1.out hb)
  have HCb := Lib.hid ((hb.block _ (lt_of_block HC1.out)).trans HC1.out)
  clear hb HC1 HB1 hst HX HLe Hsp
  have y0 : wb.cell? ⟨W.heap.size, 0, none⟩ = some (.int .i64 x0) := by simp [World.cell?, HCb.out]
  have y1 : wb.cell? ⟨W.heap.size, 1, none⟩ = some (.int .i64 x1) := by simp [World.cell?, HCb.out]
  have y2 : wb.cell? ⟨W.heap.size, 2, none⟩ = some (.int .i64 x2) := by simp [World.cell?, HCb.out]
  have y3 : wb.cell? ⟨W.heap.size, 3, none⟩ = some (.int .i64 x3) := by simp [World.cell?, HCb.out]
  go_wp2_with fail
  (with_reducible refine (HQ.out _).mono ?_)
  rintro e w3 ⟨rfl, hb⟩
  clear y0 y1 y2 y3
  go_upto_region 4 with fail
  generalize hw4 : w3.alloc _ = w4
  have HB4 := Lib.hid (show Below wb.heap.size wb w4 by rw [← hw4]; exact bt hb (ba w3 _))
  have HQ4 : Hid (w4.heap[w3.heap.size]? = some (.cells (qC ⟨qk, qt, qc, ql, qh, qy, qo⟩) 23 (0, 0))) := Lib.hid (by rw [← hw4]; exact heap_alloc_new w3 _)
  obtain ⟨qb, Hqb⟩ : ∃ b, Hid (w3.heap.size = b) := ⟨_, Lib.hid rfl⟩
  rw [Hqb.out] at HQ4 ⊢
  have HBW4 := Lib.hid (bt HBb.out HB4.out)
  have HS4 := Lib.hid (HS.out.below HB4.out)
  clear hw4 hb HCb Hqb HS HBb HB4 HQ
  have q0 : w4.cell? ⟨qb, 0, none⟩ = some (.int .i64 qk) := by simp [World.cell?, qC, HQ4.out]
  by_cases hk1 : qk = 1
  · have d1 : (qk == 1) = true := by simp [hk1]
    clear hk1
    go_wp2_with fail
    go_ret
    exact ⟨rfl, HBW4.out⟩
  have d1 : (qk == 1) = false := by simp [hk1]
  have Hk1 := Lib.hid hk1
  have hrg := HQr.out hk1
  obtain ⟨dn, Hdn⟩ : ∃ d, Hid (qh - ql + 1 = d) := ⟨_, Lib.hid rfl⟩
  have P := Lib.hid (fun w => pickB av dn w HAv.out (by have := Hdn.out; omega) (by have := Hdn.out; omega))
  have hpr := pk_range av (n := dn) (by have := Hdn.out; omega)
  generalize pk av dn = z at P hpr
  obtain ⟨mid, Hmid⟩ : ∃ m, Hid (ql + z = m) := ⟨_, Lib.hid rfl⟩
  have hw1 : wrap64 (qh - ql) = qh - ql := by unfold wrap64; omega
  have hw2 : wrap64 (qh - ql + 1) = dn := by rw [← Hdn.out]; unfold wrap64; omega
  have hw3 : wrap64 (ql + z) = mid := by rw [← Hmid.out]; have := Hdn.out; unfold wrap64; omega
  have HMd : Hid (ql ≤ mid ∧ mid ≤ qh ∧ -3 ≤ ql ∧ qh ≤ 30) := Lib.hid (by have := Hdn.out; have := Hmid.out; omega)
  have hw4 : wrap64 (mid + 1) = mid + 1 := by have := HMd.out; unfold wrap64; omega
  clear hk1 hrg hpr HAv HQr
  go_upto_region 6 with fail
  have HG : Hid (∀ w0, BW w4 w0 → ∀ d' os, (grow (redrawn w0 d') os).heap[qb]? = some (.cells (qC ⟨qk, qt, qc, ql, qh, qy, qo⟩) 23 (0, 0))) := Lib.hid (fun w0 h d' os => ((show Below w4.heap.size w4 (grow (redrawn w0 d') os) from bt h (below_regrown w0 d' os)).block _ (lt_of_block HQ4.out)).trans HQ4.out)
  have g3 : ∀ w0, BW w4 w0 → ∀ d' os, (grow (redrawn w0 d') os).cell? ⟨qb, 3, none⟩ = some (.int .i64 ql) := fun w0 h d' os => by simp [World.cell?, qC, HG.out w0 h d' os]
  have g4 : ∀ w0, BW w4 w0 → ∀ d' os, (grow (redrawn w0 d') os).cell? ⟨qb, 4, none⟩ = some (.int .i64 qh) := fun w0 h d' os => by simp [World.cell?, qC, HG.out w0 h d' os]
  refine wp_region_calm 11 12 [0, 1, 2, 3, 4, 5, 6, 7, 8, 9, 10] (by kernel_rfl) (by kernel_rfl) (by intro oz h; simp at h) (by intro oz h; simp at h) (by rfl) ?_
  simp only [List.take_succ_cons, List.take_zero]
  apply wpCalm_want
  · rfl
  · exact bc_refl
  · exact ⟨_, Below.refl _ _⟩
  · intro w00 hC0 K hK
    go_big_quiet_op
    exact hK
  apply wpCalm_want
  · rfl
  · exact bc_refl
  · exact ⟨_, Below.refl _ _⟩
  · intro w00 hC0 K hK
    go_big_quiet_op
    exact hK
  apply wpCalm_want
  · rfl
  · exact bc_refl
  · exact ⟨_, Below.refl _ _⟩
  · intro w00 hC0 K hK
    go_big_quiet_op
    exact hK
  apply wpCalm_want
  · rfl
  · exact bc_refl
  · exact ⟨_, Below.refl _ _⟩
  · intro w00 hC0 K hK
    go_big_quiet_op
    exact hK
  apply wpCalm_want
  · rfl
  · exact bc_refl
  · exact ⟨_, Below.refl _ _⟩
  · intro w00 hC0 K hK
    go_big_quiet_op
    exact hK
  apply wpCalm_want
  · rfl
  · exact bc_refl
  · exact ⟨_, Below.refl _ _⟩
  · intro w00 hC0 K hK
    go_big_quiet_op
    exact hK
  apply wpCalm_want
  · rfl
  · exact bc_refl
  · exact ⟨_, Below.refl _ _⟩
  · intro w00 hC0 K hK
    go_big_quiet_op
    exact hK
  apply wpCalm_want
  · rfl
  · exact bc_refl
  · exact ⟨_, Below.refl _ _⟩
  · intro w00 hC0 K hK
    go_big_quiet_op
    exact hK
  try simp only [hw1, hw2, hw3]
  apply wpCalm_want
  · rfl
  · exact bc_refl
  · exact ⟨_, Below.refl _ _⟩
  · intro w00 hC0 K hK
    go_big_quiet_op
    exact hK
  try simp only [hw1, hw2, hw3]
  apply wpCalm_want
  · rfl
  · exact bc_refl
  · exact ⟨_, Below.refl _ _⟩
  · intro w00 hC0 K hK
    go_big_quiet_op
    apply Exists.intro
    refine ⟨fun p => ?_, ?_⟩
    · exact Calls.regrown_of (P.out _)
    · exact hK
  apply wpCalm_want
  · rfl
  · exact bc_refl
  · exact ⟨_, Below.refl _ _⟩
  · intro w00 hC0 K hK
    go_big_quiet_op
    exact hK
  try simp only [hw1, hw2, hw3]
  refine wpCalm_nil ?_
  intro w5 hbq
  try simp only [List.drop_succ_cons, List.drop_zero]
  clear g3 g4 hw1 hw2 hw3 HG P
  have HQ5 := Lib.hid ((hbq.block _ (lt_of_block HQ4.out)).trans HQ4.out)
  have HB5 := Lib.hid (bt HBW4.out hbq)
  have HS5 := Lib.hid (HS4.out.below hbq)
  clear hbq HQ4 HBW4 HS4 q0 d1
  have c0 : w5.cell? ⟨qb, 0, none⟩ = some (.int .i64 qk) := by simp [World.cell?, qC, HQ5.out]
  have c1 : w5.cell? ⟨qb, 1, none⟩ = some (.int .i64 qt) := by simp [World.cell?, qC, HQ5.out]
  have c2 : w5.cell? ⟨qb, 2, none⟩ = some (.int .i64 qc) := by simp [World.cell?, qC, HQ5.out]
  have c3 : w5.cell? ⟨qb, 3, none⟩ = some (.int .i64 ql) := by simp [World.cell?, qC, HQ5.out]
  have c4 : w5.cell? ⟨qb, 4, none⟩ = some (.int .i64 qh) := by simp [World.cell?, qC, HQ5.out]
  have c5 : w5.cell? ⟨qb, 5, none⟩ = some (.int .i64 qy) := by simp [World.cell?, qC, HQ5.out]
  have c6 : w5.cell? ⟨qb, 6, none⟩ = some (.int .i64 qo) := by simp [World.cell?, qC, HQ5.out]
  have HOf := Lib.hid (of_any HS5.out HQv.out)
  unfold qV ptr at HOf
  simp only at HOf
  go_upto_region 7 with fail
  go_wp2_with fail
  (with_reducible refine HOf.out.mono ?_)
  rintro e w6 ⟨u, M0, rfl, ho, hsm, hb⟩
  have HM0 := Lib.hid hsm
  obtain ⟨T0, v0, f0, HT0⟩ : ∃ T v f, Hid (resM ⟨qk, qt, qc, ql, qh, qy, qo⟩ M0 (L.filter (selT qo)) = ⟨T, v, f⟩) := ⟨_, _, _, Lib.hid rfl⟩
  simp only at ho ⊢
  rw [HT0.out] at ho ⊢
  simp only at ho ⊢
  obtain ⟨sa0, sn0, sc0, rfl⟩ := ho.form
  have HO0 := Lib.hid ho
  have HQ6 := Lib.hid ((hb.block _ (lt_of_block HQ5.out)).trans HQ5.out)
  have HB6 := Lib.hid (bt HB5.out hb)
  have HS6 := Lib.hid (HS5.out.below hb)
  clear ho hsm hb HQ5 HB5 HS5 HOf c0 c1 c2 c3 c4 c5 c6
  unfold resV
  go_upto_region 8 with fail
  generalize hw7 : w6.alloc _ = w7
  have HB67 : Hid (Below w6.heap.size w6 w7) := Lib.hid (by rw [← hw7]; exact ba _ _)
  have HR0 : Hid (w7.heap[w6.heap.size]? = some (.cells (resC (.slice sa0 sn0 sc0) v0 f0) 27 (0, 0))) := Lib.hid (by rw [← hw7]; exact heap_alloc_new w6 _)
  have HQ7 := Lib.hid ((HB67.out.block _ (lt_of_block HQ6.out)).trans HQ6.out)
  have HB7 := Lib.hid (bt HB6.out HB67.out)
  have HS7 := Lib.hid (HS6.out.below HB67.out)
  have HO0' := Lib.hid (HO0.out.below HB67.out)
  obtain ⟨rB0, HrB0⟩ : ∃ b, Hid (w6.heap.size = b) := ⟨_, Lib.hid rfl⟩
  rw [HrB0.out] at HR0 ⊢
  clear hw7 HB6 HB67 HQ6 HS6 HrB0
  have e0 : w7.cell? ⟨qb, 0, none⟩ = some (.int .i64 qk) := by simp [World.cell?, qC, HQ7.out]
  have e1 : w7.cell? ⟨qb, 1, none⟩ = some (.int .i64 qt) := by simp [World.cell?, qC, HQ7.out]
  have e2 : w7.cell? ⟨qb, 2, none⟩ = some (.int .i64 qc) := by simp [World.cell?, qC, HQ7.out]
  have e3 : w7.cell? ⟨qb, 3, none⟩ = some (.int .i64 ql) := by simp [World.cell?, qC, HQ7.out]
  have e4 : w7.cell? ⟨qb, 4, none⟩ = some (.int .i64 qh) := by simp [World.cell?, qC, HQ7.out]
  have e5 : w7.cell? ⟨qb, 5, none⟩ = some (.int .i64 qy) := by simp [World.cell?, qC, HQ7.out]
  have e6 : w7.cell? ⟨qb, 6, none⟩ = some (.int .i64 qo) := by simp [World.cell?, qC, HQ7.out]
  by_cases hmh : mid = qh
  · have d2 : (mid == qh) = true := by simp [hmh]
    clear hmh
    go_wp2_with fail
    go_ret
    exact ⟨rfl, HB7.out⟩
  have d2 : (mid == qh) = false := by simp [hmh]
  have Hmh := Lib.hid hmh
  clear hmh
  go_upto_region 13 with fail
  generalize hw8 : w7.alloc _ = w8
  have HA8 : Hid (w8.heap[w7.heap.size]? = some (.cells (qC ⟨qk, qt, qc, ql, qh, qy, qo⟩) 23 (0, 0))) := Lib.hid (by rw [← hw8]; exact heap_alloc_new w7 _)
  have HB78 : Hid (Below w7.heap.size w7 w8) := Lib.hid (by rw [← hw8]; exact ba _ _)
  obtain ⟨aB, HaB⟩ : ∃ b, Hid (w7.heap.size = b) := ⟨_, Lib.hid rfl⟩
  rw [HaB.out] at HA8 ⊢
  clear hw8 e0 e1 e2 e3 e4 e5 e6
  have fz : w8.frozen? ⟨aB, 4, none⟩ = false := by simp [World.frozen?, HA8.out]
  have fc : ∃ v, w8.cell? ⟨aB, 4, none⟩ = some v := ⟨_, by simp [World.cell?, qC, HA8.out]; rfl⟩
  have fc' : w8.cell? ⟨aB, 4, none⟩ = some (.int .i64 qh) := by simp [World.cell?, qC, HA8.out]
  clear fc
  go_upto_region 14 with fail
  generalize hw9 : w8.setCell ⟨aB, 4, none⟩ (.int .i64 mid) = w9
  have HA9 : Hid (w9.heap[aB]? = some (.cells (qC ⟨qk, qt, qc, ql, mid, qy, qo⟩) 23 (0, 0))) := Lib.hid (by rw [← hw9, setC_heap HA8.out 4]; rfl)
  have HB79 : Hid (Below w7.heap.size w7 w9) := Lib.hid (by rw [← hw9]; exact below_setCell HB78.out (Nat.le_of_eq HaB.out) _)
  clear hw9 fz fc' HA8 HB78
  have HQ9 := Lib.hid ((HB79.out.block _ (lt_of_block HQ7.out)).trans HQ7.out)
  have e0 : w9.cell? ⟨qb, 0, none⟩ = some (.int .i64 qk) := by simp [World.cell?, qC, HQ9.out]
  have e1 : w9.cell? ⟨qb, 1, none⟩ = some (.int .i64 qt) := by simp [World.cell?, qC, HQ9.out]
  have e2 : w9.cell? ⟨qb, 2, none⟩ = some (.int .i64 qc) := by simp [World.cell?, qC, HQ9.out]
  have e3 : w9.cell? ⟨qb, 3, none⟩ = some (.int .i64 ql) := by simp [World.cell?, qC, HQ9.out]
  have e4 : w9.cell? ⟨qb, 4, none⟩ = some (.int .i64 qh) := by simp [World.cell?, qC, HQ9.out]
  have e5 : w9.cell? ⟨qb, 5, none⟩ = some (.int .i64 qy) := by simp [World.cell?, qC, HQ9.out]
  have e6 : w9.cell? ⟨qb, 6, none⟩ = some (.int .i64 qo) := by simp [World.cell?, qC, HQ9.out]
  go_upto_region 15 with fail
  generalize hw10 : w9.alloc _ = w10
  have HA10 : Hid (w10.heap[w9.heap.size]? = some (.cells (qC ⟨qk, qt, qc, ql, qh, qy, qo⟩) 23 (0, 0))) := Lib.hid (by rw [← hw10]; exact heap_alloc_new w9 _)
  have HB910 : Hid (Below w9.heap.size w9 w10) := Lib.hid (by rw [← hw10]; exact ba _ _)
  obtain ⟨bB, HbB⟩ : ∃ b, Hid (w9.heap.size = b) := ⟨_, Lib.hid rfl⟩
  rw [HbB.out] at HA10 ⊢
  clear hw10 e0 e1 e2 e3 e4 e5 e6
  have fz : w10.frozen? ⟨bB, 3, none⟩ = false := by simp [World.frozen?, HA10.out]
  have fc' : w10.cell? ⟨bB, 3, none⟩ = some (.int .i64 ql) := by simp [World.cell?, qC, HA10.out]
  go_upto_region 16 with fail
  generalize hw11 : w10.setCell ⟨bB, 3, none⟩ (.int .i64 (mid + 1)) = w11
  have HA11 : Hid (w11.heap[bB]? = some (.cells (qC ⟨qk, qt, qc, mid + 1, qh, qy, qo⟩) 23 (0, 0))) := Lib.hid (by rw [← hw11, setC_heap HA10.out 3]; rfl)
  have HB911 : Hid (Below w9.heap.size w9 w11) := Lib.hid (by rw [← hw11]; exact below_setCell HB910.out (Nat.le_of_eq HbB.out) _)
  clear hw11 fz fc' HA10 HB910
  have HB711 := Lib.hid (bt HB79.out HB911.out)
  have HB11 := Lib.hid (bt HB7.out HB711.out)
  have HAa := Lib.hid ((HB911.out.block _ (lt_of_block HA9.out)).trans HA9.out)
  have HS11 := Lib.hid (HS7.out.below HB711.out)
  have HR11 := Lib.hid ((HB711.out.block _ (lt_of_block HR0.out)).trans HR0.out)
  have HQ11 := Lib.hid ((HB711.out.block _ (lt_of_block HQ7.out)).trans HQ7.out)
  have HO11 := Lib.hid (HO0'.out.below HB711.out)
  clear HB7 HS7 HR0 HQ7 HQ9 HA9 HB79 HB911 HB711 HO0 HO0' HaB HbB
  have HV1 : Hid (validB ⟨qk, qt, qc, ql, mid, qy, qo⟩ = true ∧ validB ⟨qk, qt, qc, mid + 1, qh, qy, qo⟩ = true) := Lib.hid (by
    have h1 := HMd.out
    have h2 := Hmh.out
    exact ⟨valid_sub HQv.out Hk1.out (by omega) (by omega) (by omega), valid_sub HQv.out Hk1.out (by omega) (by omega) (by omega)⟩)
  have e0 : w11.cell? ⟨aB, 0, none⟩ = some (.int .i64 qk) := by simp [World.cell?, qC, HAa.out]
  have e1 : w11.cell? ⟨aB, 1, none⟩ = some (.int .i64 qt) := by simp [World.cell?, qC, HAa.out]
  have e2 : w11.cell? ⟨aB, 2, none⟩ = some (.int .i64 qc) := by simp [World.cell?, qC, HAa.out]
  have e3 : w11.cell? ⟨aB, 3, none⟩ = some (.int .i64 ql) := by simp [World.cell?, qC, HAa.out]
  have e4 : w11.cell? ⟨aB, 4, none⟩ = some (.int .i64 mid) := by simp [World.cell?, qC, HAa.out]
  have e5 : w11.cell? ⟨aB, 5, none⟩ = some (.int .i64 qy) := by simp [World.cell?, qC, HAa.out]
  have e6 : w11.cell? ⟨aB, 6, none⟩ = some (.int .i64 qo) := by simp [World.cell?, qC, HAa.out]
  have HOf := Lib.hid (of_any HS11.out HV1.out.1)
  unfold qV ptr at HOf
  simp only at HOf
  go_wp2_with fail
  (with_reducible refine HOf.out.mono ?_)
  rintro e w12 ⟨u, M1, rfl, ho, hsm, hb⟩
  have HM1 := Lib.hid hsm
  obtain ⟨T1, v1, f1, HT1⟩ : ∃ T v f, Hid (resM ⟨qk, qt, qc, ql, mid, qy, qo⟩ M1 (L.filter (selT qo)) = ⟨T, v, f⟩) := ⟨_, _, _, Lib.hid rfl⟩
  simp only at ho ⊢
  rw [HT1.out] at ho ⊢
  simp only at ho ⊢
  obtain ⟨sa1, sn1, sc1, rfl⟩ := ho.form
  have HO1 := Lib.hid ho
  have HB12 := Lib.hid hb
  clear ho hsm hb HOf e0 e1 e2 e3 e4 e5 e6
  unfold resV
  go_upto_region 17 with fail
  generalize hw13 : w12.alloc _ = w13
  have HB1213 : Hid (Below w12.heap.size w12 w13) := Lib.hid (by rw [← hw13]; exact ba _ _)
  have HR1 : Hid (w13.heap[w12.heap.size]? = some (.cells (resC (.slice sa1 sn1 sc1) v1 f1) 27 (0, 0))) := Lib.hid (by rw [← hw13]; exact heap_alloc_new w12 _)
  have HB13 := Lib.hid (bt HB12.out HB1213.out)
  have HO1' := Lib.hid (HO1.out.below HB1213.out)
  obtain ⟨rB1, HrB1⟩ : ∃ b, Hid (w12.heap.size = b) := ⟨_, Lib.hid rfl⟩
  rw [HrB1.out] at HR1 ⊢
  have HA13 := Lib.hid ((HB13.out.block _ (lt_of_block HA11.out)).trans HA11.out)
  have HS13 := Lib.hid (HS11.out.below HB13.out)
  clear hw13 HB12 HB1213 HO1
  have e0 : w13.cell? ⟨bB, 0, none⟩ = some (.int .i64 qk) := by simp [World.cell?, qC, HA13.out]
  have e1 : w13.cell? ⟨bB, 1, none⟩ = some (.int .i64 qt) := by simp [World.cell?, qC, HA13.out]
  have e2 : w13.cell? ⟨bB, 2, none⟩ = some (.int .i64 qc) := by simp [World.cell?, qC, HA13.out]
  have e3 : w13.cell? ⟨bB, 3, none⟩ = some (.int .i64 (mid + 1)) := by simp [World.cell?, qC, HA13.out]
  have e4 : w13.cell? ⟨bB, 4, none⟩ = some (.int .i64 qh) := by simp [World.cell?, qC, HA13.out]
  have e5 : w13.cell? ⟨bB, 5, none⟩ = some (.int .i64 qy) := by simp [World.cell?, qC, HA13.out]
  have e6 : w13.cell? ⟨bB, 6, none⟩ = some (.int .i64 qo) := by simp [World.cell?, qC, HA13.out]
  have HOf := Lib.hid (of_any HS13.out HV1.out.2)
  unfold qV ptr at HOf
  simp only at HOf
  go_wp2_with fail
  (with_reducible refine HOf.out.mono ?_)
  rintro e w14 ⟨u, M2, rfl, ho, hsm, hb⟩
  have HM2 := Lib.hid hsm
  obtain ⟨T2, v2, f2, HT2⟩ : ∃ T v f, Hid (resM ⟨qk, qt, qc, mid + 1, qh, qy, qo⟩ M2 (L.filter (selT qo)) = ⟨T, v, f⟩) := ⟨_, _, _, Lib.hid rfl⟩
  simp only at ho ⊢
  rw [HT2.out] at ho ⊢
  simp only at ho ⊢
  obtain ⟨sa2, sn2, sc2, rfl⟩ := ho.form
  have HO2 := Lib.hid ho
  have HB14 := Lib.hid hb
  clear ho hsm hb HOf e0 e1 e2 e3 e4 e5 e6
  unfold resV
  go_upto_region 18 with fail
  generalize hw15 : w14.alloc _ = w15
  have HB1415 : Hid (Below w14.heap.size w14 w15) := Lib.hid (by rw [← hw15]; exact ba _ _)
  have HR2 : Hid (w15.heap[w14.heap.size]? = some (.cells (resC (.slice sa2 sn2 sc2) v2 f2) 27 (0, 0))) := Lib.hid (by rw [← hw15]; exact heap_alloc_new w14 _)
  have HB1315 := Lib.hid (bt HB14.out HB1415.out)
  have HB1115 := Lib.hid (bt HB13.out HB1315.out)
  have HX2 := Lib.hid (HO2.out.below HB1415.out)
  have HX1 := Lib.hid (HO1'.out.below HB1315.out)
  have HX0 := Lib.hid (HO11.out.below HB1115.out)
  have HY1 := Lib.hid ((HB1315.out.block _ (lt_of_block HR1.out)).trans HR1.out)
  have HY0 := Lib.hid ((HB1115.out.block _ (lt_of_block HR11.out)).trans HR11.out)
  have HYq := Lib.hid ((HB1115.out.block _ (lt_of_block HQ11.out)).trans HQ11.out)
  have HB15 := Lib.hid (bt HB11.out HB1115.out)
  obtain ⟨rB2, HrB2⟩ : ∃ b, Hid (w14.heap.size = b) := ⟨_, Lib.hid rfl⟩
  rw [HrB2.out] at HR2 ⊢
  have HMM : Hid (M0 = M1 ++ M2) := Lib.hid (sortOf_unique (t := qt) HS11.out.good.1 (fun r hr => by unfold selR at hr; simp at hr; exact hr.1) HM0.out (sortOf_app HMd.out.1 (by have := HMd.out; have := Hmh.out; omega) HM1.out HM2.out))
  have HRows : Hid (T1 ++ T2 = T0) := Lib.hid (by
    have h := res_rows HQv.out HV1.out.1 HV1.out.2 rfl rfl rfl rfl rfl rfl M1 M2 (L.filter (selT qo))
    rw [HT1.out, HT2.out, ← HMM.out, HT0.out] at h
    exact h)
  have HLen : Hid (T0.length ≤ 4000) := Lib.hid (by
    have h := res_len HQv.out L M0
    simp only at h
    rw [HT0.out] at h
    have h2 := sort_len HM0.out
    have h3 := HS11.out.good.2.2
    simp only at h
    omega)
  have HLen2 : Hid (T1.length + T2.length ≤ 4000) := Lib.hid (by
    have h := HLen.out
    rw [← HRows.out, List.length_append] at h
    exact h)
  clear hw15 HB14 HB1415 HO2 HB1315 HB1115 HO1' HO11 HR1 HR11 HQ11 HB11 HB13 HA11 HA13 HAa HS13
  have HBd : Hid (Below w15.heap.size w15 w15.drew) := Lib.hid ⟨rfl, rfl, rfl, Nat.le_refl _, fun _ _ => rfl⟩
  have HK : Hid (∀ w, Below w15.heap.size w15 w → w.cell? ⟨rB1, 0, none⟩ = some (.slice sa1 sn1 sc1) ∧ w.cell? ⟨rB2, 0, none⟩ = some (.slice sa2 sn2 sc2) ∧ w.cell? ⟨rB0, 0, none⟩ = some (.slice sa0 sn0 sc0)) := Lib.hid (fun w hb => by
    have h1 := (hb.block _ (lt_of_block HY1.out)).trans HY1.out
    have h2 := (hb.block _ (lt_of_block HR2.out)).trans HR2.out
    have h0 := (hb.block _ (lt_of_block HY0.out)).trans HY0.out
    refine ⟨?_, ?_, ?_⟩ <;> simp only [World.cell?, h0, h1, h2] <;> rfl)
  go_upto_region 20 with fail
  have HN1 : Hid (∀ w, Below w15.heap.size w15 w → RowX w (.slice sa1 sn1 sc1) T1) := Lib.hid (fun w hb => own_rowX (HX1.out.below hb))
  have HN2 : Hid (∀ w, Below w15.heap.size w15 w → RowX w (.slice sa2 sn2 sc2) T2) := Lib.hid (fun w hb => own_rowX (HX2.out.below hb))
  have HC31 : Hid (∀ w vb, Hid (Below w15.heap.size w15 w) → Hid (OwnR w w15.heap.size vb ([] ++ T1 ++ T2)) → Calls Try.prog 31 #[vb, .slice sa0 sn0 sc0] w fun e w' => e = .returned (.bool true) ∧ Hid (Below w15.heap.size w15 w')) := Lib.hid (fun w vb hb ho => by
    refine (sameRows3_any ho.out.rowS (HX0.out.below hb.out).rowS).mono fun e w' hw => ⟨?_, Lib.hid (bt hb.out hw.2)⟩
    rw [hw.1, decide_eq_true (by rw [List.nil_append]; exact HRows.out)])
  go_region_held3 (fun w => w.cell? ⟨rB1, 0, none⟩ = some (.slice sa1 sn1 sc1) ∧ w.cell? ⟨rB2, 0, none⟩ = some (.slice sa2 sn2 sc2) ∧ w.cell? ⟨rB0, 0, none⟩ = some (.slice sa0 sn0 sc0))
    (first | exact HK.out _ HBd.out | exact HK.out _ (bt HBd.out (ba _ _)) | exact HK.out _ HBk1.out | exact HK.out _ HBk2.out | exact HK.out _ HBk3.out)
    (first
      | (refine step_append_rows (by rfl) (.tmp 77) (.tmp 79) (by rfl) w15.heap.size _ _ [] T1 (by rfl) (by rfl) (empty_own _ _ (Nat.le_refl _)) (HN1.out _ (bt HBd.out (ba _ _))) (by have := HLen2.out; simp; omega) (by simp) ?_; intro va wk1 ho1 hg1; have HOk1 := Lib.hid ho1; have HBk1 : Hid (Below w15.heap.size w15 wk1) := Lib.hid ((bt HBd.out (ba _ _)).grown hg1 (by simp) (fun k hk => by simp [Value.ownBlock] at hk; omega)); clear ho1 hg1)
      | (refine step_append_rows (by rfl) (.tmp 80) (.tmp 82) (by rfl) w15.heap.size va _ ([] ++ T1) T2 (by rfl) (by rfl) HOk1.out (HN2.out _ HBk1.out) (by have := HLen2.out; simp; omega) HBk1.out.size ?_; intro vb wk2 ho2 hg2; have HOk2 := Lib.hid ho2; have HBk2 : Hid (Below w15.heap.size w15 wk2) := Lib.hid (HBk1.out.grown hg2 HBk1.out.size (fun k hk => HOk1.out.own_ge hk)); clear ho2 hg2)
      | (go_at_call 31; (with_reducible refine (HC31.out _ _ HBk2 HOk2).mono ?_); rintro e wk3 ⟨rfl, HBk3⟩))
  have HBf := Lib.hid (bt HB15.out HBk3.out)
  have HZ0 := Lib.hid ((HBk3.out.block _ (lt_of_block HY0.out)).trans HY0.out)
  have HZ1 := Lib.hid ((HBk3.out.block _ (lt_of_block HY1.out)).trans HY1.out)
  have HZ2 := Lib.hid ((HBk3.out.block _ (lt_of_block HR2.out)).trans HR2.out)
  have HZq := Lib.hid ((HBk3.out.block _ (lt_of_block HYq.out)).trans HYq.out)
  have HV0 := HQv
  have HMs := Lib.hid (And.intro HM1.out (And.intro HM2.out HS11.out.good.2.2))
  clear HS11
  clear HX1 HX2 HX0 HY1 HY0 HYq HR2 HN1 HN2 HC31 HK HBk3 HBk2 HBk1 HOk1 HOk2 HBd HB15 HM0 HM1 HM2 HRows HLen HLen2 hw4
  rw [HMM.out] at HT0
  have x_rB0_1 : wk3.cell? ⟨rB0, 1, none⟩ = some (.int .i64 v0) := by simp [World.cell?, qC, HZ0.out]
  have x_rB0_2 : wk3.cell? ⟨rB0, 2, none⟩ = some (.bool f0) := by simp [World.cell?, qC, HZ0.out]
  have x_rB1_1 : wk3.cell? ⟨rB1, 1, none⟩ = some (.int .i64 v1) := by simp [World.cell?, qC, HZ1.out]
  have x_rB1_2 : wk3.cell? ⟨rB1, 2, none⟩ = some (.bool f1) := by simp [World.cell?, qC, HZ1.out]
  have x_rB2_1 : wk3.cell? ⟨rB2, 1, none⟩ = some (.int .i64 v2) := by simp [World.cell?, qC, HZ2.out]
  have x_rB2_2 : wk3.cell? ⟨rB2, 2, none⟩ = some (.bool f2) := by simp [World.cell?, qC, HZ2.out]
  have x_qb_0 : wk3.cell? ⟨qb, 0, none⟩ = some (.int .i64 qk) := by simp [World.cell?, qC, HZq.out]
  by_cases hk3 : qk = 3
  · have e3 : (qk == 3) = true := by simp [hk3]
    rw [res3 HV1.out.1 hk3] at HT1
    rw [res3 HV1.out.2 hk3] at HT2
    rw [res3 HV0.out hk3] at HT0
    have hs : wrap64 (v1 + v2) = v0 := by
      have h1 := congrArg MRes.val HT1.out
      have h2 := congrArg MRes.val HT2.out
      have h0 := congrArg MRes.val HT0.out
      have hl := sort_len HMs.out.1
      have hl2 := sort_len HMs.out.2.1
      have hg := HMs.out.2.2
      simp only [List.length_append] at h0 h1 h2
      rw [← h0, ← h1, ← h2]
      push_cast
      unfold wrap64
      omega
    clear hk3
    clear HT0 HT1 HT2 HMM
    go_wp2_with fail
    go_ret
    exact ⟨rfl, HBf.out⟩
  by_cases hk4 : qk = 4
  · have e3 : (qk == 3) = false := by simp [hk3]
    have e4 : (qk == 4) = true := by simp [hk4]
    rw [res4 HV1.out.1 hk4] at HT1
    rw [res4 HV1.out.2 hk4] at HT2
    rw [res4 HV0.out hk4] at HT0
    have hs : wrap64 (v1 + v2) = v0 := by
      have h1 := congrArg MRes.val HT1.out
      have h2 := congrArg MRes.val HT2.out
      have h0 := congrArg MRes.val HT0.out
      simp only at h0 h1 h2
      rw [← h0, ← h1, ← h2]
      exact sum_app _ _ _
    clear hk3 hk4
    clear HT0 HT1 HT2 HMM
    go_wp2_with fail
    go_ret
    exact ⟨rfl, HBf.out⟩
  by_cases hk5 : qk = 5
  · have e3 : (qk == 3) = false := by simp [hk3]
    have e4 : (qk == 4) = false := by simp [hk4]
    have e5 : (qk == 5) = true := by simp [hk5]
    rw [res5 HV1.out.1 hk5] at HT1
    rw [res5 HV1.out.2 hk5] at HT2
    rw [res5 HV0.out hk5] at HT0
    clear hk3 hk4 hk5
    obtain ⟨v1', v2', w', f1', f2', m1, m2, m0, l1, l2, l3⟩ := low_app qy M1 M2
    have h1 := HT1.out
    have h2 := HT2.out
    have h0 := HT0.out
    rw [MRes.mk.injEq] at h0 h1 h2
    simp only [m1, m2, m0] at h0 h1 h2
    obtain ⟨-, rfl, rfl⟩ := h1
    obtain ⟨-, rfl, rfl⟩ := h2
    obtain ⟨-, rfl, rfl⟩ := h0
    clear m1 m2 m0 HT0 HT1 HT2 HMM
    cases f1'
    · cases f2'
      · clear l1 l2 l3
        go_wp2_with fail
        go_ret
        exact ⟨rfl, HBf.out⟩
      · have hw : w' = v2' := by simpa using l3
        have g1 : (w' == v2') = true := by simp [hw]
        have g2 : decide (w' ≤ v2') = true := decide_eq_true (l2 rfl)
        clear l1 l2 l3 hw
        go_wp2_with fail
        go_ret
        exact ⟨rfl, HBf.out⟩
    · cases f2'
      · have hw : w' = v1' := by simpa using l3
        have g1 : (w' == v1') = true := by simp [hw]
        have g2 : decide (w' ≤ v1') = true := decide_eq_true (l1 rfl)
        clear l1 l2 l3 hw
        go_wp2_with fail
        go_ret
        exact ⟨rfl, HBf.out⟩
      · have g2 : decide (w' ≤ v1') = true := decide_eq_true (l1 rfl)
        have g3 : decide (w' ≤ v2') = true := decide_eq_true (l2 rfl)
        have hw : w' = v1' ∨ w' = v2' := by simpa using l3
        by_cases hw1 : w' = v1'
        · have g1 : (w' == v1') = true := by simp [hw1]
          clear l1 l2 l3 hw hw1
          go_wp2_with fail
          go_ret
          exact ⟨rfl, HBf.out⟩
        · have g1 : (w' == v1') = false := by simp [hw1]
          have g4 : (w' == v2') = true := by simp [hw.resolve_left hw1]
          clear l1 l2 l3 hw hw1
          go_wp2_with fail
          go_ret
          exact ⟨rfl, HBf.out⟩
  by_cases hk6 : qk = 6
  · have e3 : (qk == 3) = false := by simp [hk3]
    have e4 : (qk == 4) = false := by simp [hk4]
    have e5 : (qk == 5) = false := by simp [hk5]
    have e6 : (qk == 6) = true := by simp [hk6]
    rw [res6 HV1.out.1 hk6] at HT1
    rw [res6 HV1.out.2 hk6] at HT2
    rw [res6 HV0.out hk6] at HT0
    clear hk3 hk4 hk5 hk6
    obtain ⟨v1', v2', w', f1', f2', m1, m2, m0, l1, l2, l3⟩ := high_app qy M1 M2
    have h1 := HT1.out
    have h2 := HT2.out
    have h0 := HT0.out
    rw [MRes.mk.injEq] at h0 h1 h2
    simp only [m1, m2, m0] at h0 h1 h2
    obtain ⟨-, rfl, rfl⟩ := h1
    obtain ⟨-, rfl, rfl⟩ := h2
    obtain ⟨-, rfl, rfl⟩ := h0
    clear m1 m2 m0 HT0 HT1 HT2 HMM
    cases f1'
    · cases f2'
      · clear l1 l2 l3
        go_wp2_with fail
        go_ret
        exact ⟨rfl, HBf.out⟩
      · have hw : w' = v2' := by simpa using l3
        have g1 : (w' == v2') = true := by simp [hw]
        have g2 : decide (v2' ≤ w') = true := decide_eq_true (l2 rfl)
        clear l1 l2 l3 hw
        go_wp2_with fail
        go_ret
        exact ⟨rfl, HBf.out⟩
    · cases f2'
      · have hw : w' = v1' := by simpa using l3
        have g1 : (w' == v1') = true := by simp [hw]
        have g2 : decide (v1' ≤ w') = true := decide_eq_true (l1 rfl)
        clear l1 l2 l3 hw
        go_wp2_with fail
        go_ret
        exact ⟨rfl, HBf.out⟩
      · have g2 : decide (v1' ≤ w') = true := decide_eq_true (l1 rfl)
        have g3 : decide (v2' ≤ w') = true := decide_eq_true (l2 rfl)
        have hw : w' = v1' ∨ w' = v2' := by simpa using l3
        by_cases hw1 : w' = v1'
        · have g1 : (w' == v1') = true := by simp [hw1]
          clear l1 l2 l3 hw hw1
          go_wp2_with fail
          go_ret
          exact ⟨rfl, HBf.out⟩
        · have g1 : (w' == v1') = false := by simp [hw1]
          have g4 : (w' == v2') = true := by simp [hw.resolve_left hw1]
          clear l1 l2 l3 hw hw1
          go_wp2_with fail
          go_ret
          exact ⟨rfl, HBf.out⟩
  have e3 : (qk == 3) = false := by simp [hk3]
  have e4 : (qk == 4) = false := by simp [hk4]
  have e5 : (qk == 5) = false := by simp [hk5]
  have e6 : (qk == 6) = false := by simp [hk6]
  clear hk3 hk4 hk5 hk6
  clear HT0 HT1 HT2 HMM
  go_wp2_with fail
  go_ret
  exact ⟨rfl, HBf.out⟩
end Go.Proofs.Ytcffofjialihaaa
