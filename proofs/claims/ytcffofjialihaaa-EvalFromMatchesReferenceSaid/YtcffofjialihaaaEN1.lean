/- WALK: EvalOwns. -/
import Derived.Test.YtcffofjialihaaaEM3
set_option linter.unusedVariables false
set_option linter.unusedSimpArgs false
namespace Go.Proofs.Ytcffofjialihaaa
open Go.RowKit Go.Sort Go.ChangeMaps Go.MapKept

theorem below_drew (w : World) : Below w.heap.size w w.drew := ⟨rfl, rfl, rfl, Nat.le_refl _, fun _ _ => rfl⟩
theorem rows_self {L : List MRow} (hL : Srt L) (t : Int) : SortOf L (selT t) 0 (L.filter (selT t)) := by
  refine ⟨List.Perm.refl _, ?_⟩
  refine List.Pairwise.imp_of_mem ?_ (List.Pairwise.filter _ hL)
  intro a b ha hb hab
  have h1 := (List.mem_filter.1 ha).2
  have h2 := (List.mem_filter.1 hb).2
  unfold selT at h1 h2
  simp at h1 h2
  unfold rlt at hab
  unfold rle vget
  simp
  omega
theorem rowsT_any {W : World} {b : Nat} {m : Option Nat} {L : List MRow} {p : Int} (h : StAt W b m L p) (t : Int) :
    Calls Try.prog 37 #[.pointer (some ⟨b, 0, none⟩), .int .i64 t] W fun e w' => ∃ a n c, e = .returned (.slice a n c) ∧ OwnR w' W.heap.size (.slice a n c) (L.filter (selT t)) ∧ Below W.heap.size W w' := by
  refine (rows_any h t).mono fun e w' hw => ?_
  obtain ⟨v, M, he, ho, hs, hb⟩ := hw
  obtain rfl : M = L.filter (selT t) := sortOf_unique (t := t) h.good.1 (fun r hr => by unfold selT at hr; simpa using hr) hs (rows_self h.good.1 t)
  obtain ⟨a, n, c, rfl⟩ := ho.form
  exact ⟨a, n, c, he, ho, hb⟩

theorem valid_ok' {q : MQ} (h : validB q = true) : 0 ≤ q.column ∧ q.column ≤ 3 := by
  unfold validB scanB at h
  simp only [Bool.and_eq_true, decide_eq_true_eq] at h
  omega

set_option maxRecDepth 100000 in
set_option maxHeartbeats 16000000 in
theorem owns_of {W : World} {p0 : MQ} {v : Value} {n : Nat} (h : XS4 W v n) {x : X4} (hx : x.Ok) : Calls Try.prog 9 #[qV p0, x4V x, v] W fun e w' => e = .returned (.bool true) ∧ Below W.heap.size W w' := by
  have HX := Lib.hid h
  have HQ := Lib.hid (fun w => query_any x hx w)
  have HQv := Lib.hid (qryX_valid x)
  obtain ⟨q, Hq⟩ : ∃ q, Hid (qryX x = q) := ⟨_, Lib.hid rfl⟩
  rw [Hq.out] at HQ HQv
  obtain ⟨x0, x1, x2, x3⟩ := x
  obtain ⟨pk, pt, pc, pl, ph, py, po⟩ := p0
  unfold x4V at *
  obtain ⟨qk, qt, qc, ql, qh, qy, qo⟩ := q
  unfold qV at HQ ⊢
  simp only at *
  clear Hq hx h
  go_enter Try.func9, Try.ntmps9
  go_upto_region 1 with fail
  generalize hwa : W.alloc (.cells #[.int .i64 pk, .int .i64 pt, .int .i64 pc, .int .i64 pl, .int .i64 ph, .int .i64 py, .int .i64 po] 23) = wa
  have HBa : Hid (Below W.heap.size W wa) := Lib.hid (by rw [← hwa]; exact ba _ _)
  have HPa : Hid (wa.heap[W.heap.size]? = some (.cells (qC ⟨pk, pt, pc, pl, ph, py, po⟩) 23 (0, 0))) := Lib.hid (by rw [← hwa]; exact heap_alloc_new W _)
  have hsa : W.heap.size + 1 = wa.heap.size := by rw [← hwa]; simp
  clear hwa
  try simp only [hsa]
  generalize hw0 : wa.alloc (.cells #[.int .i64 x0, .int .i64 x1, .int .i64 x2, .int .i64 x3] 24) = w0
  have HBa0 : Hid (Below wa.heap.size wa w0) := Lib.hid (by rw [← hw0]; exact ba _ _)
  have HB0 : Hid (Below W.heap.size W w0) := Lib.hid (bt HBa.out HBa0.out)
  have HC0 : Hid (w0.heap[wa.heap.size]? = some (.cells #[.int .i64 x0, .int .i64 x1, .int .i64 x2, .int .i64 x3] 24 (0, 0))) := Lib.hid (by rw [← hw0]; exact heap_alloc_new wa _)
  have HP0 := Lib.hid ((HBa0.out.block _ (lt_of_block HPa.out)).trans HPa.out)
  obtain ⟨xb, Hxb⟩ : ∃ b, Hid (wa.heap.size = b) := ⟨_, Lib.hid rfl⟩
  rw [Hxb.out] at HC0 ⊢
  clear hw0 hsa HBa HPa HBa0 Hxb
  go_wp2_with fail
  refine (sane_any _).mono ?_
  rintro e w1 ⟨rfl, hb⟩
  have HB1 := Lib.hid (bt HB0.out hb)
  have HC1 := Lib.hid ((hb.block _ (lt_of_block HC0.out)).trans HC0.out)
  have HP1 := Lib.hid ((hb.block _ (lt_of_block HP0.out)).trans HP0.out)
  clear hb HC0 HB0 HP0
  go_wp2_with fail
  refine (state_any (HX.out.below HB1.out)).mono ?_
  rintro e wb ⟨R, sb, sm, rfl, hst, -, -, -, hb⟩
  obtain ⟨L, HLe⟩ : ∃ L, Hid (rowsOf R = L) := ⟨_, Lib.hid rfl⟩
  obtain ⟨sp, Hsp⟩ : ∃ p : Int, Hid ((R.length : Int) = p) := ⟨_, Lib.hid rfl⟩
  rw [HLe.out, Hsp.out] at hst
  have HS := Lib.hid hst
  have HBb := Lib.hid (bt HB1.out hb)
  have HCb := Lib.hid ((hb.block _ (lt_of_block HC1.out)).trans HC1.out)
  have HPb := Lib.hid ((hb.block _ (lt_of_block HP1.out)).trans HP1.out)
  clear hb HC1 HB1 HP1 hst HX HLe Hsp
  have y0 : wb.cell? ⟨xb, 0, none⟩ = some (.int .i64 x0) := by simp [World.cell?, HCb.out]
  have y1 : wb.cell? ⟨xb, 1, none⟩ = some (.int .i64 x1) := by simp [World.cell?, HCb.out]
  have y2 : wb.cell? ⟨xb, 2, none⟩ = some (.int .i64 x2) := by simp [World.cell?, HCb.out]
  have y3 : wb.cell? ⟨xb, 3, none⟩ = some (.int .i64 x3) := by simp [World.cell?, HCb.out]
  go_wp2_with fail
  (with_reducible refine (HQ.out _).mono ?_)
  rintro e w3 ⟨rfl, hb⟩
  clear y0 y1 y2 y3
  go_upto_region 4 with fail
  generalize hw4 : w3.alloc _ = w4
  have HB4 := Lib.hid (show Below wb.heap.size wb w4 by rw [← hw4]; exact bt hb (ba w3 _))
  have HQ4 : Hid (w4.heap[w3.heap.size]? = some (.cells (qC ⟨qk, qt, qc, ql, qh, qy, qo⟩) 23 (0, 0))) := Lib.hid (by rw [← hw4]; exact heap_alloc_new w3 _)
  obtain ⟨qb, Hqb⟩ : ∃ b, Hid (w3.heap.size = b) := ⟨_, Lib.hid rfl⟩
  rw [Hqb.out] at HQ4 ⊢
  have HBW4 := Lib.hid (bt HBb.out HB4.out)
  have HS4 := Lib.hid (HS.out.below HB4.out)
  have HP4 := Lib.hid ((HB4.out.block _ (lt_of_block HPb.out)).trans HPb.out)
  clear hw4 hb HCb Hqb HS HBb HB4 HQ HPb
  have e0 : w4.cell? ⟨qb, 0, none⟩ = some (.int .i64 qk) := by simp [World.cell?, qC, HQ4.out]
  have e1 : w4.cell? ⟨qb, 1, none⟩ = some (.int .i64 qt) := by simp [World.cell?, qC, HQ4.out]
  have e2 : w4.cell? ⟨qb, 2, none⟩ = some (.int .i64 qc) := by simp [World.cell?, qC, HQ4.out]
  have e3 : w4.cell? ⟨qb, 3, none⟩ = some (.int .i64 ql) := by simp [World.cell?, qC, HQ4.out]
  have e4 : w4.cell? ⟨qb, 4, none⟩ = some (.int .i64 qh) := by simp [World.cell?, qC, HQ4.out]
  have e5 : w4.cell? ⟨qb, 5, none⟩ = some (.int .i64 qy) := by simp [World.cell?, qC, HQ4.out]
  have e6 : w4.cell? ⟨qb, 6, none⟩ = some (.int .i64 qo) := by simp [World.cell?, qC, HQ4.out]
  have HRg := Lib.hid (range_any HS4.out qt qc ql qh (valid_ok' HQv.out).1 (valid_ok' HQv.out).2)
  go_wp2_with fail
  refine HRg.out.mono ?_
  rintro e w5 ⟨u2, N, rfl, ho, hsn, hb⟩
  obtain ⟨l2, n2, p2, rfl⟩ := ho.form
  have HN := Lib.hid hsn
  have HO5 := Lib.hid ho
  have HQ5 := Lib.hid ((hb.block _ (lt_of_block HQ4.out)).trans HQ4.out)
  have HP5 := Lib.hid ((hb.block _ (lt_of_block HP4.out)).trans HP4.out)
  have HB5 := Lib.hid (bt HBW4.out hb)
  have HS5 := Lib.hid (HS4.out.below hb)
  have HNl : Hid (N.length ≤ 2000) := Lib.hid (Nat.le_trans (sort_len hsn) HS4.out.good.2.2)
  clear ho hsn hb HRg HQ4 HP4 HBW4 HS4 e0 e1 e2 e3 e4 e5 e6
  have HBa5 : Hid (Below w5.heap.size w5 (w5.alloc (.cells #[] 31))) := Lib.hid (ba _ _)
  go_upto_region 5 with fail
  go_wp2_with (at_builtin; refine wpList_append_rows rfl (.tmp 36) (.tmp 37) rfl w5.heap.size (.slice (some ⟨w5.heap.size, 0, none⟩) 0 0) _ [] N rfl rfl (empty_own _ _ (Nat.le_refl _)) (own_rowX (HO5.out.below (ba _ _))) (by have := HNl.out; simp; omega) (by simp) ?_; intro v6 w6 ho6 hg6; have HO6 := Lib.hid ho6; have HG6 := Lib.hid (HBa5.out.grown hg6 (by simp) (fun k hk => by simp [Value.ownBlock] at hk; omega)); clear ho6 hg6)
  have HQ6 := Lib.hid ((HG6.out.block _ (lt_of_block HQ5.out)).trans HQ5.out)
  have HP6 := Lib.hid ((HG6.out.block _ (lt_of_block HP5.out)).trans HP5.out)
  have HB6 := Lib.hid (bt HB5.out HG6.out)
  have HS6 := Lib.hid (HS5.out.below HG6.out)
  have HN6 := Lib.hid (HO5.out.rowS.below HG6.out)
  have HW6 := Lib.hid HO6.out.rowS
  obtain ⟨sa6, sn6, sc6, rfl⟩ := HO6.out.form
  obtain ⟨T, rv, rf, HT⟩ : ∃ T v f, Hid (resM ⟨qk, qt, qc, ql, qh, qy, qo⟩ N (L.filter (selT qo)) = ⟨T, v, f⟩) := ⟨_, _, _, Lib.hid rfl⟩
  have HVk : Hid (∀ r ∈ L.filter (selT qo), I64 r.k) := Lib.hid (fun r hr => by
    obtain ⟨h1, h2, h3, h4, h5⟩ := HS6.out.good.2.1 r (List.mem_filter.1 hr).1
    unfold I64
    omega)
  have HVv : Hid (∀ r ∈ N, ∀ y, I64 (vget r y)) := Lib.hid (fun r hr y => vrow_i64 (HS6.out.good.2.1 r (sort_mem HN.out hr)) y)
  have HC37 : Hid (∀ w, Hid (Below w6.heap.size w6 w) → Calls Try.prog 37 #[.pointer (some ⟨sb, 0, none⟩), .int .i64 qo] w fun e w' => ∃ a n c, e = .returned (.slice a n c) ∧ Hid (RowS w' (.slice a n c) (L.filter (selT qo))) ∧ Hid (Below w.heap.size w w')) := Lib.hid (fun w hb => by
    refine (rowsT_any (HS6.out.below hb.out) qo).mono fun e w' hw => ?_
    obtain ⟨a, n, c, he, ho, hb'⟩ := hw
    exact ⟨a, n, c, he, Lib.hid ho.rowS, Lib.hid hb'⟩)
  have HC17 : Hid (∀ w a n c, Hid (Below w6.heap.size w6 w) → Hid (RowS w (.slice a n c) (L.filter (selT qo))) → Calls Try.prog 17 #[.agg #[.int .i64 qk, .int .i64 qt, .int .i64 qc, .int .i64 ql, .int .i64 qh, .int .i64 qy, .int .i64 qo], .slice l2 n2 p2, .slice a n c] w fun e w' => ∃ ua un uc, e = .returned (.agg #[.slice ua un uc, .int .i64 rv, .bool rf]) ∧ Hid (OwnR w' w.heap.size (.slice ua un uc) T) ∧ Hid (Below w.heap.size w w')) := Lib.hid (fun w a n c hb hr => by
    refine (from_any (q := ⟨qk, qt, qc, ql, qh, qy, qo⟩) (HN6.out.below hb.out) hr.out HVk.out HVv.out (by have := HNl.out; omega)).mono fun e w' hw => ?_
    obtain ⟨u, rfl, ho, hb'⟩ := hw
    rw [HT.out] at ho ⊢
    simp only at ho ⊢
    obtain ⟨ua, un, uc, rfl⟩ := ho.form
    exact ⟨ua, un, uc, rfl, Lib.hid ho, Lib.hid hb'⟩)
  have HK : Hid (∀ w, Below w6.heap.size w6 w → w.cell? ⟨qb, 0, none⟩ = some (.int .i64 qk) ∧ w.cell? ⟨qb, 1, none⟩ = some (.int .i64 qt) ∧ w.cell? ⟨qb, 2, none⟩ = some (.int .i64 qc) ∧ w.cell? ⟨qb, 3, none⟩ = some (.int .i64 ql) ∧ w.cell? ⟨qb, 4, none⟩ = some (.int .i64 qh) ∧ w.cell? ⟨qb, 5, none⟩ = some (.int .i64 qy) ∧ w.cell? ⟨qb, 6, none⟩ = some (.int .i64 qo)) := Lib.hid (fun w hb => by
    have h1 := (hb.block _ (lt_of_block HQ6.out)).trans HQ6.out
    refine ⟨?_, ?_, ?_, ?_, ?_, ?_, ?_⟩ <;> simp [World.cell?, qC, h1])
  have HBd : Hid (Below w6.heap.size w6 w6.drew) := Lib.hid ⟨rfl, rfl, rfl, Nat.le_refl _, fun _ _ => rfl⟩
  clear HO5 HO6 HG6 HQ5 HP5 HB5 HS5 HBa5
  have HB66 : Hid (Below w6.heap.size w6 w6) := Lib.hid (Below.refl _ _)
  go_upto_region 6 with fail
  go_cut [12] (fun v12 wy => ∃ rA ua un uc, v12 = .pointer (some ⟨rA, 0, none⟩) ∧ Hid (Below w6.heap.size w6 wy) ∧ Hid (wy.heap[rA]? = some (.cells (resC (.slice ua un uc) rv rf) 27 (0, 0))) ∧ Hid (OwnR wy w6.heap.size (.slice ua un uc) T) ∧ Hid (w6.heap.size ≤ rA))
  case first =>
    go_region_held3 (fun w => w.cell? ⟨qb, 0, none⟩ = some (.int .i64 qk) ∧ w.cell? ⟨qb, 1, none⟩ = some (.int .i64 qt) ∧ w.cell? ⟨qb, 2, none⟩ = some (.int .i64 qc) ∧ w.cell? ⟨qb, 3, none⟩ = some (.int .i64 ql) ∧ w.cell? ⟨qb, 4, none⟩ = some (.int .i64 qh) ∧ w.cell? ⟨qb, 5, none⟩ = some (.int .i64 qy) ∧ w.cell? ⟨qb, 6, none⟩ = some (.int .i64 qo))
      (first | exact HK.out _ (bt HB66.out (below_drew _)) | exact HK.out _ (bt HB66.out HCur.out) | exact HK.out _ (bt HB66.out (bt (below_drew _) (ba _ _))) | exact HK.out _ (bt HB66.out (bt (ba w6 _) (below_drew _))) | exact HK.out _ (bt HB66.out (bt HCur.out (ba _ _))) | exact HK.out _ (bt HB66.out (below_setCell (below_setCell (below_setCell HCur.out hge _) hge _) hge _)))
      (first
        | (go_at_call 37; (with_reducible refine (HC37.out _ (Lib.hid (bt HB66.out (below_drew _)))).mono ?_); rintro e wk1 ⟨ka, kn, kc, rfl, HRk, HBk1⟩; have HCur := Lib.hid (bt (below_drew _) HBk1.out); have HC1 := HCur)
        | (go_at_call 37; (with_reducible refine (HC37.out _ (Lib.hid (bt HB66.out (bt (ba w6 _) (below_drew _))))).mono ?_); rintro e wk1 ⟨ka, kn, kc, rfl, HRk, HBk1⟩; have HCur := Lib.hid (bt (bt (ba w6 _) (below_drew _)) HBk1.out); have HC1 := HCur; have HRa : Hid (wk1.heap[w6.heap.size]? = some (.cells (resC (.slice none 0 0) 0 false) 27 (0, 0))) := Lib.hid ((HBk1.out.block _ (by simp [World.drew])).trans (heap_alloc_new w6 _)))
        | (go_at_call 17; (with_reducible refine (HC17.out _ _ _ _ (Lib.hid (bt HB66.out (bt HC1.out (ba _ _)))) (Lib.hid (HRk.out.below (ba _ _)))).mono ?_); rintro e wk2 ⟨ua, un, uc, rfl, HOk, HBk2⟩; have HCur := Lib.hid (bt (bt HC1.out (ba _ _)) HBk2.out); have HRa : Hid ((wk1.alloc (.cells #[.slice none 0 0, .int .i64 0, .bool false] 27)).heap[wk1.heap.size]? = some (.cells (resC (.slice none 0 0) 0 false) 27 (0, 0))) := Lib.hid (heap_alloc_new wk1 _); have hge := HC1.out.size; have HRb : Hid (wk2.heap[wk1.heap.size]? = some (.cells (resC (.slice none 0 0) 0 false) 27 (0, 0))) := Lib.hid ((HBk2.out.block _ (lt_of_block HRa.out)).trans HRa.out); have f0 : ∀ j, wk2.frozen? ⟨wk1.heap.size, j, none⟩ = false := (fun j => by simp [World.frozen?, HRb.out]); have x0 : wk2.cell? ⟨wk1.heap.size, 0, none⟩ = some (.slice none 0 0) := (by simp [World.cell?, HRb.out]); have x1 : wk2.cell? ⟨wk1.heap.size, 1, none⟩ = some (.int .i64 0) := (by simp [World.cell?, HRb.out]); have x2 : wk2.cell? ⟨wk1.heap.size, 2, none⟩ = some (.bool false) := (by simp [World.cell?, HRb.out]))
        | (go_at_call 17; (with_reducible refine (HC17.out _ _ _ _ (Lib.hid (bt HB66.out HC1.out)) HRk).mono ?_); rintro e wk2 ⟨ua, un, uc, rfl, HOk, HBk2⟩; have HCur := Lib.hid (bt HC1.out HBk2.out); have hge := Nat.le_refl w6.heap.size; have HRb : Hid (wk2.heap[w6.heap.size]? = some (.cells (resC (.slice none 0 0) 0 false) 27 (0, 0))) := Lib.hid ((HBk2.out.block _ (lt_of_block HRa.out)).trans HRa.out); have f0 : ∀ j, wk2.frozen? ⟨w6.heap.size, j, none⟩ = false := (fun j => by simp [World.frozen?, HRb.out]); have x0 : wk2.cell? ⟨w6.heap.size, 0, none⟩ = some (.slice none 0 0) := (by simp [World.cell?, HRb.out]); have x1 : wk2.cell? ⟨w6.heap.size, 1, none⟩ = some (.int .i64 0) := (by simp [World.cell?, HRb.out]); have x2 : wk2.cell? ⟨w6.heap.size, 2, none⟩ = some (.bool false) := (by simp [World.cell?, HRb.out]))
        | (go_at_call 17; (with_reducible refine (HC17.out _ _ _ _ (Lib.hid (bt HB66.out HC1.out)) HRk).mono ?_); rintro e wk2 ⟨ua, un, uc, rfl, HOk, HBk2⟩; have HCur := Lib.hid (bt HC1.out HBk2.out)))
    · go_wp2_with fail
      go_meet
      exact ⟨wk2.heap.size, ua, un, uc, rfl, Lib.hid (bt HCur.out (ba _ _)), Lib.hid (heap_alloc_new _ _), Lib.hid ((HOk.out.mono HC1.out.size).below (ba _ _)), Lib.hid HCur.out.size⟩
    · go_wp2_with fail
      go_meet
      exact ⟨wk1.heap.size, ua, un, uc, rfl, Lib.hid (below_setCell (below_setCell (below_setCell HCur.out hge _) hge _) hge _), Lib.hid (set3_heap HRb.out), Lib.hid (own_set3 HOk.out (by simp) (by simp; omega) _ _ _), Lib.hid hge⟩
    · go_wp2_with fail
      go_meet
      exact ⟨w6.heap.size, ua, un, uc, rfl, Lib.hid (below_setCell (below_setCell (below_setCell HCur.out hge _) hge _) hge _), Lib.hid (set3_heap HRb.out), Lib.hid (own_set3 HOk.out (lt_of_block HRa.out) HC1.out.size _ _ _), Lib.hid hge⟩
  case rest =>
    obtain ⟨rA, ua, un, uc, rfl, HB7, HRA, HOA, HgA⟩ := hcut
    rename World => w7
    have HU : Hid (un = 0 ∨ ∃ g, ua = some ⟨g, 0, none⟩ ∧ w6.heap.size ≤ g ∧ g ≠ rA ∧ ∃ cur : Array Value, w7.heap[g]? = some (.cells cur 31 (0, 0)) ∧ un * 5 ≤ cur.size) := Lib.hid (by
      have h := HOA.out
      unfold OwnR at h
      rcases h.2 with ⟨e, _⟩ | ⟨g, cap, cur, e, h1, h2, h3, h4, h5, h6⟩
      · simp only [Value.slice.injEq] at e
        exact .inl e.2.1
      · simp only [Value.slice.injEq] at e
        obtain ⟨rfl, rfl, rfl⟩ := e
        refine .inr ⟨g, rfl, h1, fun e => ?_, cur, h2, ?_⟩
        · subst e
          have h := HRA.out
          rw [h2] at h
          simp at h
        · rw [h5]
          exact Nat.mul_le_mul_right 5 h3)
    have HUn : Hid (un ≤ 4000) := Lib.hid (by
      obtain ⟨a, m, cap, e, e2, _⟩ := HOA.out.rowS
      simp only [Value.slice.injEq] at e
      obtain ⟨rfl, rfl, rfl⟩ := e
      have h := res_len HQv.out L N
      simp only at h
      rw [HT.out] at h
      have := HNl.out
      simp only at h
      omega)
    have hun : un ≤ 4000 := HUn.out
    go_wp2_with fail
    go_loopw [13] (fun iv wr => ∃ k : Nat, k ≤ un ∧ iv = .int .i64 k ∧ Hid (Below w6.heap.size w6 wr) ∧ Hid (wr.heap[rA]? = some (.cells (resC (.slice ua un uc) rv rf) 27 (0, 0))) ∧ Hid (∀ g, ua = some ⟨g, 0, none⟩ → g ≠ rA → 0 < un → ∃ cur : Array Value, wr.heap[g]? = some (.cells cur 31 (0, 0)) ∧ un * 5 ≤ cur.size)) (fun i _ => un - (intOf i).toNat)
    case atStart =>
      refine ⟨0, by omega, rfl, HB7, HRA, Lib.hid fun g e _ h0 => ?_⟩
      rcases HU.out with h | ⟨g', e', _, _, h⟩
      · omega
      · rw [e'] at e
        simp at e
        subst e
        exact h
    case round =>
      obtain ⟨k, hk, rfl, HB, HR, HGc⟩ := hrel
      have c0 : wr.cell? ⟨rA, 0, none⟩ = some (.slice ua un uc) := by simp [World.cell?, HR.out]
      by_cases hlt : k < un
      · have hki : (k : Int) < un := by omega
        obtain ⟨g, rfl, hg1, hg2, -⟩ := HU.out.resolve_left (by omega)
        obtain ⟨cur, hcur, hsz⟩ := HGc.out g rfl hg2 (by omega)
        have Hcur := Lib.hid hcur
        have Hg := Lib.hid (And.intro hg1 hg2)
        have fz : wr.frozen? ⟨g, k * 5 + 1, none⟩ = false := by simp [World.frozen?, Hcur.out]
        obtain ⟨ov, hov⟩ : ∃ ov, wr.cell? ⟨g, k * 5 + 1, none⟩ = some ov := ⟨cur[k * 5 + 1]'(by omega), by simp [World.cell?, Hcur.out]⟩
        clear hcur hg1 hg2
        have Hsz := Lib.hid hsz
        clear hsz
        go_wp2_with fail
        refine ⟨⟨k + 1, by omega, by go_num, Lib.hid (below_setCell HB.out Hg.out.1 _), Lib.hid ((Below.heap_setCell _ _ _ _ (fun e => Hg.out.2 e.symm)).trans HR.out), Lib.hid fun g' e _ h0 => ?_⟩, by simp [intOf]; omega⟩
        simp at e
        subst e
        exact ⟨_, setC_heap Hcur.out _ _, by simp; exact Hsz.out⟩
      · have hk2 : k = un := by omega
        subst hk2
        have HQv' := HQv
        clear HR HGc HU HUn
        go_upto_region 11 with fail
        clear c0
        go_cut [14] (fun v12 wy => ∃ rA ua un uc, v12 = .pointer (some ⟨rA, 0, none⟩) ∧ Hid (Below wr.heap.size wr wy) ∧ Hid (wy.heap[rA]? = some (.cells (resC (.slice ua un uc) rv rf) 27 (0, 0))) ∧ Hid (OwnR wy wr.heap.size (.slice ua un uc) T) ∧ Hid (wr.heap.size ≤ rA))
        case first =>
          go_region_held3 (fun w => w.cell? ⟨qb, 0, none⟩ = some (.int .i64 qk) ∧ w.cell? ⟨qb, 1, none⟩ = some (.int .i64 qt) ∧ w.cell? ⟨qb, 2, none⟩ = some (.int .i64 qc) ∧ w.cell? ⟨qb, 3, none⟩ = some (.int .i64 ql) ∧ w.cell? ⟨qb, 4, none⟩ = some (.int .i64 qh) ∧ w.cell? ⟨qb, 5, none⟩ = some (.int .i64 qy) ∧ w.cell? ⟨qb, 6, none⟩ = some (.int .i64 qo))
            (first | exact HK.out _ (bt HB.out (below_drew _)) | exact HK.out _ (bt HB.out HCur.out) | exact HK.out _ (bt HB.out (bt (below_drew _) (ba _ _))) | exact HK.out _ (bt HB.out (bt (ba wr _) (below_drew _))) | exact HK.out _ (bt HB.out (bt HCur.out (ba _ _))) | exact HK.out _ (bt HB.out (below_setCell (below_setCell (below_setCell HCur.out hge _) hge _) hge _)))
            (first
              | (go_at_call 37; (with_reducible refine (HC37.out _ (Lib.hid (bt HB.out (below_drew _)))).mono ?_); rintro e wk1 ⟨ka, kn, kc, rfl, HRk, HBk1⟩; have HCur := Lib.hid (bt (below_drew _) HBk1.out); have HC1 := HCur)
              | (go_at_call 37; (with_reducible refine (HC37.out _ (Lib.hid (bt HB.out (bt (ba wr _) (below_drew _))))).mono ?_); rintro e wk1 ⟨ka, kn, kc, rfl, HRk, HBk1⟩; have HCur := Lib.hid (bt (bt (ba wr _) (below_drew _)) HBk1.out); have HC1 := HCur; have HRa : Hid (wk1.heap[wr.heap.size]? = some (.cells (resC (.slice none 0 0) 0 false) 27 (0, 0))) := Lib.hid ((HBk1.out.block _ (by simp [World.drew])).trans (heap_alloc_new wr _)))
              | (go_at_call 17; (with_reducible refine (HC17.out _ _ _ _ (Lib.hid (bt HB.out (bt HC1.out (ba _ _)))) (Lib.hid (HRk.out.below (ba _ _)))).mono ?_); rintro e wk2 ⟨ua, un, uc, rfl, HOk, HBk2⟩; have HCur := Lib.hid (bt (bt HC1.out (ba _ _)) HBk2.out); have HRa : Hid ((wk1.alloc (.cells #[.slice none 0 0, .int .i64 0, .bool false] 27)).heap[wk1.heap.size]? = some (.cells (resC (.slice none 0 0) 0 false) 27 (0, 0))) := Lib.hid (heap_alloc_new wk1 _); have hge := HC1.out.size; have HRb : Hid (wk2.heap[wk1.heap.size]? = some (.cells (resC (.slice none 0 0) 0 false) 27 (0, 0))) := Lib.hid ((HBk2.out.block _ (lt_of_block HRa.out)).trans HRa.out); have f0 : ∀ j, wk2.frozen? ⟨wk1.heap.size, j, none⟩ = false := (fun j => by simp [World.frozen?, HRb.out]); have x0 : wk2.cell? ⟨wk1.heap.size, 0, none⟩ = some (.slice none 0 0) := (by simp [World.cell?, HRb.out]); have x1 : wk2.cell? ⟨wk1.heap.size, 1, none⟩ = some (.int .i64 0) := (by simp [World.cell?, HRb.out]); have x2 : wk2.cell? ⟨wk1.heap.size, 2, none⟩ = some (.bool false) := (by simp [World.cell?, HRb.out]))
              | (go_at_call 17; (with_reducible refine (HC17.out _ _ _ _ (Lib.hid (bt HB.out HC1.out)) HRk).mono ?_); rintro e wk2 ⟨ua, un, uc, rfl, HOk, HBk2⟩; have HCur := Lib.hid (bt HC1.out HBk2.out); have hge := Nat.le_refl wr.heap.size; have HRb : Hid (wk2.heap[wr.heap.size]? = some (.cells (resC (.slice none 0 0) 0 false) 27 (0, 0))) := Lib.hid ((HBk2.out.block _ (lt_of_block HRa.out)).trans HRa.out); have f0 : ∀ j, wk2.frozen? ⟨wr.heap.size, j, none⟩ = false := (fun j => by simp [World.frozen?, HRb.out]); have x0 : wk2.cell? ⟨wr.heap.size, 0, none⟩ = some (.slice none 0 0) := (by simp [World.cell?, HRb.out]); have x1 : wk2.cell? ⟨wr.heap.size, 1, none⟩ = some (.int .i64 0) := (by simp [World.cell?, HRb.out]); have x2 : wk2.cell? ⟨wr.heap.size, 2, none⟩ = some (.bool false) := (by simp [World.cell?, HRb.out]))
              | (go_at_call 17; (with_reducible refine (HC17.out _ _ _ _ (Lib.hid (bt HB.out HC1.out)) HRk).mono ?_); rintro e wk2 ⟨ua, un, uc, rfl, HOk, HBk2⟩; have HCur := Lib.hid (bt HC1.out HBk2.out)))
          · go_wp2_with fail
            go_meet
            exact ⟨wk2.heap.size, ua, un, uc, rfl, Lib.hid (bt HCur.out (ba _ _)), Lib.hid (heap_alloc_new _ _), Lib.hid ((HOk.out.mono HC1.out.size).below (ba _ _)), Lib.hid HCur.out.size⟩
          · go_wp2_with fail
            go_meet
            exact ⟨wk1.heap.size, ua, un, uc, rfl, Lib.hid (below_setCell (below_setCell (below_setCell HCur.out hge _) hge _) hge _), Lib.hid (set3_heap HRb.out), Lib.hid (own_set3 HOk.out (by simp) (by simp; omega) _ _ _), Lib.hid hge⟩
          · go_wp2_with fail
            go_meet
            exact ⟨wr.heap.size, ua, un, uc, rfl, Lib.hid (below_setCell (below_setCell (below_setCell HCur.out hge _) hge _) hge _), Lib.hid (set3_heap HRb.out), Lib.hid (own_set3 HOk.out (lt_of_block HRa.out) HC1.out.size _ _ _), Lib.hid hge⟩
        case rest =>
          obtain ⟨rB, ub, nb, cb, rfl, HB8, HRB, HOB, -⟩ := hcut
          rename World => w8
          have HB68 := Lib.hid (bt HB.out HB8.out)
          obtain ⟨c0, c1, c2, c3, c4, c5, c6⟩ := HK.out _ HB68.out
          have HOf := Lib.hid (ofG_any (q := ⟨qk, qt, qc, ql, qh, qy, qo⟩) (rows := T) (v := rv) (f := rf) (HS6.out.below HB68.out) HQv.out HN.out HT.out)
          unfold ptr qV at HOf
          simp only at HOf
          go_wp2_with fail
          (with_reducible refine HOf.out.mono ?_)
          rintro e w9 ⟨a9, n9, c9, rfl, ho, hb⟩
          have HO9 := Lib.hid ho
          have HB89 := Lib.hid hb
          clear ho hb c0 c1 c2 c3 c4 c5 c6 HOf
          unfold resV
          go_upto_region 13 with fail
          generalize hw10 : w9.alloc _ = w10
          have HB910 : Hid (Below w9.heap.size w9 w10) := Lib.hid (by rw [← hw10]; exact ba _ _)
          have HRC : Hid (w10.heap[w9.heap.size]? = some (.cells (resC (.slice a9 n9 c9) rv rf) 27 (0, 0))) := Lib.hid (by rw [← hw10]; exact heap_alloc_new w9 _)
          obtain ⟨rC, HrC⟩ : ∃ b, Hid (w9.heap.size = b) := ⟨_, Lib.hid rfl⟩
          rw [HrC.out] at HRC ⊢
          have HB810 := Lib.hid (bt HB89.out HB910.out)
          have HB610 := Lib.hid (bt HB68.out HB810.out)
          have HRB10 := Lib.hid ((HB810.out.block _ (lt_of_block HRB.out)).trans HRB.out)
          have HN10 := Lib.hid (HN6.out.below HB610.out)
          have HW10 := Lib.hid (HW6.out.below HB610.out)
          have HOB10 := Lib.hid ((HOB.out.below HB810.out).rowS)
          have HO10 := Lib.hid ((HO9.out.below HB910.out).rowS)
          have HP10 := Lib.hid ((HB610.out.block _ (lt_of_block HP6.out)).trans HP6.out)
          have HS10 := Lib.hid (HS6.out.below HB610.out)
          have HBW10 := Lib.hid (bt HB6.out HB610.out)
          clear hw10 HrC HB89 HB910 HB810 HB68 HB8 HB7 HRA HOA HB HB66 HRB HOB HO9 HC37 HC17 HK HgA
          have HC31 := Lib.hid (fun w (hb : Below w10.heap.size w10 w) => sameRows3_any (HN10.out.below hb) (HW10.out.below hb))
          have e1 : decide (N = [] ++ N) = true := by simp
          simp only [e1] at HC31
          have HC19 := Lib.hid (fun w (hb : Below w10.heap.size w10 w) => rfSame_any (HOB10.out.below hb) (HO10.out.below hb) rv rv rf rf)
          have e2 : decide (rv = rv ∧ rf = rf ∧ T = T) = true := by simp
          simp only [e2] at HC19
          clear e1 e2
          go_wp2_with fail
          refine (HC31.out _ (Below.refl _ _)).mono ?_
          rintro e w11 ⟨rfl, hb⟩
          have HB1011 := Lib.hid hb
          have HRB11 := Lib.hid ((hb.block _ (lt_of_block HRB10.out)).trans HRB10.out)
          have HRC11 := Lib.hid ((hb.block _ (lt_of_block HRC.out)).trans HRC.out)
          clear hb
          have c0 : w11.cell? ⟨rB, 0, none⟩ = some (.slice ub nb cb) := by simp [World.cell?, qC, HRB11.out]
          have c1 : w11.cell? ⟨rB, 1, none⟩ = some (.int .i64 rv) := by simp [World.cell?, qC, HRB11.out]
          have c2 : w11.cell? ⟨rB, 2, none⟩ = some (.bool rf) := by simp [World.cell?, qC, HRB11.out]
          have d0 : w11.cell? ⟨rC, 0, none⟩ = some (.slice a9 n9 c9) := by simp [World.cell?, qC, HRC11.out]
          have d1 : w11.cell? ⟨rC, 1, none⟩ = some (.int .i64 rv) := by simp [World.cell?, qC, HRC11.out]
          have d2 : w11.cell? ⟨rC, 2, none⟩ = some (.bool rf) := by simp [World.cell?, qC, HRC11.out]
          go_wp2_with fail
          refine (HC19.out _ HB1011.out).mono ?_
          rintro e w12 ⟨rfl, hb⟩
          have HB1012 := Lib.hid (bt HB1011.out hb)
          have HP12 := Lib.hid ((HB1012.out.block _ (lt_of_block HP10.out)).trans HP10.out)
          have HBW12 := Lib.hid (bt HBW10.out HB1012.out)
          have HS12 := Lib.hid (HS10.out.below HB1012.out)
          have HN12 := Lib.hid (HN10.out.below HB1012.out)
          clear hb c0 c1 c2 d0 d1 d2 HRB11 HRC11 HB1011 HB1012 HC31 HC19 HP10 HBW10 HS10 HN10
          obtain ⟨T', v', f', HT'⟩ : ∃ T v f, Hid (resM ⟨pk, pt, pc, pl, ph, py, po⟩ N N = ⟨T, v, f⟩) := ⟨_, _, _, Lib.hid rfl⟩
          have HF := Lib.hid (from_any (q := ⟨pk, pt, pc, pl, ph, py, po⟩) HN12.out HN12.out (fun r hr => by
            obtain ⟨h1, h2, h3, h4, h5⟩ := HS6.out.good.2.1 r (sort_mem HN.out hr)
            unfold I64
            omega) HVv.out (by have := HNl.out; omega))
          rw [HT'.out] at HF
          unfold qV at HF
          simp only at HF
          have c0 : w12.cell? ⟨W.heap.size, 0, none⟩ = some (.int .i64 pk) := by simp [World.cell?, qC, HP12.out]
          have c1 : w12.cell? ⟨W.heap.size, 1, none⟩ = some (.int .i64 pt) := by simp [World.cell?, qC, HP12.out]
          have c2 : w12.cell? ⟨W.heap.size, 2, none⟩ = some (.int .i64 pc) := by simp [World.cell?, qC, HP12.out]
          have c3 : w12.cell? ⟨W.heap.size, 3, none⟩ = some (.int .i64 pl) := by simp [World.cell?, qC, HP12.out]
          have c4 : w12.cell? ⟨W.heap.size, 4, none⟩ = some (.int .i64 ph) := by simp [World.cell?, qC, HP12.out]
          have c5 : w12.cell? ⟨W.heap.size, 5, none⟩ = some (.int .i64 py) := by simp [World.cell?, qC, HP12.out]
          have c6 : w12.cell? ⟨W.heap.size, 6, none⟩ = some (.int .i64 po) := by simp [World.cell?, qC, HP12.out]
          go_wp2_with fail
          (with_reducible refine HF.out.mono ?_)
          rintro e w13 ⟨u, rfl, ho, hb⟩
          simp only at ho ⊢
          obtain ⟨a13, n13, c13, rfl⟩ := ho.form
          have HO13 := Lib.hid ho
          have HB1213 := Lib.hid hb
          clear ho hb c0 c1 c2 c3 c4 c5 c6 HF
          unfold resV
          go_upto_region 16 with fail
          generalize hw14 : w13.alloc _ = w14
          have HB1314 : Hid (Below w13.heap.size w13 w14) := Lib.hid (by rw [← hw14]; exact ba _ _)
          have HRD : Hid (w14.heap[w13.heap.size]? = some (.cells (resC (.slice a13 n13 c13) v' f') 27 (0, 0))) := Lib.hid (by rw [← hw14]; exact heap_alloc_new w13 _)
          obtain ⟨rD, HrD⟩ : ∃ b, Hid (w13.heap.size = b) := ⟨_, Lib.hid rfl⟩
          rw [HrD.out] at HRD ⊢
          have HB1214 := Lib.hid (bt HB1213.out HB1314.out)
          have HP14 := Lib.hid ((HB1214.out.block _ (lt_of_block HP12.out)).trans HP12.out)
          have HBW14 := Lib.hid (bt HBW12.out HB1214.out)
          have HS14 := Lib.hid (HS12.out.below HB1214.out)
          have HO14 := Lib.hid ((HO13.out.below HB1314.out).rowS)
          have HRV := Lib.hid (fun w => rvalid_any ⟨pk, pt, pc, pl, ph, py, po⟩ w)
          unfold qV at HRV
          simp only at HRV
          clear hw14 HrD HB1213 HB1314 HB1214 HP12 HBW12 HS12 HN12 HO13
          have c0 : w14.cell? ⟨W.heap.size, 0, none⟩ = some (.int .i64 pk) := by simp [World.cell?, qC, HP14.out]
          have c1 : w14.cell? ⟨W.heap.size, 1, none⟩ = some (.int .i64 pt) := by simp [World.cell?, qC, HP14.out]
          have c2 : w14.cell? ⟨W.heap.size, 2, none⟩ = some (.int .i64 pc) := by simp [World.cell?, qC, HP14.out]
          have c3 : w14.cell? ⟨W.heap.size, 3, none⟩ = some (.int .i64 pl) := by simp [World.cell?, qC, HP14.out]
          have c4 : w14.cell? ⟨W.heap.size, 4, none⟩ = some (.int .i64 ph) := by simp [World.cell?, qC, HP14.out]
          have c5 : w14.cell? ⟨W.heap.size, 5, none⟩ = some (.int .i64 py) := by simp [World.cell?, qC, HP14.out]
          have c6 : w14.cell? ⟨W.heap.size, 6, none⟩ = some (.int .i64 po) := by simp [World.cell?, qC, HP14.out]
          cases hvp : validB ⟨pk, pt, pc, pl, ph, py, po⟩
          · rw [hvp] at HRV
            have HOf := Lib.hid (of_bad hvp sb w14)
            unfold qV at HOf
            simp only at HOf
            have HTe : Hid (T' = [] ∧ v' = 0 ∧ f' = false) := Lib.hid (by
              have h := HT'.out
              unfold resM at h
              rw [if_pos hvp] at h
              simp only [MRes.mk.injEq] at h
              exact ⟨h.1.symm, h.2.1.symm, h.2.2.symm⟩)
            obtain ⟨ht1, ht2, ht3⟩ := HTe.out
            subst ht1 ht2 ht3
            clear hvp
            go_wp2_with fail
            refine HOf.out.mono ?_
            rintro e w15 ⟨rfl, hb⟩
            have HB1415 := Lib.hid hb
            clear hb c0 c1 c2 c3 c4 c5 c6
            unfold resV
            go_upto_region 17 with fail
            generalize hw16 : w15.alloc _ = w16
            have HB1416 : Hid (Below w14.heap.size w14 w16) := Lib.hid (by rw [← hw16]; exact bt HB1415.out (ba _ _))
            have HP16 := Lib.hid ((HB1416.out.block _ (lt_of_block HP14.out)).trans HP14.out)
            clear hw16
            have c0 : w16.cell? ⟨W.heap.size, 0, none⟩ = some (.int .i64 pk) := by simp [World.cell?, qC, HP16.out]
            have c1 : w16.cell? ⟨W.heap.size, 1, none⟩ = some (.int .i64 pt) := by simp [World.cell?, qC, HP16.out]
            have c2 : w16.cell? ⟨W.heap.size, 2, none⟩ = some (.int .i64 pc) := by simp [World.cell?, qC, HP16.out]
            have c3 : w16.cell? ⟨W.heap.size, 3, none⟩ = some (.int .i64 pl) := by simp [World.cell?, qC, HP16.out]
            have c4 : w16.cell? ⟨W.heap.size, 4, none⟩ = some (.int .i64 ph) := by simp [World.cell?, qC, HP16.out]
            have c5 : w16.cell? ⟨W.heap.size, 5, none⟩ = some (.int .i64 py) := by simp [World.cell?, qC, HP16.out]
            have c6 : w16.cell? ⟨W.heap.size, 6, none⟩ = some (.int .i64 po) := by simp [World.cell?, qC, HP16.out]
            go_wp2_with fail
            (with_reducible refine (HRV.out _).mono ?_)
            rintro e w17 ⟨rfl, hb⟩
            have HB1417 := Lib.hid (bt HB1416.out hb)
            have HRD17 := Lib.hid ((HB1417.out.block _ (lt_of_block HRD.out)).trans HRD.out)
            have HO17 := Lib.hid (HO14.out.below HB1417.out)
            clear hb c0 c1 c2 c3 c4 c5 c6
            have d0 : w17.cell? ⟨rD, 0, none⟩ = some (.slice a13 n13 c13) := by simp [World.cell?, qC, HRD17.out]
            have d1 : w17.cell? ⟨rD, 1, none⟩ = some (.int .i64 0) := by simp [World.cell?, qC, HRD17.out]
            have d2 : w17.cell? ⟨rD, 2, none⟩ = some (.bool false) := by simp [World.cell?, qC, HRD17.out]
            have HSm := Lib.hid (rfSame_any HO17.out (rowS_nil w17) 0 0 false false)
            have e2 : decide ((0 : Int) = 0 ∧ false = false ∧ ([] : List MRow) = []) = true := by simp
            rw [e2] at HSm
            clear e2
            go_wp2_with fail
            refine HSm.out.mono ?_
            rintro e w18 ⟨rfl, hb⟩
            go_wp2_with fail
            go_ret
            exact ⟨rfl, bt HBW14.out (bt HB1417.out hb)⟩
          · rw [hvp] at HRV
            have HOf := Lib.hid (of_any HS14.out hvp)
            unfold qV ptr at HOf
            simp only at HOf
            clear hvp
            go_wp2_with fail
            refine HOf.out.mono ?_
            rintro e w15 ⟨u, M', rfl, ho, -, hb⟩
            have HB1415 := Lib.hid hb
            obtain ⟨a15, n15, c15, rfl⟩ := ho.form
            clear ho hb c0 c1 c2 c3 c4 c5 c6
            unfold resV
            go_upto_region 17 with fail
            generalize hw16 : w15.alloc _ = w16
            have HB1416 : Hid (Below w14.heap.size w14 w16) := Lib.hid (by rw [← hw16]; exact bt HB1415.out (ba _ _))
            have HP16 := Lib.hid ((HB1416.out.block _ (lt_of_block HP14.out)).trans HP14.out)
            clear hw16
            have c0 : w16.cell? ⟨W.heap.size, 0, none⟩ = some (.int .i64 pk) := by simp [World.cell?, qC, HP16.out]
            have c1 : w16.cell? ⟨W.heap.size, 1, none⟩ = some (.int .i64 pt) := by simp [World.cell?, qC, HP16.out]
            have c2 : w16.cell? ⟨W.heap.size, 2, none⟩ = some (.int .i64 pc) := by simp [World.cell?, qC, HP16.out]
            have c3 : w16.cell? ⟨W.heap.size, 3, none⟩ = some (.int .i64 pl) := by simp [World.cell?, qC, HP16.out]
            have c4 : w16.cell? ⟨W.heap.size, 4, none⟩ = some (.int .i64 ph) := by simp [World.cell?, qC, HP16.out]
            have c5 : w16.cell? ⟨W.heap.size, 5, none⟩ = some (.int .i64 py) := by simp [World.cell?, qC, HP16.out]
            have c6 : w16.cell? ⟨W.heap.size, 6, none⟩ = some (.int .i64 po) := by simp [World.cell?, qC, HP16.out]
            go_wp2_with fail
            (with_reducible refine (HRV.out _).mono ?_)
            rintro e w17 ⟨rfl, hb⟩
            have HBf := Lib.hid (bt HBW14.out (bt HB1416.out hb))
            clear hb c0 c1 c2 c3 c4 c5 c6
            go_wp2_with fail
            go_ret
            exact ⟨rfl, HBf.out⟩
end Go.Proofs.Ytcffofjialihaaa
