/- WALK: EvalLocal. -/
import Derived.Test.YtcffofjialihaaaED
set_option linter.unusedVariables false
set_option linter.unusedSimpArgs false
namespace Go.Proofs.Ytcffofjialihaaa
open Go.RowKit Go.Sort Go.ChangeMaps Go.MapKept

set_option maxRecDepth 100000 in
set_option maxHeartbeats 8000000 in
theorem local_of {W : World} {v : Value} {n : Nat} (h : XS4 W v n) {x : X4} (hx : x.Ok) : Calls Try.prog 7 #[v, x4V x] W fun e w' => e = .returned (.bool true) ∧ Below W.heap.size W w' := by
  have HX := Lib.hid h
  have HQ := Lib.hid (fun w => query_any x hx w)
  have HQv := Lib.hid (qryX_valid x)
  obtain ⟨q, Hq⟩ : ∃ q, Hid (qryX x = q) := ⟨_, Lib.hid rfl⟩
  rw [Hq.out] at HQ HQv
  obtain ⟨x0, x1, x2, x3⟩ := x
  unfold x4V at *
  simp only at *
  clear Hq hx h
  go_enter Try.func7, Try.ntmps7
  go_upto_region 1 with fail
  generalize hw0 : W.alloc (.cells #[.int .i64 x0, .int .i64 x1, .int .i64 x2, .int .i64 x3] 24) = w0
  have HB0 : Hid (Below W.heap.size W w0) := Lib.hid (by rw [← hw0]; exact ba _ _)
  have HC0 : Hid (w0.heap[W.heap.size]? = some (.cells #[.int .i64 x0, .int .i64 x1, .int .i64 x2, .int .i64 x3] 24 (0, 0))) := Lib.hid (by rw [← hw0]; exact heap_alloc_new W _)
  clear hw0
  go_wp2_with fail
  refine (sane_any _).mono ?_
  rintro e w1 ⟨rfl, hb⟩
  have HB1 := Lib.hid (bt HB0.out hb)
  have HC1 := Lib.hid ((hb.block _ (lt_of_block HC0.out)).trans HC0.out)
  clear hb HC0 HB0
  go_wp2_with fail
  refine (changes_any (HX.out.below HB1.out)).mono ?_
  rintro e w2 ⟨R, u, rfl, hrs, hch, hl, hsm, hb⟩
  have HRS := Lib.hid hrs
  have HCh := Lib.hid hch
  have HSm := Lib.hid hsm
  have HL := Lib.hid hl
  have HB2 := Lib.hid (bt HB1.out hb)
  have HC2 := Lib.hid ((hb.block _ (lt_of_block HC1.out)).trans HC1.out)
  clear hb HC1 HB1 hch hl hsm HX
  obtain ⟨ra, rn, rcap, rfl, hrn, -, -, -⟩ := hrs
  have HN0 := Lib.hid hrn
  clear hrn
  have y0 : w2.cell? ⟨W.heap.size, 0, none⟩ = some (.int .i64 x0) := by simp [World.cell?, HC2.out]
  have y1 : w2.cell? ⟨W.heap.size, 1, none⟩ = some (.int .i64 x1) := by simp [World.cell?, HC2.out]
  have y2 : w2.cell? ⟨W.heap.size, 2, none⟩ = some (.int .i64 x2) := by simp [World.cell?, HC2.out]
  have y3 : w2.cell? ⟨W.heap.size, 3, none⟩ = some (.int .i64 x3) := by simp [World.cell?, HC2.out]
  go_wp2_with fail
  (with_reducible refine (HQ.out _).mono ?_)
  rintro e w3 ⟨rfl, hb⟩
  have HB3 := Lib.hid (bt HB2.out hb)
  have HRS3 := Lib.hid (HRS.out.below hb)
  clear hb y0 y1 y2 y3 HB2 HC2 HRS
  go_upto_region 4 with fail
  generalize hw4 : w3.alloc _ = w4
  have HB4 := Lib.hid (show Below W.heap.size W w4 by rw [← hw4]; exact bt HB3.out (ba _ _))
  have HRS4 := Lib.hid (show RecS w4 (.slice ra rn rcap) R by rw [← hw4]; exact HRS3.out.below (ba _ _))
  have HQb : Hid (w4.heap[w3.heap.size]? = some (.cells (qC q) 23 (0, 0))) := Lib.hid (by rw [← hw4]; exact heap_alloc_new w3 _)
  obtain ⟨qb, Hqb⟩ : ∃ b, Hid (w3.heap.size = b) := ⟨_, Lib.hid rfl⟩
  rw [Hqb.out] at HQb ⊢
  clear hw4 HRS3 HB3 Hqb
  obtain _ | ⟨k⟩ := rn
  · go_wp2_with fail
    go_ret
    exact ⟨rfl, HB4.out⟩
  · have HN : Hid (R.length = k + 1) := Lib.hid HN0.out.symm
    clear HN0
    have hk : k + 1 ≤ 40 := by have := HL.out; have := HN.out; omega
    go_upto_region 6 with fail
    go_wp2_with fail
    refine (at_any HRS4.out HCh.out k (by have := HN.out; omega)).mono ?_
    rintro e w5 ⟨b1, m1, rfl, hs1, -, hb⟩
    have HB45 := Lib.hid hb
    have HS1 := Lib.hid hs1
    clear hs1 hb
    go_upto_region 7 with fail
    go_wp2_with fail
    refine (at_any (HRS4.out.below HB45.out) HCh.out (k + 1) (by have := HN.out; omega)).mono ?_
    rintro e w6 ⟨b2, m2, rfl, hs2, -, hb⟩
    have HB46 := Lib.hid (bt HB45.out hb)
    have HS1' := Lib.hid (HS1.out.below hb)
    have HS2 := Lib.hid hs2
    clear hs2 hb HS1
    go_upto_region 10 with fail
    obtain ⟨c, hcc, hsmc⟩ := HSm.out (R.getD k recZ) (by
      rw [List.getD_eq_getElem?_getD, List.getElem?_eq_getElem (by have := HN.out; omega), Option.getD_some]
      exact List.getElem_mem _)
    have HF := Lib.hid (last_change HCh.out HN.out hcc)
    obtain ⟨rb, ro, hra, hrb, hrc⟩ : ∃ b o, ra = some ⟨b, o, none⟩ ∧ b < w6.heap.size ∧ RecAt w6 b (o + k * 2) (R.getD k recZ) := by
      obtain ⟨a, m, cap, e, -, -, -, h⟩ := HRS4.out.below HB46.out
      simp only [Value.slice.injEq] at e
      obtain ⟨rfl, rfl, rfl⟩ := e
      obtain ⟨b, o, e1, e2, e3⟩ := h (by omega)
      exact ⟨b, o, e1, e2, e3 k (by omega)⟩
    subst hra
    obtain ⟨-, vc, hvc, hchs⟩ := hrc
    rw [hcc] at hchs
    obtain ⟨ca, cn, ccap, rfl, hcn, -, -, hcc1⟩ := hchs
    have hcn1 : cn = 1 := hcn
    subst hcn1
    obtain ⟨cb, co, rfl, hcb, hcat⟩ := hcc1 (by omega)
    have hca := hcat 0 (by omega)
    obtain ⟨t, ky, had, ⟨oa, ob, oc⟩, has, ⟨na, nb, nc⟩⟩ := c
    have z0 : w6.cell? ⟨cb, co, none⟩ = some (.int .i64 t) := hca 0 (by omega)
    have z1 : w6.cell? ⟨cb, co + 1, none⟩ = some (.int .i64 ky) := by simpa [chCells] using hca 1 (by omega)
    have z2 : w6.cell? ⟨cb, co + 2, none⟩ = some (.bool had) := by simpa [chCells] using hca 2 (by omega)
    have z3 : w6.cell? ⟨cb, co + 3, none⟩ = some (.int .i64 oa) := by simpa [chCells] using hca 3 (by omega)
    have z4 : w6.cell? ⟨cb, co + 4, none⟩ = some (.int .i64 ob) := by simpa [chCells] using hca 4 (by omega)
    have z5 : w6.cell? ⟨cb, co + 5, none⟩ = some (.int .i64 oc) := by simpa [chCells] using hca 5 (by omega)
    have z6 : w6.cell? ⟨cb, co + 6, none⟩ = some (.bool has) := by simpa [chCells] using hca 6 (by omega)
    have z7 : w6.cell? ⟨cb, co + 7, none⟩ = some (.int .i64 na) := by simpa [chCells] using hca 7 (by omega)
    have z8 : w6.cell? ⟨cb, co + 8, none⟩ = some (.int .i64 nb) := by simpa [chCells] using hca 8 (by omega)
    have z9 : w6.cell? ⟨cb, co + 9, none⟩ = some (.int .i64 nc) := by simpa [chCells] using hca 9 (by omega)
    clear hca hcat hcc1 hcn hsmc hcc HRS4
    go_upto_region 11 with fail
    clear z0 z1 z2 z3 z4 z5 z6 z7 z8 z9
    generalize hw7 : w6.alloc _ = w7
    have HB67 : Hid (Below w6.heap.size w6 w7) := Lib.hid (by rw [← hw7]; exact ba _ _)
    have HCc : Hid (w7.heap[w6.heap.size]? = some (.cells (chCells ⟨t, ky, had, ⟨oa, ob, oc⟩, has, ⟨na, nb, nc⟩⟩) 58 (0, 0))) := Lib.hid (by rw [← hw7]; exact heap_alloc_new w6 _)
    have hqc : qb ≠ w6.heap.size := by have h1 := lt_of_block HQb.out; have h2 := HB46.out.size; omega
    have HQ7 := Lib.hid (((bt HB46.out HB67.out).block _ (lt_of_block HQb.out)).trans HQb.out)
    obtain ⟨cB, HcB⟩ : ∃ b, Hid (w6.heap.size = b) := ⟨_, Lib.hid rfl⟩
    rw [HcB.out] at HCc hqc ⊢
    clear hw7
    have z0 : w7.cell? ⟨cB, 0, none⟩ = some (.int .i64 t) := by simp [World.cell?, chCells, qC, HCc.out]
    have z1 : w7.cell? ⟨cB, 1, none⟩ = some (.int .i64 ky) := by simp [World.cell?, chCells, qC, HCc.out]
    have z2 : w7.cell? ⟨cB, 2, none⟩ = some (.bool had) := by simp [World.cell?, chCells, qC, HCc.out]
    have z3 : w7.cell? ⟨cB, 3, none⟩ = some (.int .i64 oa) := by simp [World.cell?, chCells, qC, HCc.out]
    have z4 : w7.cell? ⟨cB, 4, none⟩ = some (.int .i64 ob) := by simp [World.cell?, chCells, qC, HCc.out]
    have z5 : w7.cell? ⟨cB, 5, none⟩ = some (.int .i64 oc) := by simp [World.cell?, chCells, qC, HCc.out]
    have z6 : w7.cell? ⟨cB, 6, none⟩ = some (.bool has) := by simp [World.cell?, chCells, qC, HCc.out]
    have z7 : w7.cell? ⟨cB, 7, none⟩ = some (.int .i64 na) := by simp [World.cell?, chCells, qC, HCc.out]
    have z8 : w7.cell? ⟨cB, 8, none⟩ = some (.int .i64 nb) := by simp [World.cell?, chCells, qC, HCc.out]
    have z9 : w7.cell? ⟨cB, 9, none⟩ = some (.int .i64 nc) := by simp [World.cell?, chCells, qC, HCc.out]
    go_wp2_with fail
    (with_reducible refine (before_any ⟨t, ky, had, ⟨oa, ob, oc⟩, has, ⟨na, nb, nc⟩⟩ _).mono ?_)
    rintro e w8 ⟨rfl, hb⟩
    obtain ⟨⟨bt', bk, ⟨b1', b2', b3'⟩⟩, Hbr⟩ : ∃ r, Hid ((if had = true then (⟨t, ky, ⟨oa, ob, oc⟩⟩ : MRow) else ⟨0, 0, V3.zero⟩) = r) := ⟨_, Lib.hid rfl⟩
    simp only [Hbr.out]
    unfold rowV
    simp only
    go_upto_region 12 with fail
    clear z0 z1 z2 z3 z4 z5 z6 z7 z8 z9
    generalize hw8 : w8.alloc _ = w8'
    have HB78 : Hid (Below w7.heap.size w7 w8') := Lib.hid (by rw [← hw8]; exact bt hb (ba _ _))
    have HBb : Hid (w8'.heap[w8.heap.size]? = some (.cells #[.int .i64 bt', .int .i64 bk, .int .i64 b1', .int .i64 b2', .int .i64 b3'] 31 (0, 0))) := Lib.hid (by rw [← hw8]; exact heap_alloc_new w8 _)
    have HC8 := Lib.hid ((HB78.out.block _ (lt_of_block HCc.out)).trans HCc.out)
    obtain ⟨bB, HbB⟩ : ∃ b, Hid (w8.heap.size = b) := ⟨_, Lib.hid rfl⟩
    rw [HbB.out] at HBb ⊢
    clear hw8 hb
    have z0 : w8'.cell? ⟨cB, 0, none⟩ = some (.int .i64 t) := by simp [World.cell?, chCells, qC, HC8.out]
    have z1 : w8'.cell? ⟨cB, 1, none⟩ = some (.int .i64 ky) := by simp [World.cell?, chCells, qC, HC8.out]
    have z2 : w8'.cell? ⟨cB, 2, none⟩ = some (.bool had) := by simp [World.cell?, chCells, qC, HC8.out]
    have z3 : w8'.cell? ⟨cB, 3, none⟩ = some (.int .i64 oa) := by simp [World.cell?, chCells, qC, HC8.out]
    have z4 : w8'.cell? ⟨cB, 4, none⟩ = some (.int .i64 ob) := by simp [World.cell?, chCells, qC, HC8.out]
    have z5 : w8'.cell? ⟨cB, 5, none⟩ = some (.int .i64 oc) := by simp [World.cell?, chCells, qC, HC8.out]
    have z6 : w8'.cell? ⟨cB, 6, none⟩ = some (.bool has) := by simp [World.cell?, chCells, qC, HC8.out]
    have z7 : w8'.cell? ⟨cB, 7, none⟩ = some (.int .i64 na) := by simp [World.cell?, chCells, qC, HC8.out]
    have z8 : w8'.cell? ⟨cB, 8, none⟩ = some (.int .i64 nb) := by simp [World.cell?, chCells, qC, HC8.out]
    have z9 : w8'.cell? ⟨cB, 9, none⟩ = some (.int .i64 nc) := by simp [World.cell?, chCells, qC, HC8.out]
    go_wp2_with fail
    (with_reducible refine (after_any ⟨t, ky, had, ⟨oa, ob, oc⟩, has, ⟨na, nb, nc⟩⟩ _).mono ?_)
    rintro e w9 ⟨rfl, hb⟩
    obtain ⟨⟨at', ak, ⟨a1', a2', a3'⟩⟩, Har⟩ : ∃ r, Hid ((if has = true then (⟨t, ky, ⟨na, nb, nc⟩⟩ : MRow) else ⟨0, 0, V3.zero⟩) = r) := ⟨_, Lib.hid rfl⟩
    simp only [Har.out]
    unfold rowV
    simp only
    clear z0 z1 z2 z3 z4 z5 z6 z7 z8 z9
    go_upto_region 13 with fail
    generalize hw9 : w9.alloc _ = wb
    have HB8b : Hid (Below w8'.heap.size w8' wb) := Lib.hid (by rw [← hw9]; exact bt hb (ba _ _))
    have HAb : Hid (wb.heap[w9.heap.size]? = some (.cells #[.int .i64 at', .int .i64 ak, .int .i64 a1', .int .i64 a2', .int .i64 a3'] 31 (0, 0))) := Lib.hid (by rw [← hw9]; exact heap_alloc_new w9 _)
    have HBb' := Lib.hid ((HB8b.out.block _ (lt_of_block HBb.out)).trans HBb.out)
    have HB7b := Lib.hid (bt HB78.out HB8b.out)
    have HCb := Lib.hid ((HB7b.out.block _ (lt_of_block HCc.out)).trans HCc.out)
    have HQb' := Lib.hid ((HB7b.out.block _ (lt_of_block HQ7.out)).trans HQ7.out)
    have HB4b := Lib.hid (bt HB46.out (bt HB67.out HB7b.out))
    have HBb0 := Lib.hid (bt HB4.out HB4b.out)
    have HSb1 := Lib.hid (HS1'.out.below (bt HB67.out HB7b.out))
    have HSb2 := Lib.hid (HS2.out.below (bt HB67.out HB7b.out))
    obtain ⟨aB, HaB⟩ : ∃ b, Hid (w9.heap.size = b) := ⟨_, Lib.hid rfl⟩
    rw [HaB.out] at HAb ⊢
    clear hw9 hb HB8b HBb HB7b HCc HQ7 HB46 HB67 HB78 HC8 HS1' HS2 HB4 HB45 HQb hqc HcB HbB HaB
    obtain ⟨qk, qt, qc, ql, qh, qy, qo⟩ := q
    have HI : Hid (I64 qc) := Lib.hid (valid_ok HQv.out).1.2.2.1
    obtain ⟨x, Hx⟩ : ∃ x, Hid ((had && selR qt qc ql qh ⟨bt', bk, ⟨b1', b2', b3'⟩⟩) = x) := ⟨_, Lib.hid rfl⟩
    obtain ⟨y, Hy⟩ : ∃ x, Hid ((has && selR qt qc ql qh ⟨at', ak, ⟨a1', a2', a3'⟩⟩) = x) := ⟨_, Lib.hid rfl⟩
    have HV1 := Lib.hid (fun w => in_any ⟨qk, qt, qc, ql, qh, qy, qo⟩ ⟨bt', bk, ⟨b1', b2', b3'⟩⟩ had w HI.out)
    have HV2 := Lib.hid (fun w => in_any ⟨qk, qt, qc, ql, qh, qy, qo⟩ ⟨at', ak, ⟨a1', a2', a3'⟩⟩ has w HI.out)
    simp only [Hx.out] at HV1
    simp only [Hy.out] at HV2
    unfold qV rowV at HV1 HV2
    simp only at HV1 HV2
    have HK : Hid (∀ w', Below wb.heap.size wb w' → w'.cell? ⟨qb, 0, none⟩ = some (.int .i64 qk) ∧ w'.cell? ⟨qb, 1, none⟩ = some (.int .i64 qt) ∧ w'.cell? ⟨qb, 2, none⟩ = some (.int .i64 qc) ∧ w'.cell? ⟨qb, 3, none⟩ = some (.int .i64 ql) ∧ w'.cell? ⟨qb, 4, none⟩ = some (.int .i64 qh) ∧ w'.cell? ⟨qb, 5, none⟩ = some (.int .i64 qy) ∧ w'.cell? ⟨qb, 6, none⟩ = some (.int .i64 qo) ∧ w'.cell? ⟨bB, 0, none⟩ = some (.int .i64 bt') ∧ w'.cell? ⟨bB, 1, none⟩ = some (.int .i64 bk) ∧ w'.cell? ⟨bB, 2, none⟩ = some (.int .i64 b1') ∧ w'.cell? ⟨bB, 3, none⟩ = some (.int .i64 b2') ∧ w'.cell? ⟨bB, 4, none⟩ = some (.int .i64 b3') ∧ w'.cell? ⟨aB, 0, none⟩ = some (.int .i64 at') ∧ w'.cell? ⟨aB, 1, none⟩ = some (.int .i64 ak) ∧ w'.cell? ⟨aB, 2, none⟩ = some (.int .i64 a1') ∧ w'.cell? ⟨aB, 3, none⟩ = some (.int .i64 a2') ∧ w'.cell? ⟨aB, 4, none⟩ = some (.int .i64 a3') ∧ w'.cell? ⟨cB, 0, none⟩ = some (.int .i64 t)) := Lib.hid (fun w' hb => by
      have eqb := (hb.block _ (lt_of_block HQb'.out)).trans HQb'.out
      have ebB := (hb.block _ (lt_of_block HBb'.out)).trans HBb'.out
      have eaB := (hb.block _ (lt_of_block HAb.out)).trans HAb.out
      have ecB := (hb.block _ (lt_of_block HCb.out)).trans HCb.out
      refine ⟨?_, ?_, ?_, ?_, ?_, ?_, ?_, ?_, ?_, ?_, ?_, ?_, ?_, ?_, ?_, ?_, ?_, ?_⟩ <;> simp [World.cell?, chCells, qC, eqb, ebB, eaB, ecB])
    obtain ⟨c1, c2, c3, c4, c5, c6, c7, c8, c9, c10, c11, c12, c13, c14, c15, c16, c17, c18⟩ := HK.out wb (Below.refl _ _)
    clear hvc hcb hrb
    cases x
    · go_wp2_with fail
      (with_reducible refine (HV1.out _).mono ?_)
      rintro e wq1 ⟨rfl, hb⟩
      have HQ1 := Lib.hid (hb)
      clear hb c1 c2 c3 c4 c5 c6 c7 c8 c9 c10 c11 c12 c13 c14 c15 c16 c17 c18
      obtain ⟨c1, c2, c3, c4, c5, c6, c7, c8, c9, c10, c11, c12, c13, c14, c15, c16, c17, c18⟩ := HK.out _ HQ1.out
      cases y
      · go_wp2_with fail
        (with_reducible refine (HV2.out _).mono ?_)
        rintro e wq2 ⟨rfl, hb⟩
        have HQ2 := Lib.hid (bt HQ1.out hb)
        clear hb c1 c2 c3 c4 c5 c6 c7 c8 c9 c10 c11 c12 c13 c14 c15 c16 c17 c18
        obtain ⟨c1, c2, c3, c4, c5, c6, c7, c8, c9, c10, c11, c12, c13, c14, c15, c16, c17, c18⟩ := HK.out _ HQ2.out
        by_cases hk7 : qk = 7
        · have ge : (qk == 7) = true := by simp [hk7]
          have Hk7 := Lib.hid hk7
          clear hk7
          by_cases hto : t = qo
          · have go : (t == qo) = true := by simp [hto]
            clear hto
            go_wp2_with fail
            go_ret
            exact ⟨rfl, bt HBb0.out HQ2.out⟩
          · have go : (t == qo) = false := by simp [hto]
            have Hto := Lib.hid hto
            clear hto
            go_upto_region 15 with fail
            try clear ge
            try clear go
            have HqW := Lib.hid (bt HBb0.out HQ2.out)
            have HT1 := Lib.hid (HSb1.out.below HQ2.out)
            have HT2 := Lib.hid (HSb2.out.below HQ2.out)
            go_wp2_with fail
            have HOf1 := Lib.hid (of_any HT1.out HQv.out)
            unfold qV ptr at HOf1
            simp only at HOf1
            (with_reducible refine HOf1.out.mono ?_)
            rintro e wo1 ⟨u1, M1, rfl, ho1, hs1, hb⟩
            have HS1 := Lib.hid hs1
            have HO1 := Lib.hid ho1
            have HT2' := Lib.hid (HT2.out.below hb)
            have HQ3 := Lib.hid (bt HQ2.out hb)
            obtain ⟨l1, n1, p1, rfl⟩ := ho1.form
            obtain ⟨v1, f1, Hr1⟩ : ∃ v f, Hid ((resM ⟨qk, qt, qc, ql, qh, qy, qo⟩ M1 ((rowsOf (R.take k)).filter (selT qo))).val = v ∧ (resM ⟨qk, qt, qc, ql, qh, qy, qo⟩ M1 ((rowsOf (R.take k)).filter (selT qo))).fnd = f) := ⟨_, _, Lib.hid ⟨rfl, rfl⟩⟩
            simp only [Hr1.out.1, Hr1.out.2]
            unfold resV
            clear hb hs1 ho1 c1 c2 c3 c4 c5 c6 c7 c8 c9 c10 c11 c12 c13 c14 c15 c16 c17 c18 HT2 HT1
            go_upto_region 16 with fail
            generalize hr1 : wo1.alloc _ = wr1
            have HBr1 : Hid (Below wo1.heap.size wo1 wr1) := Lib.hid (by rw [← hr1]; exact ba _ _)
            have HR1 : Hid (wr1.heap[wo1.heap.size]? = some (.cells (resC (.slice l1 n1 p1) v1 f1) 27 (0, 0))) := Lib.hid (by rw [← hr1]; exact heap_alloc_new wo1 _)
            have HQ4 := Lib.hid (bt HQ3.out HBr1.out)
            have HT3 := Lib.hid (HT2'.out.below HBr1.out)
            have HO1' := Lib.hid (HO1.out.below HBr1.out)
            obtain ⟨r1B, Hr1B⟩ : ∃ b, Hid (wo1.heap.size = b) := ⟨_, Lib.hid rfl⟩
            rw [Hr1B.out] at HR1 ⊢
            clear hr1 HT2' HO1
            obtain ⟨c1, c2, c3, c4, c5, c6, c7, c8, c9, c10, c11, c12, c13, c14, c15, c16, c17, c18⟩ := HK.out _ HQ4.out
            go_wp2_with fail
            have HOf3 := Lib.hid (of_any HT3.out HQv.out)
            unfold qV ptr at HOf3
            simp only at HOf3
            (with_reducible refine HOf3.out.mono ?_)
            rintro e wo2 ⟨u2, M2, rfl, ho2, hs2, hb⟩
            have HS2 := Lib.hid hs2
            have HO2 := Lib.hid ho2
            have HQ5 := Lib.hid (bt HQ4.out hb)
            have HO1 := Lib.hid (HO1'.out.below hb)
            have HR1' := Lib.hid ((hb.block _ (lt_of_block HR1.out)).trans HR1.out)
            obtain ⟨l2, n2, p2, rfl⟩ := ho2.form
            obtain ⟨v2, f2, Hr2⟩ : ∃ v f, Hid ((resM ⟨qk, qt, qc, ql, qh, qy, qo⟩ M2 ((rowsOf (R.take (k + 1))).filter (selT qo))).val = v ∧ (resM ⟨qk, qt, qc, ql, qh, qy, qo⟩ M2 ((rowsOf (R.take (k + 1))).filter (selT qo))).fnd = f) := ⟨_, _, Lib.hid ⟨rfl, rfl⟩⟩
            simp only [Hr2.out.1, Hr2.out.2]
            unfold resV
            clear hb hs2 ho2 c1 c2 c3 c4 c5 c6 c7 c8 c9 c10 c11 c12 c13 c14 c15 c16 c17 c18 HT3 HO1'
            go_upto_region 17 with fail
            generalize hr2 : wo2.alloc _ = wr2
            have HBr2 : Hid (Below wo2.heap.size wo2 wr2) := Lib.hid (by rw [← hr2]; exact ba _ _)
            have HR2 : Hid (wr2.heap[wo2.heap.size]? = some (.cells (resC (.slice l2 n2 p2) v2 f2) 27 (0, 0))) := Lib.hid (by rw [← hr2]; exact heap_alloc_new wo2 _)
            have HR1 := Lib.hid ((HBr2.out.block _ (lt_of_block HR1'.out)).trans HR1'.out)
            have HQ6 := Lib.hid (bt HBb0.out (bt HQ5.out HBr2.out))
            have HP1 := Lib.hid ((HO1.out.below HBr2.out).rowS)
            have HP2 := Lib.hid ((HO2.out.below HBr2.out).rowS)
            obtain ⟨r2B, Hr2B⟩ : ∃ b, Hid (wo2.heap.size = b) := ⟨_, Lib.hid rfl⟩
            rw [Hr2B.out] at HR2 ⊢
            clear hr2 HR1' HO1 HO2
            have HE : Hid (resM ⟨qk, qt, qc, ql, qh, qy, qo⟩ M1 ((rowsOf (R.take k)).filter (selT qo)) = resM ⟨qk, qt, qc, ql, qh, qy, qo⟩ M2 ((rowsOf (R.take (k + 1))).filter (selT qo))) := Lib.hid (by
              obtain ⟨q1, q2, q3, q4⟩ := HF.out
              have s2 := HS2.out
              rw [q3] at s2 ⊢
              have hbr := Hbr.out
              have har := Har.out
              have hx := Hx.out
              have hy := Hy.out
              rw [← hbr] at hx
              rw [← har] at hy
              refine local_fact (q := ⟨qk, qt, qc, ql, qh, qy, qo⟩) q1 q4 q2 ?_ ?_ ?_ HS1.out s2
              · intro h
                simp only at h
                subst h
                simpa using hx
              · intro h
                simp only at h
                subst h
                simpa using hy
              · intro h
                simp only at h ⊢
                exact Hto.out)
            have HSm := Lib.hid (fun w (hb : Below wr2.heap.size wr2 w) => rfSame_any (HP1.out.below hb) (HP2.out.below hb) v1 v2 f1 f2)
            have hd : decide (v1 = v2 ∧ f1 = f2 ∧ (resM ⟨qk, qt, qc, ql, qh, qy, qo⟩ M1 ((rowsOf (R.take k)).filter (selT qo))).rows = (resM ⟨qk, qt, qc, ql, qh, qy, qo⟩ M2 ((rowsOf (R.take (k + 1))).filter (selT qo))).rows) = true := by
              rw [← Hr1.out.1, ← Hr1.out.2, ← Hr2.out.1, ← Hr2.out.2, HE.out]
              simp
            simp only [hd] at HSm
            clear hd
            have d0 : wr2.cell? ⟨r1B, 0, none⟩ = some (.slice l1 n1 p1) := by simp [World.cell?, HR1.out]
            have d1 : wr2.cell? ⟨r1B, 1, none⟩ = some (.int .i64 v1) := by simp [World.cell?, HR1.out]
            have d2 : wr2.cell? ⟨r1B, 2, none⟩ = some (.bool f1) := by simp [World.cell?, HR1.out]
            have d3 : wr2.cell? ⟨r2B, 0, none⟩ = some (.slice l2 n2 p2) := by simp [World.cell?, HR2.out]
            have d4 : wr2.cell? ⟨r2B, 1, none⟩ = some (.int .i64 v2) := by simp [World.cell?, HR2.out]
            have d5 : wr2.cell? ⟨r2B, 2, none⟩ = some (.bool f2) := by simp [World.cell?, HR2.out]
            go_wp2_with fail
            refine (HSm.out _ (Below.refl _ _)).mono ?_
            rintro e wz ⟨rfl, hb⟩
            go_wp2_with fail
            go_ret
            exact ⟨rfl, bt HQ6.out hb⟩
        · have ge : (qk == 7) = false := by simp [hk7]
          have Hk7 := Lib.hid hk7
          clear hk7
          go_upto_region 15 with fail
          try clear ge
          try clear go
          have HqW := Lib.hid (bt HBb0.out HQ2.out)
          have HT1 := Lib.hid (HSb1.out.below HQ2.out)
          have HT2 := Lib.hid (HSb2.out.below HQ2.out)
          go_wp2_with fail
          have HOf1 := Lib.hid (of_any HT1.out HQv.out)
          unfold qV ptr at HOf1
          simp only at HOf1
          (with_reducible refine HOf1.out.mono ?_)
          rintro e wo1 ⟨u1, M1, rfl, ho1, hs1, hb⟩
          have HS1 := Lib.hid hs1
          have HO1 := Lib.hid ho1
          have HT2' := Lib.hid (HT2.out.below hb)
          have HQ3 := Lib.hid (bt HQ2.out hb)
          obtain ⟨l1, n1, p1, rfl⟩ := ho1.form
          obtain ⟨v1, f1, Hr1⟩ : ∃ v f, Hid ((resM ⟨qk, qt, qc, ql, qh, qy, qo⟩ M1 ((rowsOf (R.take k)).filter (selT qo))).val = v ∧ (resM ⟨qk, qt, qc, ql, qh, qy, qo⟩ M1 ((rowsOf (R.take k)).filter (selT qo))).fnd = f) := ⟨_, _, Lib.hid ⟨rfl, rfl⟩⟩
          simp only [Hr1.out.1, Hr1.out.2]
          unfold resV
          clear hb hs1 ho1 c1 c2 c3 c4 c5 c6 c7 c8 c9 c10 c11 c12 c13 c14 c15 c16 c17 c18 HT2 HT1
          go_upto_region 16 with fail
          generalize hr1 : wo1.alloc _ = wr1
          have HBr1 : Hid (Below wo1.heap.size wo1 wr1) := Lib.hid (by rw [← hr1]; exact ba _ _)
          have HR1 : Hid (wr1.heap[wo1.heap.size]? = some (.cells (resC (.slice l1 n1 p1) v1 f1) 27 (0, 0))) := Lib.hid (by rw [← hr1]; exact heap_alloc_new wo1 _)
          have HQ4 := Lib.hid (bt HQ3.out HBr1.out)
          have HT3 := Lib.hid (HT2'.out.below HBr1.out)
          have HO1' := Lib.hid (HO1.out.below HBr1.out)
          obtain ⟨r1B, Hr1B⟩ : ∃ b, Hid (wo1.heap.size = b) := ⟨_, Lib.hid rfl⟩
          rw [Hr1B.out] at HR1 ⊢
          clear hr1 HT2' HO1
          obtain ⟨c1, c2, c3, c4, c5, c6, c7, c8, c9, c10, c11, c12, c13, c14, c15, c16, c17, c18⟩ := HK.out _ HQ4.out
          go_wp2_with fail
          have HOf3 := Lib.hid (of_any HT3.out HQv.out)
          unfold qV ptr at HOf3
          simp only at HOf3
          (with_reducible refine HOf3.out.mono ?_)
          rintro e wo2 ⟨u2, M2, rfl, ho2, hs2, hb⟩
          have HS2 := Lib.hid hs2
          have HO2 := Lib.hid ho2
          have HQ5 := Lib.hid (bt HQ4.out hb)
          have HO1 := Lib.hid (HO1'.out.below hb)
          have HR1' := Lib.hid ((hb.block _ (lt_of_block HR1.out)).trans HR1.out)
          obtain ⟨l2, n2, p2, rfl⟩ := ho2.form
          obtain ⟨v2, f2, Hr2⟩ : ∃ v f, Hid ((resM ⟨qk, qt, qc, ql, qh, qy, qo⟩ M2 ((rowsOf (R.take (k + 1))).filter (selT qo))).val = v ∧ (resM ⟨qk, qt, qc, ql, qh, qy, qo⟩ M2 ((rowsOf (R.take (k + 1))).filter (selT qo))).fnd = f) := ⟨_, _, Lib.hid ⟨rfl, rfl⟩⟩
          simp only [Hr2.out.1, Hr2.out.2]
          unfold resV
          clear hb hs2 ho2 c1 c2 c3 c4 c5 c6 c7 c8 c9 c10 c11 c12 c13 c14 c15 c16 c17 c18 HT3 HO1'
          go_upto_region 17 with fail
          generalize hr2 : wo2.alloc _ = wr2
          have HBr2 : Hid (Below wo2.heap.size wo2 wr2) := Lib.hid (by rw [← hr2]; exact ba _ _)
          have HR2 : Hid (wr2.heap[wo2.heap.size]? = some (.cells (resC (.slice l2 n2 p2) v2 f2) 27 (0, 0))) := Lib.hid (by rw [← hr2]; exact heap_alloc_new wo2 _)
          have HR1 := Lib.hid ((HBr2.out.block _ (lt_of_block HR1'.out)).trans HR1'.out)
          have HQ6 := Lib.hid (bt HBb0.out (bt HQ5.out HBr2.out))
          have HP1 := Lib.hid ((HO1.out.below HBr2.out).rowS)
          have HP2 := Lib.hid ((HO2.out.below HBr2.out).rowS)
          obtain ⟨r2B, Hr2B⟩ : ∃ b, Hid (wo2.heap.size = b) := ⟨_, Lib.hid rfl⟩
          rw [Hr2B.out] at HR2 ⊢
          clear hr2 HR1' HO1 HO2
          have HE : Hid (resM ⟨qk, qt, qc, ql, qh, qy, qo⟩ M1 ((rowsOf (R.take k)).filter (selT qo)) = resM ⟨qk, qt, qc, ql, qh, qy, qo⟩ M2 ((rowsOf (R.take (k + 1))).filter (selT qo))) := Lib.hid (by
            obtain ⟨q1, q2, q3, q4⟩ := HF.out
            have s2 := HS2.out
            rw [q3] at s2 ⊢
            have hbr := Hbr.out
            have har := Har.out
            have hx := Hx.out
            have hy := Hy.out
            rw [← hbr] at hx
            rw [← har] at hy
            refine local_fact (q := ⟨qk, qt, qc, ql, qh, qy, qo⟩) q1 q4 q2 ?_ ?_ ?_ HS1.out s2
            · intro h
              simp only at h
              subst h
              simpa using hx
            · intro h
              simp only at h
              subst h
              simpa using hy
            · intro h
              simp only at h ⊢
              exact absurd h Hk7.out)
          have HSm := Lib.hid (fun w (hb : Below wr2.heap.size wr2 w) => rfSame_any (HP1.out.below hb) (HP2.out.below hb) v1 v2 f1 f2)
          have hd : decide (v1 = v2 ∧ f1 = f2 ∧ (resM ⟨qk, qt, qc, ql, qh, qy, qo⟩ M1 ((rowsOf (R.take k)).filter (selT qo))).rows = (resM ⟨qk, qt, qc, ql, qh, qy, qo⟩ M2 ((rowsOf (R.take (k + 1))).filter (selT qo))).rows) = true := by
            rw [← Hr1.out.1, ← Hr1.out.2, ← Hr2.out.1, ← Hr2.out.2, HE.out]
            simp
          simp only [hd] at HSm
          clear hd
          have d0 : wr2.cell? ⟨r1B, 0, none⟩ = some (.slice l1 n1 p1) := by simp [World.cell?, HR1.out]
          have d1 : wr2.cell? ⟨r1B, 1, none⟩ = some (.int .i64 v1) := by simp [World.cell?, HR1.out]
          have d2 : wr2.cell? ⟨r1B, 2, none⟩ = some (.bool f1) := by simp [World.cell?, HR1.out]
          have d3 : wr2.cell? ⟨r2B, 0, none⟩ = some (.slice l2 n2 p2) := by simp [World.cell?, HR2.out]
          have d4 : wr2.cell? ⟨r2B, 1, none⟩ = some (.int .i64 v2) := by simp [World.cell?, HR2.out]
          have d5 : wr2.cell? ⟨r2B, 2, none⟩ = some (.bool f2) := by simp [World.cell?, HR2.out]
          go_wp2_with fail
          refine (HSm.out _ (Below.refl _ _)).mono ?_
          rintro e wz ⟨rfl, hb⟩
          go_wp2_with fail
          go_ret
          exact ⟨rfl, bt HQ6.out hb⟩
      · go_wp2_with fail
        (with_reducible refine (HV2.out _).mono ?_)
        rintro e wq2 ⟨rfl, hb⟩
        have HQ2 := Lib.hid (bt HQ1.out hb)
        clear hb c1 c2 c3 c4 c5 c6 c7 c8 c9 c10 c11 c12 c13 c14 c15 c16 c17 c18
        obtain ⟨c1, c2, c3, c4, c5, c6, c7, c8, c9, c10, c11, c12, c13, c14, c15, c16, c17, c18⟩ := HK.out _ HQ2.out
        go_wp2_with fail
        go_ret
        exact ⟨rfl, bt HBb0.out HQ2.out⟩
    · go_wp2_with fail
      (with_reducible refine (HV1.out _).mono ?_)
      rintro e wq1 ⟨rfl, hb⟩
      have HQ1 := Lib.hid (hb)
      clear hb c1 c2 c3 c4 c5 c6 c7 c8 c9 c10 c11 c12 c13 c14 c15 c16 c17 c18
      obtain ⟨c1, c2, c3, c4, c5, c6, c7, c8, c9, c10, c11, c12, c13, c14, c15, c16, c17, c18⟩ := HK.out _ HQ1.out
      go_wp2_with fail
      go_ret
      exact ⟨rfl, bt HBb0.out HQ1.out⟩
end Go.Proofs.Ytcffofjialihaaa
