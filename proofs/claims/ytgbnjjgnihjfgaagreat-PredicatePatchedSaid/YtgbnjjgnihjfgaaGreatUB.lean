/- PredicatePatched: whatever the log and the query, the function answers true and leaves its arguments as they were. -/
import Derived.Test.YtgbnjjgnihjfgaaGreatRows
import Derived.Test.YtgbnjjgnihjfgaaGreatBAA
import Derived.Test.YtgbnjjgnihjfgaaGreatBAB
import Derived.Test.YtgbnjjgnihjfgaaGreatBAC
import Derived.Test.YtgbnjjgnihjfgaaGreatBAD
import Derived.Test.YtgbnjjgnihjfgaaGreatBAE
import Derived.Test.YtgbnjjgnihjfgaaGreatBAF
import Derived.Test.YtgbnjjgnihjfgaaGreatBAG
import Derived.Test.YtgbnjjgnihjfgaaGreatBAH
import Derived.Test.YtgbnjjgnihjfgaaGreatBAI
import Derived.Test.YtgbnjjgnihjfgaaGreatBAJ
import Derived.Test.YtgbnjjgnihjfgaaGreatBAK
import Derived.Test.YtgbnjjgnihjfgaaGreatBAL
import Derived.Test.YtgbnjjgnihjfgaaGreatBAM
import Derived.Test.YtgbnjjgnihjfgaaGreatBAN
import Derived.Test.YtgbnjjgnihjfgaaGreatBAO
import Derived.Test.YtgbnjjgnihjfgaaGreatBAP
import Derived.Test.YtgbnjjgnihjfgaaGreatBAQ
import Derived.Test.YtgbnjjgnihjfgaaGreatBAR
import Derived.Test.YtgbnjjgnihjfgaaGreatBAS
import Derived.Test.YtgbnjjgnihjfgaaGreatBAT
import Derived.Test.YtgbnjjgnihjfgaaGreatBAU
section
set_option linter.unusedVariables false
set_option linter.unusedSimpArgs false
namespace Go.Proofs.YtgbnjjgnihjfgaaGreat
open Go.RowKit Go.Sort Go.ChangeMaps Go.MapKept

set_option maxRecDepth 100000 in
set_option maxHeartbeats 16000000 in
theorem patched_of {x : X5} (hx : x.Ok) {W : World} {v : Value} {n : Nat} (h : XS W v n) : Calls Tryz.prog 4 #[v, x5V x] W fun e w' => e = .returned (.bool true) ∧ Below W.heap.size W w' := by
  obtain ⟨q, Hq⟩ : ∃ q, Hid (qryF x = q) := ⟨_, Lib.hid rfl⟩
  have HQv : Hid (validB q = true) := Lib.hid (by rw [← Hq.out]; exact qryF_valid x)
  have HC := Lib.hid (fun w => queryF_any x hx w)
  rw [Hq.out] at HC
  obtain ⟨mm, hmin, hmn, hm25⟩ : ∃ k : Nat, min (n : Int) 25 = k ∧ k ≤ n ∧ k ≤ 25 := ⟨min n 25, by omega, by omega, by omega⟩
  obtain ⟨va, vcap, rfl, hxt⟩ := h.take mm hmn
  have HT := Lib.hid hxt
  obtain ⟨_, _, e0, hs1, hs2, _⟩ := h
  simp only [Value.slice.injEq] at e0
  obtain ⟨rfl, -, rfl⟩ := e0
  obtain ⟨x0, x1, x2, x3, x4⟩ := x
  unfold x5V at *
  simp only at *
  clear Hq hx hxt
  go_enter Tryz.func4, Tryz.ntmps4
  go_upto_region 1 with fail
  generalize hw0 : W.alloc (.cells #[.int .i64 x0, .int .i64 x1, .int .i64 x2, .int .i64 x3, .int .i64 x4] 23) = w0
  have HB0 : Hid (Below W.heap.size W w0) := Lib.hid (by rw [← hw0]; exact ba _ _)
  have HX0 : Hid (w0.heap[W.heap.size]? = some (.cells #[.int .i64 x0, .int .i64 x1, .int .i64 x2, .int .i64 x3, .int .i64 x4] 23 (0, 0))) := Lib.hid (by rw [← hw0]; exact heap_alloc_new W _)
  clear hw0
  go_wp2_with fail
  (with_reducible refine (sane7_any _).mono ?_)
  rintro e w1 ⟨rfl, hb⟩
  have HX1 := Lib.hid ((hb.block _ (lt_of_block HX0.out)).trans HX0.out)
  have HB1 := Lib.hid (bt HB0.out hb)
  clear hb HX0 HB0
  go_wp2_with fail
  (with_reducible refine (log_walk (HT.out.below HB1.out) (by omega)).mono ?_)
  rintro e w2 ⟨R, u, rfl, hrs, hch, hl, hsm, hb⟩
  have HRS2 := Lib.hid hrs
  have HCh := Lib.hid hch
  have HL := Lib.hid (show R.length ≤ 1000 by omega)
  have HX2 := Lib.hid ((hb.block _ (lt_of_block HX1.out)).trans HX1.out)
  have HB2 := Lib.hid (bt HB1.out hb)
  obtain ⟨ra, rn, rcap, rfl, hrn, -⟩ := id hrs
  clear hb HX1 HB1 hrs hch hl hsm HT hmin hmn hm25 hs1 hs2
  subst hrn
  go_wp2_with (refine wpList_load_row rfl 23 _ rfl W.heap.size rfl 23 _ _ _ HX2.out Tryz.underlying23 rfl (by kernel_rfl) ?_)
  (with_reducible refine (HC.out _).mono ?_)
  rintro e w3 ⟨rfl, hb⟩
  have HB3 := Lib.hid (bt HB2.out hb)
  have HRS3 := Lib.hid (HRS2.out.below hb)
  clear hb HB2 HRS2 HX2 HC
  obtain ⟨qk, qt, qc, ql, qh, qy, qo⟩ := q
  unfold qV
  simp only
  go_upto_region 4 with fail
  generalize hw4 : w3.alloc (.cells #[.int .i64 qk, .int .i64 qt, .int .i64 qc, .int .i64 ql, .int .i64 qh, .int .i64 qy, .int .i64 qo] 28) = w4
  have HB4 : Hid (Below W.heap.size W w4) := Lib.hid (by rw [← hw4]; exact bt HB3.out (ba _ _))
  have HRS4 : Hid (RecS w4 (.slice ra R.length rcap) R) := Lib.hid (by rw [← hw4]; exact HRS3.out.below (ba _ _))
  have HQ4 : Hid (w4.heap[w3.heap.size]? = some (.cells #[.int .i64 qk, .int .i64 qt, .int .i64 qc, .int .i64 ql, .int .i64 qh, .int .i64 qy, .int .i64 qo] 28 (0, 0))) := Lib.hid (by rw [← hw4]; exact heap_alloc_new w3 _)
  obtain ⟨qb, Hqb⟩ : ∃ b, Hid (w3.heap.size = b) := ⟨_, Lib.hid rfl⟩
  rw [Hqb.out] at HQ4 ⊢
  clear hw4 HB3 HRS3 Hqb
  go_wp2_with fail
  (with_reducible refine (new_any _).mono ?_)
  rintro e w5 ⟨rfl, hw5⟩
  have HI := Lib.hid (SInv.new w4 R w5 hw5)
  clear hw5
  obtain ⟨sb, Hsb⟩ : ∃ b, Hid (w4.heap.size = b) := ⟨_, Lib.hid rfl⟩
  rw [Hsb.out] at HI ⊢
  clear Hsb
  go_wp2_with fail
  go_loopw [9] (fun i wr => ∃ k : Nat, k ≤ R.length ∧ i = .int .i64 k ∧ Hid (∃ m, SInv w4 wr sb R k m)) (fun i _ => R.length - (intOf i).toNat)
  case atStart => exact ⟨0, by omega, rfl, Lib.hid ⟨none, HI.out⟩⟩
  case round =>
    obtain ⟨k, hk, rfl, HSm⟩ := hrel
    clear HI
    obtain ⟨m, hm⟩ := HSm.out
    have HS1 := Lib.hid hm
    clear HSm hm
    by_cases hlt : k < R.length
    · have HQo1 := Lib.hid ((HS1.out.2.2.block _ (lt_of_block HQ4.out)).trans HQ4.out)
      have HOf1 := Lib.hid (ofR HS1.out.1 HQv.out)
      unfold qV ptr at HOf1
      simp only at HOf1
      go_wp2_with (refine wpList_load_row rfl 28 _ rfl qb rfl 28 _ _ _ HQo1.out Tryz.underlying28 rfl (by kernel_rfl) ?_)
      (with_reducible refine HOf1.out.mono ?_)
      rintro e wo1 ⟨u1, M1, v1, f1, rfl, ho, hr, hb⟩
      obtain ⟨a1, n1, c1, rfl⟩ := ho.form
      unfold resC
      go_upto_region 9 with fail
      generalize hwx : wo1.alloc (.cells #[.slice a1 n1 c1, .int .i64 v1, .bool f1] 34) = wa1
      have HRs1 := Lib.hid hr
      have HBw1 : Hid (Below wr.heap.size wr wa1) := Lib.hid (by rw [← hwx]; exact bt hb (ba _ _))
      have HSi1 := Lib.hid (HS1.out.below HBw1.out)
      have HOw1 : Hid (OwnR wa1 wr.heap.size (.slice a1 n1 c1) M1) := Lib.hid (by rw [← hwx]; exact ho.below (ba _ _))
      have HVr1 : Hid (wa1.heap[wo1.heap.size]? = some (.cells #[.slice a1 n1 c1, .int .i64 v1, .bool f1] 34 (0, 0)) ∧ wr.heap.size ≤ wo1.heap.size) := Lib.hid ⟨by rw [← hwx]; exact heap_alloc_new _ _, hb.size⟩
      obtain ⟨rb1, hrb_⟩ : ∃ b, Hid (wo1.heap.size = b) := ⟨_, Lib.hid rfl⟩
      rw [hrb_.out] at HVr1 ⊢
      clear hwx hr ho hb hrb_ HOf1 HQo1
      obtain ⟨gb, go, ga, gn, gc, eg1, -, q0, q1, hvs, hvn, hgb⟩ := rec_at (HRS4.out.below HSi1.out.2.2) HCh.out hlt
      subst eg1
      clear hvn
      have HAp := Lib.hid (SInv.apply HSi1.out HCh.out hlt hvs)
      go_upto_region 9 with fail
      go_wp2_with fail
      (with_reducible refine HAp.out.mono ?_)
      rintro e w8 ⟨rfl, m', hs8, hk8⟩
      have HS8 := Lib.hid hs8
      have HV8 : Hid (w8.heap[rb1]? = some (.cells #[.slice a1 n1 c1, .int .i64 v1, .bool f1] 34 (0, 0))) := Lib.hid ((HS1.out.keeps HBw1.out hk8 _ HVr1.out.2 (lt_of_block HVr1.out.1)).trans HVr1.out.1)
      have HO8 := Lib.hid (HS1.out.own hk8 HOw1.out (Nat.le_refl _))
      clear hs8 hk8 HAp q0 q1 hvs hgb HVr1 HOw1 HSi1
      go_upto_region 11 with fail
      have HQo2 := Lib.hid ((HS8.out.2.2.block _ (lt_of_block HQ4.out)).trans HQ4.out)
      have HOf2 := Lib.hid (ofR HS8.out.1 HQv.out)
      unfold qV ptr at HOf2
      simp only at HOf2
      go_wp2_with (refine wpList_load_row rfl 28 _ rfl qb rfl 28 _ _ _ HQo2.out Tryz.underlying28 rfl (by kernel_rfl) ?_)
      (with_reducible refine HOf2.out.mono ?_)
      rintro e wo2 ⟨u2, M2, v2, f2, rfl, ho, hr, hb⟩
      obtain ⟨a2, n2, c2, rfl⟩ := ho.form
      unfold resC
      go_upto_region 12 with fail
      generalize hwx : wo2.alloc (.cells #[.slice a2 n2 c2, .int .i64 v2, .bool f2] 34) = wa2
      have HRs2 := Lib.hid hr
      have HBw2 : Hid (Below w8.heap.size w8 wa2) := Lib.hid (by rw [← hwx]; exact bt hb (ba _ _))
      have HSi2 := Lib.hid (HS8.out.below HBw2.out)
      have HOw2 : Hid (OwnR wa2 w8.heap.size (.slice a2 n2 c2) M2) := Lib.hid (by rw [← hwx]; exact ho.below (ba _ _))
      have HVr2 : Hid (wa2.heap[wo2.heap.size]? = some (.cells #[.slice a2 n2 c2, .int .i64 v2, .bool f2] 34 (0, 0)) ∧ w8.heap.size ≤ wo2.heap.size) := Lib.hid ⟨by rw [← hwx]; exact heap_alloc_new _ _, hb.size⟩
      obtain ⟨rb2, hrb_⟩ : ∃ b, Hid (wo2.heap.size = b) := ⟨_, Lib.hid rfl⟩
      rw [hrb_.out] at HVr2 ⊢
      clear hwx hr ho hb hrb_ HOf2 HQo2
      have HV9 := Lib.hid ((HBw2.out.block _ (lt_of_block HV8.out)).trans HV8.out)
      have HO9 := Lib.hid (HO8.out.below HBw2.out)
      clear HV8 HO8
      obtain ⟨gb', go', ga, gn, gc, eg2, -, q0, q1, hvs, hvn, hgb⟩ := rec_at (HRS4.out.below HSi2.out.2.2) HCh.out hlt
      simp only [Option.some.injEq, Addr.mk.injEq, and_true] at eg2
      obtain ⟨rfl, rfl⟩ := eg2
      obtain ⟨cs, Hcs⟩ : ∃ c, Hid ((R.getD k recZ).chs = c) := ⟨_, Lib.hid rfl⟩
      have hl8 : (R.getD k recZ).chs.length ≤ 8 := (HCh.out k hlt).1.2.1.2
      rw [Hcs.out] at hvs hvn hl8
      have HCs := Lib.hid hvs
      have HL8 := Lib.hid hl8
      have HQ9 := Lib.hid ((HSi2.out.2.2.block _ (lt_of_block HQ4.out)).trans HQ4.out)
      have HG := Lib.hid (And.intro hgb (And.intro q0 q1))
      clear hvs hgb q0 q1 hl8 hvn
      obtain ⟨TT, HTT⟩ : ∃ t, Hid (cs.any (touchB (⟨qk, qt, qc, ql, qh, qy, qo⟩ : MQ)) = t) := ⟨_, Lib.hid rfl⟩
      have HA : Hid (∀ w, Hid (Below wa2.heap.size wa2 w) → Calls Tryz.prog 18 #[.agg #[.int .i64 qk, .int .i64 qt, .int .i64 qc, .int .i64 ql, .int .i64 qh, .int .i64 qy, .int .i64 qo], .agg #[.slice a1 n1 c1, .int .i64 v1, .bool f1], .agg #[.int .i64 ((k : Int) + 1), .slice ga gn gc]] w fun e w' => ∃ ua un uc v f kn rows, e = .returned (.tuple #[.agg #[.slice ua un uc, .int .i64 v, .bool f], .bool TT, .bool kn]) ∧ Hid (OwnR w' w.heap.size (.slice ua un uc) rows) ∧ Hid (kn = true → (⟨rows, v, f⟩ : MRes) = ⟨M2, v2, f2⟩) ∧ Hid (TT = false → kn = true ∧ (⟨rows, v, f⟩ : MRes) = ⟨M1, v1, f1⟩) ∧ Hid (Below w.heap.size w w')) := Lib.hid (fun w hb => by
        have hl := rs_len HQv.out HRs1.out (HCh.out.good k (by omega))
        have h := Apply_any (q := (⟨qk, qt, qc, ql, qh, qy, qo⟩ : MQ)) (r := ⟨M1, v1, f1⟩) (pos := (k : Int) + 1) (HO9.out.rowS.below hb.out) (by have := HL8.out; simp only at hl ⊢; omega) (HCs.out.below hb.out)
        unfold qV resC at h
        simp only at h
        refine h.mono ?_
        rintro e w' ⟨u, rfl, ho, hb'⟩
        have ht := apply_touch (⟨qk, qt, qc, ql, qh, qy, qo⟩ : MQ) ⟨M1, v1, f1⟩ cs
        rw [HTT.out] at ht
        obtain ⟨sa, sn, sc, rfl⟩ := own_form ho
        refine ⟨sa, sn, sc, _, _, _, _, by rw [← ht], Lib.hid ho, Lib.hid (fun hk => ?_), Lib.hid (fun h0 => ?_), Lib.hid hb'⟩
        · cases ha : (applyM (⟨qk, qt, qc, ql, qh, qy, qo⟩ : MQ) ⟨M1, v1, f1⟩ cs).1 with
          | none => rw [ha] at hk; cases hk
          | some s =>
            rw [rs_apply HQv.out HCh.out hlt HRs1.out HRs2.out (by rw [Hcs.out]; exact ha)]
            rfl
        · rw [apply_same (by rw [HTT.out]; exact h0)]
          exact ⟨rfl, rfl⟩)
      have HK : Hid (∀ w, Below wa2.heap.size wa2 w → w.cell? ⟨qb, 0, none⟩ = some (.int .i64 qk) ∧ w.cell? ⟨qb, 1, none⟩ = some (.int .i64 qt) ∧ w.cell? ⟨qb, 2, none⟩ = some (.int .i64 qc) ∧ w.cell? ⟨qb, 3, none⟩ = some (.int .i64 ql) ∧ w.cell? ⟨qb, 4, none⟩ = some (.int .i64 qh) ∧ w.cell? ⟨qb, 5, none⟩ = some (.int .i64 qy) ∧ w.cell? ⟨qb, 6, none⟩ = some (.int .i64 qo) ∧ w.cell? ⟨rb1, 0, none⟩ = some (.slice a1 n1 c1) ∧ w.cell? ⟨rb1, 1, none⟩ = some (.int .i64 v1) ∧ w.cell? ⟨rb1, 2, none⟩ = some (.bool f1) ∧ w.cell? ⟨gb, go + k * 2, none⟩ = some (.int .i64 ((k : Int) + 1)) ∧ w.cell? ⟨gb, go + k * 2 + 1, none⟩ = some (.slice ga gn gc)) := Lib.hid (fun w hb => by
        have h1 := (hb.block _ (lt_of_block HQ9.out)).trans HQ9.out
        have h2 := (hb.block _ (lt_of_block HV9.out)).trans HV9.out
        have h3 := ((hb.cell (p := ⟨gb, go + k * 2, none⟩) HG.out.1)).trans HG.out.2.1
        have h4 := ((hb.cell (p := ⟨gb, go + k * 2 + 1, none⟩) HG.out.1)).trans HG.out.2.2
        refine ⟨?_, ?_, ?_, ?_, ?_, ?_, ?_, ?_, ?_, ?_, h3, h4⟩ <;> simp [World.cell?, h1, h2])
      go_upto_region 12 with fail
      go_cut [14, 15, 16] (fun p s t wx => ∃ pb ua un uc v f kn rows, p = .pointer (some ⟨pb, 0, none⟩) ∧ s = .bool TT ∧ t = .bool kn ∧ Hid (Below wa2.heap.size wa2 wx) ∧ Hid (wx.heap[pb]? = some (.cells #[.slice ua un uc, .int .i64 v, .bool f] 34 (0, 0)) ∧ wa2.heap.size ≤ pb) ∧ Hid (OwnR wx wa2.heap.size (.slice ua un uc) rows) ∧ Hid (kn = true → (⟨rows, v, f⟩ : MRes) = ⟨M2, v2, f2⟩) ∧ Hid (TT = false → kn = true ∧ (⟨rows, v, f⟩ : MRes) = ⟨M1, v1, f1⟩))
      case first => as_aux_lemma =>
        go_region_held3 (fun w => w.cell? ⟨qb, 0, none⟩ = some (.int .i64 qk) ∧ w.cell? ⟨qb, 1, none⟩ = some (.int .i64 qt) ∧ w.cell? ⟨qb, 2, none⟩ = some (.int .i64 qc) ∧ w.cell? ⟨qb, 3, none⟩ = some (.int .i64 ql) ∧ w.cell? ⟨qb, 4, none⟩ = some (.int .i64 qh) ∧ w.cell? ⟨qb, 5, none⟩ = some (.int .i64 qy) ∧ w.cell? ⟨qb, 6, none⟩ = some (.int .i64 qo) ∧ w.cell? ⟨rb1, 0, none⟩ = some (.slice a1 n1 c1) ∧ w.cell? ⟨rb1, 1, none⟩ = some (.int .i64 v1) ∧ w.cell? ⟨rb1, 2, none⟩ = some (.bool f1) ∧ w.cell? ⟨gb, go + k * 2, none⟩ = some (.int .i64 ((k : Int) + 1)) ∧ w.cell? ⟨gb, go + k * 2 + 1, none⟩ = some (.slice ga gn gc))
          (first | exact HK.out _ (below_drew _) | exact HK.out _ HCur.out | exact HK.out _ (bt (ba wa2 _) (below_drew _)) | exact HK.out _ (bt HCur.out (ba _ _)) | exact HK.out _ (below_setCell (below_setCell (below_setCell HCur.out hge _) hge _) hge _))
          (first
            | (go_at_call 18; (with_reducible refine (HA.out _ (Lib.hid (below_drew _))).mono ?_); rintro e wk1 ⟨sa, sn, sc, sv, sf, kn, rows, rfl, HOk, HKn, HTf, HBk1⟩; have HCur := Lib.hid (bt (below_drew _) HBk1.out))
            | (go_at_call 18; (with_reducible refine (HA.out _ (Lib.hid (bt (ba wa2 _) (below_drew _)))).mono ?_); rintro e wk1 ⟨sa, sn, sc, sv, sf, kn, rows, rfl, HOk, HKn, HTf, HBk1⟩; have HCur := Lib.hid (bt (bt (ba wa2 _) (below_drew _)) HBk1.out); have HRb : Hid (wk1.heap[wa2.heap.size]? = some (.cells #[.slice none 0 0, .int .i64 0, .bool false] 34 (0, 0))) := Lib.hid ((HBk1.out.block _ (by simp [World.drew])).trans (heap_alloc_new wa2 _)); have f0 : ∀ j, wk1.frozen? ⟨wa2.heap.size, j, none⟩ = false := (fun j => by simp [World.frozen?, HRb.out]); have x0 : wk1.cell? ⟨wa2.heap.size, 0, none⟩ = some (.slice none 0 0) := (by simp [World.cell?, HRb.out]); have x1 : wk1.cell? ⟨wa2.heap.size, 1, none⟩ = some (.int .i64 0) := (by simp [World.cell?, HRb.out]); have x2 : wk1.cell? ⟨wa2.heap.size, 2, none⟩ = some (.bool false) := (by simp [World.cell?, HRb.out]); have hge := Nat.le_refl wa2.heap.size))
        all_goals
          go_wp2_with fail
          go_meet
          first
            | exact ⟨wk1.heap.size, sa, sn, sc, sv, sf, kn, rows, rfl, rfl, rfl, Lib.hid (bt HCur.out (ba _ _)), Lib.hid ⟨heap_alloc_new _ _, HCur.out.size⟩, Lib.hid ((HOk.out.mono (below_drew wa2).size).below (ba _ _)), HKn, HTf⟩
            | exact ⟨wa2.heap.size, sa, sn, sc, sv, sf, kn, rows, rfl, rfl, rfl, Lib.hid (below_setCell (below_setCell (below_setCell HCur.out hge _) hge _) hge _), Lib.hid ⟨set3_heap HRb.out, hge⟩, Lib.hid (own_set3 HOk.out (by simp [World.drew]) (by simp [World.drew]) _ _ _), HKn, HTf⟩
      case rest => as_aux_lemma =>
        obtain ⟨pb, ua, un, uc, v', f', kn, rows', hp_, hs_, ht_, HBx, HPx, HOx, HKn, HTf⟩ := hcut
        rename World => wp
        subst hp_
        subst hs_
        subst ht_
        have hRl := HL.out
        have HVa := Lib.hid ((HBx.out.block _ (lt_of_block HV9.out)).trans HV9.out)
        have HVb := Lib.hid ((HBx.out.block _ (lt_of_block HVr2.out.1)).trans HVr2.out.1)
        have HSn := Lib.hid (HSi2.out.below HBx.out)
        have HPb := Lib.hid HPx.out.1
        have HR1 := Lib.hid (HO9.out.rowS.below HBx.out)
        have HR2 := Lib.hid (HOw2.out.rowS.below HBx.out)
        have HR3 := Lib.hid HOx.out.rowS
        go_upto_region 13 with fail
        cases kn
        · have htt : TT = true := by
            cases TT
            · exact absurd (HTf.out rfl).1 (by decide)
            · rfl
          subst htt
          go_wp2_with fail
          exact ⟨⟨k + 1, by omega, by go_num, Lib.hid ⟨_, HSn.out⟩⟩, by simp [intOf]; omega⟩
        · have e := HKn.out rfl
          simp only [MRes.mk.injEq] at e
          obtain ⟨rfl, rfl, rfl⟩ := e
          have HSa := Lib.hid (same7_any (x := v') (y := v') (f := f') (g := f') HR3.out HR2.out)
          unfold resC at HSa
          simp only [beq_self_eq_true, decide_true, Bool.and_self] at HSa
          cases TT
          · have e := (HTf.out rfl).2
            simp only [MRes.mk.injEq] at e
            obtain ⟨rfl, rfl, rfl⟩ := e
            go_wp2_with (first | refine wpList_load_rowW (by rfl) 34 _ rfl pb rfl 34 _ _ _ HPb.out Tryz.underlying34 rfl (by kernel_rfl) ?_ | refine wpList_load_rowW (by rfl) 34 _ rfl rb2 rfl 34 _ _ _ HVb.out Tryz.underlying34 rfl (by kernel_rfl) ?_)
            (with_reducible refine HSa.out.mono ?_)
            rintro e wz ⟨rfl, hb⟩
            have HSb := Lib.hid (same7_any (x := v') (y := v') (f := f') (g := f') (HR1.out.below hb) (HR3.out.below hb))
            unfold resC at HSb
            simp only [beq_self_eq_true, decide_true, Bool.and_self] at HSb
            have HVz := Lib.hid ((hb.block _ (lt_of_block HVa.out)).trans HVa.out)
            have HPz := Lib.hid ((hb.block _ (lt_of_block HPb.out)).trans HPb.out)
            have HSz := Lib.hid (HSn.out.below hb)
            clear hb
            go_wp2_with (first | refine wpList_load_rowW (by rfl) 34 _ rfl rb1 rfl 34 _ _ _ HVz.out Tryz.underlying34 rfl (by kernel_rfl) ?_ | refine wpList_load_rowW (by rfl) 34 _ rfl pb rfl 34 _ _ _ HPz.out Tryz.underlying34 rfl (by kernel_rfl) ?_)
            (with_reducible refine HSb.out.mono ?_)
            rintro e wy ⟨rfl, hb⟩
            have HSy := Lib.hid (HSz.out.below hb)
            clear hb
            go_wp2_with fail
            exact ⟨⟨k + 1, by omega, by go_num, Lib.hid ⟨_, HSy.out⟩⟩, by simp [intOf]; omega⟩
          · go_wp2_with (first | refine wpList_load_rowW (by rfl) 34 _ rfl pb rfl 34 _ _ _ HPb.out Tryz.underlying34 rfl (by kernel_rfl) ?_ | refine wpList_load_rowW (by rfl) 34 _ rfl rb2 rfl 34 _ _ _ HVb.out Tryz.underlying34 rfl (by kernel_rfl) ?_)
            (with_reducible refine HSa.out.mono ?_)
            rintro e wz ⟨rfl, hb⟩
            have HSz := Lib.hid (HSn.out.below hb)
            clear hb
            go_wp2_with fail
            exact ⟨⟨k + 1, by omega, by go_num, Lib.hid ⟨_, HSz.out⟩⟩, by simp [intOf]; omega⟩
    · obtain rfl : k = R.length := by omega
      go_wp2_with fail
      go_ret
      exact ⟨rfl, bt HB4.out HS1.out.2.2⟩
end Go.Proofs.YtgbnjjgnihjfgaaGreat
end

section
set_option linter.unusedVariables false
set_option linter.unusedSimpArgs false
namespace Go.Proofs.YtgbnjjgnihjfgaaGreat
open Go.ChangeShapes Go.WideShapes Go.ChangeAt Go.RowKit

set_option maxRecDepth 100000 in
theorem predicatePatched_lifted (os : Os) (started : os.Started) (H : Type) (enc : TypeId × Value → H) :
    ReturnsInHanded {} Tryz.checked os 4 .any (Rows.predicatePatchedSpec.pre6 enc Tryz.prog Tryz.f4 Rows.predicatePatchedRow.domain false) (Rows.predicatePatchedSpec.post enc Tryz.prog Tryz.f4 false true false false) := by
  refine returnsInHanded_of_change (C := Tryz.checked) own started (by kernel_rfl) Tryz.func4
    (ChangeSpec.witness6 (enc := enc) (C := Tryz.checked) false ⟨#[], #[.slice none 0 0, .agg #[.int .i64 0, .int .i64 0, .int .i64 0, .int .i64 0, .int .i64 0]], []⟩ 8 (by kernel_rfl) (by kernel_rfl) (by kernel_rfl) (by kernel_rfl)) ?_
  intro W base args ds gs before hval0 hW hcnd _
  have hval : ∀ (j : Nat) t v, Tryz.f4.params[j]? = some t → args[j]? = some v → Value.okWide Tryz.prog W .any base t v := hval0
  have hW' := hW
  obtain ⟨p, q, hA0, hV, rfl, hfz, hnd⟩ := hW
  have hA : DataW.TrodAll enc Tryz.prog W 0 (fun _ => true) true Tryz.f4.params.toList args.toList ds p := hA0
  rw [Tryz.params4] at hA hval
  obtain ⟨v0, vs0, d0, ds0, p0, q0, hargs, rfl, rfl, h0, r0⟩ := trodAll_cons hA
  obtain ⟨v1, vs1, d1, ds1, p1, q1, rfl, rfl, rfl, h1, r1⟩ := trodAll_cons r0
  obtain ⟨rfl, rfl, rfl⟩ := trodAll_nil r1
  obtain rfl : args = #[v0, v1] := by cases args; simp_all
  obtain ⟨n0, x0⟩ := open_xs6 (hval 0 22 v0 rfl rfl) h0
  obtain ⟨a1, rfl, b1⟩ := open_arr5 (hval 1 23 v1 rfl rfl) h1
  refine (patched_of b1 x0).mono fun e W' ⟨he, hb⟩ => ?_
  subst he
  exact ⟨_, rfl, law_post 4 (by kernel_rfl) ⟨rfl, fun H ds hd => by
    rw [Tryz.params4] at hd
    obtain ⟨e0, e1, rfl⟩ := len2 hd
    rfl⟩ (by kernel_rfl) (by kernel_rfl) Tryz.underlying4 hW' hb⟩
theorem predicatePatched_holds : Rows.PredicatePatchedSaid :=
  OpenClaim.holds_of_wide 4 Tryz.f4 rfl rfl rfl rfl rfl rfl rfl ⟨rfl, rfl, rfl, rfl, rfl⟩ rfl rfl rfl rfl rfl (by kernel_rfl) Tryz.func4 (by kernel_rfl)
    (of_decide_eq_true (by kernel_rfl)) (by unfold Func.isWrapper; first | (rw [if_pos (by decide +kernel)]; kernel_rfl) | (rw [if_neg (by decide +kernel)]; exact ⟨rfl, rfl⟩))
    (fun os started H enc _ => predicatePatched_lifted os started H enc)
end Go.Proofs.YtgbnjjgnihjfgaaGreat
end
