/- PredicateAlways: whatever the log and the query, the function answers true and leaves its arguments as they were. -/
import Derived.Test.YtgbnjjgnihjfgaaGreatRows
import Derived.Test.YtgbnjjgnihjfgaaGreatBAA
import Derived.Test.YtgbnjjgnihjfgaaGreatBAB
import Derived.Test.YtgbnjjgnihjfgaaGreatBAC
import Derived.Test.YtgbnjjgnihjfgaaGreatBAD
import Derived.Test.YtgbnjjgnihjfgaaGreatBAE
import Derived.Test.YtgbnjjgnihjfgaaGreatBAF
import Derived.Test.YtgbnjjgnihjfgaaGreatBAG
import Derived.Test.YtgbnjjgnihjfgaaGreatBAH
import Derived.Test.YtgbnjjgnihjfgaaGreatBAI
import Derived.Test.YtgbnjjgnihjfgaaGreatBAJ
import Derived.Test.YtgbnjjgnihjfgaaGreatBAK
import Derived.Test.YtgbnjjgnihjfgaaGreatBAL
import Derived.Test.YtgbnjjgnihjfgaaGreatBAM
import Derived.Test.YtgbnjjgnihjfgaaGreatBAN
import Derived.Test.YtgbnjjgnihjfgaaGreatBAO
import Derived.Test.YtgbnjjgnihjfgaaGreatBAP
import Derived.Test.YtgbnjjgnihjfgaaGreatBAQ
import Derived.Test.YtgbnjjgnihjfgaaGreatBAR
import Derived.Test.YtgbnjjgnihjfgaaGreatBAS
import Derived.Test.YtgbnjjgnihjfgaaGreatBAT
import Derived.Test.YtgbnjjgnihjfgaaGreatBAU
section
set_option linter.unusedVariables false
set_option linter.unusedSimpArgs false
namespace Go.Proofs.YtgbnjjgnihjfgaaGreat
open Go.RowKit Go.Sort Go.ChangeMaps Go.MapKept

/-- A change of a list, cell by cell. -/
theorem ch_at {w : World} {a : Option Addr} {n c : Nat} {cs : List MCh} (h : ChS w (.slice a n c) cs) {j : Nat} (hj : j < cs.length) : ∃ b o, a = some ⟨b, o, none⟩ ∧ b < w.heap.size ∧ ChAt w b (o + j * 10) (cs.getD j chZ) := by
  obtain ⟨_, _, _, e, hn, _, _, hc⟩ := h
  simp only [Value.slice.injEq] at e
  obtain ⟨rfl, rfl, rfl⟩ := e
  obtain ⟨b, o, rfl, hb, hcs⟩ := hc (by omega)
  exact ⟨b, o, rfl, hb, hcs j (by omega)⟩
set_option maxRecDepth 100000 in
set_option maxHeartbeats 16000000 in
theorem always_of {x : X5} (hx : x.Ok) {W : World} {v : Value} {n : Nat} (h : XS W v n) : Calls Tryz.prog 6 #[v, x5V x] W fun e w' => e = .returned (.bool true) ∧ Below W.heap.size W w' := by
  obtain ⟨q, Hq⟩ : ∃ q, Hid (qryF x = q) := ⟨_, Lib.hid rfl⟩
  have HQv : Hid (validB q = true) := Lib.hid (by rw [← Hq.out]; exact qryF_valid x)
  have HC := Lib.hid (fun w => queryF_any x hx w)
  rw [Hq.out] at HC
  obtain ⟨mm, hmin, hmn, hm25⟩ : ∃ k : Nat, min (n : Int) 25 = k ∧ k ≤ n ∧ k ≤ 25 := ⟨min n 25, by omega, by omega, by omega⟩
  obtain ⟨va, vcap, rfl, hxt⟩ := h.take mm hmn
  have HT := Lib.hid hxt
  obtain ⟨_, _, e0, hs1, hs2, _⟩ := h
  simp only [Value.slice.injEq] at e0
  obtain ⟨rfl, -, rfl⟩ := e0
  obtain ⟨x0, x1, x2, x3, x4⟩ := x
  unfold x5V at *
  simp only at *
  clear Hq hx hxt
  go_enter Tryz.func6, Tryz.ntmps6
  go_upto_region 1 with fail
  generalize hw0 : W.alloc (.cells #[.int .i64 x0, .int .i64 x1, .int .i64 x2, .int .i64 x3, .int .i64 x4] 23) = w0
  have HB0 : Hid (Below W.heap.size W w0) := Lib.hid (by rw [← hw0]; exact ba _ _)
  have HX0 : Hid (w0.heap[W.heap.size]? = some (.cells #[.int .i64 x0, .int .i64 x1, .int .i64 x2, .int .i64 x3, .int .i64 x4] 23 (0, 0))) := Lib.hid (by rw [← hw0]; exact heap_alloc_new W _)
  clear hw0
  go_wp2_with fail
  (with_reducible refine (sane7_any _).mono ?_)
  rintro e w1 ⟨rfl, hb⟩
  have HX1 := Lib.hid ((hb.block _ (lt_of_block HX0.out)).trans HX0.out)
  have HB1 := Lib.hid (bt HB0.out hb)
  clear hb HX0 HB0
  go_wp2_with fail
  (with_reducible refine (log_walk (HT.out.below HB1.out) (by omega)).mono ?_)
  rintro e w2 ⟨R, u, rfl, hrs, hch, hl, hsm, hb⟩
  have HRS2 := Lib.hid hrs
  have HCh := Lib.hid hch
  have HL := Lib.hid (show R.length ≤ 1000 by omega)
  have HX2 := Lib.hid ((hb.block _ (lt_of_block HX1.out)).trans HX1.out)
  have HB2 := Lib.hid (bt HB1.out hb)
  obtain ⟨ra, rn, rcap, rfl, hrn, -⟩ := id hrs
  clear hb HX1 HB1 hrs hch hl hsm HT hmin hmn hm25 hs1 hs2
  subst hrn
  go_wp2_with (refine wpList_load_row rfl 23 _ rfl W.heap.size rfl 23 _ _ _ HX2.out Tryz.underlying23 rfl (by kernel_rfl) ?_)
  (with_reducible refine (HC.out _).mono ?_)
  rintro e w3 ⟨rfl, hb⟩
  have HB3 := Lib.hid (bt HB2.out hb)
  have HRS3 := Lib.hid (HRS2.out.below hb)
  clear hb HB2 HRS2 HX2 HC
  obtain ⟨qk, qt, qc, ql, qh, qy, qo⟩ := q
  unfold qV
  simp only
  go_upto_region 4 with fail
  generalize hw4 : w3.alloc (.cells #[.int .i64 qk, .int .i64 qt, .int .i64 qc, .int .i64 ql, .int .i64 qh, .int .i64 qy, .int .i64 qo] 28) = w4
  have HB4 : Hid (Below W.heap.size W w4) := Lib.hid (by rw [← hw4]; exact bt HB3.out (ba _ _))
  have HRS4 : Hid (RecS w4 (.slice ra R.length rcap) R) := Lib.hid (by rw [← hw4]; exact HRS3.out.below (ba _ _))
  have HQ4 : Hid (w4.heap[w3.heap.size]? = some (.cells #[.int .i64 qk, .int .i64 qt, .int .i64 qc, .int .i64 ql, .int .i64 qh, .int .i64 qy, .int .i64 qo] 28 (0, 0))) := Lib.hid (by rw [← hw4]; exact heap_alloc_new w3 _)
  obtain ⟨qb, Hqb⟩ : ∃ b, Hid (w3.heap.size = b) := ⟨_, Lib.hid rfl⟩
  rw [Hqb.out] at HQ4 ⊢
  clear hw4 HB3 HRS3 Hqb
  go_wp2_with fail
  (with_reducible refine (new_any _).mono ?_)
  rintro e w5 ⟨rfl, hw5⟩
  have HI := Lib.hid (SInv.new w4 R w5 hw5)
  clear hw5
  obtain ⟨sb, Hsb⟩ : ∃ b, Hid (w4.heap.size = b) := ⟨_, Lib.hid rfl⟩
  rw [Hsb.out] at HI ⊢
  clear Hsb
  go_wp2_with fail
  go_loopw [9] (fun i wr => ∃ k : Nat, k ≤ R.length ∧ i = .int .i64 k ∧ Hid (∃ m, SInv w4 wr sb R k m)) (fun i _ => R.length - (intOf i).toNat)
  case atStart => exact ⟨0, by omega, rfl, Lib.hid ⟨none, HI.out⟩⟩
  case round =>
    obtain ⟨k, hk, rfl, HSm⟩ := hrel
    clear HI
    obtain ⟨m, hm⟩ := HSm.out
    have HS1 := Lib.hid hm
    clear HSm hm
    by_cases hlt : k < R.length
    · have HQo1 := Lib.hid ((HS1.out.2.2.block _ (lt_of_block HQ4.out)).trans HQ4.out)
      have HOf1 := Lib.hid (ofR HS1.out.1 HQv.out)
      unfold qV ptr at HOf1
      simp only at HOf1
      go_wp2_with (refine wpList_load_row rfl 28 _ rfl qb rfl 28 _ _ _ HQo1.out Tryz.underlying28 rfl (by kernel_rfl) ?_)
      (with_reducible refine HOf1.out.mono ?_)
      rintro e wo1 ⟨u1, M1, v1, f1, rfl, ho, hr, hb⟩
      obtain ⟨a1, n1, c1, rfl⟩ := ho.form
      unfold resC
      go_upto_region 9 with fail
      generalize hwx : wo1.alloc (.cells #[.slice a1 n1 c1, .int .i64 v1, .bool f1] 34) = wa1
      have HRs1 := Lib.hid hr
      have HBw1 : Hid (Below wr.heap.size wr wa1) := Lib.hid (by rw [← hwx]; exact bt hb (ba _ _))
      have HSi1 := Lib.hid (HS1.out.below HBw1.out)
      have HOw1 : Hid (OwnR wa1 wr.heap.size (.slice a1 n1 c1) M1) := Lib.hid (by rw [← hwx]; exact ho.below (ba _ _))
      have HVr1 : Hid (wa1.heap[wo1.heap.size]? = some (.cells #[.slice a1 n1 c1, .int .i64 v1, .bool f1] 34 (0, 0)) ∧ wr.heap.size ≤ wo1.heap.size) := Lib.hid ⟨by rw [← hwx]; exact heap_alloc_new _ _, hb.size⟩
      obtain ⟨rb1, hrb_⟩ : ∃ b, Hid (wo1.heap.size = b) := ⟨_, Lib.hid rfl⟩
      rw [hrb_.out] at HVr1 ⊢
      clear hwx hr ho hb hrb_ HOf1 HQo1
      obtain ⟨gb, go, ga, gn, gc, eg1, -, q0, q1, hvs, hvn, hgb⟩ := rec_at (HRS4.out.below HSi1.out.2.2) HCh.out hlt
      subst eg1
      clear hvn
      have HAp := Lib.hid (SInv.apply HSi1.out HCh.out hlt hvs)
      go_upto_region 9 with fail
      go_wp2_with fail
      (with_reducible refine HAp.out.mono ?_)
      rintro e w8 ⟨rfl, m', hs8, hk8⟩
      have HS8 := Lib.hid hs8
      have HV8 : Hid (w8.heap[rb1]? = some (.cells #[.slice a1 n1 c1, .int .i64 v1, .bool f1] 34 (0, 0))) := Lib.hid ((HS1.out.keeps HBw1.out hk8 _ HVr1.out.2 (lt_of_block HVr1.out.1)).trans HVr1.out.1)
      have HO8 := Lib.hid (HS1.out.own hk8 HOw1.out (Nat.le_refl _))
      clear hs8 hk8 HAp q0 q1 hvs hgb HVr1 HOw1 HSi1
      go_upto_region 11 with fail
      obtain ⟨gb', go', ga, gn, gc, eg2, -, q0, q1, hvs, hvn, hgb⟩ := rec_at (HRS4.out.below HS8.out.2.2) HCh.out hlt
      simp only [Option.some.injEq, Addr.mk.injEq, and_true] at eg2
      obtain ⟨rfl, rfl⟩ := eg2
      clear q0
      obtain ⟨cs, Hcs⟩ : ∃ c, Hid ((R.getD k recZ).chs = c) := ⟨_, Lib.hid rfl⟩
      have hl8 : (R.getD k recZ).chs.length ≤ 8 := (HCh.out k hlt).1.2.1.2
      rw [Hcs.out] at hvs hvn hl8
      have HCs := Lib.hid hvs
      subst hvn
      have HQ8 := Lib.hid ((HS8.out.2.2.block _ (lt_of_block HQ4.out)).trans HQ4.out)
      have HG := Lib.hid (And.intro hgb q1)
      clear hvs hgb q1
      have HLr := Lib.hid (rs_len HQv.out HRs1.out (HCh.out.good k (by omega)))
      go_upto_region 12 with fail
      go_wp2_with fail
      go_loopw [12] (fun i wr' => ∃ j : Nat, j ≤ cs.length ∧ i = .int .i64 j ∧ Hid (Below w8.heap.size w8 wr')) (fun i _ => cs.length - (intOf i).toNat)
      case atStart => exact ⟨0, by omega, rfl, Lib.hid (Below.refl _ _)⟩
      case round =>
        obtain ⟨j, hj, rfl, HJ⟩ := hrel
        rename World => wj
        have q1 : wj.cell? ⟨gb, go + k * 2 + 1, none⟩ = some (.slice ga cs.length gc) := (HJ.out.cell (p := ⟨gb, go + k * 2 + 1, none⟩) HG.out.1).trans HG.out.2
        by_cases hjl : j < cs.length
        · have hj8 : j ≤ 8 := by omega
          obtain ⟨cb, co, rfl, hcb, H1r⟩ := ch_at HCs.out (j := j) hjl
          have hmem : cs.getD j chZ ∈ (R.getD k recZ).chs := by
            rw [Hcs.out, List.getD_eq_getElem?_getD, List.getElem?_eq_getElem hjl, Option.getD_some]
            exact List.getElem_mem _
          obtain ⟨⟨t, kk, had, ⟨oa, ob, oc⟩, has, ⟨na, nb, nc⟩⟩, Hc⟩ : ∃ c, Hid (cs.getD j chZ = c) := ⟨_, Lib.hid rfl⟩
          rw [Hc.out] at H1r hmem
          have HNone := Lib.hid (fun hp => rs_none HQv.out HCh.out hlt HRs1.out hmem hp)
          obtain ⟨y0, y1, y2, y3, y4, y5, y6, y7, y8, y9⟩ := (H1r.kept (F := fun _ => False) (Kept.of_below HJ.out) hcb id).cells
          clear H1r hmem
          go_upto_region 15 with fail
          generalize hw : wj.alloc (.cells #[.int .i64 t, .int .i64 kk, .bool had, .int .i64 oa, .int .i64 ob, .int .i64 oc, .bool has, .int .i64 na, .int .i64 nb, .int .i64 nc] 45) = wc
          have HBc : Hid (Below wj.heap.size wj wc) := Lib.hid (by rw [← hw]; exact ba _ _)
          have HXc : Hid (wc.heap[wj.heap.size]? = some (.cells #[.int .i64 t, .int .i64 kk, .bool had, .int .i64 oa, .int .i64 ob, .int .i64 oc, .bool has, .int .i64 na, .int .i64 nb, .int .i64 nc] 45 (0, 0))) := Lib.hid (by rw [← hw]; exact heap_alloc_new _ _)
          have HJc := Lib.hid (bt HJ.out HBc.out)
          have HQc := Lib.hid ((HJc.out.block _ (lt_of_block HQ8.out)).trans HQ8.out)
          have HVc := Lib.hid ((HJc.out.block _ (lt_of_block HV8.out)).trans HV8.out)
          clear hw y0 y1 y2 y3 y4 y5 y6 y7 y8 y9 q1
          have HP := Lib.hid (Patch_any (q := (⟨qk, qt, qc, ql, qh, qy, qo⟩ : MQ)) (c := (⟨t, kk, had, ⟨oa, ob, oc⟩, has, ⟨na, nb, nc⟩⟩ : MCh)) (r := ⟨M1, v1, f1⟩) (HO8.out.rowS.below HJc.out) (by have := HLr.out; simp only at this ⊢; omega))
          unfold qV chV resC PatchRes at HP
          simp only at HP
          obtain ⟨PP, HPP⟩ : ∃ p, Hid (patchF (⟨qk, qt, qc, ql, qh, qy, qo⟩ : MQ) ⟨M1, v1, f1⟩ (⟨t, kk, had, ⟨oa, ob, oc⟩, has, ⟨na, nb, nc⟩⟩ : MCh) = p) := ⟨_, Lib.hid rfl⟩
          rw [HPP.out] at HP
          have HNone2 := Lib.hid (fun (hp : PP = none) => HNone.out (HPP.out.trans hp))
          clear HNone
          go_wp2_with (first | refine wpList_load_row rfl 28 _ rfl qb rfl 28 _ _ _ HQc.out Tryz.underlying28 rfl (by kernel_rfl) ?_ | refine wpList_load_row rfl 34 _ rfl rb1 rfl 34 _ _ _ HVc.out Tryz.underlying34 rfl (by kernel_rfl) ?_ | refine wpList_load_row rfl 45 _ rfl wj.heap.size rfl 45 _ _ _ HXc.out Tryz.underlying45 rfl (by kernel_rfl) ?_)
          (with_reducible refine HP.out.mono ?_)
          rintro e wd ⟨up, rfl, hop, hbd⟩
          obtain ⟨pa, pn, pc, rfl⟩ := own_form hop
          obtain ⟨pv, hpv⟩ : ∃ z, z = (PP.getD resZ).val := ⟨_, rfl⟩
          obtain ⟨pf, hpf⟩ : ∃ z, z = (PP.getD resZ).fnd := ⟨_, rfl⟩
          obtain ⟨pk, hpk⟩ : ∃ z, z = PP.isSome := ⟨_, rfl⟩
          rw [← hpv, ← hpf, ← hpk]
          have HPk := Lib.hid hpk
          clear hpv hpf hpk hop
          go_upto_region 16 with fail
          generalize hw : wd.alloc _ = we
          have HJe : Hid (Below w8.heap.size w8 we) := Lib.hid (by rw [← hw]; exact bt HJc.out (bt hbd (ba _ _)))
          have HBce : Hid (Below wc.heap.size wc we) := Lib.hid (by rw [← hw]; exact bt hbd (ba _ _))
          have HXe := Lib.hid ((HBce.out.block _ (lt_of_block HXc.out)).trans HXc.out)
          have HQe := Lib.hid ((HBce.out.block _ (lt_of_block HQc.out)).trans HQc.out)
          have HVe := Lib.hid ((HBce.out.block _ (lt_of_block HVc.out)).trans HVc.out)
          clear hw hbd
          cases pk
          · have hno : PP = none := by
              have h := HPk.out
              cases hq : PP with
              | none => rfl
              | some _ => rw [hq] at h; cases h
            obtain ⟨h5, h7⟩ := HNone2.out hno
            try simp only at h5 h7
            have h4 : ¬ qk ≤ 4 := by omega
            have hq0 : we.cell? ⟨qb, 0, none⟩ = some (.int .i64 qk) := by simp [World.cell?, HQe.out]
            have H7 := Lib.hid h7
            clear h7 hno
            by_cases h7k : qk = 7
            · have e7 : (qk == 7) = true := by simp [h7k]
              clear h7k
              go_wp2_with fail
              exact ⟨⟨j + 1, by omega, by go_num, HJe⟩, by simp [intOf]; omega⟩
            · have e7 : (qk == 7) = false := by simp [h7k]
              obtain ⟨hk56, hh, hbv, hfn, hin⟩ := H7.out h7k
              have Hk5 := Lib.hid hk56
              subst hh
              subst hfn
              clear hk56 h7k H7
              have HBv : Hid (vget (⟨t, kk, ⟨oa, ob, oc⟩⟩ : MRow) qy = v1) := Lib.hid hbv
              have HC23 : Hid (∀ w, Calls Tryz.prog 23 #[.agg #[.int .i64 t, .int .i64 kk, .bool true, .int .i64 oa, .int .i64 ob, .int .i64 oc, .bool has, .int .i64 na, .int .i64 nb, .int .i64 nc]] w fun e w' => e = .returned (.tuple #[.agg #[.int .i64 t, .int .i64 kk, .int .i64 oa, .int .i64 ob, .int .i64 oc], .bool true]) ∧ Below w.heap.size w w') := Lib.hid (fun w => refBefore_any (⟨t, kk, true, ⟨oa, ob, oc⟩, has, ⟨na, nb, nc⟩⟩ : MCh) w)
              have HC25 : Hid (∀ w, Calls Tryz.prog 25 #[chV (⟨t, kk, true, ⟨oa, ob, oc⟩, has, ⟨na, nb, nc⟩⟩ : MCh)] w fun e w' => e = .returned (.tuple #[rowV (aftR (⟨t, kk, true, ⟨oa, ob, oc⟩, has, ⟨na, nb, nc⟩⟩ : MCh)), .bool has]) ∧ Below w.heap.size w w') := Lib.hid (fun w => refAfter_any (⟨t, kk, true, ⟨oa, ob, oc⟩, has, ⟨na, nb, nc⟩⟩ : MCh) w)
              obtain ⟨⟨at', ak, ⟨x1, x2, x3⟩⟩, Har⟩ : ∃ r, Hid (aftR (⟨t, kk, true, ⟨oa, ob, oc⟩, has, ⟨na, nb, nc⟩⟩ : MCh) = r) := ⟨_, Lib.hid rfl⟩
              rw [Har.out] at HC25
              rw [Har.out] at hin
              unfold chV rowV at HC25
              simp only at HC25
              have hok := (valid_ok HQv.out).1
              have HVb : Hid (∀ w, Calls Tryz.prog 24 #[.agg #[.int .i64 t, .int .i64 kk, .int .i64 oa, .int .i64 ob, .int .i64 oc], .int .i64 qy] w fun e w' => e = .returned (.int .i64 v1) ∧ Below w.heap.size w w') := Lib.hid (fun w => by
                have h := refValue_any t kk oa ob oc qy w hok.2.2.2.2.2.1.1 hok.2.2.2.2.2.1.2
                rw [HBv.out] at h
                exact h)
              obtain ⟨vy, Hvy⟩ : ∃ z, Hid (vget (⟨at', ak, ⟨x1, x2, x3⟩⟩ : MRow) qy = z) := ⟨_, Lib.hid rfl⟩
              obtain ⟨vc, Hvc⟩ : ∃ z, Hid (vget (⟨at', ak, ⟨x1, x2, x3⟩⟩ : MRow) qc = z) := ⟨_, Lib.hid rfl⟩
              have HVy : Hid (∀ w, Calls Tryz.prog 24 #[.agg #[.int .i64 at', .int .i64 ak, .int .i64 x1, .int .i64 x2, .int .i64 x3], .int .i64 qy] w fun e w' => e = .returned (.int .i64 vy) ∧ Below w.heap.size w w') := Lib.hid (fun w => by
                have h := refValue_any at' ak x1 x2 x3 qy w hok.2.2.2.2.2.1.1 hok.2.2.2.2.2.1.2
                rw [Hvy.out] at h
                exact h)
              have HVc : Hid (∀ w, Calls Tryz.prog 24 #[.agg #[.int .i64 at', .int .i64 ak, .int .i64 x1, .int .i64 x2, .int .i64 x3], .int .i64 qc] w fun e w' => e = .returned (.int .i64 vc) ∧ Below w.heap.size w w') := Lib.hid (fun w => by
                have h := refValue_any at' ak x1 x2 x3 qc w hok.2.2.1.1 hok.2.2.1.2
                rw [Hvc.out] at h
                exact h)
              try simp only at hin
              rw [Hvy.out, Hvc.out] at hin
              have HIN := Lib.hid hin
              clear hin hok
              have HQ_we := HQe
              have HV_we := HVe
              have HX_we := HXe
              clear HQe HVe HXe
              go_wp2_with (refine wpList_load_row rfl 45 _ rfl wj.heap.size rfl 45 _ _ _ HX_we.out Tryz.underlying45 rfl (by kernel_rfl) ?_)
              (with_reducible refine (HC23.out _).mono ?_)
              rintro e wf ⟨rfl, hbf⟩
              go_upto_region 21 with fail
              generalize hw : wf.alloc _ = w1
              have hb1 : Below we.heap.size we w1 := by rw [← hw]; exact bt hbf (ba _ _)
              have HB_w1 : Hid (w1.heap[wf.heap.size]? = some (.cells #[.int .i64 t, .int .i64 kk, .int .i64 oa, .int .i64 ob, .int .i64 oc] 57 (0, 0))) := Lib.hid (by rw [← hw]; exact heap_alloc_new _ _)
              have HQ_w1 := Lib.hid ((hb1.block _ (lt_of_block HQ_we.out)).trans HQ_we.out)
              have HV_w1 := Lib.hid ((hb1.block _ (lt_of_block HV_we.out)).trans HV_we.out)
              have HX_w1 := Lib.hid ((hb1.block _ (lt_of_block HX_we.out)).trans HX_we.out)
              have HJ_w1 := Lib.hid (bt HJe.out hb1)
              clear hw hbf hb1 HQ_we HV_we HX_we
              have hqb := lt_of_block HQ_w1.out
              have hrw := lt_of_block HB_w1.out
              have hvb := lt_of_block HV_w1.out
              have zq5 := re_cell hqb (show w1.cell? ⟨qb, 5, none⟩ = some (.int .i64 qy) by simp [World.cell?, HQ_w1.out])
              have zv1 := re_cell hvb (show w1.cell? ⟨rb1, 1, none⟩ = some (.int .i64 v1) by simp [World.cell?, HV_w1.out])
              have zv2 := re_cell hvb (show w1.cell? ⟨rb1, 2, none⟩ = some (.bool true) by simp [World.cell?, HV_w1.out])
              have zr0 := re_cell hrw (show w1.cell? ⟨wf.heap.size, 0, none⟩ = some (.int .i64 t) by simp [World.cell?, HB_w1.out])
              have zr1 := re_cell hrw (show w1.cell? ⟨wf.heap.size, 1, none⟩ = some (.int .i64 kk) by simp [World.cell?, HB_w1.out])
              have zr2 := re_cell hrw (show w1.cell? ⟨wf.heap.size, 2, none⟩ = some (.int .i64 oa) by simp [World.cell?, HB_w1.out])
              have zr3 := re_cell hrw (show w1.cell? ⟨wf.heap.size, 3, none⟩ = some (.int .i64 ob) by simp [World.cell?, HB_w1.out])
              have zr4 := re_cell hrw (show w1.cell? ⟨wf.heap.size, 4, none⟩ = some (.int .i64 oc) by simp [World.cell?, HB_w1.out])
              have ev : (v1 != v1) = false := by simp
              refine wp_region_calm 15 99 [0, 1, 2, 3, 4, 5, 6, 7, 8, 9, 10, 11, 12, 13, 14] (by kernel_rfl) (by kernel_rfl) (by intro oz h; simp at h) (by intro oz h; simp at h) (by rfl) ?_
              simp only [List.take_succ_cons, List.take_zero]
              iterate 6
                apply wpCalm_want
                · rfl
                · exact bc_refl
                · exact ⟨_, Below.refl _ _⟩
                · intro w00 hC0 K hK
                  go_big_quiet_op
                  exact hK
              apply wpCalm_want
              · rfl
              · exact bc_refl
              · exact ⟨_, Below.refl _ _⟩
              · intro w00 hC0 K hK
                go_big_quiet_op
                apply Exists.intro
                refine ⟨fun p => ?_, ?_⟩
                · exact Calls.regrown_of (HVb.out _)
                · exact hK
              iterate 8
                apply wpCalm_want
                · rfl
                · exact bc_refl
                · exact ⟨_, Below.refl _ _⟩
                · intro w00 hC0 K hK
                  go_big_quiet_op
                  exact hK
              refine wpCalm_nil ?_
              intro w2 hbq
              try simp only [List.drop_succ_cons, List.drop_zero]
              clear ev zq5 zv1 zv2 zr0 zr1 zr2 zr3 zr4 hqb hrw hvb
              have HQ_w2 := Lib.hid ((hbq.block _ (lt_of_block HQ_w1.out)).trans HQ_w1.out)
              have HV_w2 := Lib.hid ((hbq.block _ (lt_of_block HV_w1.out)).trans HV_w1.out)
              have HX_w2 := Lib.hid ((hbq.block _ (lt_of_block HX_w1.out)).trans HX_w1.out)
              have HJ_w2 := Lib.hid (bt HJ_w1.out hbq)
              clear hbq HB_w1 HQ_w1 HV_w1 HX_w1
              go_upto_region 23 with fail
              go_wp2_with (refine wpList_load_row rfl 45 _ rfl wj.heap.size rfl 45 _ _ _ HX_w2.out Tryz.underlying45 rfl (by kernel_rfl) ?_)
              (with_reducible refine (HC25.out _).mono ?_)
              rintro e wg ⟨rfl, hbg⟩
              go_upto_region 24 with fail
              generalize hw : wg.alloc _ = w3
              have hb3 : Below w2.heap.size w2 w3 := by rw [← hw]; exact bt hbg (ba _ _)
              have HA_w3 : Hid (w3.heap[wg.heap.size]? = some (.cells #[.int .i64 at', .int .i64 ak, .int .i64 x1, .int .i64 x2, .int .i64 x3] 57 (0, 0))) := Lib.hid (by rw [← hw]; exact heap_alloc_new _ _)
              have HQ_w3 := Lib.hid ((hb3.block _ (lt_of_block HQ_w2.out)).trans HQ_w2.out)
              have HV_w3 := Lib.hid ((hb3.block _ (lt_of_block HV_w2.out)).trans HV_w2.out)
              have HJ_w3 := Lib.hid (bt HJ_w2.out hb3)
              clear hw hbg hb3 HQ_w2 HV_w2 HX_w2
              have hqb := lt_of_block HQ_w3.out
              have hrw := lt_of_block HA_w3.out
              have hvb := lt_of_block HV_w3.out
              have zq5 := re_cell hqb (show w3.cell? ⟨qb, 5, none⟩ = some (.int .i64 qy) by simp [World.cell?, HQ_w3.out])
              have zv1 := re_cell hvb (show w3.cell? ⟨rb1, 1, none⟩ = some (.int .i64 v1) by simp [World.cell?, HV_w3.out])
              have zr0 := re_cell hrw (show w3.cell? ⟨wg.heap.size, 0, none⟩ = some (.int .i64 at') by simp [World.cell?, HA_w3.out])
              have zr1 := re_cell hrw (show w3.cell? ⟨wg.heap.size, 1, none⟩ = some (.int .i64 ak) by simp [World.cell?, HA_w3.out])
              have zr2 := re_cell hrw (show w3.cell? ⟨wg.heap.size, 2, none⟩ = some (.int .i64 x1) by simp [World.cell?, HA_w3.out])
              have zr3 := re_cell hrw (show w3.cell? ⟨wg.heap.size, 3, none⟩ = some (.int .i64 x2) by simp [World.cell?, HA_w3.out])
              have zr4 := re_cell hrw (show w3.cell? ⟨wg.heap.size, 4, none⟩ = some (.int .i64 x3) by simp [World.cell?, HA_w3.out])
              refine wp_region_calm 7 99 [0, 1, 2, 3, 4, 5, 6] (by kernel_rfl) (by kernel_rfl) (by intro oz h; simp at h) (by intro oz h; simp at h) (by rfl) ?_
              simp only [List.take_succ_cons, List.take_zero]
              iterate 3
                apply wpCalm_want
                · rfl
                · exact bc_refl
                · exact ⟨_, Below.refl _ _⟩
                · intro w00 hC0 K hK
                  go_big_quiet_op
                  exact hK
              apply wpCalm_want
              · rfl
              · exact bc_refl
              · exact ⟨_, Below.refl _ _⟩
              · intro w00 hC0 K hK
                go_big_quiet_op
                apply Exists.intro
                refine ⟨fun p => ?_, ?_⟩
                · exact Calls.regrown_of (HVy.out _)
                · exact hK
              iterate 3
                apply wpCalm_want
                · rfl
                · exact bc_refl
                · exact ⟨_, Below.refl _ _⟩
                · intro w00 hC0 K hK
                  go_big_quiet_op
                  exact hK
              refine wpCalm_nil ?_
              intro w4_ hbq
              try simp only [List.drop_succ_cons, List.drop_zero]
              clear zq5 zv1 zr0 zr1 zr2 zr3 zr4 hqb hrw hvb
              have HQ_w4_ := Lib.hid ((hbq.block _ (lt_of_block HQ_w3.out)).trans HQ_w3.out)
              have HV_w4_ := Lib.hid ((hbq.block _ (lt_of_block HV_w3.out)).trans HV_w3.out)
              have HA_w4_ := Lib.hid ((hbq.block _ (lt_of_block HA_w3.out)).trans HA_w3.out)
              have HJ_w4_ := Lib.hid (bt HJ_w3.out hbq)
              clear hbq HQ_w3 HV_w3 HA_w3
              have hq0 : w4_.cell? ⟨qb, 0, none⟩ = some (.int .i64 qk) := by simp [World.cell?, HQ_w4_.out]
              go_upto_if 122 with fail
              go_cut [20] (fun s wx => ∃ WW, s = .bool WW ∧ Hid (WW = false → (qk = 5 → ¬ v1 < vy) ∧ (qk = 6 → ¬ vy < v1)) ∧ Hid (Below w4_.heap.size w4_ wx))
              case first => as_aux_lemma =>
                by_cases h6 : qk = 6
                · have e6 : (qk == 6) = true := by simp [h6]
                  have H6 := Lib.hid h6
                  clear h6
                  go_upto_region 26 with fail
                  clear hq0 e6
                  have hqb := lt_of_block HQ_w4_.out
                  have hrw := lt_of_block HA_w4_.out
                  have hvb := lt_of_block HV_w4_.out
                  have zq5 := re_cell hqb (show w4_.cell? ⟨qb, 5, none⟩ = some (.int .i64 qy) by simp [World.cell?, HQ_w4_.out])
                  have zv1 := re_cell hvb (show w4_.cell? ⟨rb1, 1, none⟩ = some (.int .i64 v1) by simp [World.cell?, HV_w4_.out])
                  have zr0 := re_cell hrw (show w4_.cell? ⟨wg.heap.size, 0, none⟩ = some (.int .i64 at') by simp [World.cell?, HA_w4_.out])
                  have zr1 := re_cell hrw (show w4_.cell? ⟨wg.heap.size, 1, none⟩ = some (.int .i64 ak) by simp [World.cell?, HA_w4_.out])
                  have zr2 := re_cell hrw (show w4_.cell? ⟨wg.heap.size, 2, none⟩ = some (.int .i64 x1) by simp [World.cell?, HA_w4_.out])
                  have zr3 := re_cell hrw (show w4_.cell? ⟨wg.heap.size, 3, none⟩ = some (.int .i64 x2) by simp [World.cell?, HA_w4_.out])
                  have zr4 := re_cell hrw (show w4_.cell? ⟨wg.heap.size, 4, none⟩ = some (.int .i64 x3) by simp [World.cell?, HA_w4_.out])
                  refine wp_region_calm 7 99 [0, 1, 2, 3, 4, 5, 6] (by kernel_rfl) (by kernel_rfl) (by intro oz h; simp at h) (by intro oz h; simp at h) (by rfl) ?_
                  simp only [List.take_succ_cons, List.take_zero]
                  iterate 3
                    apply wpCalm_want
                    · rfl
                    · exact bc_refl
                    · exact ⟨_, Below.refl _ _⟩
                    · intro w00 hC0 K hK
                      go_big_quiet_op
                      exact hK
                  apply wpCalm_want
                  · rfl
                  · exact bc_refl
                  · exact ⟨_, Below.refl _ _⟩
                  · intro w00 hC0 K hK
                    go_big_quiet_op
                    apply Exists.intro
                    refine ⟨fun p => ?_, ?_⟩
                    · exact Calls.regrown_of (HVy.out _)
                    · exact hK
                  iterate 3
                    apply wpCalm_want
                    · rfl
                    · exact bc_refl
                    · exact ⟨_, Below.refl _ _⟩
                    · intro w00 hC0 K hK
                      go_big_quiet_op
                      exact hK
                  refine wpCalm_nil ?_
                  intro w5_ hbq
                  try simp only [List.drop_succ_cons, List.drop_zero]
                  clear zq5 zv1 zr0 zr1 zr2 zr3 zr4 hqb hrw hvb
                  have HB5 := Lib.hid hbq
                  clear hbq
                  go_wp2_with fail
                  go_meet
                  exact ⟨decide (vy < v1), rfl, Lib.hid (fun h => ⟨fun h5 => by have := H6.out; omega, fun _ => by have := of_decide_eq_false h; omega⟩), HB5⟩
                · have e6 : (qk == 6) = false := by simp [h6]
                  have H6 := Lib.hid h6
                  clear h6
                  go_wp2_with fail
                  go_meet
                  exact ⟨decide (vy > v1), rfl, Lib.hid (fun h => ⟨fun _ => by have := of_decide_eq_false h; omega, fun h6 => absurd h6 H6.out⟩), Lib.hid (Below.refl _ _)⟩
              case rest => as_aux_lemma =>
                obtain ⟨WW, hs_, HWW, HBc⟩ := hcut
                rename World => w6_
                subst hs_
                have hbq := HBc.out
                have HQ_w6_ := Lib.hid ((hbq.block _ (lt_of_block HQ_w4_.out)).trans HQ_w4_.out)
                have HA_w6_ := Lib.hid ((hbq.block _ (lt_of_block HA_w4_.out)).trans HA_w4_.out)
                have HJ_w6_ := Lib.hid (bt HJ_w4_.out hbq)
                clear hbq HQ_w4_ HV_w4_ HA_w4_ hq0 HBc
                go_upto_region 27 with fail
                have hqb := lt_of_block HQ_w6_.out
                have hrw := lt_of_block HA_w6_.out
                have zq2 := re_cell hqb (show w6_.cell? ⟨qb, 2, none⟩ = some (.int .i64 qc) by simp [World.cell?, HQ_w6_.out])
                have zq3 := re_cell hqb (show w6_.cell? ⟨qb, 3, none⟩ = some (.int .i64 ql) by simp [World.cell?, HQ_w6_.out])
                have zq4 := re_cell hqb (show w6_.cell? ⟨qb, 4, none⟩ = some (.int .i64 qh) by simp [World.cell?, HQ_w6_.out])
                have zr0 := re_cell hrw (show w6_.cell? ⟨wg.heap.size, 0, none⟩ = some (.int .i64 at') by simp [World.cell?, HA_w6_.out])
                have zr1 := re_cell hrw (show w6_.cell? ⟨wg.heap.size, 1, none⟩ = some (.int .i64 ak) by simp [World.cell?, HA_w6_.out])
                have zr2 := re_cell hrw (show w6_.cell? ⟨wg.heap.size, 2, none⟩ = some (.int .i64 x1) by simp [World.cell?, HA_w6_.out])
                have zr3 := re_cell hrw (show w6_.cell? ⟨wg.heap.size, 3, none⟩ = some (.int .i64 x2) by simp [World.cell?, HA_w6_.out])
                have zr4 := re_cell hrw (show w6_.cell? ⟨wg.heap.size, 4, none⟩ = some (.int .i64 x3) by simp [World.cell?, HA_w6_.out])
                refine wp_region_calm 16 99 [0, 1, 2, 3, 4, 5, 6, 7, 8, 9, 10, 11, 12, 13, 14, 15] (by kernel_rfl) (by kernel_rfl) (by intro oz h; simp at h) (by intro oz h; simp at h) (by rfl) ?_
                simp only [List.take_succ_cons, List.take_zero]
                iterate 3
                  apply wpCalm_want
                  · rfl
                  · exact bc_refl
                  · exact ⟨_, Below.refl _ _⟩
                  · intro w00 hC0 K hK
                    go_big_quiet_op
                    exact hK
                apply wpCalm_want
                · rfl
                · exact bc_refl
                · exact ⟨_, Below.refl _ _⟩
                · intro w00 hC0 K hK
                  go_big_quiet_op
                  apply Exists.intro
                  refine ⟨fun p => ?_, ?_⟩
                  · exact Calls.regrown_of (HVc.out _)
                  · exact hK
                iterate 4
                  apply wpCalm_want
                  · rfl
                  · exact bc_refl
                  · exact ⟨_, Below.refl _ _⟩
                  · intro w00 hC0 K hK
                    go_big_quiet_op
                    exact hK
                by_cases hl : vc < ql
                · have el : decide (vc < ql) = true := decide_eq_true hl
                  simp only [el]
                  refine wpCalm_skip (by rfl) ?_
                  go_frame
                  refine wpCalm_skip (by rfl) ?_
                  go_frame
                  refine wpCalm_skip (by rfl) ?_
                  go_frame
                  refine wpCalm_skip (by rfl) ?_
                  go_frame
                  refine wpCalm_skip (by rfl) ?_
                  go_frame
                  refine wpCalm_skip (by rfl) ?_
                  go_frame
                  refine wpCalm_skip (by rfl) ?_
                  go_frame
                  apply wpCalm_want
                  · rfl
                  · exact bc_refl
                  · exact ⟨_, Below.refl _ _⟩
                  · intro w00 hC0 K hK
                    go_big_quiet_op
                    exact hK
                  refine wpCalm_nil ?_
                  intro w7_ hbq
                  try simp only [List.drop_succ_cons, List.drop_zero]
                  have HJ_w7_ := Lib.hid (bt HJ_w6_.out hbq)
                  clear hbq zq2 zq3 zq4 zr0 zr1 zr2 zr3 zr4 hqb hrw
                  clear el
                  cases has
                  · go_wp2_with fail
                    exact ⟨⟨j + 1, by omega, by go_num, HJ_w7_⟩, by simp [intOf]; omega⟩
                  · cases WW
                    · go_wp2_with fail
                      exact ⟨⟨j + 1, by omega, by go_num, HJ_w7_⟩, by simp [intOf]; omega⟩
                    · go_wp2_with fail
                      exact ⟨⟨j + 1, by omega, by go_num, HJ_w7_⟩, by simp [intOf]; omega⟩
                · have el : decide (vc < ql) = false := decide_eq_false hl
                  simp only [el]
                  iterate 3
                    apply wpCalm_want
                    · rfl
                    · exact bc_refl
                    · exact ⟨_, Below.refl _ _⟩
                    · intro w00 hC0 K hK
                      go_big_quiet_op
                      exact hK
                  apply wpCalm_want
                  · rfl
                  · exact bc_refl
                  · exact ⟨_, Below.refl _ _⟩
                  · intro w00 hC0 K hK
                    go_big_quiet_op
                    apply Exists.intro
                    refine ⟨fun p => ?_, ?_⟩
                    · exact Calls.regrown_of (HVc.out _)
                    · exact hK
                  iterate 4
                    apply wpCalm_want
                    · rfl
                    · exact bc_refl
                    · exact ⟨_, Below.refl _ _⟩
                    · intro w00 hC0 K hK
                      go_big_quiet_op
                      exact hK
                  refine wpCalm_nil ?_
                  intro w7_ hbq
                  try simp only [List.drop_succ_cons, List.drop_zero]
                  have HJ_w7_ := Lib.hid (bt HJ_w6_.out hbq)
                  clear hbq zq2 zq3 zq4 zr0 zr1 zr2 zr3 zr4 hqb hrw
                  clear el
                  cases has
                  · go_wp2_with fail
                    exact ⟨⟨j + 1, by omega, by go_num, HJ_w7_⟩, by simp [intOf]; omega⟩
                  · cases WW
                    · by_cases ho : vc > qh
                      · go_wp2_with fail
                        exact ⟨⟨j + 1, by omega, by go_num, HJ_w7_⟩, by simp [intOf]; omega⟩
                      · obtain ⟨k1, k2⟩ := HIN.out rfl (by omega) (by omega)
                        obtain ⟨k3, k4⟩ := HWW.out rfl
                        rcases Hk5.out with h | h
                        · exact absurd (k1 h) (k3 h)
                        · exact absurd (k2 h) (k4 h)
                    · go_wp2_with fail
                      exact ⟨⟨j + 1, by omega, by go_num, HJ_w7_⟩, by simp [intOf]; omega⟩
          · go_wp2_with fail
            exact ⟨⟨j + 1, by omega, by go_num, HJe⟩, by simp [intOf]; omega⟩
        · obtain rfl : j = cs.length := by omega
          have hRl := HL.out
          have HSn := Lib.hid (HS8.out.below HJ.out)
          go_wp2_with fail
          exact ⟨⟨k + 1, by omega, by go_num, Lib.hid ⟨_, HSn.out⟩⟩, by simp [intOf]; omega⟩
    · obtain rfl : k = R.length := by omega
      go_wp2_with fail
      go_ret
      exact ⟨rfl, bt HB4.out HS1.out.2.2⟩
end Go.Proofs.YtgbnjjgnihjfgaaGreat
end

section
set_option linter.unusedVariables false
set_option linter.unusedSimpArgs false
namespace Go.Proofs.YtgbnjjgnihjfgaaGreat
open Go.ChangeShapes Go.WideShapes Go.ChangeAt Go.RowKit

set_option maxRecDepth 100000 in
theorem predicateAlways_lifted (os : Os) (started : os.Started) (H : Type) (enc : TypeId × Value → H) :
    ReturnsInHanded {} Tryz.checked os 6 .any (Rows.predicateAlwaysSpec.pre6 enc Tryz.prog Tryz.f6 Rows.predicateAlwaysRow.domain false) (Rows.predicateAlwaysSpec.post enc Tryz.prog Tryz.f6 false true false false) := by
  refine returnsInHanded_of_change (C := Tryz.checked) own started (by kernel_rfl) Tryz.func6
    (ChangeSpec.witness6 (enc := enc) (C := Tryz.checked) false ⟨#[], #[.slice none 0 0, .agg #[.int .i64 0, .int .i64 0, .int .i64 0, .int .i64 0, .int .i64 0]], []⟩ 8 (by kernel_rfl) (by kernel_rfl) (by kernel_rfl) (by kernel_rfl)) ?_
  intro W base args ds gs before hval0 hW hcnd _
  have hval : ∀ (j : Nat) t v, Tryz.f6.params[j]? = some t → args[j]? = some v → Value.okWide Tryz.prog W .any base t v := hval0
  have hW' := hW
  obtain ⟨p, q, hA0, hV, rfl, hfz, hnd⟩ := hW
  have hA : DataW.TrodAll enc Tryz.prog W 0 (fun _ => true) true Tryz.f6.params.toList args.toList ds p := hA0
  rw [Tryz.params6] at hA hval
  obtain ⟨v0, vs0, d0, ds0, p0, q0, hargs, rfl, rfl, h0, r0⟩ := trodAll_cons hA
  obtain ⟨v1, vs1, d1, ds1, p1, q1, rfl, rfl, rfl, h1, r1⟩ := trodAll_cons r0
  obtain ⟨rfl, rfl, rfl⟩ := trodAll_nil r1
  obtain rfl : args = #[v0, v1] := by cases args; simp_all
  obtain ⟨n0, x0⟩ := open_xs6 (hval 0 22 v0 rfl rfl) h0
  obtain ⟨a1, rfl, b1⟩ := open_arr5 (hval 1 23 v1 rfl rfl) h1
  refine (always_of b1 x0).mono fun e W' ⟨he, hb⟩ => ?_
  subst he
  exact ⟨_, rfl, law_post 4 (by kernel_rfl) ⟨rfl, fun H ds hd => by
    rw [Tryz.params6] at hd
    obtain ⟨e0, e1, rfl⟩ := len2 hd
    rfl⟩ (by kernel_rfl) (by kernel_rfl) Tryz.underlying4 hW' hb⟩
theorem predicateAlways_holds : Rows.PredicateAlwaysSaid :=
  OpenClaim.holds_of_wide 6 Tryz.f6 rfl rfl rfl rfl rfl rfl rfl ⟨rfl, rfl, rfl, rfl, rfl⟩ rfl rfl rfl rfl rfl (by kernel_rfl) Tryz.func6 (by kernel_rfl)
    (of_decide_eq_true (by kernel_rfl)) (by unfold Func.isWrapper; first | (rw [if_pos (by decide +kernel)]; kernel_rfl) | (rw [if_neg (by decide +kernel)]; exact ⟨rfl, rfl⟩))
    (fun os started H enc _ => predicateAlways_lifted os started H enc)
end Go.Proofs.YtgbnjjgnihjfgaaGreat
end
