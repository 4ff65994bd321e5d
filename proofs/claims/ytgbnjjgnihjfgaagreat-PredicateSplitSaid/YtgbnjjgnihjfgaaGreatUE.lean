/- PredicateSplit: whatever the log and the query, the function answers true and leaves its arguments as they were. -/
import Derived.Test.YtgbnjjgnihjfgaaGreatRows
import Derived.Test.YtgbnjjgnihjfgaaGreatBAA
import Derived.Test.YtgbnjjgnihjfgaaGreatBAB
import Derived.Test.YtgbnjjgnihjfgaaGreatBAC
import Derived.Test.YtgbnjjgnihjfgaaGreatBAD
import Derived.Test.YtgbnjjgnihjfgaaGreatBAE
import Derived.Test.YtgbnjjgnihjfgaaGreatBAF
import Derived.Test.YtgbnjjgnihjfgaaGreatBAG
import Derived.Test.YtgbnjjgnihjfgaaGreatBAH
import Derived.Test.YtgbnjjgnihjfgaaGreatBAI
import Derived.Test.YtgbnjjgnihjfgaaGreatBAJ
import Derived.Test.YtgbnjjgnihjfgaaGreatBAK
import Derived.Test.YtgbnjjgnihjfgaaGreatBAL
import Derived.Test.YtgbnjjgnihjfgaaGreatBAM
import Derived.Test.YtgbnjjgnihjfgaaGreatBAN
import Derived.Test.YtgbnjjgnihjfgaaGreatBAO
import Derived.Test.YtgbnjjgnihjfgaaGreatBAP
import Derived.Test.YtgbnjjgnihjfgaaGreatBAQ
import Derived.Test.YtgbnjjgnihjfgaaGreatBAR
import Derived.Test.YtgbnjjgnihjfgaaGreatBAS
import Derived.Test.YtgbnjjgnihjfgaaGreatBAT
import Derived.Test.YtgbnjjgnihjfgaaGreatBAU
section
set_option linter.unusedVariables false
set_option linter.unusedSimpArgs false
namespace Go.Proofs.YtgbnjjgnihjfgaaGreat
open Go.RowKit Go.Sort Go.ChangeMaps Go.MapKept

/-- A change of a list, cell by cell. -/
theorem ch_at {w : World} {a : Option Addr} {n c : Nat} {cs : List MCh} (h : ChS w (.slice a n c) cs) {j : Nat} (hj : j < cs.length) : ∃ b o, a = some ⟨b, o, none⟩ ∧ b < w.heap.size ∧ ChAt w b (o + j * 10) (cs.getD j chZ) := by
  obtain ⟨_, _, _, e, hn, _, _, hc⟩ := h
  simp only [Value.slice.injEq] at e
  obtain ⟨rfl, rfl, rfl⟩ := e
  obtain ⟨b, o, rfl, hb, hcs⟩ := hc (by omega)
  exact ⟨b, o, rfl, hb, hcs j (by omega)⟩
/-- What Apply has told: x if kn, and whether a change touched. -/
def AppS (q : MQ) (r : MRes) (cs : List MCh) (kn t : Bool) (x : MRes) : Prop := applyM q r cs = (if kn then some x else none, t) ∧ (kn = false → x = resZ)
theorem app_spec {q : MQ} {cs : List MCh} {r : MRes} {u cv : Value} {pos : Int} {W : World} (hR : RowS W u r.rows) (hl : r.rows.length + 2 * cs.length ≤ 39999) (hC : ChS W cv cs) : Calls Tryz.prog 18 #[qV q, .agg (resC u r.val r.fnd), .agg #[.int .i64 pos, cv]] W fun e w' =>
    ∃ ua un uc v f kn t rows, e = .returned (.tuple #[.agg #[.slice ua un uc, .int .i64 v, .bool f], .bool t, .bool kn]) ∧ Hid (OwnR w' W.heap.size (.slice ua un uc) rows) ∧ Hid (AppS q r cs kn t ⟨rows, v, f⟩) ∧ Hid (Below W.heap.size W w') := by
  refine (Apply_any hR hl hC).mono ?_
  rintro e w' ⟨u, rfl, ho, hb⟩
  obtain ⟨sa, sn, sc, rfl⟩ := own_form ho
  refine ⟨sa, sn, sc, _, _, _, _, _, rfl, Lib.hid ho, Lib.hid ⟨?_, fun h => ?_⟩, Lib.hid hb⟩
  · cases hs : applyM q r cs with
    | mk o t => cases o <;> rfl
  · cases hs : applyM q r cs with
    | mk o t =>
      rw [hs] at h
      cases o with
      | none => rfl
      | some x => cases h
theorem applyF_or (q : MQ) (r : MRes) (t : Bool) (c : MCh) : applyF q (some r, t) c = ((applyF q (some r, false) c).1, t || (applyF q (some r, false) c).2) := by
  unfold applyF
  simp only
  cases touchB q c <;> simp
theorem applyM_one (q : MQ) (r : MRes) (c : MCh) : applyM q r [c] = applyF q (some r, false) c := rfl
/-- One change more. -/
theorem split_step {q : MQ} {r0 r x : MRes} {cs : List MCh} {j : Nat} {t t' kn : Bool} (hj : j < cs.length) (h : (cs.take j).foldl (applyF q) (some r0, false) = (some r, t)) (hx : AppS q r [cs.getD j chZ] kn t' x) : (cs.take (j + 1)).foldl (applyF q) (some r0, false) = (if kn then some x else none, t || t') := by
  have h1 := hx.1
  rw [applyM_one] at h1
  rw [fold_at hj, h, applyF_or, h1]
/-- Both ends of the same road. -/
theorem split_end {q : MQ} {r0 x y : MRes} {cs : List MCh} {j : Nat} {t t' kn kn' : Bool} (hw : AppS q r0 cs kn' t' y) (h : (cs.take j).foldl (applyF q) (some r0, false) = (if kn then some x else none, t)) (hz : kn = false → x = resZ) (he : j = cs.length ∨ kn = false) : kn = kn' ∧ t = t' ∧ x = y := by
  have h1 := hw.1
  unfold applyM at h1
  have h2 : cs.foldl (applyF q) (some r0, false) = (if kn then some x else none, t) := by
    rcases he with rfl | rfl
    · rw [List.take_length] at h; exact h
    · exact fold_end h
  rw [h2] at h1
  cases kn <;> cases kn'
  · simp only [Bool.false_eq_true, if_false, Prod.mk.injEq] at h1
    exact ⟨rfl, h1.2, (hz rfl).trans (hw.2 rfl).symm⟩
  · simp at h1
  · simp at h1
  · simp only [if_true, Prod.mk.injEq, Option.some.injEq] at h1
    exact ⟨rfl, h1.2, h1.1⟩
theorem one_len {q : MQ} {r x : MRes} {c : MCh} {kn t : Bool} (h : AppS q r [c] kn t x) : x.rows.length ≤ r.rows.length + 2 := by
  have h1 := h.1
  rw [applyM_one] at h1
  unfold applyF at h1
  simp only at h1
  cases kn with
  | false => rw [h.2 rfl]; simp [resZ]
  | true =>
    by_cases ht : touchB q c = true
    · rw [if_pos ht] at h1
      simp only [if_true, Prod.mk.injEq] at h1
      exact patchM_len h1.1
    · rw [if_neg ht] at h1
      simp only [if_true, Prod.mk.injEq, Option.some.injEq] at h1
      rw [← h1.1]
      omega
set_option maxRecDepth 100000 in
set_option maxHeartbeats 16000000 in
theorem split_of {x : X5} (hx : x.Ok) {W : World} {v : Value} {n : Nat} (h : XS W v n) : Calls Tryz.prog 7 #[v, x5V x] W fun e w' => e = .returned (.bool true) ∧ Below W.heap.size W w' := by
  obtain ⟨q, Hq⟩ : ∃ q, Hid (qryF x = q) := ⟨_, Lib.hid rfl⟩
  have HQv : Hid (validB q = true) := Lib.hid (by rw [← Hq.out]; exact qryF_valid x)
  have HC := Lib.hid (fun w => queryF_any x hx w)
  rw [Hq.out] at HC
  obtain ⟨mm, hmin, hmn, hm25⟩ : ∃ k : Nat, min (n : Int) 15 = k ∧ k ≤ n ∧ k ≤ 15 := ⟨min n 15, by omega, by omega, by omega⟩
  obtain ⟨va, vcap, rfl, hxt⟩ := h.take mm hmn
  have HT := Lib.hid hxt
  obtain ⟨_, _, e0, hs1, hs2, _⟩ := h
  simp only [Value.slice.injEq] at e0
  obtain ⟨rfl, -, rfl⟩ := e0
  obtain ⟨x0, x1, x2, x3, x4⟩ := x
  unfold x5V at *
  simp only at *
  clear Hq hx hxt
  go_enter Tryz.func7, Tryz.ntmps7
  go_upto_region 1 with fail
  generalize hw0 : W.alloc (.cells #[.int .i64 x0, .int .i64 x1, .int .i64 x2, .int .i64 x3, .int .i64 x4] 23) = w0
  have HB0 : Hid (Below W.heap.size W w0) := Lib.hid (by rw [← hw0]; exact ba _ _)
  have HX0 : Hid (w0.heap[W.heap.size]? = some (.cells #[.int .i64 x0, .int .i64 x1, .int .i64 x2, .int .i64 x3, .int .i64 x4] 23 (0, 0))) := Lib.hid (by rw [← hw0]; exact heap_alloc_new W _)
  clear hw0
  go_wp2_with fail
  (with_reducible refine (sane7_any _).mono ?_)
  rintro e w1 ⟨rfl, hb⟩
  have HX1 := Lib.hid ((hb.block _ (lt_of_block HX0.out)).trans HX0.out)
  have HB1 := Lib.hid (bt HB0.out hb)
  clear hb HX0 HB0
  go_wp2_with fail
  (with_reducible refine (log_walk (HT.out.below HB1.out) (by omega)).mono ?_)
  rintro e w2 ⟨R, u, rfl, hrs, hch, hl, hsm, hb⟩
  have HRS2 := Lib.hid hrs
  have HCh := Lib.hid hch
  have HL := Lib.hid (show R.length ≤ 1000 by omega)
  have HX2 := Lib.hid ((hb.block _ (lt_of_block HX1.out)).trans HX1.out)
  have HB2 := Lib.hid (bt HB1.out hb)
  obtain ⟨ra, rn, rcap, rfl, hrn, -⟩ := id hrs
  clear hb HX1 HB1 hrs hch hl hsm HT hmin hmn hm25 hs1 hs2
  subst hrn
  go_wp2_with (refine wpList_load_row rfl 23 _ rfl W.heap.size rfl 23 _ _ _ HX2.out Tryz.underlying23 rfl (by kernel_rfl) ?_)
  (with_reducible refine (HC.out _).mono ?_)
  rintro e w3 ⟨rfl, hb⟩
  have HB3 := Lib.hid (bt HB2.out hb)
  have HRS3 := Lib.hid (HRS2.out.below hb)
  clear hb HB2 HRS2 HX2 HC
  obtain ⟨qk, qt, qc, ql, qh, qy, qo⟩ := q
  unfold qV
  simp only
  go_upto_region 4 with fail
  generalize hw4 : w3.alloc (.cells #[.int .i64 qk, .int .i64 qt, .int .i64 qc, .int .i64 ql, .int .i64 qh, .int .i64 qy, .int .i64 qo] 28) = w4
  have HB4 : Hid (Below W.heap.size W w4) := Lib.hid (by rw [← hw4]; exact bt HB3.out (ba _ _))
  have HRS4 : Hid (RecS w4 (.slice ra R.length rcap) R) := Lib.hid (by rw [← hw4]; exact HRS3.out.below (ba _ _))
  have HQ4 : Hid (w4.heap[w3.heap.size]? = some (.cells #[.int .i64 qk, .int .i64 qt, .int .i64 qc, .int .i64 ql, .int .i64 qh, .int .i64 qy, .int .i64 qo] 28 (0, 0))) := Lib.hid (by rw [← hw4]; exact heap_alloc_new w3 _)
  obtain ⟨qb, Hqb⟩ : ∃ b, Hid (w3.heap.size = b) := ⟨_, Lib.hid rfl⟩
  rw [Hqb.out] at HQ4 ⊢
  clear hw4 HB3 HRS3 Hqb
  go_wp2_with fail
  (with_reducible refine (new_any _).mono ?_)
  rintro e w5 ⟨rfl, hw5⟩
  have HI := Lib.hid (SInv.new w4 R w5 hw5)
  clear hw5
  obtain ⟨sb, Hsb⟩ : ∃ b, Hid (w4.heap.size = b) := ⟨_, Lib.hid rfl⟩
  rw [Hsb.out] at HI ⊢
  clear Hsb
  go_wp2_with fail
  go_loopw [9] (fun i wr => ∃ k : Nat, k ≤ R.length ∧ i = .int .i64 k ∧ Hid (∃ m, SInv w4 wr sb R k m)) (fun i _ => R.length - (intOf i).toNat)
  case atStart => exact ⟨0, by omega, rfl, Lib.hid ⟨none, HI.out⟩⟩
  case round =>
    obtain ⟨k, hk, rfl, HSm⟩ := hrel
    clear HI
    obtain ⟨m, hm⟩ := HSm.out
    have HS1 := Lib.hid hm
    clear HSm hm
    by_cases hlt : k < R.length
    · have HQo1 := Lib.hid ((HS1.out.2.2.block _ (lt_of_block HQ4.out)).trans HQ4.out)
      have HOf1 := Lib.hid (ofR HS1.out.1 HQv.out)
      unfold qV ptr at HOf1
      simp only at HOf1
      go_wp2_with (refine wpList_load_row rfl 28 _ rfl qb rfl 28 _ _ _ HQo1.out Tryz.underlying28 rfl (by kernel_rfl) ?_)
      (with_reducible refine HOf1.out.mono ?_)
      rintro e wo1 ⟨u1, M1, v1, f1, rfl, ho, hr, hb⟩
      obtain ⟨a1, n1, c1, rfl⟩ := ho.form
      unfold resC
      go_upto_region 9 with fail
      generalize hwx : wo1.alloc (.cells #[.slice a1 n1 c1, .int .i64 v1, .bool f1] 34) = wa1
      have HRs1 := Lib.hid hr
      have HBw1 : Hid (Below wr.heap.size wr wa1) := Lib.hid (by rw [← hwx]; exact bt hb (ba _ _))
      have HSi1 := Lib.hid (HS1.out.below HBw1.out)
      have HOw1 : Hid (OwnR wa1 wr.heap.size (.slice a1 n1 c1) M1) := Lib.hid (by rw [← hwx]; exact ho.below (ba _ _))
      have HVr1 : Hid (wa1.heap[wo1.heap.size]? = some (.cells #[.slice a1 n1 c1, .int .i64 v1, .bool f1] 34 (0, 0)) ∧ wr.heap.size ≤ wo1.heap.size) := Lib.hid ⟨by rw [← hwx]; exact heap_alloc_new _ _, hb.size⟩
      obtain ⟨rb1, hrb_⟩ : ∃ b, Hid (wo1.heap.size = b) := ⟨_, Lib.hid rfl⟩
      rw [hrb_.out] at HVr1 ⊢
      clear hwx hr ho hb hrb_ HOf1 HQo1
      obtain ⟨gb, go, ga, gn, gc, eg1, -, q0, q1, hvs, hvn, hgb⟩ := rec_at (HRS4.out.below HSi1.out.2.2) HCh.out hlt
      subst eg1
      obtain ⟨cs, Hcs⟩ : ∃ c, Hid ((R.getD k recZ).chs = c) := ⟨_, Lib.hid rfl⟩
      have hl8 : (R.getD k recZ).chs.length ≤ 8 := (HCh.out k hlt).1.2.1.2
      rw [Hcs.out] at hvs hvn hl8
      have HCs := Lib.hid hvs
      have HL8 := Lib.hid hl8
      have HQ9 := Lib.hid ((HSi1.out.2.2.block _ (lt_of_block HQ4.out)).trans HQ4.out)
      have HG := Lib.hid (And.intro hgb (And.intro q0 q1))
      subst hvn
      clear hvs hgb q0 q1 hl8
      have HLr := Lib.hid (rs_len HQv.out HRs1.out (HCh.out.good k (by omega)))
      have HV9 := Lib.hid HVr1.out.1
      have HA : Hid (∀ w, Hid (Below wa1.heap.size wa1 w) → Calls Tryz.prog 18 #[.agg #[.int .i64 qk, .int .i64 qt, .int .i64 qc, .int .i64 ql, .int .i64 qh, .int .i64 qy, .int .i64 qo], .agg #[.slice a1 n1 c1, .int .i64 v1, .bool f1], .agg #[.int .i64 ((k : Int) + 1), .slice ga cs.length gc]] w fun e w' => ∃ ua un uc v f kn t rows, e = .returned (.tuple #[.agg #[.slice ua un uc, .int .i64 v, .bool f], .bool t, .bool kn]) ∧ Hid (OwnR w' w.heap.size (.slice ua un uc) rows) ∧ Hid (AppS (⟨qk, qt, qc, ql, qh, qy, qo⟩ : MQ) ⟨M1, v1, f1⟩ cs kn t ⟨rows, v, f⟩) ∧ Hid (Below w.heap.size w w')) := Lib.hid (fun w hb => by
        have h := app_spec (q := (⟨qk, qt, qc, ql, qh, qy, qo⟩ : MQ)) (r := ⟨M1, v1, f1⟩) (pos := (k : Int) + 1) (HOw1.out.rowS.below hb.out) (by have := HL8.out; have := HLr.out; simp only at this ⊢; omega) (HCs.out.below hb.out)
        unfold qV resC at h
        exact h)
      have HK : Hid (∀ w, Below wa1.heap.size wa1 w → w.cell? ⟨qb, 0, none⟩ = some (.int .i64 qk) ∧ w.cell? ⟨qb, 1, none⟩ = some (.int .i64 qt) ∧ w.cell? ⟨qb, 2, none⟩ = some (.int .i64 qc) ∧ w.cell? ⟨qb, 3, none⟩ = some (.int .i64 ql) ∧ w.cell? ⟨qb, 4, none⟩ = some (.int .i64 qh) ∧ w.cell? ⟨qb, 5, none⟩ = some (.int .i64 qy) ∧ w.cell? ⟨qb, 6, none⟩ = some (.int .i64 qo) ∧ w.cell? ⟨rb1, 0, none⟩ = some (.slice a1 n1 c1) ∧ w.cell? ⟨rb1, 1, none⟩ = some (.int .i64 v1) ∧ w.cell? ⟨rb1, 2, none⟩ = some (.bool f1) ∧ w.cell? ⟨gb, go + k * 2, none⟩ = some (.int .i64 ((k : Int) + 1)) ∧ w.cell? ⟨gb, go + k * 2 + 1, none⟩ = some (.slice ga cs.length gc)) := Lib.hid (fun w hb => by
        have h1 := (hb.block _ (lt_of_block HQ9.out)).trans HQ9.out
        have h2 := (hb.block _ (lt_of_block HV9.out)).trans HV9.out
        have h3 := ((hb.cell (p := ⟨gb, go + k * 2, none⟩) HG.out.1)).trans HG.out.2.1
        have h4 := ((hb.cell (p := ⟨gb, go + k * 2 + 1, none⟩) HG.out.1)).trans HG.out.2.2
        refine ⟨?_, ?_, ?_, ?_, ?_, ?_, ?_, ?_, ?_, ?_, h3, h4⟩ <;> simp [World.cell?, h1, h2])
      go_upto_region 11 with fail
      go_cut [12, 13, 14] (fun p s t wx => ∃ pb ua un uc zv zf kn tt rows, p = .pointer (some ⟨pb, 0, none⟩) ∧ s = .bool tt ∧ t = .bool kn ∧ Hid (Below wa1.heap.size wa1 wx) ∧ Hid (wx.heap[pb]? = some (.cells #[.slice ua un uc, .int .i64 zv, .bool zf] 34 (0, 0)) ∧ wa1.heap.size ≤ pb) ∧ Hid (OwnR wx wa1.heap.size (.slice ua un uc) rows) ∧ Hid (AppS (⟨qk, qt, qc, ql, qh, qy, qo⟩ : MQ) ⟨M1, v1, f1⟩ cs kn tt ⟨rows, zv, zf⟩))
      case first => as_aux_lemma =>
        go_region_held3 (fun w => w.cell? ⟨qb, 0, none⟩ = some (.int .i64 qk) ∧ w.cell? ⟨qb, 1, none⟩ = some (.int .i64 qt) ∧ w.cell? ⟨qb, 2, none⟩ = some (.int .i64 qc) ∧ w.cell? ⟨qb, 3, none⟩ = some (.int .i64 ql) ∧ w.cell? ⟨qb, 4, none⟩ = some (.int .i64 qh) ∧ w.cell? ⟨qb, 5, none⟩ = some (.int .i64 qy) ∧ w.cell? ⟨qb, 6, none⟩ = some (.int .i64 qo) ∧ w.cell? ⟨rb1, 0, none⟩ = some (.slice a1 n1 c1) ∧ w.cell? ⟨rb1, 1, none⟩ = some (.int .i64 v1) ∧ w.cell? ⟨rb1, 2, none⟩ = some (.bool f1) ∧ w.cell? ⟨gb, go + k * 2, none⟩ = some (.int .i64 ((k : Int) + 1)) ∧ w.cell? ⟨gb, go + k * 2 + 1, none⟩ = some (.slice ga cs.length gc))
          (first | exact HK.out _ (below_drew _) | exact HK.out _ HCur.out | exact HK.out _ (bt (ba wa1 _) (below_drew _)) | exact HK.out _ (bt HCur.out (ba _ _)) | exact HK.out _ (below_setCell (below_setCell (below_setCell HCur.out hge _) hge _) hge _))
          (first
            | (go_at_call 18; (with_reducible refine (HA.out _ (Lib.hid (below_drew _))).mono ?_); rintro e wk1 ⟨sa, sn, sc, sv, sf, kn, tt, rows, rfl, HOk, HSp, HBk1⟩; have HCur := Lib.hid (bt (below_drew _) HBk1.out))
            | (go_at_call 18; (with_reducible refine (HA.out _ (Lib.hid (bt (ba wa1 _) (below_drew _)))).mono ?_); rintro e wk1 ⟨sa, sn, sc, sv, sf, kn, tt, rows, rfl, HOk, HSp, HBk1⟩; have HCur := Lib.hid (bt (bt (ba wa1 _) (below_drew _)) HBk1.out); have HRb : Hid (wk1.heap[wa1.heap.size]? = some (.cells #[.slice none 0 0, .int .i64 0, .bool false] 34 (0, 0))) := Lib.hid ((HBk1.out.block _ (by simp [World.drew])).trans (heap_alloc_new wa1 _)); have f0 : ∀ j, wk1.frozen? ⟨wa1.heap.size, j, none⟩ = false := (fun j => by simp [World.frozen?, HRb.out]); have x0 : wk1.cell? ⟨wa1.heap.size, 0, none⟩ = some (.slice none 0 0) := (by simp [World.cell?, HRb.out]); have x1 : wk1.cell? ⟨wa1.heap.size, 1, none⟩ = some (.int .i64 0) := (by simp [World.cell?, HRb.out]); have x2 : wk1.cell? ⟨wa1.heap.size, 2, none⟩ = some (.bool false) := (by simp [World.cell?, HRb.out]); have hge := Nat.le_refl wa1.heap.size))
        all_goals
          go_wp2_with fail
          go_meet
          first
            | exact ⟨wk1.heap.size, sa, sn, sc, sv, sf, kn, tt, rows, rfl, rfl, rfl, Lib.hid (bt HCur.out (ba _ _)), Lib.hid ⟨heap_alloc_new _ _, HCur.out.size⟩, Lib.hid ((HOk.out.mono (below_drew wa1).size).below (ba _ _)), HSp⟩
            | exact ⟨wa1.heap.size, sa, sn, sc, sv, sf, kn, tt, rows, rfl, rfl, rfl, Lib.hid (below_setCell (below_setCell (below_setCell HCur.out hge _) hge _) hge _), Lib.hid ⟨set3_heap HRb.out, hge⟩, Lib.hid (own_set3 HOk.out (by simp [World.drew]) (by simp [World.drew]) _ _ _), HSp⟩
      case rest => as_aux_lemma =>
        obtain ⟨wb_, ua, un, uc, v', f', kn, tt, rows', hp_, hs_, ht_, HBx, HPx, HOx, HSp⟩ := hcut
        rename World => wp
        subst hp_
        subst hs_
        subst ht_
        have HVp := Lib.hid ((HBx.out.block _ (lt_of_block HV9.out)).trans HV9.out)
        go_upto_region 13 with (refine wpList_load_row rfl 34 _ rfl rb1 rfl 34 _ _ _ HVp.out Tryz.underlying34 rfl (by kernel_rfl) ?_)
        generalize hw : wp.alloc (.cells #[.slice a1 n1 c1, .int .i64 v1, .bool f1] 34) = w0p
        have HJ0 : Hid (Below wp.heap.size wp w0p) := Lib.hid (by rw [← hw]; exact ba _ _)
        have HPb0 : Hid (w0p.heap[wp.heap.size]? = some (.cells #[.slice a1 n1 c1, .int .i64 v1, .bool f1] 34 (0, 0))) := Lib.hid (by rw [← hw]; exact heap_alloc_new _ _)
        have HOp0 : Hid (OwnR w0p wr.heap.size (.slice a1 n1 c1) M1) := Lib.hid (by rw [← hw]; exact HOw1.out.below (bt HBx.out (ba _ _)))
        clear hw
        have q1 : w0p.cell? ⟨gb, go + k * 2 + 1, none⟩ = some (.slice ga cs.length gc) := ((bt HBx.out HJ0.out).cell (p := ⟨gb, go + k * 2 + 1, none⟩) HG.out.1).trans HG.out.2.2
        obtain ⟨FA, HFA⟩ : ∃ FA, Hid (applyF (⟨qk, qt, qc, ql, qh, qy, qo⟩ : MQ) = FA) := ⟨_, Lib.hid rfl⟩
        go_wp2_with fail
        go_loopw [16, 17, 18] (fun tv fv i wj => ∃ (j : Nat) (t kf : Bool) (a : Option Addr) (n c base : Nat) (v : Int) (f : Bool) (M : List MRow), j ≤ cs.length ∧ i = .int .i64 j ∧ tv = .bool t ∧ fv = .bool kf ∧ Hid ((cs.take j).foldl FA (some ⟨M1, v1, f1⟩, false) = (if kf then some ⟨M, v, f⟩ else none, t)) ∧ Hid (kf = false → (⟨M, v, f⟩ : MRes) = resZ) ∧ Hid (M.length ≤ 4000 + 2 * j) ∧ Hid (wj.heap[wp.heap.size]? = some (.cells #[.slice a n c, .int .i64 v, .bool f] 34 (0, 0))) ∧ Hid (OwnR wj base (.slice a n c) M) ∧ Hid (Below wp.heap.size wp wj)) (fun _ _ i _ => cs.length - (intOf i).toNat)
        case atStart => exact ⟨0, false, true, a1, n1, c1, wr.heap.size, v1, f1, M1, by omega, rfl, rfl, rfl, Lib.hid rfl, Lib.hid (fun h => by cases h), Lib.hid (by have h := HLr.out; first | omega | (simp only at h; omega)), HPb0, HOp0, HJ0⟩
        case round =>
          obtain ⟨j, t, kf, a, n, c, base, v, f, M, hj, rfl, rfl, rfl, HFo, HZ, HMl, HPb, HOp, HJ⟩ := hrel
          clear q1 HPb0 HOp0 HJ0
          rename World => wj
          have q1 : wj.cell? ⟨gb, go + k * 2 + 1, none⟩ = some (.slice ga cs.length gc) := ((bt HBx.out HJ.out).cell (p := ⟨gb, go + k * 2 + 1, none⟩) HG.out.1).trans HG.out.2.2
          have hj8 : cs.length ≤ 8 := HL8.out
          by_cases hgo : j < cs.length ∧ kf = true
          · obtain ⟨hjl, rfl⟩ := hgo
            obtain ⟨cb, co, rfl, hcb, H1r⟩ := ch_at HCs.out (j := j) hjl
            obtain ⟨hc1, hc2⟩ : cs.length ≤ gc ∧ gc ≤ 9223372036854775807 := by
              obtain ⟨_, _, _, e, hn, h1, h2, _⟩ := HCs.out
              simp only [Value.slice.injEq] at e
              obtain ⟨-, rfl, rfl⟩ := e
              exact ⟨h1, h2⟩
            obtain ⟨cc, Hcc⟩ : ∃ c, Hid (cs.getD j chZ = c) := ⟨_, Lib.hid rfl⟩
            rw [Hcc.out] at H1r
            have HBj : Hid (Below wa1.heap.size wa1 wj) := Lib.hid (bt HBx.out HJ.out)
            have H1 := Lib.hid (And.intro hcb H1r)
            have HQj := Lib.hid ((HBj.out.block _ (lt_of_block HQ9.out)).trans HQ9.out)
            have HG1 := Lib.hid (And.intro (Nat.lt_of_lt_of_le HG.out.1 HBj.out.size) q1)
            have HK2 : Hid (∀ w, Below wj.heap.size wj w → w.cell? ⟨qb, 0, none⟩ = some (.int .i64 qk) ∧ w.cell? ⟨qb, 1, none⟩ = some (.int .i64 qt) ∧ w.cell? ⟨qb, 2, none⟩ = some (.int .i64 qc) ∧ w.cell? ⟨qb, 3, none⟩ = some (.int .i64 ql) ∧ w.cell? ⟨qb, 4, none⟩ = some (.int .i64 qh) ∧ w.cell? ⟨qb, 5, none⟩ = some (.int .i64 qy) ∧ w.cell? ⟨qb, 6, none⟩ = some (.int .i64 qo) ∧ w.cell? ⟨wp.heap.size, 0, none⟩ = some (.slice a n c) ∧ w.cell? ⟨wp.heap.size, 1, none⟩ = some (.int .i64 v) ∧ w.cell? ⟨wp.heap.size, 2, none⟩ = some (.bool f) ∧ w.cell? ⟨gb, go + k * 2 + 1, none⟩ = some (.slice (some ⟨cb, co, none⟩) cs.length gc)) := Lib.hid (fun w hb => by
              have h1 := (hb.block _ (lt_of_block HQj.out)).trans HQj.out
              have h2 := (hb.block _ (lt_of_block HPb.out)).trans HPb.out
              have h4 := ((hb.cell (p := ⟨gb, go + k * 2 + 1, none⟩) HG1.out.1)).trans HG1.out.2
              refine ⟨?_, ?_, ?_, ?_, ?_, ?_, ?_, ?_, ?_, ?_, h4⟩ <;> simp [World.cell?, h1, h2])
            have HA2 : Hid (∀ w, Hid (Below wj.heap.size wj w) → Calls Tryz.prog 18 #[.agg #[.int .i64 qk, .int .i64 qt, .int .i64 qc, .int .i64 ql, .int .i64 qh, .int .i64 qy, .int .i64 qo], .agg #[.slice a n c, .int .i64 v, .bool f], .agg #[.int .i64 1, .slice (some ⟨cb, co + j * 10, none⟩) 1 (gc - j)]] w fun e w' => ∃ ua un uc v' f' kn' t' rows', e = .returned (.tuple #[.agg #[.slice ua un uc, .int .i64 v', .bool f'], .bool t', .bool kn']) ∧ Hid (OwnR w' w.heap.size (.slice ua un uc) rows') ∧ Hid (AppS (⟨qk, qt, qc, ql, qh, qy, qo⟩ : MQ) ⟨M, v, f⟩ [cc] kn' t' ⟨rows', v', f'⟩) ∧ Hid (Below w.heap.size w w')) := Lib.hid (fun w hb => by
              have hch : ChS w (.slice (some ⟨cb, co + j * 10, none⟩) 1 (gc - j)) [cc] := ⟨_, _, _, rfl, rfl, by omega, by omega, fun _ => ⟨cb, co + j * 10, rfl, Nat.lt_of_lt_of_le H1.out.1 (bt HBj.out hb.out).size, fun i hi => by
                obtain rfl : i = 0 := by omega
                simpa using H1.out.2.kept (F := fun _ => False) (Kept.of_below (bt HBj.out hb.out)) H1.out.1 id⟩⟩
              have h := app_spec (q := (⟨qk, qt, qc, ql, qh, qy, qo⟩ : MQ)) (r := ⟨M, v, f⟩) (pos := 1) (HOp.out.rowS.below hb.out) (by have := HMl.out; simp only [List.length_singleton]; omega) hch
              unfold qV resC at h
              exact h)
            have hjc : (j : Int) + 1 ≤ (gc : Int) := by omega
            have hj0 : (0 : Int) ≤ (j : Int) := by omega
            have hw1 : IntKind.i64.wrap ((j : Int) + 1) = (j : Int) + 1 := by rw [IntKind.wrap_i64]; omega
            have hb1 : (j : Int) ≤ (j : Int) + 1 := by omega
            have hb3 : (0 : Int) ≤ (j : Int) + 1 := by omega
            have hne : ¬ gc = j := by omega
            clear H1r hcb
            go_upto_region 18 with fail
            clear q1
            go_cut [19, 20, 21] (fun p s t wx => ∃ pb ua un uc zv zf kn tt rows, p = .pointer (some ⟨pb, 0, none⟩) ∧ s = .bool tt ∧ t = .bool kn ∧ Hid (Below wj.heap.size wj wx) ∧ Hid (wx.heap[pb]? = some (.cells #[.slice ua un uc, .int .i64 zv, .bool zf] 34 (0, 0)) ∧ wj.heap.size ≤ pb) ∧ Hid (OwnR wx wj.heap.size (.slice ua un uc) rows) ∧ Hid (AppS (⟨qk, qt, qc, ql, qh, qy, qo⟩ : MQ) ⟨M, v, f⟩ [cc] kn tt ⟨rows, zv, zf⟩))
            case first => as_aux_lemma =>
              go_region_held3 (fun w => w.cell? ⟨qb, 0, none⟩ = some (.int .i64 qk) ∧ w.cell? ⟨qb, 1, none⟩ = some (.int .i64 qt) ∧ w.cell? ⟨qb, 2, none⟩ = some (.int .i64 qc) ∧ w.cell? ⟨qb, 3, none⟩ = some (.int .i64 ql) ∧ w.cell? ⟨qb, 4, none⟩ = some (.int .i64 qh) ∧ w.cell? ⟨qb, 5, none⟩ = some (.int .i64 qy) ∧ w.cell? ⟨qb, 6, none⟩ = some (.int .i64 qo) ∧ w.cell? ⟨wp.heap.size, 0, none⟩ = some (.slice a n c) ∧ w.cell? ⟨wp.heap.size, 1, none⟩ = some (.int .i64 v) ∧ w.cell? ⟨wp.heap.size, 2, none⟩ = some (.bool f) ∧ w.cell? ⟨gb, go + k * 2 + 1, none⟩ = some (.slice (some ⟨cb, co, none⟩) cs.length gc))
                (first | exact HK2.out _ (below_drew _) | exact HK2.out _ HCur.out | exact HK2.out _ (bt (ba wj _) (below_drew _)) | exact HK2.out _ (bt HCur.out (ba _ _)) | exact HK2.out _ (below_setCell (below_setCell (below_setCell HCur.out hge _) hge _) hge _))
                (first
                  | (go_at_call 18; (with_reducible refine (HA2.out _ (Lib.hid (below_drew _))).mono ?_); rintro e wk1 ⟨sa, sn, sc, sv, sf, kn, tt, rows, rfl, HOk, HSp, HBk1⟩; have HCur := Lib.hid (bt (below_drew _) HBk1.out))
                  | (go_at_call 18; (with_reducible refine (HA2.out _ (Lib.hid (bt (ba wj _) (below_drew _)))).mono ?_); rintro e wk1 ⟨sa, sn, sc, sv, sf, kn, tt, rows, rfl, HOk, HSp, HBk1⟩; have HCur := Lib.hid (bt (bt (ba wj _) (below_drew _)) HBk1.out); have HRb : Hid (wk1.heap[wj.heap.size]? = some (.cells #[.slice none 0 0, .int .i64 0, .bool false] 34 (0, 0))) := Lib.hid ((HBk1.out.block _ (by simp [World.drew])).trans (heap_alloc_new wj _)); have f0 : ∀ j, wk1.frozen? ⟨wj.heap.size, j, none⟩ = false := (fun j => by simp [World.frozen?, HRb.out]); have x0 : wk1.cell? ⟨wj.heap.size, 0, none⟩ = some (.slice none 0 0) := (by simp [World.cell?, HRb.out]); have x1 : wk1.cell? ⟨wj.heap.size, 1, none⟩ = some (.int .i64 0) := (by simp [World.cell?, HRb.out]); have x2 : wk1.cell? ⟨wj.heap.size, 2, none⟩ = some (.bool false) := (by simp [World.cell?, HRb.out]); have hge := Nat.le_refl wj.heap.size))
              all_goals
                go_wp2_with fail
                go_meet
                first
                  | exact ⟨wk1.heap.size, sa, sn, sc, sv, sf, kn, tt, rows, rfl, rfl, rfl, Lib.hid (bt HCur.out (ba _ _)), Lib.hid ⟨heap_alloc_new _ _, HCur.out.size⟩, Lib.hid ((HOk.out.mono (below_drew wj).size).below (ba _ _)), HSp⟩
                  | exact ⟨wj.heap.size, sa, sn, sc, sv, sf, kn, tt, rows, rfl, rfl, rfl, Lib.hid (below_setCell (below_setCell (below_setCell HCur.out hge _) hge _) hge _), Lib.hid ⟨set3_heap HRb.out, hge⟩, Lib.hid (own_set3 HOk.out (by simp [World.drew]) (by simp [World.drew]) _ _ _), HSp⟩
            case rest => as_aux_lemma =>
              obtain ⟨nb_, xa, xn, xc, xv, xf, xk, xt, xrows, hp_, hs_, ht_, HBx2, HPx2, HOx2, HSp2⟩ := hcut
              rename World => wq
              subst hp_
              subst hs_
              subst ht_
              have HPq := Lib.hid ((HBx2.out.block _ (lt_of_block HPb.out)).trans HPb.out)
              have HNq := Lib.hid HPx2.out.1
              go_upto_region 20 with (first | refine wpList_load_row rfl 34 _ rfl nb_ rfl 34 _ _ _ HNq.out Tryz.underlying34 rfl (by kernel_rfl) ?_ | refine wpList_store_row rfl 34 _ _ rfl wp.heap.size #[.slice xa xn xc, .int .i64 xv, .bool xf] rfl rfl 34 _ HPq.out (by kernel_rfl) rfl (by simp [Value.oneCell']) ?_)
              generalize hw : wq.setRow wp.heap.size #[.slice xa xn xc, .int .i64 xv, .bool xf] = ws
              have HPs : Hid (ws.heap[wp.heap.size]? = some (.cells #[.slice xa xn xc, .int .i64 xv, .bool xf] 34 (0, 0))) := Lib.hid (by rw [← hw]; exact setRow_heap _ _ _ _ _ _ HPq.out)
              have HOs : Hid (OwnR ws wj.heap.size (.slice xa xn xc) xrows) := Lib.hid (by rw [← hw]; exact HOx2.out.kept' (F := fun i => i = wp.heap.size) (kept_row (F := fun i => i = wp.heap.size) (Kept.refl _ _) (.inl rfl) _) (fun i hi e => own_ne HOx2.out HPq.out (by decide) i hi e))
              have HBs : Hid (Below wp.heap.size wp ws) := Lib.hid (by rw [← hw]; exact below_row (bt HJ.out HBx2.out) (Nat.le_refl _) _)
              clear hw
              have HFn : Hid ((cs.take (j + 1)).foldl FA (some ⟨M1, v1, f1⟩, false) = (if xk then some ⟨xrows, xv, xf⟩ else none, t || xt)) := Lib.hid (by
                have h := HFo.out
                rw [← HFA.out] at h ⊢
                exact split_step hjl (by simpa using h) (by rw [Hcc.out]; exact HSp2.out))
              have HZn : Hid (xk = false → (⟨xrows, xv, xf⟩ : MRes) = resZ) := Lib.hid HSp2.out.2
              have HMn : Hid (xrows.length ≤ 4000 + 2 * (j + 1)) := Lib.hid (by have h := one_len HSp2.out; have := HMl.out; simp only at h; omega)
              cases t
              · have HFm : Hid ((cs.take (j + 1)).foldl FA (some ⟨M1, v1, f1⟩, false) = (if xk then some ⟨xrows, xv, xf⟩ else none, xt)) := Lib.hid (by simpa using HFn.out)
                go_wp2_with fail
                exact ⟨⟨j + 1, xt, xk, xa, xn, xc, wj.heap.size, xv, xf, xrows, by omega, by go_num, rfl, rfl, HFm, HZn, HMn, HPs, HOs, HBs⟩, by simp [intOf]; omega⟩
              · have HFm : Hid ((cs.take (j + 1)).foldl FA (some ⟨M1, v1, f1⟩, false) = (if xk then some ⟨xrows, xv, xf⟩ else none, true)) := Lib.hid (by simpa using HFn.out)
                go_wp2_with fail
                exact ⟨⟨j + 1, true, xk, xa, xn, xc, wj.heap.size, xv, xf, xrows, by omega, by go_num, rfl, rfl, HFm, HZn, HMn, HPs, HOs, HBs⟩, by simp [intOf]; omega⟩
          · have HEnd : Hid (kf = kn ∧ t = tt ∧ (⟨M, v, f⟩ : MRes) = ⟨rows', v', f'⟩) := Lib.hid (by
              rw [← HFA.out] at HFo
              refine split_end HSp.out HFo.out HZ.out ?_
              rcases Nat.lt_or_ge j cs.length with h | h
              · exact .inr (by cases kf; rfl; exact absurd ⟨h, rfl⟩ hgo)
              · exact .inl (by omega))
            obtain ⟨e1, e2, e3⟩ := HEnd.out
            simp only [MRes.mk.injEq] at e3
            obtain ⟨rfl, rfl, rfl⟩ := e3
            subst e2
            have HBj : Hid (Below wa1.heap.size wa1 wj) := Lib.hid (bt HBx.out HJ.out)
            have HWj := Lib.hid ((HJ.out.block _ (lt_of_block HPx.out.1)).trans HPx.out.1)
            have HSm := Lib.hid (same7_any (x := v) (y := v) (f := f) (g := f) (HOx.out.rowS.below HJ.out) HOp.out.rowS)
            unfold resC at HSm
            simp only [beq_self_eq_true, decide_true, Bool.and_self] at HSm
            have hRl := HL.out
            have htt : (t != t) = false := by cases t <;> rfl
            have HGo := Lib.hid hgo
            clear HFo HZ HEnd hgo
            by_cases hjl : j < cs.length
            · have hkf : kf = false := by
                cases kf
                · rfl
                · exact absurd ⟨hjl, rfl⟩ HGo.out
              subst e1
              subst hkf
              go_upto_region 22 with fail
              go_wp2_with (first | refine wpList_load_rowW (by rfl) 34 _ rfl wb_ rfl 34 _ _ _ HWj.out Tryz.underlying34 rfl (by kernel_rfl) ?_ | refine wpList_load_rowW (by rfl) 34 _ rfl wp.heap.size rfl 34 _ _ _ HPb.out Tryz.underlying34 rfl (by kernel_rfl) ?_)
              (with_reducible refine HSm.out.mono ?_)
              rintro e wz ⟨rfl, hb⟩
              have HSz := Lib.hid (HSi1.out.below (bt HBj.out hb))
              clear hb
              obtain ⟨gb', go', ga', gn', gc', eg2, -, r0, r1, hvs, -, -⟩ := rec_at (HRS4.out.below HSz.out.2.2) HCh.out hlt
              simp only [Option.some.injEq, Addr.mk.injEq, and_true] at eg2
              obtain ⟨rfl, rfl⟩ := eg2
              have HAp := Lib.hid (SInv.apply HSz.out HCh.out hlt hvs)
              clear hvs
              go_wp2_with fail
              (with_reducible refine HAp.out.mono ?_)
              rintro e w8 ⟨rfl, m', hs8, -⟩
              have HS8 := Lib.hid hs8
              clear hs8
              go_wp2_with fail
              exact ⟨⟨k + 1, by omega, by go_num, Lib.hid ⟨m', HS8.out⟩⟩, by simp [intOf]; omega⟩
            · subst e1
              have hkk : (kf != kf) = false := by cases kf <;> rfl
              obtain rfl : j = cs.length := by omega
              go_upto_region 22 with fail
              go_wp2_with (first | refine wpList_load_rowW (by rfl) 34 _ rfl wb_ rfl 34 _ _ _ HWj.out Tryz.underlying34 rfl (by kernel_rfl) ?_ | refine wpList_load_rowW (by rfl) 34 _ rfl wp.heap.size rfl 34 _ _ _ HPb.out Tryz.underlying34 rfl (by kernel_rfl) ?_)
              (with_reducible refine HSm.out.mono ?_)
              rintro e wz ⟨rfl, hb⟩
              have HSz := Lib.hid (HSi1.out.below (bt HBj.out hb))
              clear hb
              obtain ⟨gb', go', ga', gn', gc', eg2, -, r0, r1, hvs, -, -⟩ := rec_at (HRS4.out.below HSz.out.2.2) HCh.out hlt
              simp only [Option.some.injEq, Addr.mk.injEq, and_true] at eg2
              obtain ⟨rfl, rfl⟩ := eg2
              have HAp := Lib.hid (SInv.apply HSz.out HCh.out hlt hvs)
              clear hvs
              go_wp2_with fail
              (with_reducible refine HAp.out.mono ?_)
              rintro e w8 ⟨rfl, m', hs8, -⟩
              have HS8 := Lib.hid hs8
              clear hs8
              go_wp2_with fail
              exact ⟨⟨k + 1, by omega, by go_num, Lib.hid ⟨m', HS8.out⟩⟩, by simp [intOf]; omega⟩
    · obtain rfl : k = R.length := by omega
      go_wp2_with fail
      go_ret
      exact ⟨rfl, bt HB4.out HS1.out.2.2⟩
end Go.Proofs.YtgbnjjgnihjfgaaGreat
end

section
set_option linter.unusedVariables false
set_option linter.unusedSimpArgs false
namespace Go.Proofs.YtgbnjjgnihjfgaaGreat
open Go.ChangeShapes Go.WideShapes Go.ChangeAt Go.RowKit

set_option maxRecDepth 100000 in
theorem predicateSplit_lifted (os : Os) (started : os.Started) (H : Type) (enc : TypeId × Value → H) :
    ReturnsInHanded {} Tryz.checked os 7 .any (Rows.predicateSplitSpec.pre6 enc Tryz.prog Tryz.f7 Rows.predicateSplitRow.domain false) (Rows.predicateSplitSpec.post enc Tryz.prog Tryz.f7 false true false false) := by
  refine returnsInHanded_of_change (C := Tryz.checked) own started (by kernel_rfl) Tryz.func7
    (ChangeSpec.witness6 (enc := enc) (C := Tryz.checked) false ⟨#[], #[.slice none 0 0, .agg #[.int .i64 0, .int .i64 0, .int .i64 0, .int .i64 0, .int .i64 0]], []⟩ 8 (by kernel_rfl) (by kernel_rfl) (by kernel_rfl) (by kernel_rfl)) ?_
  intro W base args ds gs before hval0 hW hcnd _
  have hval : ∀ (j : Nat) t v, Tryz.f7.params[j]? = some t → args[j]? = some v → Value.okWide Tryz.prog W .any base t v := hval0
  have hW' := hW
  obtain ⟨p, q, hA0, hV, rfl, hfz, hnd⟩ := hW
  have hA : DataW.TrodAll enc Tryz.prog W 0 (fun _ => true) true Tryz.f7.params.toList args.toList ds p := hA0
  rw [Tryz.params7] at hA hval
  obtain ⟨v0, vs0, d0, ds0, p0, q0, hargs, rfl, rfl, h0, r0⟩ := trodAll_cons hA
  obtain ⟨v1, vs1, d1, ds1, p1, q1, rfl, rfl, rfl, h1, r1⟩ := trodAll_cons r0
  obtain ⟨rfl, rfl, rfl⟩ := trodAll_nil r1
  obtain rfl : args = #[v0, v1] := by cases args; simp_all
  obtain ⟨n0, x0⟩ := open_xs6 (hval 0 22 v0 rfl rfl) h0
  obtain ⟨a1, rfl, b1⟩ := open_arr5 (hval 1 23 v1 rfl rfl) h1
  refine (split_of b1 x0).mono fun e W' ⟨he, hb⟩ => ?_
  subst he
  exact ⟨_, rfl, law_post 4 (by kernel_rfl) ⟨rfl, fun H ds hd => by
    rw [Tryz.params7] at hd
    obtain ⟨e0, e1, rfl⟩ := len2 hd
    rfl⟩ (by kernel_rfl) (by kernel_rfl) Tryz.underlying4 hW' hb⟩
theorem predicateSplit_holds : Rows.PredicateSplitSaid :=
  OpenClaim.holds_of_wide 7 Tryz.f7 rfl rfl rfl rfl rfl rfl rfl ⟨rfl, rfl, rfl, rfl, rfl⟩ rfl rfl rfl rfl rfl (by kernel_rfl) Tryz.func7 (by kernel_rfl)
    (of_decide_eq_true (by kernel_rfl)) (by unfold Func.isWrapper; first | (rw [if_pos (by decide +kernel)]; kernel_rfl) | (rw [if_neg (by decide +kernel)]; exact ⟨rfl, rfl⟩))
    (fun os started H enc _ => predicateSplit_lifted os started H enc)
end Go.Proofs.YtgbnjjgnihjfgaaGreat
end
