/- PredicateKept: whatever the log, the query and the place, the function answers true and leaves its arguments as they were. -/
import Derived.Test.YtgbnjjgnihjfgaaGreatRows
import Derived.Test.YtgbnjjgnihjfgaaGreatBAA
import Derived.Test.YtgbnjjgnihjfgaaGreatBAB
import Derived.Test.YtgbnjjgnihjfgaaGreatBAC
import Derived.Test.YtgbnjjgnihjfgaaGreatBAD
import Derived.Test.YtgbnjjgnihjfgaaGreatBAE
import Derived.Test.YtgbnjjgnihjfgaaGreatBAF
import Derived.Test.YtgbnjjgnihjfgaaGreatBAG
import Derived.Test.YtgbnjjgnihjfgaaGreatBAH
import Derived.Test.YtgbnjjgnihjfgaaGreatBAI
import Derived.Test.YtgbnjjgnihjfgaaGreatBAJ
import Derived.Test.YtgbnjjgnihjfgaaGreatBAK
import Derived.Test.YtgbnjjgnihjfgaaGreatBAL
import Derived.Test.YtgbnjjgnihjfgaaGreatBAM
import Derived.Test.YtgbnjjgnihjfgaaGreatBAN
import Derived.Test.YtgbnjjgnihjfgaaGreatBAO
import Derived.Test.YtgbnjjgnihjfgaaGreatBAP
import Derived.Test.YtgbnjjgnihjfgaaGreatBAQ
import Derived.Test.YtgbnjjgnihjfgaaGreatBAR
import Derived.Test.YtgbnjjgnihjfgaaGreatBAS
import Derived.Test.YtgbnjjgnihjfgaaGreatBAT
import Derived.Test.YtgbnjjgnihjfgaaGreatBAU
section
set_option linter.unusedVariables false
set_option linter.unusedSimpArgs false
namespace Go.Proofs.YtgbnjjgnihjfgaaGreat
open Go.RowKit Go.Sort Go.ChangeMaps Go.MapKept

/-- A block of cells of another type is no part of a state. -/
theorem foot_ne {W : World} {b : Nat} {m : Option Nat} {L : List MRow} {p : Int} (h : StAt W b m L p) {r : Nat} {c : Array Value} {t : TypeId} {fr : Nat × Nat} (hr : W.heap[r]? = some (.cells c t fr)) (ht : t ≠ 80) : ¬ foot b m r := by
  rintro (e | e)
  · subst e
    have := h.blk
    rw [hr] at this
    simp only [Option.some.injEq, Obj.cells.injEq] at this
    exact ht this.2.1
  · have hm := h.mp
    rw [e] at hm
    obtain ⟨es, clock, hb, _⟩ := hm
    rw [hr] at hb
    cases hb
/-- What a law holds that keeps a result along a log: the state behind k records, and the result there, in a variable of its own. -/
def KI (w4 w : World) (sb rB : Nat) (q : MQ) (R : List MRec) (k : Nat) : Prop :=
  ∃ m base a n c M v f, SInv w4 w sb R k m ∧ (∀ i, foot sb m i → i < base) ∧ w4.heap.size ≤ rB ∧ w.heap[rB]? = some (.cells #[.slice a n c, .int .i64 v, .bool f] 34 (0, 0)) ∧ OwnR w base (.slice a n c) M ∧ RsAt q (rowsOf (R.take k)) ⟨M, v, f⟩
theorem KI.mk {w4 wt : World} {sb rB : Nat} {q : MQ} {R : List MRec} {k : Nat} {m : Option Nat} {base : Nat} {a : Option Addr} {n c : Nat} {M : List MRow} {v : Int} {f : Bool} {old : Array Value}
    (hS : SInv w4 wt sb R k m) (hf : ∀ i, foot sb m i → i < base) (hr4 : w4.heap.size ≤ rB) (hrb : wt.heap[rB]? = some (.cells old 34 (0, 0))) (hO : OwnR wt base (.slice a n c) M) (hR : RsAt q (rowsOf (R.take k)) ⟨M, v, f⟩) : KI w4 (wt.setRow rB #[.slice a n c, .int .i64 v, .bool f]) sb rB q R k := by
  have hk : Kept (fun i => i = rB) wt (wt.setRow rB #[.slice a n c, .int .i64 v, .bool f]) := kept_row (F := fun i => i = rB) (Kept.refl _ _) (.inl rfl) _
  refine ⟨m, base, a, n, c, M, v, f, ⟨hS.1.kept hk (fun i hi e => ?_), hS.2.1, below_row hS.2.2 hr4 _⟩, hf, hr4, setRow_heap _ _ _ _ _ _ hrb, hO.kept' hk (fun i hi e => own_ne hO hrb (by decide) i hi e), hR⟩
  have e' : i = rB := e
  subst e'
  exact foot_ne hS.1 hrb (by decide) hi
set_option maxRecDepth 100000 in
set_option maxHeartbeats 16000000 in
theorem kept_of {x : X5} (hx : x.Ok) {W : World} {v : Value} {n : Nat} (h : XS W v n) {p : Int} (hp : I64 p) : Calls Tryz.prog 5 #[v, x5V x, .int .i64 p] W fun e w' => e = .returned (.bool true) ∧ Below W.heap.size W w' := by
  obtain ⟨q, Hq⟩ : ∃ q, Hid (qryF x = q) := ⟨_, Lib.hid rfl⟩
  have HQv : Hid (validB q = true) := Lib.hid (by rw [← Hq.out]; exact qryF_valid x)
  have HC := Lib.hid (fun w => queryF_any x hx w)
  rw [Hq.out] at HC
  obtain ⟨mm, hmin, hmn, hm25⟩ : ∃ k : Nat, min (n : Int) 25 = k ∧ k ≤ n ∧ k ≤ 25 := ⟨min n 25, by omega, by omega, by omega⟩
  obtain ⟨va, vcap, rfl, hxt⟩ := h.take mm hmn
  have HT := Lib.hid hxt
  obtain ⟨_, _, e0, hs1, hs2, _⟩ := h
  simp only [Value.slice.injEq] at e0
  obtain ⟨rfl, -, rfl⟩ := e0
  obtain ⟨x0, x1, x2, x3, x4⟩ := x
  unfold x5V at *
  simp only at *
  clear Hq hx hxt
  go_enter Tryz.func5, Tryz.ntmps5
  go_upto_region 1 with fail
  generalize hw0 : W.alloc (.cells #[.int .i64 x0, .int .i64 x1, .int .i64 x2, .int .i64 x3, .int .i64 x4] 23) = w0
  have HB0 : Hid (Below W.heap.size W w0) := Lib.hid (by rw [← hw0]; exact ba _ _)
  have HX0 : Hid (w0.heap[W.heap.size]? = some (.cells #[.int .i64 x0, .int .i64 x1, .int .i64 x2, .int .i64 x3, .int .i64 x4] 23 (0, 0))) := Lib.hid (by rw [← hw0]; exact heap_alloc_new W _)
  clear hw0
  go_wp2_with fail
  (with_reducible refine (sane7_any _).mono ?_)
  rintro e w1 ⟨rfl, hb⟩
  have HX1 := Lib.hid ((hb.block _ (lt_of_block HX0.out)).trans HX0.out)
  have HB1 := Lib.hid (bt HB0.out hb)
  clear hb HX0 HB0
  go_wp2_with fail
  (with_reducible refine (log_walk (HT.out.below HB1.out) (by omega)).mono ?_)
  rintro e w2 ⟨R, u, rfl, hrs, hch, hl, hsm, hb⟩
  have HRS2 := Lib.hid hrs
  have HCh := Lib.hid hch
  have HL := Lib.hid (show R.length ≤ 1000 by omega)
  have HX2 := Lib.hid ((hb.block _ (lt_of_block HX1.out)).trans HX1.out)
  have HB2 := Lib.hid (bt HB1.out hb)
  obtain ⟨ra, rn, rcap, rfl, hrn, -⟩ := id hrs
  clear hb HX1 HB1 hrs hch hl hsm HT hmin hmn hm25 hs1 hs2
  subst hrn
  go_wp2_with (refine wpList_load_row rfl 23 _ rfl W.heap.size rfl 23 _ _ _ HX2.out Tryz.underlying23 rfl (by kernel_rfl) ?_)
  (with_reducible refine (HC.out _).mono ?_)
  rintro e w3 ⟨rfl, hb⟩
  have HB3 := Lib.hid (bt HB2.out hb)
  have HRS3 := Lib.hid (HRS2.out.below hb)
  clear hb HB2 HRS2 HX2 HC
  obtain ⟨qk, qt, qc, ql, qh, qy, qo⟩ := q
  unfold qV
  simp only
  go_upto_region 4 with fail
  generalize hw3b : w3.alloc (.cells #[.int .i64 qk, .int .i64 qt, .int .i64 qc, .int .i64 ql, .int .i64 qh, .int .i64 qy, .int .i64 qo] 28) = w3b
  have HBp : Hid (Below W.heap.size W w3b) := Lib.hid (by rw [← hw3b]; exact bt HB3.out (ba _ _))
  have HRSp : Hid (RecS w3b (.slice ra R.length rcap) R) := Lib.hid (by rw [← hw3b]; exact HRS3.out.below (ba _ _))
  have HQp : Hid (w3b.heap[w3.heap.size]? = some (.cells #[.int .i64 qk, .int .i64 qt, .int .i64 qc, .int .i64 ql, .int .i64 qh, .int .i64 qy, .int .i64 qo] 28 (0, 0))) := Lib.hid (by rw [← hw3b]; exact heap_alloc_new w3 _)
  obtain ⟨qb, Hqb⟩ : ∃ b, Hid (w3.heap.size = b) := ⟨_, Lib.hid rfl⟩
  rw [Hqb.out] at HQp ⊢
  clear hw3b HB3 HRS3 Hqb
  have hRl := HL.out
  have hpr := pk_range p (n := (R.length : Int) + 1) (by omega)
  obtain ⟨m0, hm0⟩ : ∃ m : Nat, pk p ((R.length : Int) + 1) = m := ⟨(pk p ((R.length : Int) + 1)).toNat, by omega⟩
  have hml : m0 ≤ R.length := by omega
  have HPk := Lib.hid (fun w => pick7B p ((R.length : Int) + 1) w hp (by omega) (by omega))
  simp only [hm0] at HPk
  clear hpr hm0
  go_wp2_with fail
  (with_reducible refine (HPk.out _).mono ?_)
  rintro e w4 ⟨rfl, hb⟩
  have HB4 := Lib.hid (bt HBp.out hb)
  have HRS4 := Lib.hid (HRSp.out.below hb)
  have HQ4 := Lib.hid ((hb.block _ (lt_of_block HQp.out)).trans HQp.out)
  clear hb HBp HRSp HQp HPk
  go_wp2_with fail
  (with_reducible refine (at_any HRS4.out HCh.out m0 hml).mono ?_)
  rintro e w5 ⟨sb, m1, rfl, hs1, ho1, hb⟩
  have HI := Lib.hid (show SInv w4 w5 sb R m0 m1 from ⟨hs1, ho1, hb⟩)
  clear hs1 ho1 hb
  go_upto_region 8 with fail
  have HQo0 := Lib.hid ((HI.out.2.2.block _ (lt_of_block HQ4.out)).trans HQ4.out)
  have HOf0 := Lib.hid (ofR HI.out.1 HQv.out)
  unfold qV ptr at HOf0
  simp only at HOf0
  go_wp2_with (refine wpList_load_row rfl 28 _ rfl qb rfl 28 _ _ _ HQo0.out Tryz.underlying28 rfl (by kernel_rfl) ?_)
  (with_reducible refine HOf0.out.mono ?_)
  rintro e wo0 ⟨u0, M0, v0, f0, rfl, ho, hr, hb⟩
  obtain ⟨a0, n0, c0, rfl⟩ := ho.form
  unfold resC
  go_upto_region 9 with fail
  generalize hwx : wo0.alloc (.cells #[.slice a0 n0 c0, .int .i64 v0, .bool f0] 34) = wa0
  have HRs0 := Lib.hid hr
  have HBw0 : Hid (Below w5.heap.size w5 wa0) := Lib.hid (by rw [← hwx]; exact bt hb (ba _ _))
  have HSi0 := Lib.hid (HI.out.below HBw0.out)
  have HOw0 : Hid (OwnR wa0 w5.heap.size (.slice a0 n0 c0) M0) := Lib.hid (by rw [← hwx]; exact ho.below (ba _ _))
  have HVr0 : Hid (wa0.heap[wo0.heap.size]? = some (.cells #[.slice a0 n0 c0, .int .i64 v0, .bool f0] 34 (0, 0)) ∧ w5.heap.size ≤ wo0.heap.size) := Lib.hid ⟨by rw [← hwx]; exact heap_alloc_new _ _, hb.size⟩
  obtain ⟨rb0, hrb_⟩ : ∃ b, Hid (wo0.heap.size = b) := ⟨_, Lib.hid rfl⟩
  rw [hrb_.out] at HVr0 ⊢
  clear hwx hr ho hb hrb_ HOf0 HQo0
  have HK0 : Hid (KI w4 wa0 sb rb0 ⟨qk, qt, qc, ql, qh, qy, qo⟩ R m0) := Lib.hid ⟨m1, w5.heap.size, a0, n0, c0, M0, v0, f0, HSi0.out, HI.out.foot_lt, Nat.le_trans HI.out.2.2.size HVr0.out.2, HVr0.out.1, HOw0.out, HRs0.out⟩
  clear HSi0 HOw0 HVr0 HBw0 HRs0 HI
  go_upto_region 11 with fail
  go_wp2_with fail
  go_loopw [15] (fun i wr => ∃ k : Nat, k ≤ R.length ∧ i = .int .i64 k ∧ Hid (KI w4 wr sb rb0 ⟨qk, qt, qc, ql, qh, qy, qo⟩ R k)) (fun i _ => R.length - (intOf i).toNat)
  case atStart => exact ⟨m0, hml, rfl, HK0⟩
  case round =>
    obtain ⟨k, hk, rfl, HKI⟩ := hrel
    clear HK0
    obtain ⟨m, base, a1, n1, c1, M1, v1, f1, hs, hfb, hr4, hrb, hO, hR⟩ := HKI.out
    have HS1 := Lib.hid hs
    have HFb := Lib.hid hfb
    have HR4 := Lib.hid hr4
    have HV0 := Lib.hid hrb
    have HO0 := Lib.hid hO
    have HRs1 := Lib.hid hR
    clear HKI hs hfb hr4 hrb hO hR
    by_cases hlt : k < R.length
    · obtain ⟨gb, go, ga, gn, gc, eg1, -, q0, q1, hvs, hvn, hgb⟩ := rec_at (HRS4.out.below HS1.out.2.2) HCh.out hlt
      subst eg1
      clear hvn
      have HAp := Lib.hid (SInv.apply HS1.out HCh.out hlt hvs)
      go_upto_region 14 with fail
      go_wp2_with fail
      (with_reducible refine HAp.out.mono ?_)
      rintro e w8 ⟨rfl, m', hs8, hk8⟩
      have HS8 := Lib.hid hs8
      have HV8 := Lib.hid ((hk8.block _ (lt_of_block HV0.out) (foot_ne HS1.out.1 HV0.out (by decide))).trans HV0.out)
      have HO8 := Lib.hid (HO0.out.kept hk8 (fun i hi f => by have := HFb.out i f; omega))
      clear hs8 hk8 HAp q0 q1 hvs hgb HV0 HO0
      go_upto_region 16 with fail
      have HQo2 := Lib.hid ((HS8.out.2.2.block _ (lt_of_block HQ4.out)).trans HQ4.out)
      have HOf2 := Lib.hid (ofR HS8.out.1 HQv.out)
      unfold qV ptr at HOf2
      simp only at HOf2
      go_wp2_with (refine wpList_load_row rfl 28 _ rfl qb rfl 28 _ _ _ HQo2.out Tryz.underlying28 rfl (by kernel_rfl) ?_)
      (with_reducible refine HOf2.out.mono ?_)
      rintro e wo2 ⟨u2, M2, v2, f2, rfl, ho, hr, hb⟩
      obtain ⟨a2, n2, c2, rfl⟩ := ho.form
      unfold resC
      go_upto_region 17 with fail
      generalize hwx : wo2.alloc (.cells #[.slice a2 n2 c2, .int .i64 v2, .bool f2] 34) = wa2
      have HRs2 := Lib.hid hr
      have HBw2 : Hid (Below w8.heap.size w8 wa2) := Lib.hid (by rw [← hwx]; exact bt hb (ba _ _))
      have HSi2 := Lib.hid (HS8.out.below HBw2.out)
      have HOw2 : Hid (OwnR wa2 w8.heap.size (.slice a2 n2 c2) M2) := Lib.hid (by rw [← hwx]; exact ho.below (ba _ _))
      have HVr2 : Hid (wa2.heap[wo2.heap.size]? = some (.cells #[.slice a2 n2 c2, .int .i64 v2, .bool f2] 34 (0, 0)) ∧ w8.heap.size ≤ wo2.heap.size) := Lib.hid ⟨by rw [← hwx]; exact heap_alloc_new _ _, hb.size⟩
      obtain ⟨rb2, hrb_⟩ : ∃ b, Hid (wo2.heap.size = b) := ⟨_, Lib.hid rfl⟩
      rw [hrb_.out] at HVr2 ⊢
      clear hwx hr ho hb hrb_ HOf2 HQo2
      have HV9 := Lib.hid ((HBw2.out.block _ (lt_of_block HV8.out)).trans HV8.out)
      have HO9 := Lib.hid (HO8.out.below HBw2.out)
      clear HV8 HO8
      obtain ⟨gb', go', ga, gn, gc, eg2, -, q0, q1, hvs, hvn, hgb⟩ := rec_at (HRS4.out.below HSi2.out.2.2) HCh.out hlt
      simp only [Option.some.injEq, Addr.mk.injEq, and_true] at eg2
      obtain ⟨rfl, rfl⟩ := eg2
      obtain ⟨cs, Hcs⟩ : ∃ c, Hid ((R.getD k recZ).chs = c) := ⟨_, Lib.hid rfl⟩
      have hl8 : (R.getD k recZ).chs.length ≤ 8 := (HCh.out k hlt).1.2.1.2
      rw [Hcs.out] at hvs hvn hl8
      have HCs := Lib.hid hvs
      have HL8 := Lib.hid hl8
      have HQ9 := Lib.hid ((HSi2.out.2.2.block _ (lt_of_block HQ4.out)).trans HQ4.out)
      have HG := Lib.hid (And.intro hgb (And.intro q0 q1))
      clear hvs hgb q0 q1 hl8 hvn
      obtain ⟨TT, HTT⟩ : ∃ t, Hid (cs.any (touchB (⟨qk, qt, qc, ql, qh, qy, qo⟩ : MQ)) = t) := ⟨_, Lib.hid rfl⟩
      have HA : Hid (∀ w, Hid (Below wa2.heap.size wa2 w) → Calls Tryz.prog 18 #[.agg #[.int .i64 qk, .int .i64 qt, .int .i64 qc, .int .i64 ql, .int .i64 qh, .int .i64 qy, .int .i64 qo], .agg #[.slice a1 n1 c1, .int .i64 v1, .bool f1], .agg #[.int .i64 ((k : Int) + 1), .slice ga gn gc]] w fun e w' => ∃ ua un uc v f kn rows, e = .returned (.tuple #[.agg #[.slice ua un uc, .int .i64 v, .bool f], .bool TT, .bool kn]) ∧ Hid (OwnR w' w.heap.size (.slice ua un uc) rows) ∧ Hid (kn = true → (⟨rows, v, f⟩ : MRes) = ⟨M2, v2, f2⟩) ∧ Hid (TT = false → kn = true ∧ (⟨rows, v, f⟩ : MRes) = ⟨M1, v1, f1⟩) ∧ Hid (Below w.heap.size w w')) := Lib.hid (fun w hb => by
        have hl := rs_len HQv.out HRs1.out (HCh.out.good k (by omega))
        have h := Apply_any (q := (⟨qk, qt, qc, ql, qh, qy, qo⟩ : MQ)) (r := ⟨M1, v1, f1⟩) (pos := (k : Int) + 1) (HO9.out.rowS.below hb.out) (by have := HL8.out; simp only at hl ⊢; omega) (HCs.out.below hb.out)
        unfold qV resC at h
        simp only at h
        refine h.mono ?_
        rintro e w' ⟨u, rfl, ho, hb'⟩
        have ht := apply_touch (⟨qk, qt, qc, ql, qh, qy, qo⟩ : MQ) ⟨M1, v1, f1⟩ cs
        rw [HTT.out] at ht
        obtain ⟨sa, sn, sc, rfl⟩ := own_form ho
        refine ⟨sa, sn, sc, _, _, _, _, by rw [← ht], Lib.hid ho, Lib.hid (fun hk => ?_), Lib.hid (fun h0 => ?_), Lib.hid hb'⟩
        · cases ha : (applyM (⟨qk, qt, qc, ql, qh, qy, qo⟩ : MQ) ⟨M1, v1, f1⟩ cs).1 with
          | none => rw [ha] at hk; cases hk
          | some s =>
            rw [rs_apply HQv.out HCh.out hlt HRs1.out HRs2.out (by rw [Hcs.out]; exact ha)]
            rfl
        · rw [apply_same (by rw [HTT.out]; exact h0)]
          exact ⟨rfl, rfl⟩)
      have HK : Hid (∀ w, Below wa2.heap.size wa2 w → w.cell? ⟨qb, 0, none⟩ = some (.int .i64 qk) ∧ w.cell? ⟨qb, 1, none⟩ = some (.int .i64 qt) ∧ w.cell? ⟨qb, 2, none⟩ = some (.int .i64 qc) ∧ w.cell? ⟨qb, 3, none⟩ = some (.int .i64 ql) ∧ w.cell? ⟨qb, 4, none⟩ = some (.int .i64 qh) ∧ w.cell? ⟨qb, 5, none⟩ = some (.int .i64 qy) ∧ w.cell? ⟨qb, 6, none⟩ = some (.int .i64 qo) ∧ w.cell? ⟨rb0, 0, none⟩ = some (.slice a1 n1 c1) ∧ w.cell? ⟨rb0, 1, none⟩ = some (.int .i64 v1) ∧ w.cell? ⟨rb0, 2, none⟩ = some (.bool f1) ∧ w.cell? ⟨gb, go + k * 2, none⟩ = some (.int .i64 ((k : Int) + 1)) ∧ w.cell? ⟨gb, go + k * 2 + 1, none⟩ = some (.slice ga gn gc)) := Lib.hid (fun w hb => by
        have h1 := (hb.block _ (lt_of_block HQ9.out)).trans HQ9.out
        have h2 := (hb.block _ (lt_of_block HV9.out)).trans HV9.out
        have h3 := ((hb.cell (p := ⟨gb, go + k * 2, none⟩) HG.out.1)).trans HG.out.2.1
        have h4 := ((hb.cell (p := ⟨gb, go + k * 2 + 1, none⟩) HG.out.1)).trans HG.out.2.2
        refine ⟨?_, ?_, ?_, ?_, ?_, ?_, ?_, ?_, ?_, ?_, h3, h4⟩ <;> simp [World.cell?, h1, h2])
      go_cut [18, 19, 20] (fun p s t wx => ∃ pb ua un uc v f kn rows, p = .pointer (some ⟨pb, 0, none⟩) ∧ s = .bool TT ∧ t = .bool kn ∧ Hid (Below wa2.heap.size wa2 wx) ∧ Hid (wx.heap[pb]? = some (.cells #[.slice ua un uc, .int .i64 v, .bool f] 34 (0, 0)) ∧ wa2.heap.size ≤ pb) ∧ Hid (OwnR wx wa2.heap.size (.slice ua un uc) rows) ∧ Hid (kn = true → (⟨rows, v, f⟩ : MRes) = ⟨M2, v2, f2⟩) ∧ Hid (TT = false → kn = true ∧ (⟨rows, v, f⟩ : MRes) = ⟨M1, v1, f1⟩))
      case first => as_aux_lemma =>
        go_region_held3 (fun w => w.cell? ⟨qb, 0, none⟩ = some (.int .i64 qk) ∧ w.cell? ⟨qb, 1, none⟩ = some (.int .i64 qt) ∧ w.cell? ⟨qb, 2, none⟩ = some (.int .i64 qc) ∧ w.cell? ⟨qb, 3, none⟩ = some (.int .i64 ql) ∧ w.cell? ⟨qb, 4, none⟩ = some (.int .i64 qh) ∧ w.cell? ⟨qb, 5, none⟩ = some (.int .i64 qy) ∧ w.cell? ⟨qb, 6, none⟩ = some (.int .i64 qo) ∧ w.cell? ⟨rb0, 0, none⟩ = some (.slice a1 n1 c1) ∧ w.cell? ⟨rb0, 1, none⟩ = some (.int .i64 v1) ∧ w.cell? ⟨rb0, 2, none⟩ = some (.bool f1) ∧ w.cell? ⟨gb, go + k * 2, none⟩ = some (.int .i64 ((k : Int) + 1)) ∧ w.cell? ⟨gb, go + k * 2 + 1, none⟩ = some (.slice ga gn gc))
          (first | exact HK.out _ (below_drew _) | exact HK.out _ HCur.out | exact HK.out _ (bt (ba wa2 _) (below_drew _)) | exact HK.out _ (bt HCur.out (ba _ _)) | exact HK.out _ (below_setCell (below_setCell (below_setCell HCur.out hge _) hge _) hge _))
          (first
            | (go_at_call 18; (with_reducible refine (HA.out _ (Lib.hid (below_drew _))).mono ?_); rintro e wk1 ⟨sa, sn, sc, sv, sf, kn, rows, rfl, HOk, HKn, HTf, HBk1⟩; have HCur := Lib.hid (bt (below_drew _) HBk1.out))
            | (go_at_call 18; (with_reducible refine (HA.out _ (Lib.hid (bt (ba wa2 _) (below_drew _)))).mono ?_); rintro e wk1 ⟨sa, sn, sc, sv, sf, kn, rows, rfl, HOk, HKn, HTf, HBk1⟩; have HCur := Lib.hid (bt (bt (ba wa2 _) (below_drew _)) HBk1.out); have HRb : Hid (wk1.heap[wa2.heap.size]? = some (.cells #[.slice none 0 0, .int .i64 0, .bool false] 34 (0, 0))) := Lib.hid ((HBk1.out.block _ (by simp [World.drew])).trans (heap_alloc_new wa2 _)); have f0 : ∀ j, wk1.frozen? ⟨wa2.heap.size, j, none⟩ = false := (fun j => by simp [World.frozen?, HRb.out]); have x0 : wk1.cell? ⟨wa2.heap.size, 0, none⟩ = some (.slice none 0 0) := (by simp [World.cell?, HRb.out]); have x1 : wk1.cell? ⟨wa2.heap.size, 1, none⟩ = some (.int .i64 0) := (by simp [World.cell?, HRb.out]); have x2 : wk1.cell? ⟨wa2.heap.size, 2, none⟩ = some (.bool false) := (by simp [World.cell?, HRb.out]); have hge := Nat.le_refl wa2.heap.size))
        all_goals
          go_wp2_with fail
          go_meet
          first
            | exact ⟨wk1.heap.size, sa, sn, sc, sv, sf, kn, rows, rfl, rfl, rfl, Lib.hid (bt HCur.out (ba _ _)), Lib.hid ⟨heap_alloc_new _ _, HCur.out.size⟩, Lib.hid ((HOk.out.mono (below_drew wa2).size).below (ba _ _)), HKn, HTf⟩
            | exact ⟨wa2.heap.size, sa, sn, sc, sv, sf, kn, rows, rfl, rfl, rfl, Lib.hid (below_setCell (below_setCell (below_setCell HCur.out hge _) hge _) hge _), Lib.hid ⟨set3_heap HRb.out, hge⟩, Lib.hid (own_set3 HOk.out (by simp [World.drew]) (by simp [World.drew]) _ _ _), HKn, HTf⟩
      case rest => as_aux_lemma =>
        obtain ⟨pb, ua, un, uc, v', f', kn, rows', hp_, hs_, ht_, HBx, HPx, HOx, HKn, HTf⟩ := hcut
        rename World => wp
        subst hp_
        subst hs_
        subst ht_
        have hRl := HL.out
        have HPb := Lib.hid HPx.out.1
        have HF8 : Hid (∀ i, foot sb m' i → i < w8.heap.size) := Lib.hid HS8.out.foot_lt
        cases kn
        · have HN := Lib.hid ((HBx.out.block _ (lt_of_block HVr2.out.1)).trans HVr2.out.1)
          go_upto_region 20 with (first | refine wpList_load_row rfl 34 _ rfl rb2 rfl 34 _ _ _ HN.out Tryz.underlying34 rfl (by kernel_rfl) ?_ | refine wpList_store_row rfl 34 _ _ rfl pb #[.slice a2 n2 c2, .int .i64 v2, .bool f2] rfl rfl 34 _ HPb.out (by kernel_rfl) rfl (by simp [Value.oneCell']) ?_)
          generalize hw : wp.setRow pb #[.slice a2 n2 c2, .int .i64 v2, .bool f2] = ws
          have HPs : Hid (ws.heap[pb]? = some (.cells #[.slice a2 n2 c2, .int .i64 v2, .bool f2] 34 (0, 0))) := Lib.hid (by rw [← hw]; exact setRow_heap _ _ _ _ _ _ HPb.out)
          have HBs : Hid (Below wa2.heap.size wa2 ws) := Lib.hid (by rw [← hw]; exact below_row HBx.out HPx.out.2 _)
          clear hw HN
          have HNs := Lib.hid ((HBs.out.block _ (lt_of_block HVr2.out.1)).trans HVr2.out.1)
          have HRn := Lib.hid (HOw2.out.rowS.below HBs.out)
          have HSa := Lib.hid (evSame_any HRn.out HRn.out v2 v2 f2 f2)
          unfold resV at HSa
          simp only [and_self, decide_true] at HSa
          go_wp2_with (first | refine wpList_load_rowW (by rfl) 34 _ rfl pb rfl 34 _ _ _ HPs.out Tryz.underlying34 rfl (by kernel_rfl) ?_ | refine wpList_load_rowW (by rfl) 34 _ rfl rb2 rfl 34 _ _ _ HNs.out Tryz.underlying34 rfl (by kernel_rfl) ?_)
          (with_reducible refine HSa.out.mono ?_)
          rintro e wt ⟨rfl, hb⟩
          have HBt := Lib.hid (bt HBs.out hb)
          have HPt := Lib.hid ((hb.block _ (lt_of_block HPs.out)).trans HPs.out)
          have HVt := Lib.hid ((HBt.out.block _ (lt_of_block HV9.out)).trans HV9.out)
          have HKn' := Lib.hid (KI.mk (q := ⟨qk, qt, qc, ql, qh, qy, qo⟩) (HSi2.out.below HBt.out) HF8.out HR4.out HVt.out (HOw2.out.below HBt.out) HRs2.out)
          clear hb
          go_wp2_with (first | refine wpList_load_row rfl 34 _ rfl pb rfl 34 _ _ _ HPt.out Tryz.underlying34 rfl (by kernel_rfl) ?_ | refine wpList_store_row rfl 34 _ _ rfl rb0 #[.slice a2 n2 c2, .int .i64 v2, .bool f2] rfl rfl 34 _ HVt.out (by kernel_rfl) rfl (by simp [Value.oneCell']) ?_)
          exact ⟨⟨k + 1, by omega, by go_num, HKn'⟩, by simp [intOf]; omega⟩
        · have e := HKn.out rfl
          simp only [MRes.mk.injEq] at e
          obtain ⟨rfl, rfl, rfl⟩ := e
          have HN := Lib.hid ((HBx.out.block _ (lt_of_block HVr2.out.1)).trans HVr2.out.1)
          have HSa := Lib.hid (evSame_any HOx.out.rowS (HOw2.out.rowS.below HBx.out) v' v' f' f')
          unfold resV at HSa
          simp only [and_self, decide_true] at HSa
          go_upto_region 20 with fail
          go_wp2_with (first | refine wpList_load_rowW (by rfl) 34 _ rfl pb rfl 34 _ _ _ HPb.out Tryz.underlying34 rfl (by kernel_rfl) ?_ | refine wpList_load_rowW (by rfl) 34 _ rfl rb2 rfl 34 _ _ _ HN.out Tryz.underlying34 rfl (by kernel_rfl) ?_)
          (with_reducible refine HSa.out.mono ?_)
          rintro e wt ⟨rfl, hb⟩
          have HBt := Lib.hid (bt HBx.out hb)
          have HPt := Lib.hid ((hb.block _ (lt_of_block HPb.out)).trans HPb.out)
          have HVt := Lib.hid ((HBt.out.block _ (lt_of_block HV9.out)).trans HV9.out)
          have HKn' := Lib.hid (KI.mk (q := ⟨qk, qt, qc, ql, qh, qy, qo⟩) (HSi2.out.below HBt.out) (fun i hi => Nat.lt_of_lt_of_le (HF8.out i hi) HBw2.out.size) HR4.out HVt.out (HOx.out.below hb) HRs2.out)
          clear hb
          go_wp2_with (first | refine wpList_load_row rfl 34 _ rfl pb rfl 34 _ _ _ HPt.out Tryz.underlying34 rfl (by kernel_rfl) ?_ | refine wpList_store_row rfl 34 _ _ rfl rb0 #[.slice ua un uc, .int .i64 v', .bool f'] rfl rfl 34 _ HVt.out (by kernel_rfl) rfl (by simp [Value.oneCell']) ?_)
          exact ⟨⟨k + 1, by omega, by go_num, HKn'⟩, by simp [intOf]; omega⟩
    · obtain rfl : k = R.length := by omega
      go_wp2_with fail
      go_ret
      exact ⟨rfl, bt HB4.out HS1.out.2.2⟩
end Go.Proofs.YtgbnjjgnihjfgaaGreat
end

section
set_option linter.unusedVariables false
set_option linter.unusedSimpArgs false
namespace Go.Proofs.YtgbnjjgnihjfgaaGreat
open Go.ChangeShapes Go.WideShapes Go.ChangeAt Go.RowKit

set_option maxRecDepth 100000 in
theorem predicateKept_lifted (os : Os) (started : os.Started) (H : Type) (enc : TypeId × Value → H) :
    ReturnsInHanded {} Tryz.checked os 5 .any (Rows.predicateKeptSpec.pre6 enc Tryz.prog Tryz.f5 Rows.predicateKeptRow.domain false) (Rows.predicateKeptSpec.post enc Tryz.prog Tryz.f5 false true false false) := by
  refine returnsInHanded_of_change (C := Tryz.checked) own started (by kernel_rfl) Tryz.func5
    (ChangeSpec.witness6 (enc := enc) (C := Tryz.checked) false ⟨#[], #[.slice none 0 0, .agg #[.int .i64 0, .int .i64 0, .int .i64 0, .int .i64 0, .int .i64 0], .int .i64 0], []⟩ 8 (by kernel_rfl) (by kernel_rfl) (by kernel_rfl) (by kernel_rfl)) ?_
  intro W base args ds gs before hval0 hW hcnd _
  have hval : ∀ (j : Nat) t v, Tryz.f5.params[j]? = some t → args[j]? = some v → Value.okWide Tryz.prog W .any base t v := hval0
  have hW' := hW
  obtain ⟨p, q, hA0, hV, rfl, hfz, hnd⟩ := hW
  have hA : DataW.TrodAll enc Tryz.prog W 0 (fun _ => true) true Tryz.f5.params.toList args.toList ds p := hA0
  rw [Tryz.params5] at hA hval
  obtain ⟨v0, vs0, d0, ds0, p0, q0, hargs, rfl, rfl, h0, r0⟩ := trodAll_cons hA
  obtain ⟨v1, vs1, d1, ds1, p1, q1, rfl, rfl, rfl, h1, r1⟩ := trodAll_cons r0
  obtain ⟨v2, vs2, d2, ds2, p2, q2, rfl, rfl, rfl, h2, r2⟩ := trodAll_cons r1
  obtain ⟨rfl, rfl, rfl⟩ := trodAll_nil r2
  obtain rfl : args = #[v0, v1, v2] := by cases args; simp_all
  obtain ⟨n0, x0⟩ := open_xs6 (hval 0 22 v0 rfl rfl) h0
  obtain ⟨a1, rfl, b1⟩ := open_arr5 (hval 1 23 v1 rfl rfl) h1
  obtain ⟨a2, rfl, rfl, rfl, w2⟩ := open_int Tryz.underlying3 (hval 2 3 v2 rfl rfl) h2
  have b2 : I64 a2 := bounds_i64 w2
  refine (kept_of b1 x0 b2).mono fun e W' ⟨he, hb⟩ => ?_
  subst he
  exact ⟨_, rfl, law_post 4 (by kernel_rfl) ⟨rfl, fun H ds hd => by
    rw [Tryz.params5] at hd
    obtain ⟨e0, e1, e2, rfl⟩ := len3 hd
    rfl⟩ (by kernel_rfl) (by kernel_rfl) Tryz.underlying4 hW' hb⟩
theorem predicateKept_holds : Rows.PredicateKeptSaid :=
  OpenClaim.holds_of_wide 5 Tryz.f5 rfl rfl rfl rfl rfl rfl rfl ⟨rfl, rfl, rfl, rfl, rfl⟩ rfl rfl rfl rfl rfl (by kernel_rfl) Tryz.func5 (by kernel_rfl)
    (of_decide_eq_true (by kernel_rfl)) (by unfold Func.isWrapper; first | (rw [if_pos (by decide +kernel)]; kernel_rfl) | (rw [if_neg (by decide +kernel)]; exact ⟨rfl, rfl⟩))
    (fun os started H enc _ => predicateKept_lifted os started H enc)
end Go.Proofs.YtgbnjjgnihjfgaaGreat
end
