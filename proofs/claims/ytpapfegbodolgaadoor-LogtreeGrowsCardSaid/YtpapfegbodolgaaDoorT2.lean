/- WALKS: the law's records. -/
import Derived.Test.YtpapfegbodolgaaDoorT1
import Derived.Test.YtpapfegbodolgaaDoorP3
import Derived.StillTail
set_option linter.unusedVariables false
set_option linter.unusedSimpArgs false
namespace Go.Proofs.YtpapfegbodolgaaDoor
open Go.RowKit Go.Sort

set_option maxRecDepth 100000 in
set_option maxHeartbeats 8000000 in
theorem records_any (X : List (List Int)) (v : Value) (w : World) (hX : NumSS w v X) :
    Calls Tryd.prog 10 #[v] w fun e w' => ∃ out Q, e = .returned out ∧ RsAt w' (fun k => w.heap.size ≤ k) out Q ∧ Q.map Prod.fst = recsOf X ∧ Below w.heap.size w w' := by
  obtain ⟨a, n, cap, rfl, hn, hc1, hc2, hcell⟩ := hX
  have HN := Lib.hid hn
  have HCL := Lib.hid hcell
  have HRO : Hid (recsOf X = recsTo X (min n 12)) := Lib.hid (by rw [hn]; rfl)
  clear hn hcell
  go_enter Tryd.func10, Tryd.ntmps10
  go_wp2_with fail
  go_loopw [3, 4, 5, 6, 7] (fun out i _ _ _ wr => ∃ (k : Nat) (Q : List (MRec × Value)), k ≤ min n 12 ∧ i = .int .i64 k ∧ Hid (RsAt wr (fun k => w.heap.size ≤ k) out Q) ∧ Hid (Q.map Prod.fst = recsTo X k) ∧ Hid (Below w.heap.size w wr)) (fun _ i _ _ _ _ => 12 - (intOf i).toNat)
  case atStart => exact ⟨0, [], by omega, rfl, Lib.hid (RsAt.nil _ _), Lib.hid rfl, Lib.hid (Below.refl _ _)⟩
  case round =>
    obtain ⟨k, Q, hk, rfl, HR, HM, HB⟩ := hrel
    by_cases h1 : k < n
    · have d1 : decide ((k : Int) < (n : Int)) = true := decide_eq_true (by omega)
      by_cases h2 : k < 12
      · have d2 : decide ((k : Int) < 12) = true := decide_eq_true (by omega)
        obtain ⟨ao, ocap, rfl, -⟩ := ownsRow_form HR.out.oq
        have HQl : Hid (Q.length ≤ 12) := Lib.hid (by have := recsTo_len X k; rw [← HM.out, List.length_map] at this; omega)
        have hq0 : (Q.length : Int) ≤ 12 := by have := HQl.out; omega
        obtain ⟨ib, io, rfl, hib, hrow⟩ := HCL.out (by omega)
        obtain ⟨ru, hru, ra, rn, rcap, rfl, hrn, hrc1, hrc2, hrcell, hrI⟩ := hrow k h1
        have HRN := Lib.hid hrn
        have HRC := Lib.hid hrcell
        have HRI := Lib.hid hrI
        have HRU := Lib.hid hru
        have HIB := Lib.hid hib
        have HWL : Hid (w.heap.size ≤ wr.heap.size) := Lib.hid HB.out.size
        clear hru hrow hib hrn hrcell hrI
        obtain ⟨wo, rfl⟩ : ∃ wo : World, wo = wr := ⟨_, rfl⟩
        go_wp2_with fail
        go_loopw [6, 7] (fun i _ wr => ∃ (m : Nat) (M : List MCh) (u : Value), m ≤ min rn 6 ∧ i = .int .i64 m ∧ Hid (wr.heap[wo.heap.size]? = some (.cells #[.int .i64 ((Q.length : Int) + 1), u] 51 (0, 0))) ∧ Hid (OwnC wr wo.heap.size u M) ∧ Hid (M = rowTo (X.getD k []) m) ∧ Hid (Below wo.heap.size wo wr)) (fun i _ _ => 6 - (intOf i).toNat)
        case atStart => exact ⟨0, [], _, by omega, rfl, Lib.hid (heap_alloc_new wo _), Lib.hid (OwnC.nil _ _), Lib.hid rfl, Lib.hid (ba wo _)⟩
        case round =>
          obtain ⟨m, M, u, hm, rfl, HG, HO, HMr, HBq⟩ := hrel
          have HBw : Hid (Below w.heap.size w wr) := Lib.hid (bt HB.out HBq.out)
          have hcr : wr.cell? ⟨ib, io + k, none⟩ = some (.slice ra rn rcap) := (HBw.out.cell (p := ⟨ib, io + k, none⟩) HIB.out).trans HRU.out
          by_cases h3 : m < rn
          · have d3 : decide ((m : Int) < (rn : Int)) = true := decide_eq_true (by omega)
            by_cases h4 : m < 6
            · have d4 : decide ((m : Int) < 6) = true := decide_eq_true (by omega)
              obtain ⟨xb, xo, rfl, hxb, hx⟩ := HRC.out (by omega)
              have hcx : wr.cell? ⟨xb, xo + m, none⟩ = some (.int .i64 ((X.getD k []).getD m 0)) := (HBw.out.cell (p := ⟨xb, xo + m, none⟩) hxb).trans (hx m h3)
              have HI : Hid (I64 ((X.getD k []).getD m 0)) := Lib.hid (HRI.out _ (getD_memQ (by rw [← HRN.out]; exact h3) 0))
              obtain ⟨x, HXx⟩ : ∃ x, Hid ((X.getD k []).getD m 0 = x) := ⟨_, Lib.hid rfl⟩
              rw [HXx.out] at hcx HI
              clear hx hxb
              obtain ⟨c, Hc⟩ : ∃ c, Hid (chg x = c) := ⟨_, Lib.hid rfl⟩
              have HCh : Hid (∀ W, Calls Tryd.prog 31 #[.int .i64 x] W fun e w' => e = .returned (chV c) ∧ Below W.heap.size W w') := Lib.hid fun W => by rw [← Hc.out]; exact change_any x W HI.out
              have HMn : Hid (rowTo (X.getD k []) (m + 1) = addCh M c) := Lib.hid (by rw [← Hc.out, ← HXx.out, HMr.out]; rfl)
              obtain ⟨ua, ucap, rfl, huc1, huc2⟩ := ownsRow_form HO.out
              have HML : Hid (M.length ≤ 6) := Lib.hid (by rw [HMr.out]; have := rowTo_len (X.getD k []) m; omega)
              go_wp2_with fail
              (with_reducible refine (HCh.out _).mono ?_)
              rintro e w2 ⟨rfl, hb2⟩
              go_upto_region 10 with fail
              have hyc := ba w2 (.cells (chCells c) 57)
              have hzc := heap_alloc_new w2 (.cells (chCells c) 57)
              obtain ⟨wc, Hwc⟩ : ∃ wc, Hid (w2.alloc (.cells (chCells c) 57) = wc) := ⟨_, Lib.hid rfl⟩
              rw [Hwc.out] at hyc hzc
              unfold chCells at Hwc
              rw [Hwc.out]
              have HGc := Lib.hid (gone (bt hb2 hyc) HG.out)
              have HOc : Hid (OwnC wc wo.heap.size (.slice ua M.length ucap) M) := Lib.hid (HO.out.below (bt hb2 hyc))
              have HBc : Hid (Below wo.heap.size wo wc) := Lib.hid (bt HBq.out (bt hb2 hyc))
              have HCc : Hid (wc.heap[w2.heap.size]? = some (.cells (chCells c) 57 (0, 0))) := Lib.hid hzc
              have HZ2 : Hid (wo.heap.size < w2.heap.size) := Lib.hid (lt_of_block (gone hb2 HG.out))
              clear Hwc hyc hzc hb2 hcr hcx HG HO HBq HBw
              have cu := cellOf (j := 1) HGc.out rfl
              have ct : wc.cell? ⟨w2.heap.size, 0, none⟩ = some (.int .i64 c.t) := cellOf (j := 0) HCc.out rfl
              have ck : wc.cell? ⟨w2.heap.size, 1, none⟩ = some (.int .i64 c.k) := cellOf (j := 1) HCc.out rfl
              have HZ5 : Hid (wo.heap.size ≤ wc.heap.size) := Lib.hid HBc.out.size
              by_cases hM0 : M.length = 0
              · have dm : ((M.length : Int) == 0) = true := by rw [hM0]; rfl
                have HA : Hid (AfterCh M c) := Lib.hid (.inl hM0)
                clear hM0
                go_quiet (fail)
                generalize hwd : wc.drewN _ = wd
                have hbd : Below wc.heap.size wc wd := by rw [← hwd]; exact ⟨rfl, rfl, rfl, Nat.le_refl _, fun _ _ => rfl⟩
                have hzd : wc.heap.size = wd.heap.size := by rw [← hwd]; rfl
                have HGd := Lib.hid (gone hbd HGc.out)
                have HOd := Lib.hid (HOc.out.below hbd)
                have HCd := Lib.hid (gone hbd HCc.out)
                have HCx := Lib.hid HCd.out
                unfold chCells at HCx
                have HBd := Lib.hid (bt HBc.out hbd)
                have cu' := cellOf (j := 1) HGd.out rfl
                have HCn : Hid ((wd.alloc (.cells #[.int .i64 c.t, .int .i64 c.k, .bool c.had, .int .i64 c.o.a, .int .i64 c.o.b, .int .i64 c.o.c, .bool c.has, .int .i64 c.n.a, .int .i64 c.n.b, .int .i64 c.n.c] 57)).heap[wd.heap.size]? = some (.cells (chCells c) 57 (0, 0))) := Lib.hid (heap_alloc_new wd (.cells (chCells c) 57))
                have HOn := Lib.hid (HOd.out.below (ba wd (.cells #[.int .i64 c.t, .int .i64 c.k, .bool c.had, .int .i64 c.o.a, .int .i64 c.o.b, .int .i64 c.o.c, .bool c.has, .int .i64 c.n.a, .int .i64 c.n.b, .int .i64 c.n.c] 57)))
                have HGn := Lib.hid (gone (ba wd (.cells #[.int .i64 c.t, .int .i64 c.k, .bool c.had, .int .i64 c.o.a, .int .i64 c.o.b, .int .i64 c.o.c, .bool c.has, .int .i64 c.n.a, .int .i64 c.n.b, .int .i64 c.n.c] 57)) HGd.out)
                have HBn := Lib.hid (bt HBd.out (ba wd (.cells #[.int .i64 c.t, .int .i64 c.k, .bool c.had, .int .i64 c.o.a, .int .i64 c.o.b, .int .i64 c.o.c, .bool c.has, .int .i64 c.n.a, .int .i64 c.n.b, .int .i64 c.n.c] 57)))
                have hsn := World.size_alloc wd (.cells #[.int .i64 c.t, .int .i64 c.k, .bool c.had, .int .i64 c.o.a, .int .i64 c.o.b, .int .i64 c.o.c, .bool c.has, .int .i64 c.n.a, .int .i64 c.n.b, .int .i64 c.n.c] 57)
                have HSn : Hid (wo.heap.size ≤ (wd.alloc (.cells #[.int .i64 c.t, .int .i64 c.k, .bool c.had, .int .i64 c.o.a, .int .i64 c.o.b, .int .i64 c.o.c, .bool c.has, .int .i64 c.n.a, .int .i64 c.n.b, .int .i64 c.n.c] 57)).heap.size) := Lib.hid (by rw [hsn]; have := HZ5.out; omega)
                clear hwd hbd HGc HOc HBc cu hsn
                go_wp2_with (first | (refine wpList_load_row rfl 57 _ rfl w2.heap.size rfl 57 _ _ _ HCx.out Tryd.underlying57 rfl (by kernel_rfl) ?_) | (at_builtin; go_loud (refine wpList_step fun K hK => step_append_ch rfl (.tmp 90) (.tmp 92) rfl wo.heap.size (.slice ua M.length ucap) M c rfl HOn.out wd.heap.size 1 rfl HCn.out (by have := HML.out; omega) HSn.out ?_); intro g2 cap2 w6 ho6 hgr6 hor6 hlt6; have HO6 := Lib.hid ho6; have HG6 := Lib.hid hgr6; have HR6 := Lib.hid hor6; have HGx : Hid (w6.heap[wo.heap.size]? = some (.cells #[.int .i64 ((Q.length : Int) + 1), .slice ua M.length ucap] 51 (0, 0))) := Lib.hid ((hgr6.block _ (lt_of_block HGn.out) (fun e => (ownsRow_lt HOn.out e.symm).2.elim fun _ hc => type_ne HGn.out hc (by decide) rfl)).trans HGn.out); have cx := cellOf (j := 1) HGx.out rfl; have fx := freeOf HGx.out 1; clear ho6 hgr6 hor6 hlt6 cu'; refine hK _ _ ?_))
                exact ⟨⟨m + 1, M ++ [c], _, by omega, by go_num, Lib.hid (two_setCell1 HGx.out), Lib.hid (by
                  have := HO6.out.kept (Kept.setCell (Kept.refl (fun k => k = wo.heap.size) w6) (p := ⟨wo.heap.size, 1, none⟩) (.inl rfl) (.slice (some ⟨g2, 0, none⟩) (M.length + 1) cap2)) (fun i e he => (ownsRow_lt HO6.out e).2.elim fun _ hc => type_ne HGx.out hc (by decide) he.symm)
                  exact this), Lib.hid (by rw [HMn.out]; exact (if_pos HA.out).symm),
                  Lib.hid ((((Kept.of_below (F := fun k => wo.heap.size ≤ k) HBn.out).grown HG6.out (fun k e => .inl (ownsRow_lt HOn.out e).1)).setCell (p := ⟨wo.heap.size, 1, none⟩) (.inl (Nat.le_refl _)) _).below (Nat.le_refl _) fun k f => f)⟩, by simp [intOf]; omega⟩
              · obtain ⟨q, hq⟩ : ∃ q, M.length = q + 1 := ⟨M.length - 1, by omega⟩
                obtain ⟨cb, ccap, ecb, hcb, -, -, hcl⟩ := ownsRow_rd HOc.out (by omega)
                simp only [Value.slice.injEq] at ecb
                obtain ⟨rfl, -, rfl⟩ := ecb
                obtain ⟨lt, Hlt⟩ : ∃ x, Hid ((lastCh M).t = x) := ⟨_, Lib.hid rfl⟩
                obtain ⟨lk, Hlk⟩ : ∃ x, Hid ((lastCh M).k = x) := ⟨_, Lib.hid rfl⟩
                have hlast : M.getD q chZ = lastCh M := by unfold lastCh; rw [hq]; rfl
                have clt : wc.cell? ⟨cb, q * 10, none⟩ = some (.int .i64 lt) := by
                  have := hcl (q * 10 + 0) (.int .i64 (lastCh M).t) (by rw [flatC_get M q 0 (by omega) (by omega), hlast]; rfl)
                  rwa [Hlt.out] at this
                have clk : wc.cell? ⟨cb, q * 10 + 1, none⟩ = some (.int .i64 lk) := by
                  have := hcl (q * 10 + 1) (.int .i64 (lastCh M).k) (by rw [flatC_get M q 1 (by omega) (by omega), hlast]; rfl)
                  rwa [Hlk.out] at this
                have HML2 : Hid (q + 1 ≤ 6) := Lib.hid (by have := HML.out; omega)
                have hq6 : (q : Int) ≤ 6 := by have := HML2.out; omega
                have hq7 : (q : Int) < (q : Int) + 1 := by omega
                have hq8 : (0 : Int) ≤ (q : Int) := by omega
                have hq9 : IntKind.i64.wrap (q : Int) = (q : Int) := by rw [IntKind.wrap_i64]; omega
                have dm : ((q : Int) + 1 == 0) = false := by simp; omega
                have HAi : Hid (AfterCh M c ↔ lt < c.t ∨ (lt = c.t ∧ lk < c.k)) := Lib.hid (by unfold AfterCh; rw [Hlt.out, Hlk.out]; constructor <;> intro h <;> omega)
                have hzq := HGc.out
                have hoq := HOc.out
                rw [hq] at cu hzq hoq
                have HGq := Lib.hid hzq
                clear hcl hM0 hlast hzq hoq HGc
                have HGc := HGq
                clear HGq
                by_cases e1 : lt < c.t
                · have d5 : decide (lt < c.t) = true := decide_eq_true e1
                  have HA : Hid (AfterCh M c) := Lib.hid (HAi.out.2 (.inl e1))
                  clear e1
                  go_quiet (fail)
                  generalize hwd : wc.drewN _ = wd
                  have hbd : Below wc.heap.size wc wd := by rw [← hwd]; exact ⟨rfl, rfl, rfl, Nat.le_refl _, fun _ _ => rfl⟩
                  have hzd : wc.heap.size = wd.heap.size := by rw [← hwd]; rfl
                  have HGd := Lib.hid (gone hbd HGc.out)
                  have HOd : Hid (OwnC wd wo.heap.size (.slice (some ⟨cb, 0, none⟩) (q + 1) ucap) M) := Lib.hid (by have := HOc.out.below hbd; rwa [hq] at this)
                  have HCd := Lib.hid (gone hbd HCc.out)
                  have HCx := Lib.hid HCd.out
                  unfold chCells at HCx
                  have HBd := Lib.hid (bt HBc.out hbd)
                  have cu' := cellOf (j := 1) HGd.out rfl
                  have HCn : Hid ((wd.alloc (.cells #[.int .i64 c.t, .int .i64 c.k, .bool c.had, .int .i64 c.o.a, .int .i64 c.o.b, .int .i64 c.o.c, .bool c.has, .int .i64 c.n.a, .int .i64 c.n.b, .int .i64 c.n.c] 57)).heap[wd.heap.size]? = some (.cells (chCells c) 57 (0, 0))) := Lib.hid (heap_alloc_new wd (.cells (chCells c) 57))
                  have HOn := Lib.hid (HOd.out.below (ba wd (.cells #[.int .i64 c.t, .int .i64 c.k, .bool c.had, .int .i64 c.o.a, .int .i64 c.o.b, .int .i64 c.o.c, .bool c.has, .int .i64 c.n.a, .int .i64 c.n.b, .int .i64 c.n.c] 57)))
                  have HGn := Lib.hid (gone (ba wd (.cells #[.int .i64 c.t, .int .i64 c.k, .bool c.had, .int .i64 c.o.a, .int .i64 c.o.b, .int .i64 c.o.c, .bool c.has, .int .i64 c.n.a, .int .i64 c.n.b, .int .i64 c.n.c] 57)) HGd.out)
                  have HBn := Lib.hid (bt HBd.out (ba wd (.cells #[.int .i64 c.t, .int .i64 c.k, .bool c.had, .int .i64 c.o.a, .int .i64 c.o.b, .int .i64 c.o.c, .bool c.has, .int .i64 c.n.a, .int .i64 c.n.b, .int .i64 c.n.c] 57)))
                  have hsn := World.size_alloc wd (.cells #[.int .i64 c.t, .int .i64 c.k, .bool c.had, .int .i64 c.o.a, .int .i64 c.o.b, .int .i64 c.o.c, .bool c.has, .int .i64 c.n.a, .int .i64 c.n.b, .int .i64 c.n.c] 57)
                  have HSn : Hid (wo.heap.size ≤ (wd.alloc (.cells #[.int .i64 c.t, .int .i64 c.k, .bool c.had, .int .i64 c.o.a, .int .i64 c.o.b, .int .i64 c.o.c, .bool c.has, .int .i64 c.n.a, .int .i64 c.n.b, .int .i64 c.n.c] 57)).heap.size) := Lib.hid (by rw [hsn]; have := HZ5.out; omega)
                  clear hwd hbd HGc HOc HBc cu hsn
                  go_wp2_with (first | (refine wpList_load_row rfl 57 _ rfl w2.heap.size rfl 57 _ _ _ HCx.out Tryd.underlying57 rfl (by kernel_rfl) ?_) | (at_builtin; go_loud (refine wpList_step fun K hK => step_append_ch rfl (.tmp 90) (.tmp 92) rfl wo.heap.size (.slice (some ⟨cb, 0, none⟩) (q + 1) ucap) M c rfl HOn.out wd.heap.size 1 rfl HCn.out (by have := HML.out; omega) HSn.out ?_); intro g2 cap2 w6 ho6 hgr6 hor6 hlt6; have HO6 := Lib.hid ho6; have HG6 := Lib.hid hgr6; have HR6 := Lib.hid hor6; have HGx : Hid (w6.heap[wo.heap.size]? = some (.cells #[.int .i64 ((Q.length : Int) + 1), .slice (some ⟨cb, 0, none⟩) (q + 1) ucap] 51 (0, 0))) := Lib.hid ((hgr6.block _ (lt_of_block HGn.out) (fun e => (ownsRow_lt HOn.out e.symm).2.elim fun _ hc => type_ne HGn.out hc (by decide) rfl)).trans HGn.out); have cx := cellOf (j := 1) HGx.out rfl; have fx := freeOf HGx.out 1; clear ho6 hgr6 hor6 hlt6 cu'; refine hK _ _ ?_))
                  exact ⟨⟨m + 1, M ++ [c], _, by omega, by go_num, Lib.hid (two_setCell1 HGx.out), Lib.hid (by
                    have := HO6.out.kept (Kept.setCell (Kept.refl (fun k => k = wo.heap.size) w6) (p := ⟨wo.heap.size, 1, none⟩) (.inl rfl) (.slice (some ⟨g2, 0, none⟩) (M.length + 1) cap2)) (fun i e he => (ownsRow_lt HO6.out e).2.elim fun _ hc => type_ne HGx.out hc (by decide) he.symm)
                    rw [hq] at this
                    exact this), Lib.hid (by rw [HMn.out]; exact (if_pos HA.out).symm),
                    Lib.hid ((((Kept.of_below (F := fun k => wo.heap.size ≤ k) HBn.out).grown HG6.out (fun k e => .inl (ownsRow_lt HOn.out e).1)).setCell (p := ⟨wo.heap.size, 1, none⟩) (.inl (Nat.le_refl _)) _).below (Nat.le_refl _) fun k f => f)⟩, by simp [intOf]; omega⟩
                · have d5 : decide (lt < c.t) = false := decide_eq_false e1
                  by_cases e2 : lt = c.t
                  · have d6 : (lt == c.t) = true := by simpa using e2
                    by_cases e3 : lk < c.k
                    · have d7 : decide (lk < c.k) = true := decide_eq_true e3
                      have HA : Hid (AfterCh M c) := Lib.hid (HAi.out.2 (.inr ⟨e2, e3⟩))
                      clear e1 e2 e3
                      go_quiet (fail)
                      generalize hwd : wc.drewN _ = wd
                      have hbd : Below wc.heap.size wc wd := by rw [← hwd]; exact ⟨rfl, rfl, rfl, Nat.le_refl _, fun _ _ => rfl⟩
                      have hzd : wc.heap.size = wd.heap.size := by rw [← hwd]; rfl
                      have HGd := Lib.hid (gone hbd HGc.out)
                      have HOd : Hid (OwnC wd wo.heap.size (.slice (some ⟨cb, 0, none⟩) (q + 1) ucap) M) := Lib.hid (by have := HOc.out.below hbd; rwa [hq] at this)
                      have HCd := Lib.hid (gone hbd HCc.out)
                      have HCx := Lib.hid HCd.out
                      unfold chCells at HCx
                      have HBd := Lib.hid (bt HBc.out hbd)
                      have cu' := cellOf (j := 1) HGd.out rfl
                      have HCn : Hid ((wd.alloc (.cells #[.int .i64 c.t, .int .i64 c.k, .bool c.had, .int .i64 c.o.a, .int .i64 c.o.b, .int .i64 c.o.c, .bool c.has, .int .i64 c.n.a, .int .i64 c.n.b, .int .i64 c.n.c] 57)).heap[wd.heap.size]? = some (.cells (chCells c) 57 (0, 0))) := Lib.hid (heap_alloc_new wd (.cells (chCells c) 57))
                      have HOn := Lib.hid (HOd.out.below (ba wd (.cells #[.int .i64 c.t, .int .i64 c.k, .bool c.had, .int .i64 c.o.a, .int .i64 c.o.b, .int .i64 c.o.c, .bool c.has, .int .i64 c.n.a, .int .i64 c.n.b, .int .i64 c.n.c] 57)))
                      have HGn := Lib.hid (gone (ba wd (.cells #[.int .i64 c.t, .int .i64 c.k, .bool c.had, .int .i64 c.o.a, .int .i64 c.o.b, .int .i64 c.o.c, .bool c.has, .int .i64 c.n.a, .int .i64 c.n.b, .int .i64 c.n.c] 57)) HGd.out)
                      have HBn := Lib.hid (bt HBd.out (ba wd (.cells #[.int .i64 c.t, .int .i64 c.k, .bool c.had, .int .i64 c.o.a, .int .i64 c.o.b, .int .i64 c.o.c, .bool c.has, .int .i64 c.n.a, .int .i64 c.n.b, .int .i64 c.n.c] 57)))
                      have hsn := World.size_alloc wd (.cells #[.int .i64 c.t, .int .i64 c.k, .bool c.had, .int .i64 c.o.a, .int .i64 c.o.b, .int .i64 c.o.c, .bool c.has, .int .i64 c.n.a, .int .i64 c.n.b, .int .i64 c.n.c] 57)
                      have HSn : Hid (wo.heap.size ≤ (wd.alloc (.cells #[.int .i64 c.t, .int .i64 c.k, .bool c.had, .int .i64 c.o.a, .int .i64 c.o.b, .int .i64 c.o.c, .bool c.has, .int .i64 c.n.a, .int .i64 c.n.b, .int .i64 c.n.c] 57)).heap.size) := Lib.hid (by rw [hsn]; have := HZ5.out; omega)
                      clear hwd hbd HGc HOc HBc cu hsn
                      go_wp2_with (first | (refine wpList_load_row rfl 57 _ rfl w2.heap.size rfl 57 _ _ _ HCx.out Tryd.underlying57 rfl (by kernel_rfl) ?_) | (at_builtin; go_loud (refine wpList_step fun K hK => step_append_ch rfl (.tmp 90) (.tmp 92) rfl wo.heap.size (.slice (some ⟨cb, 0, none⟩) (q + 1) ucap) M c rfl HOn.out wd.heap.size 1 rfl HCn.out (by have := HML.out; omega) HSn.out ?_); intro g2 cap2 w6 ho6 hgr6 hor6 hlt6; have HO6 := Lib.hid ho6; have HG6 := Lib.hid hgr6; have HR6 := Lib.hid hor6; have HGx : Hid (w6.heap[wo.heap.size]? = some (.cells #[.int .i64 ((Q.length : Int) + 1), .slice (some ⟨cb, 0, none⟩) (q + 1) ucap] 51 (0, 0))) := Lib.hid ((hgr6.block _ (lt_of_block HGn.out) (fun e => (ownsRow_lt HOn.out e.symm).2.elim fun _ hc => type_ne HGn.out hc (by decide) rfl)).trans HGn.out); have cx := cellOf (j := 1) HGx.out rfl; have fx := freeOf HGx.out 1; clear ho6 hgr6 hor6 hlt6 cu'; refine hK _ _ ?_))
                      exact ⟨⟨m + 1, M ++ [c], _, by omega, by go_num, Lib.hid (two_setCell1 HGx.out), Lib.hid (by
                        have := HO6.out.kept (Kept.setCell (Kept.refl (fun k => k = wo.heap.size) w6) (p := ⟨wo.heap.size, 1, none⟩) (.inl rfl) (.slice (some ⟨g2, 0, none⟩) (M.length + 1) cap2)) (fun i e he => (ownsRow_lt HO6.out e).2.elim fun _ hc => type_ne HGx.out hc (by decide) he.symm)
                        rw [hq] at this
                        exact this), Lib.hid (by rw [HMn.out]; exact (if_pos HA.out).symm),
                        Lib.hid ((((Kept.of_below (F := fun k => wo.heap.size ≤ k) HBn.out).grown HG6.out (fun k e => .inl (ownsRow_lt HOn.out e).1)).setCell (p := ⟨wo.heap.size, 1, none⟩) (.inl (Nat.le_refl _)) _).below (Nat.le_refl _) fun k f => f)⟩, by simp [intOf]; omega⟩
                    · have d7 : decide (lk < c.k) = false := decide_eq_false e3
                      have HA : Hid (¬ AfterCh M c) := Lib.hid (fun h => by have := HAi.out.1 h; omega)
                      clear e1 e2 e3
                      go_quiet (fail)
                      generalize hwd : wc.drewN _ = wd
                      have hbd : Below wc.heap.size wc wd := by rw [← hwd]; exact ⟨rfl, rfl, rfl, Nat.le_refl _, fun _ _ => rfl⟩
                      have HGd := Lib.hid (gone hbd HGc.out)
                      have HOd : Hid (OwnC wd wo.heap.size (.slice (some ⟨cb, 0, none⟩) (q + 1) ucap) M) := Lib.hid (by have := HOc.out.below hbd; rwa [hq] at this)
                      have HBd := Lib.hid (bt HBc.out hbd)
                      clear hwd hbd
                      go_wp2_with fail
                      exact ⟨⟨m + 1, M, _, by omega, by go_num, HGd, HOd, Lib.hid (by rw [HMn.out]; exact (if_neg HA.out).symm), HBd⟩, by simp [intOf]; omega⟩
                  · have d6 : (lt == c.t) = false := by simpa using e2
                    have HA : Hid (¬ AfterCh M c) := Lib.hid (fun h => by have := HAi.out.1 h; omega)
                    clear e1 e2
                    go_quiet (fail)
                    generalize hwd : wc.drewN _ = wd
                    have hbd : Below wc.heap.size wc wd := by rw [← hwd]; exact ⟨rfl, rfl, rfl, Nat.le_refl _, fun _ _ => rfl⟩
                    have HGd := Lib.hid (gone hbd HGc.out)
                    have HOd : Hid (OwnC wd wo.heap.size (.slice (some ⟨cb, 0, none⟩) (q + 1) ucap) M) := Lib.hid (by have := HOc.out.below hbd; rwa [hq] at this)
                    have HBd := Lib.hid (bt HBc.out hbd)
                    clear hwd hbd
                    go_wp2_with fail
                    exact ⟨⟨m + 1, M, _, by omega, by go_num, HGd, HOd, Lib.hid (by rw [HMn.out]; exact (if_neg HA.out).symm), HBd⟩, by simp [intOf]; omega⟩
            · have d4 : decide ((m : Int) < 6) = false := decide_eq_false (by omega)
              obtain rfl : m = 6 := by omega
              have HM6 : Hid (M = rowChs (X.getD k [])) := Lib.hid (by rw [HMr.out]; unfold rowChs; rw [← HRN.out, show min rn 6 = 6 by omega])
              clear HMr
              rw [show ((6 : Nat) : Int) = 6 from rfl]
              obtain ⟨ua, ucap, rfl, huc1, huc2⟩ := ownsRow_form HO.out
              have HVR : Hid (∀ W', Below wr.heap.size wr W' → Calls Tryd.prog 24 #[.agg #[.int .i64 ((Q.length : Int) + 1), .slice ua M.length ucap]] W' fun e w' => e = .returned (.bool (vrec ((Q.length : Int) + 1) M)) ∧ Below W'.heap.size W' w') := Lib.hid fun W' hb => refValidRecord_any _ _ M W' (HO.out.below hb).chS
              go_wp2_with (refine wpList_load_row rfl 51 _ rfl wo.heap.size rfl 51 _ _ _ HG.out Tryd.underlying51 rfl (by kernel_rfl) ?_)
              (with_reducible refine (HVR.out _ (Below.refl _ _)).mono ?_)
              rintro e w3 ⟨rfl, hb3⟩
              have HG3 := Lib.hid (gone hb3 HG.out)
              have HO3 : Hid (OwnC w3 wo.heap.size (.slice ua M.length ucap) M) := Lib.hid (HO.out.below hb3)
              have HB3 := Lib.hid (bt HBq.out hb3)
              clear hb3 HG HO HBq HVR hcr HBw
              have HRk : Hid (recsTo X (k + 1) = addRec (Q.map Prod.fst) (X.getD k [])) := Lib.hid (by rw [HM.out]; rfl)
              have HQn : Hid ((Q.map Prod.fst).length = Q.length) := Lib.hid (List.length_map _)
              by_cases hv : VRec ((Q.length : Int) + 1) M
              · rw [show vrec ((Q.length : Int) + 1) M = true from decide_eq_true hv]
                have HV := Lib.hid hv
                have HRw : Hid (RsAt (w3.alloc (.cells #[.int .i64 ((Q.length : Int) + 1), .slice ua M.length ucap] 51)) (fun k => w.heap.size ≤ k ∧ k < wo.heap.size) (.slice ao Q.length ocap) Q) := Lib.hid (((HR.out.mono (G := fun k => w.heap.size ≤ k ∧ k < wo.heap.size) fun i h1 h2 => ⟨h2, h1⟩).below HB3.out).below (ba w3 _))
                have HOw : Hid (OwnC (w3.alloc (.cells #[.int .i64 ((Q.length : Int) + 1), .slice ua M.length ucap] 51)) wo.heap.size (.slice ua M.length ucap) M) := Lib.hid (HO3.out.below (ba w3 _))
                have HBw3 : Hid (Below w.heap.size w (w3.alloc (.cells #[.int .i64 ((Q.length : Int) + 1), .slice ua M.length ucap] 51))) := Lib.hid (bt (bt HB.out HB3.out) (ba w3 _))
                have HSw : Hid (wo.heap.size ≤ (w3.alloc (.cells #[.int .i64 ((Q.length : Int) + 1), .slice ua M.length ucap] 51)).heap.size) := Lib.hid (by have := HB3.out.size; simp; omega)
                clear hv HR HO3 HB3
                go_wp2_with (first | (refine wpList_load_row rfl 51 _ rfl wo.heap.size rfl 51 _ _ _ HG3.out Tryd.underlying51 rfl (by kernel_rfl) ?_) | (at_builtin; go_loud (refine wpList_step fun K hK => step_append_rec rfl (.tmp 97) (.tmp 99) rfl (.slice ao Q.length ocap) Q (⟨(Q.length : Int) + 1, M⟩, .slice ua M.length ucap) rfl rfl HRw.out.oq (fun u hu => own_one1 (HRw.out.oc u hu).1) w3.heap.size 1 rfl (heap_alloc_new w3 _) (by have := HQl.out; omega) _ rfl ?_); intro g2 cap2 w6 ho6 hgr6 hor6 hlt6; have HO6 := Lib.hid ho6; have HG6 := Lib.hid hgr6; have HR6 := Lib.hid hor6; clear ho6 hgr6 hor6 hlt6; refine hK _ _ ?_))
                have HKg : Kept (fun k => (Value.slice ao Q.length ocap).ownBlock = some k) (w3.alloc (.cells #[.int .i64 ((Q.length : Int) + 1), .slice ua M.length ucap] 51)) w6 := (Kept.refl _ _).grown HG6.out fun k e => .inl e
                have hne : ∀ (b0 : Nat) (u : Value) (N : List MCh), OwnC (w3.alloc (.cells #[.int .i64 ((Q.length : Int) + 1), .slice ua M.length ucap] 51)) b0 u N → ∀ i, u.ownBlock = some i → ¬ (Value.slice ao Q.length ocap).ownBlock = some i := fun b0 u N ho i e1 e2 =>
                  (ownsRow_lt ho e1).2.elim fun _ h1 => (ownsRow_lt HRw.out.oq e2).2.elim fun _ h2 => type_ne h1 h2 (by decide) rfl
                refine ⟨⟨k + 1, Q ++ [(⟨(Q.length : Int) + 1, M⟩, .slice ua M.length ucap)], by omega, by go_num, Lib.hid ⟨HO6.out, ?_, ?_, ?_⟩, Lib.hid (by
                  rw [HRk.out, addRec, HQn.out, ← HM6.out, if_pos HV.out, List.map_append]; rfl), Lib.hid ?_⟩, by simp [intOf]; omega⟩
                · intro i hi
                  simp only [Value.ownBlock, Option.some.injEq] at hi
                  subst hi
                  have h1 := HWL.out
                  have h2 := HSw.out
                  rcases HR6.out with h | h
                  · exact (HRw.out.fq _ h).1
                  · omega
                · intro q hq
                  rcases List.mem_append.1 hq with hq | hq
                  · obtain ⟨h1, h2⟩ := HRw.out.oc q hq
                    exact ⟨h1.kept HKg (hne _ _ _ h1), fun i e => (h2 i e).1⟩
                  · obtain rfl := List.mem_singleton.1 hq
                    refine ⟨ownC_zero (HOw.out.kept HKg (hne _ _ _ HOw.out)), fun i e => Nat.le_trans HWL.out (ownsRow_lt HOw.out e).1⟩
                · refine List.pairwise_append.2 ⟨HRw.out.ne, List.pairwise_singleton _ _, fun a ha b hb i e1 e2 => ?_⟩
                  obtain rfl := List.mem_singleton.1 hb
                  have h1 := ((HRw.out.oc a ha).2 i e1).2
                  have h2 := (ownsRow_lt HOw.out e2).1
                  omega
                · exact ((Kept.of_below' HBw3.out).grown HG6.out fun k e => .inl (HRw.out.fq k e).1).below (Nat.le_refl _) fun k f => f
              · rw [show vrec ((Q.length : Int) + 1) M = false from decide_eq_false hv]
                have HV := Lib.hid hv
                clear hv
                go_wp2_with fail
                exact ⟨⟨k + 1, Q, by omega, by go_num, Lib.hid (HR.out.below HB3.out), Lib.hid (by
                  rw [HRk.out, addRec, HQn.out, ← HM6.out, if_neg HV.out]), Lib.hid (bt HB.out HB3.out)⟩, by simp [intOf]; omega⟩
          · have d3 : decide ((m : Int) < (rn : Int)) = false := decide_eq_false (by omega)
            obtain rfl : m = rn := by omega
            have HM6 : Hid (M = rowChs (X.getD k [])) := Lib.hid (by rw [HMr.out]; unfold rowChs; rw [← HRN.out, show min m 6 = m by omega])
            clear HMr
            obtain ⟨ua, ucap, rfl, huc1, huc2⟩ := ownsRow_form HO.out
            have HVR : Hid (∀ W', Below wr.heap.size wr W' → Calls Tryd.prog 24 #[.agg #[.int .i64 ((Q.length : Int) + 1), .slice ua M.length ucap]] W' fun e w' => e = .returned (.bool (vrec ((Q.length : Int) + 1) M)) ∧ Below W'.heap.size W' w') := Lib.hid fun W' hb => refValidRecord_any _ _ M W' (HO.out.below hb).chS
            go_wp2_with (refine wpList_load_row rfl 51 _ rfl wo.heap.size rfl 51 _ _ _ HG.out Tryd.underlying51 rfl (by kernel_rfl) ?_)
            (with_reducible refine (HVR.out _ (Below.refl _ _)).mono ?_)
            rintro e w3 ⟨rfl, hb3⟩
            have HG3 := Lib.hid (gone hb3 HG.out)
            have HO3 : Hid (OwnC w3 wo.heap.size (.slice ua M.length ucap) M) := Lib.hid (HO.out.below hb3)
            have HB3 := Lib.hid (bt HBq.out hb3)
            clear hb3 HG HO HBq HVR hcr HBw
            have HRk : Hid (recsTo X (k + 1) = addRec (Q.map Prod.fst) (X.getD k [])) := Lib.hid (by rw [HM.out]; rfl)
            have HQn : Hid ((Q.map Prod.fst).length = Q.length) := Lib.hid (List.length_map _)
            by_cases hv : VRec ((Q.length : Int) + 1) M
            · rw [show vrec ((Q.length : Int) + 1) M = true from decide_eq_true hv]
              have HV := Lib.hid hv
              have HRw : Hid (RsAt (w3.alloc (.cells #[.int .i64 ((Q.length : Int) + 1), .slice ua M.length ucap] 51)) (fun k => w.heap.size ≤ k ∧ k < wo.heap.size) (.slice ao Q.length ocap) Q) := Lib.hid (((HR.out.mono (G := fun k => w.heap.size ≤ k ∧ k < wo.heap.size) fun i h1 h2 => ⟨h2, h1⟩).below HB3.out).below (ba w3 _))
              have HOw : Hid (OwnC (w3.alloc (.cells #[.int .i64 ((Q.length : Int) + 1), .slice ua M.length ucap] 51)) wo.heap.size (.slice ua M.length ucap) M) := Lib.hid (HO3.out.below (ba w3 _))
              have HBw3 : Hid (Below w.heap.size w (w3.alloc (.cells #[.int .i64 ((Q.length : Int) + 1), .slice ua M.length ucap] 51))) := Lib.hid (bt (bt HB.out HB3.out) (ba w3 _))
              have HSw : Hid (wo.heap.size ≤ (w3.alloc (.cells #[.int .i64 ((Q.length : Int) + 1), .slice ua M.length ucap] 51)).heap.size) := Lib.hid (by have := HB3.out.size; simp; omega)
              clear hv HR HO3 HB3
              go_wp2_with (first | (refine wpList_load_row rfl 51 _ rfl wo.heap.size rfl 51 _ _ _ HG3.out Tryd.underlying51 rfl (by kernel_rfl) ?_) | (at_builtin; go_loud (refine wpList_step fun K hK => step_append_rec rfl (.tmp 97) (.tmp 99) rfl (.slice ao Q.length ocap) Q (⟨(Q.length : Int) + 1, M⟩, .slice ua M.length ucap) rfl rfl HRw.out.oq (fun u hu => own_one1 (HRw.out.oc u hu).1) w3.heap.size 1 rfl (heap_alloc_new w3 _) (by have := HQl.out; omega) _ rfl ?_); intro g2 cap2 w6 ho6 hgr6 hor6 hlt6; have HO6 := Lib.hid ho6; have HG6 := Lib.hid hgr6; have HR6 := Lib.hid hor6; clear ho6 hgr6 hor6 hlt6; refine hK _ _ ?_))
              have HKg : Kept (fun k => (Value.slice ao Q.length ocap).ownBlock = some k) (w3.alloc (.cells #[.int .i64 ((Q.length : Int) + 1), .slice ua M.length ucap] 51)) w6 := (Kept.refl _ _).grown HG6.out fun k e => .inl e
              have hne : ∀ (b0 : Nat) (u : Value) (N : List MCh), OwnC (w3.alloc (.cells #[.int .i64 ((Q.length : Int) + 1), .slice ua M.length ucap] 51)) b0 u N → ∀ i, u.ownBlock = some i → ¬ (Value.slice ao Q.length ocap).ownBlock = some i := fun b0 u N ho i e1 e2 =>
                (ownsRow_lt ho e1).2.elim fun _ h1 => (ownsRow_lt HRw.out.oq e2).2.elim fun _ h2 => type_ne h1 h2 (by decide) rfl
              refine ⟨⟨k + 1, Q ++ [(⟨(Q.length : Int) + 1, M⟩, .slice ua M.length ucap)], by omega, by go_num, Lib.hid ⟨HO6.out, ?_, ?_, ?_⟩, Lib.hid (by
                rw [HRk.out, addRec, HQn.out, ← HM6.out, if_pos HV.out, List.map_append]; rfl), Lib.hid ?_⟩, by simp [intOf]; omega⟩
              · intro i hi
                simp only [Value.ownBlock, Option.some.injEq] at hi
                subst hi
                have h1 := HWL.out
                have h2 := HSw.out
                rcases HR6.out with h | h
                · exact (HRw.out.fq _ h).1
                · omega
              · intro q hq
                rcases List.mem_append.1 hq with hq | hq
                · obtain ⟨h1, h2⟩ := HRw.out.oc q hq
                  exact ⟨h1.kept HKg (hne _ _ _ h1), fun i e => (h2 i e).1⟩
                · obtain rfl := List.mem_singleton.1 hq
                  refine ⟨ownC_zero (HOw.out.kept HKg (hne _ _ _ HOw.out)), fun i e => Nat.le_trans HWL.out (ownsRow_lt HOw.out e).1⟩
              · refine List.pairwise_append.2 ⟨HRw.out.ne, List.pairwise_singleton _ _, fun a ha b hb i e1 e2 => ?_⟩
                obtain rfl := List.mem_singleton.1 hb
                have h1 := ((HRw.out.oc a ha).2 i e1).2
                have h2 := (ownsRow_lt HOw.out e2).1
                omega
              · exact ((Kept.of_below' HBw3.out).grown HG6.out fun k e => .inl (HRw.out.fq k e).1).below (Nat.le_refl _) fun k f => f
            · rw [show vrec ((Q.length : Int) + 1) M = false from decide_eq_false hv]
              have HV := Lib.hid hv
              clear hv
              go_wp2_with fail
              exact ⟨⟨k + 1, Q, by omega, by go_num, Lib.hid (HR.out.below HB3.out), Lib.hid (by
                rw [HRk.out, addRec, HQn.out, ← HM6.out, if_neg HV.out]), Lib.hid (bt HB.out HB3.out)⟩, by simp [intOf]; omega⟩
      · have d2 : decide ((k : Int) < 12) = false := decide_eq_false (by omega)
        obtain rfl : k = 12 := by omega
        have e : min n 12 = 12 := by omega
        go_wp2_with fail
        go_ret
        exact ⟨_, Q, rfl, HR.out, by rw [HRO.out, e]; exact HM.out, HB.out⟩
    · have d1 : decide ((k : Int) < (n : Int)) = false := decide_eq_false (by omega)
      obtain rfl : k = n := by omega
      have e : min k 12 = k := by omega
      go_wp2_with fail
      go_ret
      exact ⟨_, Q, rfl, HR.out, by rw [HRO.out, e]; exact HM.out, HB.out⟩
end Go.Proofs.YtpapfegbodolgaaDoor
