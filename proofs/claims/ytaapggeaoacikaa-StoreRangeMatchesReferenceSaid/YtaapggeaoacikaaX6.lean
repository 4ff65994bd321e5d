/- WALKS: the reference's Apply of the next record. -/
import Derived.Test.YtaapggeaoacikaaX5b
set_option linter.unusedVariables false
set_option linter.unusedSimpArgs false
namespace Go.Proofs.Ytaapggeaoacikaa
open Go.RowKit Go.Sort Go.ChangeMaps Go.MapKept

theorem fits_snoc {L : List MRow} {cs : List MCh} {c : MCh} (h : Fits L cs) (hc : fitC L c) : Fits L (cs ++ [c]) := fun d hd => by
  rcases List.mem_append.1 hd with e | e
  · exact h d e
  · rw [List.mem_singleton.1 e]; exact hc
theorem splice {M : List MRow} (h : Srt M) {c : MCh} (hf : fitC M c) : stepC M c = M.take (cntk M c.t c.k) ++ ((if c.has then [⟨c.t, c.k, c.n⟩] else []) ++ M.drop (cntk M c.t c.k + (if c.had then 1 else 0))) ∧ cntk M c.t c.k + (if c.had then 1 else 0) ≤ M.length := by
  have e := drop_cntk h c.t c.k
  have hl := congrArg List.length e
  unfold fitC at hf
  rw [hf] at e hl
  unfold stepC
  rw [take_cntk h, ← List.drop_drop, e]
  have hle := cntk_le M c.t c.k
  cases hh : c.had
  · simp
    exact hle
  · rw [hh] at hl
    simp at hl
    simp
    omega

/-- What the reference's Apply of the next record returns. -/
def APost (W : World) (b : Nat) (L : List MRow) (pos : Int) (cs : List MCh) (e : Ending) (w' : World) : Prop :=
  (Fits L cs ∧ cnt L.length cs ≤ 2000 ∧ e = .returned (.int .i64 0) ∧ ∃ v', RfIn w' b v' (stepAll L cs) pos ∧ Kept (fun k => k = b) W w' ∧ ∀ i, v'.ownBlock = some i → W.heap.size ≤ i) ∨
  (¬ (Fits L cs ∧ cnt L.length cs ≤ 2000) ∧ e = .returned (.int .i64 40) ∧ Below W.heap.size W w')

set_option maxRecDepth 100000 in
set_option maxHeartbeats 16000000 in
theorem applyR_next {W : World} {b : Nat} {v : Value} {L : List MRow} {p : Int} (h : RfAt W b v L p) {pos : Int} {cs : List MCh} {u : Value} (hv : ChS W u cs) (hr : VRec pos cs) (hp : pos = p + 1) :
    Calls Try.prog 16 #[.pointer (some ⟨b, 0, none⟩), .agg #[.int .i64 pos, u]] W (APost W b L pos cs) := by
  have HS := Lib.hid h
  have HV := Lib.hid hv
  have HQ := Lib.hid hr
  have hw1 : IntKind.i64.wrap (p + 1) = p + 1 := by rw [IntKind.wrap_i64]; have := h.pos; omega
  obtain ⟨ua, un, ucap, rfl, hn, hc1, hc2, hcell⟩ := hv
  have hn1 : 1 ≤ un := by rw [hn]; exact hr.2.1.1
  have hn8 : un ≤ 8 := by rw [hn]; exact hr.2.1.2
  obtain ⟨vb, vo, rfl, hvb, hc⟩ := hcell hn1
  have HN := Lib.hid hn
  have HC := Lib.hid hc
  have hnb : vb ≠ b := chat_ne (hc 0 hn1) h.blk
  have d2 : (pos != p + 1) = false := by simp [hp]
  have HP := Lib.hid hp
  have hL : L.length ≤ 2000 := h.good.2.2
  clear h hr hn hcell hc hp
  go_enter Try.func16, Try.ntmps16
  go_wp2_with fail
  (with_reducible refine (rvr_t (HV.out.below (ba W _)) HQ.out).mono ?_)
  rintro e w1 ⟨rfl, hb⟩
  have HB := Lib.hid (bt (ba W _) hb)
  have HR : Hid (w1.heap[W.heap.size]? = some (.cells #[.int .i64 pos, .slice (some ⟨vb, vo, none⟩) un ucap] 32 (0, 0))) := Lib.hid ((hb.block _ (by simp)).trans (MapKept.heap_alloc W _).1)
  have r0 : w1.cell? ⟨W.heap.size, 0, none⟩ = some (.int .i64 pos) := by simp [World.cell?, HR.out]
  obtain ⟨c0, c1, _, _⟩ := (HS.out.below HB.out).cells
  clear hb
  go_wp2_with fail
  go_quiet (fail)
  have HB2 := Lib.hid (bt HB.out (below_drewN w1 nq))
  have HR2 : Hid ((w1.drewN nq).heap[W.heap.size]? = some (.cells #[.int .i64 pos, .slice (some ⟨vb, vo, none⟩) un ucap] 32 (0, 0))) := Lib.hid HR.out
  obtain ⟨w2, Hw2⟩ : ∃ w2, Hid (w1.drewN nq = w2) := ⟨_, Lib.hid rfl⟩
  rw [Hw2.out] at HB2 HR2 ⊢
  clear r0 c0 c1
  have HS2 := Lib.hid (HS.out.below HB2.out)
  obtain ⟨c0, c1, _, _⟩ := HS2.out.cells
  have hz2 : W.heap.size < w2.heap.size := lt_of_block HR2.out
  obtain ⟨va, vn, vcap, rfl, hvn, _, _, _⟩ := HS.out.own.rowS
  have HVN := Lib.hid hvn
  clear hvn
  go_wp2_with fail
  have HRw : Hid (w2.heap[W.heap.size]? = some (.cells #[.int .i64 pos, .slice (some ⟨vb, vo, none⟩) un ucap] 32 (0, 0))) := HR2
  clear c0 c1
  go_loopw [6, 7] (fun s i wr => ∃ k : Nat, k ≤ un ∧ i = .int .i64 k ∧ Hid (Below W.heap.size W wr) ∧ Hid (wr.heap[W.heap.size]? = some (.cells #[.int .i64 pos, .slice (some ⟨vb, vo, none⟩) un ucap] 32 (0, 0))) ∧ Hid (Fits L (cs.take k)) ∧ ∃ z : Int, s = .int .i64 z ∧ Hid (z = cnt L.length (cs.take k)) ∧ -(k : Int) ≤ z ∧ z ≤ 2000 + k) (fun _ i _ => un - (intOf i).toNat)
  case atStart => exact ⟨0, by omega, rfl, HB2, HRw, Lib.hid (by simp [Fits]), _, rfl, Lib.hid (by rw [HVN.out]; rfl), by omega, by have := HVN.out; omega⟩
  case round =>
    obtain ⟨k, hk, rfl, HBr, HRr, HF, z, rfl, HZ, hz1, hz2'⟩ := hrel
    clear HR2 HB2 HRw HS2 hz2
    have q1 : wr.cell? ⟨W.heap.size, 1, none⟩ = some (.slice (some ⟨vb, vo, none⟩) un ucap) := by simp [World.cell?, HRr.out]
    have hzr : W.heap.size < wr.heap.size := lt_of_block HRr.out
    by_cases hlt : k < un
    · have HCk := (HC.out k hlt).below hvb HBr.out
      obtain ⟨c, HcE⟩ : ∃ c, Hid (cs.getD k chZ = c) := ⟨_, Lib.hid rfl⟩
      rw [HcE.out] at HCk
      have Htk : Hid (cs.take (k + 1) = cs.take k ++ [c]) := Lib.hid (by rw [← HcE.out]; exact take_snoc' (by rw [← HN.out]; exact hlt))
      have HVc : Hid (VCh c) := Lib.hid (by rw [← HcE.out]; exact (HQ.out.2.2 k (by rw [← HN.out]; exact hlt)).1)
      have Hmem : Hid (c ∈ cs) := Lib.hid (by rw [← HcE.out]; exact getD_mem (by rw [← HN.out]; exact hlt))
      have hvr : vb < wr.heap.size := Nat.lt_of_lt_of_le hvb HBr.out.size
      have hvne : ¬ vb = wr.heap.size := by omega
      obtain ⟨t, kk, had, ⟨oa, ob, oc⟩, has, ⟨na, nb, nc⟩⟩ := c
      obtain ⟨d0, d1, d2', d3, d4, d5, d6, d7, d8, d9⟩ := HCk.cells
      obtain ⟨⟨t', k', ⟨a', b', c'⟩⟩, Hr⟩ : ∃ r, Hid ((look L t kk).getD rowZ = r) := ⟨_, Lib.hid rfl⟩
      obtain ⟨ok, Ho⟩ : ∃ ok, Hid ((look L t kk).isSome = ok) := ⟨_, Lib.hid rfl⟩
      have HSr := Lib.hid (HS.out.below HBr.out)
      clear HCk
      go_wp2_with fail
      (with_reducible refine (getR_any (HSr.out.below (ba wr _)) t kk).mono ?_)
      rintro e w3 ⟨rfl, hb3⟩
      rw [Hr.out, Ho.out]
      unfold rowV
      have HB3 := Lib.hid (bt HBr.out (bt (ba wr _) hb3))
      have HC3 : Hid (ChAt w3 wr.heap.size 0 ⟨t, kk, had, ⟨oa, ob, oc⟩, has, ⟨na, nb, nc⟩⟩) := Lib.hid ((show ChAt (wr.alloc (.cells #[.int .i64 t, .int .i64 kk, .bool had, .int .i64 oa, .int .i64 ob, .int .i64 oc, .bool has, .int .i64 na, .int .i64 nb, .int .i64 nc] 57)) wr.heap.size 0 ⟨t, kk, had, ⟨oa, ob, oc⟩, has, ⟨na, nb, nc⟩⟩ from ChAt_new wr ⟨t, kk, had, ⟨oa, ob, oc⟩, has, ⟨na, nb, nc⟩⟩).below (by simp) hb3)
      have hz3 : wr.heap.size < w3.heap.size := by have := hb3.size; simp at this; omega
      have HR3 : Hid (w3.heap[W.heap.size]? = some (.cells #[.int .i64 pos, .slice (some ⟨vb, vo, none⟩) un ucap] 32 (0, 0))) := Lib.hid (((bt (ba wr _) hb3).block _ hzr).trans HRr.out)
      clear hb3 d0 d1 d2' d3 d4 d5 d6 d7 d8 d9
      obtain ⟨e0, e1, e2, e3, e4, e5, e6, e7, e8, e9⟩ := HC3.out.cells
      have hne3 := fun w => neq3 a' b' c' oa ob oc w
      have hwne : ¬ wr.heap.size = w3.heap.size := by omega
      have HFc : Hid ((look L t kk).isSome = had → ((look L t kk).getD rowZ).v = ⟨oa, ob, oc⟩ → Fits L (cs.take (k + 1))) := Lib.hid (fun h1 h2 => by
        rw [Htk.out]
        exact fits_snoc HF.out ((fitC_iff HVc.out).2 ⟨h1, h2⟩))
      rw [Hr.out, Ho.out] at HFc
      have HXc : Hid (¬ (ok = had ∧ (⟨a', b', c'⟩ : V3) = ⟨oa, ob, oc⟩) → ¬ Fits L cs) := Lib.hid (fun hn h => hn (by
        have h1 := (fitC_iff HVc.out).1 (h _ Hmem.out)
        rw [Hr.out, Ho.out] at h1
        exact h1))
      have HZc : Hid (z + dlt ⟨t, kk, had, ⟨oa, ob, oc⟩, has, ⟨na, nb, nc⟩⟩ = cnt L.length (cs.take (k + 1))) := Lib.hid (by rw [Htk.out, cnt_snoc, ← HZ.out])
      have HFn : Hid (ok = false → had = false → (⟨a', b', c'⟩ : V3) = ⟨oa, ob, oc⟩) := Lib.hid (fun h1 h2 => by
        have e1 : look L t kk = none := by
          have := Ho.out
          rw [h1] at this
          exact Option.not_isSome_iff_eq_none.1 (by simp [this])
        have e2 := Hr.out
        rw [e1] at e2
        have e3 := (HVc.out.2.2.1).2 h2
        simp only [Option.getD_none] at e2
        have e4 : (⟨a', b', c'⟩ : V3) = rowZ.v := by rw [e2]
        rw [e4]
        exact e3.symm)
      have HBn := Lib.hid (bt HB3.out (ba w3 (.cells #[.int .i64 t', .int .i64 k', .int .i64 a', .int .i64 b', .int .i64 c'] 50)))
      have HRn : Hid ((w3.alloc (.cells #[.int .i64 t', .int .i64 k', .int .i64 a', .int .i64 b', .int .i64 c'] 50)).heap[W.heap.size]? = some (.cells #[.int .i64 pos, .slice (some ⟨vb, vo, none⟩) un ucap] 32 (0, 0))) := Lib.hid (((ba w3 _).block _ (by omega)).trans HR3.out)
      clear HVc Hmem Htk HSr
      by_cases hoh : ok = had
      · subst hoh
        cases ok
        · have HFk : Hid (Fits L (cs.take (k + 1))) := Lib.hid (HFc.out rfl (HFn.out rfl rfl))
          clear hne3
          cases has
          · go_wp2_with fail
            exact ⟨⟨k + 1, by omega, by go_num, HBn, HRn, HFk, z, rfl, Lib.hid (by have := HZc.out; simp [dlt] at this; omega), by omega, by omega⟩, by simp [intOf]; omega⟩
          · go_wp2_with fail
            exact ⟨⟨k + 1, by omega, by go_num, HBn, HRn, HFk, z + 1, rfl, Lib.hid (by have := HZc.out; simp [dlt] at this; omega), by omega, by omega⟩, by simp [intOf]; omega⟩
        · by_cases hve : (⟨a', b', c'⟩ : V3) = ⟨oa, ob, oc⟩
          · have HFk : Hid (Fits L (cs.take (k + 1))) := Lib.hid (HFc.out rfl hve)
            have hq : v3e ⟨a', b', c'⟩ ⟨oa, ob, oc⟩ = true := decide_eq_true hve
            simp only [hq, Bool.not_true] at hne3
            clear hq hve
            cases has
            · go_wp2_with fail
              exact ⟨⟨k + 1, by omega, by go_num, HBn, HRn, HFk, z - 1, rfl, Lib.hid (by have := HZc.out; simp [dlt] at this; omega), by omega, by omega⟩, by simp [intOf]; omega⟩
            · go_wp2_with fail
              exact ⟨⟨k + 1, by omega, by go_num, HBn, HRn, HFk, z, by go_num, Lib.hid (by have := HZc.out; simp [dlt] at this; omega), by omega, by omega⟩, by simp [intOf]; omega⟩
          · have HX : Hid (¬ Fits L cs) := Lib.hid (HXc.out (fun h => hve h.2))
            have hq : v3e ⟨a', b', c'⟩ ⟨oa, ob, oc⟩ = false := decide_eq_false hve
            simp only [hq, Bool.not_false] at hne3
            clear hq hve
            go_wp2_with fail
            go_ret
            exact .inr ⟨fun h => HX.out h.1, rfl, HBn.out⟩
      · have HX : Hid (¬ Fits L cs) := Lib.hid (HXc.out (fun h => hoh h.1))
        clear hne3
        cases ok <;> cases had
        · exact absurd rfl hoh
        · clear hoh
          go_wp2_with fail
          go_ret
          exact .inr ⟨fun h => HX.out h.1, rfl, HBn.out⟩
        · clear hoh
          go_wp2_with fail
          go_ret
          exact .inr ⟨fun h => HX.out h.1, rfl, HBn.out⟩
        · exact absurd rfl hoh
    · obtain rfl : k = un := by omega
      have HFs : Hid (Fits L cs) := Lib.hid (by have := HF.out; rwa [HN.out, List.take_length] at this)
      have HZs : Hid (z = cnt L.length cs) := Lib.hid (by have := HZ.out; rwa [HN.out, List.take_length] at this)
      clear HF HZ
      by_cases hz : z ≤ 2000
      · have dz : decide (2000 < z) = false := decide_eq_false (by omega)
        go_wp2_with fail
        have hbr : b < W.heap.size := HS.out.lt
        have HI0 : Hid (RfIn wr b (.slice va vn vcap) (stepAll L (cs.take 0)) p) := Lib.hid (HS.out.below HBr.out).in
        have HK0 : Hid (Kept (fun i => i = b) W wr) := Lib.hid (Kept.of_below HBr.out)
        have HCnt : Hid (cnt L.length cs ≤ 2000) := Lib.hid (by rw [← HZs.out]; exact hz)
        clear q1 HZs hz1 hz2' hz dz
        go_loopw [11] (fun i wx => ∃ j : Nat, j ≤ k ∧ i = .int .i64 j ∧ ∃ vj, Hid (RfIn wx b vj (stepAll L (cs.take j)) p) ∧ Hid (Kept (fun i => i = b) W wx) ∧ Hid (wx.heap[W.heap.size]? = some (.cells #[.int .i64 pos, .slice (some ⟨vb, vo, none⟩) k ucap] 32 (0, 0))) ∧ Hid (1 ≤ j → ∀ i, vj.ownBlock = some i → W.heap.size ≤ i)) (fun i _ => k - (intOf i).toNat)
        case atStart => exact ⟨0, by omega, rfl, _, HI0, HK0, HRr, Lib.hid (fun h => by omega)⟩
        case round =>
          obtain ⟨j, hj, rfl, vj, HI, HK, HRx, HO⟩ := hrel
          rename World => wx
          clear HI0 HK0
          have q1 : wx.cell? ⟨W.heap.size, 1, none⟩ = some (.slice (some ⟨vb, vo, none⟩) k ucap) := by simp [World.cell?, HRx.out]
          have hzx : W.heap.size < wx.heap.size := lt_of_block HRx.out
          by_cases hlt : j < k
          · have HCj := (HC.out j hlt).kept HK.out hvb hnb
            obtain ⟨c, HcE⟩ : ∃ c, Hid (cs.getD j chZ = c) := ⟨_, Lib.hid rfl⟩
            rw [HcE.out] at HCj
            have hjl : j < cs.length := by rw [← HN.out]; exact hlt
            have Htk : Hid (stepAll L (cs.take (j + 1)) = stepC (stepAll L (cs.take j)) c) := Lib.hid (by rw [take_snoc' (d := chZ) hjl, stepAll_snoc, HcE.out])
            have HFc : Hid (fitC (stepAll L (cs.take j)) c) := Lib.hid (by
              have hsp : cs.take j ++ cs.drop j = cs := List.take_append_drop _ _
              have h1 := fits_take (A := cs.take j) (B := cs.drop j) HS.out.good.1 (by rw [hsp]; exact vrec_apart HQ.out) (by rw [hsp]; exact HFs.out)
              refine h1 c ?_
              rw [← HcE.out, List.getD_eq_getElem?_getD, List.getElem?_eq_getElem hjl, Option.getD_some, List.drop_eq_getElem_cons hjl]
              exact List.mem_cons_self)
            obtain ⟨M, HM⟩ : ∃ M, Hid (stepAll L (cs.take j) = M) := ⟨_, Lib.hid rfl⟩
            rw [HM.out] at HI HFc Htk
            have HSp := Lib.hid (splice HI.out.srt HFc.out)
            have hvx : vb < wx.heap.size := Nat.lt_of_lt_of_le hvb HK.out.size
            have hvne : ¬ vb = wx.heap.size := by omega
            have hbx := HI.out.lt
            have hbne : ¬ b = wx.heap.size := by omega
            obtain ⟨t, kk, had, ⟨oa, ob, oc⟩, has, ⟨na, nb, nc⟩⟩ := c
            obtain ⟨d0, d1, d2', d3, d4, d5, d6, d7, d8, d9⟩ := HCj.cells
            obtain ⟨q, Hq⟩ : ∃ q, Hid (cntk M t kk = q) := ⟨_, Lib.hid rfl⟩
            simp only [Hq.out] at HSp
            obtain ⟨c0, c1, f0, f1⟩ := HI.out.cells
            have HX := HI.out.own
            obtain ⟨hl0, hx⟩ := HX
            rcases hx with ⟨rfl, hM0⟩ | ⟨g, cap, cur, rfl, hg, hbk, hnc, hcm, hcs, htk⟩
            · obtain rfl : M = [] := List.length_eq_zero_iff.1 hM0
              obtain rfl : q = 0 := by rw [← Hq.out]; rfl
              have hnil : had = false := by
                have := HSp.out.2
                cases had
                · rfl
                · simp at this
              subst hnil
              obtain ⟨M, HMn⟩ : ∃ M : List MRow, Hid (([] : List MRow) = M) := ⟨_, Lib.hid rfl⟩
              rw [HMn.out] at HI HSp Htk HFc HM Hq
              have hMl : M.length = 0 := by rw [← HMn.out]; rfl
              obtain ⟨q, hqq⟩ : ∃ q : Nat, q = 0 := ⟨_, rfl⟩
              have HT : Hid (∀ w, Below wx.heap.size wx w → RowX w (.slice none 0 0) (M.take 0)) := Lib.hid (fun _ _ => .inl ⟨rfl, List.take_zero⟩)
              have HD : Hid (∀ w, Below wx.heap.size wx w → RowX w (.slice none 0 0) (M.drop 0)) := Lib.hid (fun _ _ => .inl ⟨rfl, by rw [← HMn.out]; rfl⟩)
              clear HCj hl0 hM0
              go_wp2_with fail
              (with_reducible refine (place_in (HI.out.below (ba wx _)) t kk).mono ?_)
              rintro e w3 ⟨rfl, rfl⟩
              rw [Hq.out]
              cases has
              · go_wp2_with fail
                (with_reducible refine (raft_false t kk oa ob oc na nb nc false _).mono ?_)
                rintro e w4 ⟨rfl, hb4⟩
                unfold rowV
                have HW4 := Lib.hid (bt (ba wx _) hb4)
                obtain ⟨c0, c1, f0, f1⟩ := (HI.out.below HW4.out).cells
                have hb4z := Nat.lt_of_lt_of_le hbx HW4.out.size
                have hb4n : ¬ b = w4.heap.size := by omega
                have hb4m : ¬ b = w4.heap.size + 1 := by omega
                clear hb4
                have HW8 := HW4
                have HO3 : Hid (OwnR w4 wx.heap.size (.slice none 0 0) (stepC M ⟨t, kk, false, ⟨oa, ob, oc⟩, false, ⟨na, nb, nc⟩⟩)) := Lib.hid (by rw [HSp.out.1, ← HMn.out]; exact OwnR.nil _ _)
                go_wp2_with fail
                obtain ⟨z0, z1, z2, z3⟩ := rf_step HI.out HK.out HW8.out HO3.out (srt_step HI.out.srt _) (by rw [← Htk.out]; exact len_tk HS.out.good.1 (vrec_apart HQ.out) HFs.out hL (by rw [← HN.out]; exact hn8) (j + 1)) HRx.out (by omega)
                exact ⟨⟨j + 1, by omega, by go_num, _, by rw [Htk.out]; exact Lib.hid (z0.below (ba _ _)), Lib.hid (z1.then (ba _ _)), Lib.hid (((ba _ _).block _ (lt_of_block z2)).trans z2), Lib.hid (fun _ => z3)⟩, by simp [intOf]; omega⟩
              · go_wp2_with fail
                (with_reducible refine (raft_true t kk oa ob oc na nb nc false _).mono ?_)
                rintro e w4 ⟨rfl, hb4⟩
                unfold rowV
                have HW4 := Lib.hid (bt (ba wx _) hb4)
                obtain ⟨c0, c1, f0, f1⟩ := (HI.out.below HW4.out).cells
                have hb4z := Nat.lt_of_lt_of_le hbx HW4.out.size
                have hb4n : ¬ b = w4.heap.size := by omega
                have hb4m : ¬ b = w4.heap.size + 1 := by omega
                clear hb4
                have HW5 := Lib.hid (bt (bt HW4.out (ba w4 (.cells #[.int .i64 t, .int .i64 kk, .int .i64 na, .int .i64 nb, .int .i64 nc] 50))) (ba _ (.cells #[.int .i64 t, .int .i64 kk, .int .i64 na, .int .i64 nb, .int .i64 nc] 50)))
                have HMid := Lib.hid (rowX_one (by have := heap_alloc_new (w4.alloc (.cells #[.int .i64 t, .int .i64 kk, .int .i64 na, .int .i64 nb, .int .i64 nc] 50)) (.cells #[.int .i64 t, .int .i64 kk, .int .i64 na, .int .i64 nb, .int .i64 nc] 50); rwa [World.size_alloc] at this))
                go_wp2_with (first | (at_builtin; refine wpList_append_rows rfl (.tmp 126) (.tmp 127) rfl wx.heap.size (.slice none 0 0) _ [] [⟨t, kk, ⟨na, nb, nc⟩⟩] rfl rfl (OwnR.nil _ _) HMid.out (by simp) HW5.out.size ?_; intro v2 w7 ho2 hg2; have HO2 := Lib.hid ho2; have HW7 := Lib.hid (below_grow HW5.out (OwnR.nil _ _) hg2); clear ho2 hg2) | (at_builtin; refine wpList_append_rows rfl (.tmp 128) (.tmp 129) rfl wx.heap.size v2 _ ([] ++ [⟨t, kk, ⟨na, nb, nc⟩⟩]) [] rfl rfl HO2.out (.inl ⟨rfl, rfl⟩) (by simp) HW7.out.size ?_; intro v3 w8 ho3 hg3; have HW8 := Lib.hid (below_grow HW7.out HO2.out hg3); have HO3 : Hid (OwnR w8 wx.heap.size v3 (stepC M ⟨t, kk, false, ⟨oa, ob, oc⟩, true, ⟨na, nb, nc⟩⟩)) := Lib.hid (by rw [HSp.out.1, ← HMn.out]; simpa using ho3); obtain ⟨a3, n3, cap3, rfl⟩ := own_form ho3; obtain ⟨k0, k1, kf0, kf1⟩ := (HI.out.below HW8.out).cells; have hb8 := Nat.lt_of_lt_of_le hbx HW8.out.size; clear ho3 hg3))
                obtain ⟨z0, z1, z2, z3⟩ := rf_step HI.out HK.out HW8.out HO3.out (srt_step HI.out.srt _) (by rw [← Htk.out]; exact len_tk HS.out.good.1 (vrec_apart HQ.out) HFs.out hL (by rw [← HN.out]; exact hn8) (j + 1)) HRx.out (by omega)
                exact ⟨⟨j + 1, by omega, by go_num, _, by rw [Htk.out]; exact Lib.hid z0, Lib.hid z1, Lib.hid z2, Lib.hid (fun _ => z3)⟩, by simp [intOf]; omega⟩
            · have HE := Lib.hid HI.out.own
              clear HCj hg hbk hcs htk hl0
              have hnl : M.length ≤ 4000 := HI.out.len
              have hqn : q ≤ M.length := by rw [← Hq.out]; exact cntk_le _ _ _
              have hcm2 : cap ≤ 9223372036854775807 := by unfold maxLen at hcm; omega
              have HT : Hid (∀ w, Below wx.heap.size wx w → RowX w (.slice (some ⟨g, 0, none⟩) q cap) (M.take q)) := Lib.hid (fun w hB => rowX_take HE.out q cap hqn hB)
              go_wp2_with fail
              (with_reducible refine (place_in (HI.out.below (ba wx _)) t kk).mono ?_)
              rintro e w3 ⟨rfl, rfl⟩
              rw [Hq.out]
              cases had
              · by_cases hcq : cap = q
                · have hcq' := hcq.symm
                  clear hcq
                  subst hcq'
                  have HD : Hid (∀ w, Below wx.heap.size wx w → RowX w (.slice (some ⟨g, 0, none⟩) 0 0) (M.drop q)) := Lib.hid (fun w hB => rowX_none hnc rfl)
                  cases has
                  · go_wp2_with fail
                    (with_reducible refine (raft_false t kk oa ob oc na nb nc false _).mono ?_)
                    rintro e w4 ⟨rfl, hb4⟩
                    unfold rowV
                    have HW4 := Lib.hid (bt (ba wx _) hb4)
                    obtain ⟨c0, c1, f0, f1⟩ := (HI.out.below HW4.out).cells
                    have hb4z := Nat.lt_of_lt_of_le hbx HW4.out.size
                    have hb4n : ¬ b = w4.heap.size := by omega
                    have hb4m : ¬ b = w4.heap.size + 1 := by omega
                    clear hb4
                    have HW5 := Lib.hid (bt HW4.out (ba w4 (.cells #[.int .i64 0, .int .i64 0, .int .i64 0, .int .i64 0, .int .i64 0] 50)))
                    go_wp2_with (first | (at_builtin; refine wpList_append_rows rfl (.tmp 119) (.tmp 125) rfl wx.heap.size (.slice none 0 0) _ [] (M.take q) rfl rfl (OwnR.nil _ _) (HT.out _ HW5.out) (by simp; omega) HW5.out.size ?_; intro v1 w6 ho1 hg1; have HO1 := Lib.hid ho1; have HW6 := Lib.hid (below_grow HW5.out (OwnR.nil _ _) hg1); clear ho1 hg1) | (at_builtin; refine wpList_append_rows rfl (.tmp 126) (.tmp 127) rfl wx.heap.size v1 _ ([] ++ M.take q) [] rfl rfl HO1.out (.inl ⟨rfl, rfl⟩) (by simp; omega) HW6.out.size ?_; intro v2 w7 ho2 hg2; have HO2 := Lib.hid ho2; have HW7 := Lib.hid (below_grow HW6.out HO1.out hg2); clear ho2 hg2) | (at_builtin; refine wpList_append_rows rfl (.tmp 128) (.tmp 129) rfl wx.heap.size v2 _ (([] ++ M.take q) ++ []) (M.drop q) rfl rfl HO2.out (HD.out _ HW7.out) (by simp; omega) HW7.out.size ?_; intro v3 w8 ho3 hg3; have HW8 := Lib.hid (below_grow HW7.out HO2.out hg3); have HO3 : Hid (OwnR w8 wx.heap.size v3 (stepC M ⟨t, kk, false, ⟨oa, ob, oc⟩, false, ⟨na, nb, nc⟩⟩)) := Lib.hid (by rw [HSp.out.1]; simpa [List.append_assoc] using ho3); obtain ⟨a3, n3, cap3, rfl⟩ := own_form ho3; obtain ⟨k0, k1, kf0, kf1⟩ := (HI.out.below HW8.out).cells; have hb8 := Nat.lt_of_lt_of_le hbx HW8.out.size; clear ho3 hg3))
                    obtain ⟨z0, z1, z2, z3⟩ := rf_step HI.out HK.out HW8.out HO3.out (srt_step HI.out.srt _) (by rw [← Htk.out]; exact len_tk HS.out.good.1 (vrec_apart HQ.out) HFs.out hL (by rw [← HN.out]; exact hn8) (j + 1)) HRx.out (by omega)
                    exact ⟨⟨j + 1, by omega, by go_num, _, by rw [Htk.out]; exact Lib.hid z0, Lib.hid z1, Lib.hid z2, Lib.hid (fun _ => z3)⟩, by simp [intOf]; omega⟩
                  · go_wp2_with fail
                    (with_reducible refine (raft_true t kk oa ob oc na nb nc false _).mono ?_)
                    rintro e w4 ⟨rfl, hb4⟩
                    unfold rowV
                    have HW4 := Lib.hid (bt (ba wx _) hb4)
                    obtain ⟨c0, c1, f0, f1⟩ := (HI.out.below HW4.out).cells
                    have hb4z := Nat.lt_of_lt_of_le hbx HW4.out.size
                    have hb4n : ¬ b = w4.heap.size := by omega
                    have hb4m : ¬ b = w4.heap.size + 1 := by omega
                    clear hb4
                    have HW5 := Lib.hid (bt (bt HW4.out (ba w4 (.cells #[.int .i64 t, .int .i64 kk, .int .i64 na, .int .i64 nb, .int .i64 nc] 50))) (ba _ (.cells #[.int .i64 t, .int .i64 kk, .int .i64 na, .int .i64 nb, .int .i64 nc] 50)))
                    go_wp2_with (first | (at_builtin; refine wpList_append_rows rfl (.tmp 119) (.tmp 125) rfl wx.heap.size (.slice none 0 0) _ [] (M.take q) rfl rfl (OwnR.nil _ _) (HT.out _ HW5.out) (by simp; omega) HW5.out.size ?_; intro v1 w6 ho1 hg1; have HO1 := Lib.hid ho1; have HW6 := Lib.hid (below_grow HW5.out (OwnR.nil _ _) hg1); have HMid := Lib.hid (rowX_one ((hg1.block (w4.heap.size + 1) (by simp) (by simp [Value.ownBlock])).trans (by have := heap_alloc_new (w4.alloc (.cells #[.int .i64 t, .int .i64 kk, .int .i64 na, .int .i64 nb, .int .i64 nc] 50)) (.cells #[.int .i64 t, .int .i64 kk, .int .i64 na, .int .i64 nb, .int .i64 nc] 50); rwa [World.size_alloc] at this))); clear ho1 hg1) | (at_builtin; refine wpList_append_rows rfl (.tmp 126) (.tmp 127) rfl wx.heap.size v1 _ ([] ++ M.take q) [⟨t, kk, ⟨na, nb, nc⟩⟩] rfl rfl HO1.out HMid.out (by simp; omega) HW6.out.size ?_; intro v2 w7 ho2 hg2; have HO2 := Lib.hid ho2; have HW7 := Lib.hid (below_grow HW6.out HO1.out hg2); clear ho2 hg2) | (at_builtin; refine wpList_append_rows rfl (.tmp 128) (.tmp 129) rfl wx.heap.size v2 _ (([] ++ M.take q) ++ [⟨t, kk, ⟨na, nb, nc⟩⟩]) (M.drop q) rfl rfl HO2.out (HD.out _ HW7.out) (by simp; omega) HW7.out.size ?_; intro v3 w8 ho3 hg3; have HW8 := Lib.hid (below_grow HW7.out HO2.out hg3); have HO3 : Hid (OwnR w8 wx.heap.size v3 (stepC M ⟨t, kk, false, ⟨oa, ob, oc⟩, true, ⟨na, nb, nc⟩⟩)) := Lib.hid (by rw [HSp.out.1]; simpa [List.append_assoc] using ho3); obtain ⟨a3, n3, cap3, rfl⟩ := own_form ho3; obtain ⟨k0, k1, kf0, kf1⟩ := (HI.out.below HW8.out).cells; have hb8 := Nat.lt_of_lt_of_le hbx HW8.out.size; clear ho3 hg3))
                    obtain ⟨z0, z1, z2, z3⟩ := rf_step HI.out HK.out HW8.out HO3.out (srt_step HI.out.srt _) (by rw [← Htk.out]; exact len_tk HS.out.good.1 (vrec_apart HQ.out) HFs.out hL (by rw [← HN.out]; exact hn8) (j + 1)) HRx.out (by omega)
                    exact ⟨⟨j + 1, by omega, by go_num, _, by rw [Htk.out]; exact Lib.hid z0, Lib.hid z1, Lib.hid z2, Lib.hid (fun _ => z3)⟩, by simp [intOf]; omega⟩
                · have HD : Hid (∀ w, Below wx.heap.size wx w → RowX w (.slice (some ⟨g, q * 5, none⟩) (M.length - q) (cap - q)) (M.drop q)) := Lib.hid (fun w hB => rowX_drop HE.out q _ _ _ rfl rfl hB)
                  cases has
                  · go_wp2_with fail
                    (with_reducible refine (raft_false t kk oa ob oc na nb nc false _).mono ?_)
                    rintro e w4 ⟨rfl, hb4⟩
                    unfold rowV
                    have HW4 := Lib.hid (bt (ba wx _) hb4)
                    obtain ⟨c0, c1, f0, f1⟩ := (HI.out.below HW4.out).cells
                    have hb4z := Nat.lt_of_lt_of_le hbx HW4.out.size
                    have hb4n : ¬ b = w4.heap.size := by omega
                    have hb4m : ¬ b = w4.heap.size + 1 := by omega
                    clear hb4
                    have HW5 := Lib.hid (bt HW4.out (ba w4 (.cells #[.int .i64 0, .int .i64 0, .int .i64 0, .int .i64 0, .int .i64 0] 50)))
                    go_wp2_with (first | (at_builtin; refine wpList_append_rows rfl (.tmp 119) (.tmp 125) rfl wx.heap.size (.slice none 0 0) _ [] (M.take q) rfl rfl (OwnR.nil _ _) (HT.out _ HW5.out) (by simp; omega) HW5.out.size ?_; intro v1 w6 ho1 hg1; have HO1 := Lib.hid ho1; have HW6 := Lib.hid (below_grow HW5.out (OwnR.nil _ _) hg1); clear ho1 hg1) | (at_builtin; refine wpList_append_rows rfl (.tmp 126) (.tmp 127) rfl wx.heap.size v1 _ ([] ++ M.take q) [] rfl rfl HO1.out (.inl ⟨rfl, rfl⟩) (by simp; omega) HW6.out.size ?_; intro v2 w7 ho2 hg2; have HO2 := Lib.hid ho2; have HW7 := Lib.hid (below_grow HW6.out HO1.out hg2); clear ho2 hg2) | (at_builtin; refine wpList_append_rows rfl (.tmp 128) (.tmp 129) rfl wx.heap.size v2 _ (([] ++ M.take q) ++ []) (M.drop q) rfl rfl HO2.out (HD.out _ HW7.out) (by simp; omega) HW7.out.size ?_; intro v3 w8 ho3 hg3; have HW8 := Lib.hid (below_grow HW7.out HO2.out hg3); have HO3 : Hid (OwnR w8 wx.heap.size v3 (stepC M ⟨t, kk, false, ⟨oa, ob, oc⟩, false, ⟨na, nb, nc⟩⟩)) := Lib.hid (by rw [HSp.out.1]; simpa [List.append_assoc] using ho3); obtain ⟨a3, n3, cap3, rfl⟩ := own_form ho3; obtain ⟨k0, k1, kf0, kf1⟩ := (HI.out.below HW8.out).cells; have hb8 := Nat.lt_of_lt_of_le hbx HW8.out.size; clear ho3 hg3))
                    obtain ⟨z0, z1, z2, z3⟩ := rf_step HI.out HK.out HW8.out HO3.out (srt_step HI.out.srt _) (by rw [← Htk.out]; exact len_tk HS.out.good.1 (vrec_apart HQ.out) HFs.out hL (by rw [← HN.out]; exact hn8) (j + 1)) HRx.out (by omega)
                    exact ⟨⟨j + 1, by omega, by go_num, _, by rw [Htk.out]; exact Lib.hid z0, Lib.hid z1, Lib.hid z2, Lib.hid (fun _ => z3)⟩, by simp [intOf]; omega⟩
                  · go_wp2_with fail
                    (with_reducible refine (raft_true t kk oa ob oc na nb nc false _).mono ?_)
                    rintro e w4 ⟨rfl, hb4⟩
                    unfold rowV
                    have HW4 := Lib.hid (bt (ba wx _) hb4)
                    obtain ⟨c0, c1, f0, f1⟩ := (HI.out.below HW4.out).cells
                    have hb4z := Nat.lt_of_lt_of_le hbx HW4.out.size
                    have hb4n : ¬ b = w4.heap.size := by omega
                    have hb4m : ¬ b = w4.heap.size + 1 := by omega
                    clear hb4
                    have HW5 := Lib.hid (bt (bt HW4.out (ba w4 (.cells #[.int .i64 t, .int .i64 kk, .int .i64 na, .int .i64 nb, .int .i64 nc] 50))) (ba _ (.cells #[.int .i64 t, .int .i64 kk, .int .i64 na, .int .i64 nb, .int .i64 nc] 50)))
                    go_wp2_with (first | (at_builtin; refine wpList_append_rows rfl (.tmp 119) (.tmp 125) rfl wx.heap.size (.slice none 0 0) _ [] (M.take q) rfl rfl (OwnR.nil _ _) (HT.out _ HW5.out) (by simp; omega) HW5.out.size ?_; intro v1 w6 ho1 hg1; have HO1 := Lib.hid ho1; have HW6 := Lib.hid (below_grow HW5.out (OwnR.nil _ _) hg1); have HMid := Lib.hid (rowX_one ((hg1.block (w4.heap.size + 1) (by simp) (by simp [Value.ownBlock])).trans (by have := heap_alloc_new (w4.alloc (.cells #[.int .i64 t, .int .i64 kk, .int .i64 na, .int .i64 nb, .int .i64 nc] 50)) (.cells #[.int .i64 t, .int .i64 kk, .int .i64 na, .int .i64 nb, .int .i64 nc] 50); rwa [World.size_alloc] at this))); clear ho1 hg1) | (at_builtin; refine wpList_append_rows rfl (.tmp 126) (.tmp 127) rfl wx.heap.size v1 _ ([] ++ M.take q) [⟨t, kk, ⟨na, nb, nc⟩⟩] rfl rfl HO1.out HMid.out (by simp; omega) HW6.out.size ?_; intro v2 w7 ho2 hg2; have HO2 := Lib.hid ho2; have HW7 := Lib.hid (below_grow HW6.out HO1.out hg2); clear ho2 hg2) | (at_builtin; refine wpList_append_rows rfl (.tmp 128) (.tmp 129) rfl wx.heap.size v2 _ (([] ++ M.take q) ++ [⟨t, kk, ⟨na, nb, nc⟩⟩]) (M.drop q) rfl rfl HO2.out (HD.out _ HW7.out) (by simp; omega) HW7.out.size ?_; intro v3 w8 ho3 hg3; have HW8 := Lib.hid (below_grow HW7.out HO2.out hg3); have HO3 : Hid (OwnR w8 wx.heap.size v3 (stepC M ⟨t, kk, false, ⟨oa, ob, oc⟩, true, ⟨na, nb, nc⟩⟩)) := Lib.hid (by rw [HSp.out.1]; simpa [List.append_assoc] using ho3); obtain ⟨a3, n3, cap3, rfl⟩ := own_form ho3; obtain ⟨k0, k1, kf0, kf1⟩ := (HI.out.below HW8.out).cells; have hb8 := Nat.lt_of_lt_of_le hbx HW8.out.size; clear ho3 hg3))
                    obtain ⟨z0, z1, z2, z3⟩ := rf_step HI.out HK.out HW8.out HO3.out (srt_step HI.out.srt _) (by rw [← Htk.out]; exact len_tk HS.out.good.1 (vrec_apart HQ.out) HFs.out hL (by rw [← HN.out]; exact hn8) (j + 1)) HRx.out (by omega)
                    exact ⟨⟨j + 1, by omega, by go_num, _, by rw [Htk.out]; exact Lib.hid z0, Lib.hid z1, Lib.hid z2, Lib.hid (fun _ => z3)⟩, by simp [intOf]; omega⟩
              · have hq1 : q + 1 ≤ M.length := by have := HSp.out.2; simpa using this
                have hcq : ¬ cap = q := by omega
                by_cases hc1 : cap - q = 1
                · have HD : Hid (∀ w, Below wx.heap.size wx w → RowX w (.slice (some ⟨g, q * 5, none⟩) (M.length - q - 1) 0) (M.drop (q + 1))) := Lib.hid (fun w hB => rowX_none (by omega) (by omega))
                  cases has
                  · go_wp2_with fail
                    (with_reducible refine (raft_false t kk oa ob oc na nb nc true _).mono ?_)
                    rintro e w4 ⟨rfl, hb4⟩
                    unfold rowV
                    have HW4 := Lib.hid (bt (ba wx _) hb4)
                    obtain ⟨c0, c1, f0, f1⟩ := (HI.out.below HW4.out).cells
                    have hb4z := Nat.lt_of_lt_of_le hbx HW4.out.size
                    have hb4n : ¬ b = w4.heap.size := by omega
                    have hb4m : ¬ b = w4.heap.size + 1 := by omega
                    clear hb4
                    have HW5 := Lib.hid (bt HW4.out (ba w4 (.cells #[.int .i64 0, .int .i64 0, .int .i64 0, .int .i64 0, .int .i64 0] 50)))
                    go_wp2_with (first | (at_builtin; refine wpList_append_rows rfl (.tmp 119) (.tmp 125) rfl wx.heap.size (.slice none 0 0) _ [] (M.take q) rfl rfl (OwnR.nil _ _) (HT.out _ HW5.out) (by simp; omega) HW5.out.size ?_; intro v1 w6 ho1 hg1; have HO1 := Lib.hid ho1; have HW6 := Lib.hid (below_grow HW5.out (OwnR.nil _ _) hg1); clear ho1 hg1) | (at_builtin; refine wpList_append_rows rfl (.tmp 126) (.tmp 127) rfl wx.heap.size v1 _ ([] ++ M.take q) [] rfl rfl HO1.out (.inl ⟨rfl, rfl⟩) (by simp; omega) HW6.out.size ?_; intro v2 w7 ho2 hg2; have HO2 := Lib.hid ho2; have HW7 := Lib.hid (below_grow HW6.out HO1.out hg2); clear ho2 hg2) | (at_builtin; refine wpList_append_rows rfl (.tmp 128) (.tmp 129) rfl wx.heap.size v2 _ (([] ++ M.take q) ++ []) (M.drop (q + 1)) rfl rfl HO2.out (HD.out _ HW7.out) (by simp; omega) HW7.out.size ?_; intro v3 w8 ho3 hg3; have HW8 := Lib.hid (below_grow HW7.out HO2.out hg3); have HO3 : Hid (OwnR w8 wx.heap.size v3 (stepC M ⟨t, kk, true, ⟨oa, ob, oc⟩, false, ⟨na, nb, nc⟩⟩)) := Lib.hid (by rw [HSp.out.1]; simpa [List.append_assoc] using ho3); obtain ⟨a3, n3, cap3, rfl⟩ := own_form ho3; obtain ⟨k0, k1, kf0, kf1⟩ := (HI.out.below HW8.out).cells; have hb8 := Nat.lt_of_lt_of_le hbx HW8.out.size; clear ho3 hg3))
                    obtain ⟨z0, z1, z2, z3⟩ := rf_step HI.out HK.out HW8.out HO3.out (srt_step HI.out.srt _) (by rw [← Htk.out]; exact len_tk HS.out.good.1 (vrec_apart HQ.out) HFs.out hL (by rw [← HN.out]; exact hn8) (j + 1)) HRx.out (by omega)
                    exact ⟨⟨j + 1, by omega, by go_num, _, by rw [Htk.out]; exact Lib.hid z0, Lib.hid z1, Lib.hid z2, Lib.hid (fun _ => z3)⟩, by simp [intOf]; omega⟩
                  · go_wp2_with fail
                    (with_reducible refine (raft_true t kk oa ob oc na nb nc true _).mono ?_)
                    rintro e w4 ⟨rfl, hb4⟩
                    unfold rowV
                    have HW4 := Lib.hid (bt (ba wx _) hb4)
                    obtain ⟨c0, c1, f0, f1⟩ := (HI.out.below HW4.out).cells
                    have hb4z := Nat.lt_of_lt_of_le hbx HW4.out.size
                    have hb4n : ¬ b = w4.heap.size := by omega
                    have hb4m : ¬ b = w4.heap.size + 1 := by omega
                    clear hb4
                    have HW5 := Lib.hid (bt (bt HW4.out (ba w4 (.cells #[.int .i64 t, .int .i64 kk, .int .i64 na, .int .i64 nb, .int .i64 nc] 50))) (ba _ (.cells #[.int .i64 t, .int .i64 kk, .int .i64 na, .int .i64 nb, .int .i64 nc] 50)))
                    go_wp2_with (first | (at_builtin; refine wpList_append_rows rfl (.tmp 119) (.tmp 125) rfl wx.heap.size (.slice none 0 0) _ [] (M.take q) rfl rfl (OwnR.nil _ _) (HT.out _ HW5.out) (by simp; omega) HW5.out.size ?_; intro v1 w6 ho1 hg1; have HO1 := Lib.hid ho1; have HW6 := Lib.hid (below_grow HW5.out (OwnR.nil _ _) hg1); have HMid := Lib.hid (rowX_one ((hg1.block (w4.heap.size + 1) (by simp) (by simp [Value.ownBlock])).trans (by have := heap_alloc_new (w4.alloc (.cells #[.int .i64 t, .int .i64 kk, .int .i64 na, .int .i64 nb, .int .i64 nc] 50)) (.cells #[.int .i64 t, .int .i64 kk, .int .i64 na, .int .i64 nb, .int .i64 nc] 50); rwa [World.size_alloc] at this))); clear ho1 hg1) | (at_builtin; refine wpList_append_rows rfl (.tmp 126) (.tmp 127) rfl wx.heap.size v1 _ ([] ++ M.take q) [⟨t, kk, ⟨na, nb, nc⟩⟩] rfl rfl HO1.out HMid.out (by simp; omega) HW6.out.size ?_; intro v2 w7 ho2 hg2; have HO2 := Lib.hid ho2; have HW7 := Lib.hid (below_grow HW6.out HO1.out hg2); clear ho2 hg2) | (at_builtin; refine wpList_append_rows rfl (.tmp 128) (.tmp 129) rfl wx.heap.size v2 _ (([] ++ M.take q) ++ [⟨t, kk, ⟨na, nb, nc⟩⟩]) (M.drop (q + 1)) rfl rfl HO2.out (HD.out _ HW7.out) (by simp; omega) HW7.out.size ?_; intro v3 w8 ho3 hg3; have HW8 := Lib.hid (below_grow HW7.out HO2.out hg3); have HO3 : Hid (OwnR w8 wx.heap.size v3 (stepC M ⟨t, kk, true, ⟨oa, ob, oc⟩, true, ⟨na, nb, nc⟩⟩)) := Lib.hid (by rw [HSp.out.1]; simpa [List.append_assoc] using ho3); obtain ⟨a3, n3, cap3, rfl⟩ := own_form ho3; obtain ⟨k0, k1, kf0, kf1⟩ := (HI.out.below HW8.out).cells; have hb8 := Nat.lt_of_lt_of_le hbx HW8.out.size; clear ho3 hg3))
                    obtain ⟨z0, z1, z2, z3⟩ := rf_step HI.out HK.out HW8.out HO3.out (srt_step HI.out.srt _) (by rw [← Htk.out]; exact len_tk HS.out.good.1 (vrec_apart HQ.out) HFs.out hL (by rw [← HN.out]; exact hn8) (j + 1)) HRx.out (by omega)
                    exact ⟨⟨j + 1, by omega, by go_num, _, by rw [Htk.out]; exact Lib.hid z0, Lib.hid z1, Lib.hid z2, Lib.hid (fun _ => z3)⟩, by simp [intOf]; omega⟩
                · have HD : Hid (∀ w, Below wx.heap.size wx w → RowX w (.slice (some ⟨g, q * 5 + 5, none⟩) (M.length - q - 1) (cap - q - 1)) (M.drop (q + 1))) := Lib.hid (fun w hB => rowX_drop HE.out (q + 1) _ _ _ (by omega) (by omega) hB)
                  cases has
                  · go_wp2_with fail
                    (with_reducible refine (raft_false t kk oa ob oc na nb nc true _).mono ?_)
                    rintro e w4 ⟨rfl, hb4⟩
                    unfold rowV
                    have HW4 := Lib.hid (bt (ba wx _) hb4)
                    obtain ⟨c0, c1, f0, f1⟩ := (HI.out.below HW4.out).cells
                    have hb4z := Nat.lt_of_lt_of_le hbx HW4.out.size
                    have hb4n : ¬ b = w4.heap.size := by omega
                    have hb4m : ¬ b = w4.heap.size + 1 := by omega
                    clear hb4
                    have HW5 := Lib.hid (bt HW4.out (ba w4 (.cells #[.int .i64 0, .int .i64 0, .int .i64 0, .int .i64 0, .int .i64 0] 50)))
                    go_wp2_with (first | (at_builtin; refine wpList_append_rows rfl (.tmp 119) (.tmp 125) rfl wx.heap.size (.slice none 0 0) _ [] (M.take q) rfl rfl (OwnR.nil _ _) (HT.out _ HW5.out) (by simp; omega) HW5.out.size ?_; intro v1 w6 ho1 hg1; have HO1 := Lib.hid ho1; have HW6 := Lib.hid (below_grow HW5.out (OwnR.nil _ _) hg1); clear ho1 hg1) | (at_builtin; refine wpList_append_rows rfl (.tmp 126) (.tmp 127) rfl wx.heap.size v1 _ ([] ++ M.take q) [] rfl rfl HO1.out (.inl ⟨rfl, rfl⟩) (by simp; omega) HW6.out.size ?_; intro v2 w7 ho2 hg2; have HO2 := Lib.hid ho2; have HW7 := Lib.hid (below_grow HW6.out HO1.out hg2); clear ho2 hg2) | (at_builtin; refine wpList_append_rows rfl (.tmp 128) (.tmp 129) rfl wx.heap.size v2 _ (([] ++ M.take q) ++ []) (M.drop (q + 1)) rfl rfl HO2.out (HD.out _ HW7.out) (by simp; omega) HW7.out.size ?_; intro v3 w8 ho3 hg3; have HW8 := Lib.hid (below_grow HW7.out HO2.out hg3); have HO3 : Hid (OwnR w8 wx.heap.size v3 (stepC M ⟨t, kk, true, ⟨oa, ob, oc⟩, false, ⟨na, nb, nc⟩⟩)) := Lib.hid (by rw [HSp.out.1]; simpa [List.append_assoc] using ho3); obtain ⟨a3, n3, cap3, rfl⟩ := own_form ho3; obtain ⟨k0, k1, kf0, kf1⟩ := (HI.out.below HW8.out).cells; have hb8 := Nat.lt_of_lt_of_le hbx HW8.out.size; clear ho3 hg3))
                    obtain ⟨z0, z1, z2, z3⟩ := rf_step HI.out HK.out HW8.out HO3.out (srt_step HI.out.srt _) (by rw [← Htk.out]; exact len_tk HS.out.good.1 (vrec_apart HQ.out) HFs.out hL (by rw [← HN.out]; exact hn8) (j + 1)) HRx.out (by omega)
                    exact ⟨⟨j + 1, by omega, by go_num, _, by rw [Htk.out]; exact Lib.hid z0, Lib.hid z1, Lib.hid z2, Lib.hid (fun _ => z3)⟩, by simp [intOf]; omega⟩
                  · go_wp2_with fail
                    (with_reducible refine (raft_true t kk oa ob oc na nb nc true _).mono ?_)
                    rintro e w4 ⟨rfl, hb4⟩
                    unfold rowV
                    have HW4 := Lib.hid (bt (ba wx _) hb4)
                    obtain ⟨c0, c1, f0, f1⟩ := (HI.out.below HW4.out).cells
                    have hb4z := Nat.lt_of_lt_of_le hbx HW4.out.size
                    have hb4n : ¬ b = w4.heap.size := by omega
                    have hb4m : ¬ b = w4.heap.size + 1 := by omega
                    clear hb4
                    have HW5 := Lib.hid (bt (bt HW4.out (ba w4 (.cells #[.int .i64 t, .int .i64 kk, .int .i64 na, .int .i64 nb, .int .i64 nc] 50))) (ba _ (.cells #[.int .i64 t, .int .i64 kk, .int .i64 na, .int .i64 nb, .int .i64 nc] 50)))
                    go_wp2_with (first | (at_builtin; refine wpList_append_rows rfl (.tmp 119) (.tmp 125) rfl wx.heap.size (.slice none 0 0) _ [] (M.take q) rfl rfl (OwnR.nil _ _) (HT.out _ HW5.out) (by simp; omega) HW5.out.size ?_; intro v1 w6 ho1 hg1; have HO1 := Lib.hid ho1; have HW6 := Lib.hid (below_grow HW5.out (OwnR.nil _ _) hg1); have HMid := Lib.hid (rowX_one ((hg1.block (w4.heap.size + 1) (by simp) (by simp [Value.ownBlock])).trans (by have := heap_alloc_new (w4.alloc (.cells #[.int .i64 t, .int .i64 kk, .int .i64 na, .int .i64 nb, .int .i64 nc] 50)) (.cells #[.int .i64 t, .int .i64 kk, .int .i64 na, .int .i64 nb, .int .i64 nc] 50); rwa [World.size_alloc] at this))); clear ho1 hg1) | (at_builtin; refine wpList_append_rows rfl (.tmp 126) (.tmp 127) rfl wx.heap.size v1 _ ([] ++ M.take q) [⟨t, kk, ⟨na, nb, nc⟩⟩] rfl rfl HO1.out HMid.out (by simp; omega) HW6.out.size ?_; intro v2 w7 ho2 hg2; have HO2 := Lib.hid ho2; have HW7 := Lib.hid (below_grow HW6.out HO1.out hg2); clear ho2 hg2) | (at_builtin; refine wpList_append_rows rfl (.tmp 128) (.tmp 129) rfl wx.heap.size v2 _ (([] ++ M.take q) ++ [⟨t, kk, ⟨na, nb, nc⟩⟩]) (M.drop (q + 1)) rfl rfl HO2.out (HD.out _ HW7.out) (by simp; omega) HW7.out.size ?_; intro v3 w8 ho3 hg3; have HW8 := Lib.hid (below_grow HW7.out HO2.out hg3); have HO3 : Hid (OwnR w8 wx.heap.size v3 (stepC M ⟨t, kk, true, ⟨oa, ob, oc⟩, true, ⟨na, nb, nc⟩⟩)) := Lib.hid (by rw [HSp.out.1]; simpa [List.append_assoc] using ho3); obtain ⟨a3, n3, cap3, rfl⟩ := own_form ho3; obtain ⟨k0, k1, kf0, kf1⟩ := (HI.out.below HW8.out).cells; have hb8 := Nat.lt_of_lt_of_le hbx HW8.out.size; clear ho3 hg3))
                    obtain ⟨z0, z1, z2, z3⟩ := rf_step HI.out HK.out HW8.out HO3.out (srt_step HI.out.srt _) (by rw [← Htk.out]; exact len_tk HS.out.good.1 (vrec_apart HQ.out) HFs.out hL (by rw [← HN.out]; exact hn8) (j + 1)) HRx.out (by omega)
                    exact ⟨⟨j + 1, by omega, by go_num, _, by rw [Htk.out]; exact Lib.hid z0, Lib.hid z1, Lib.hid z2, Lib.hid (fun _ => z3)⟩, by simp [intOf]; omega⟩
          · obtain rfl : j = k := by omega
            have HE : Hid (RfIn wx b vj (stepAll L cs) p) := Lib.hid (by have := HI.out; rwa [HN.out, List.take_length] at this)
            have q0 : wx.cell? ⟨W.heap.size, 0, none⟩ = some (.int .i64 pos) := by simp [World.cell?, HRx.out]
            obtain ⟨c0, c1, f0, f1⟩ := HE.out.cells
            have hbx := HE.out.lt
            go_wp2_with fail
            go_ret
            have hk1 : Kept (fun i => i = b) wx (wx.setCell ⟨b, 1, none⟩ (.int .i64 pos)) := Kept.setCell (F := fun i => i = b) (p := ⟨b, 1, none⟩) (Kept.refl _ _) (.inl rfl) _
            exact .inl ⟨HFs.out, HCnt.out, rfl, vj, ⟨two_setCell1 HE.out.blk, HE.out.own.kept' hk1 (fun i e f => by have := HO.out hn1 i e; omega), HE.out.srt, HE.out.len⟩, HK.out.trans hk1 (fun _ _ f => f), HO.out hn1⟩
      · have dz : decide (2000 < z) = true := decide_eq_true (by omega)
        go_wp2_with fail
        go_ret
        exact .inr ⟨fun h => by have := h.2; rw [← HZs.out] at this; omega, rfl, HBr.out⟩
end Go.Proofs.Ytaapggeaoacikaa
