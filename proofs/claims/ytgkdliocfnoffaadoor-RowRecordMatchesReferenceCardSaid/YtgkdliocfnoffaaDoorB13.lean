/- WALKS: RowRecordMatchesReference. -/
import Derived.Test.YtgkdliocfnoffaaDoorH3
import Derived.Test.YtgkdliocfnoffaaDoorH4
import Derived.Test.YtgkdliocfnoffaaDoorH6
import Derived.Deep.Cut
set_option linter.unusedVariables false
set_option linter.unusedSimpArgs false
namespace Go.Proofs.YtgkdliocfnoffaaDoor
open Go.RowKit Go.Sort

theorem bef_both (c : MCh) : ∃ (r : MRow) (h : Bool), (∀ w, Calls Tryd.prog 23 #[chV c] w fun e w' => e = .returned (.tuple #[rowV r, .bool h]) ∧ Below w.heap.size w w') ∧ (∀ w, Calls Tryd.prog 25 #[chV c] w fun e w' => e = .returned (.tuple #[rowV r, .bool h]) ∧ Below w.heap.size w w') :=
  ⟨_, _, fun w => before_any c w, fun w => refBefore_any c w⟩
theorem aft_both (c : MCh) : ∃ (r : MRow) (h : Bool), (∀ w, Calls Tryd.prog 24 #[chV c] w fun e w' => e = .returned (.tuple #[rowV r, .bool h]) ∧ Below w.heap.size w w') ∧ (∀ w, Calls Tryd.prog 26 #[chV c] w fun e w' => e = .returned (.tuple #[rowV r, .bool h]) ∧ Below w.heap.size w w') :=
  ⟨_, _, fun w => after_any c w, fun w => refAfter_any c w⟩
theorem vc_both (c : MCh) : ∃ (v : Bool), (∀ w, Calls Tryd.prog 27 #[chV c] w fun e w' => e = .returned (.bool v) ∧ Below w.heap.size w w') ∧ (∀ w, Calls Tryd.prog 28 #[chV c] w fun e w' => e = .returned (.bool v) ∧ Below w.heap.size w w') :=
  ⟨_, fun w => validChange_any c w, fun w => refValidChange_any c w⟩
theorem encR_both (p : Int) (v : Value) (L : List MCh) : ∃ (S : ByteArray) (x : Int), (∀ w, ChS w v L → Calls Tryd.prog 29 #[.agg #[.int .i64 p, v]] w fun e w' => e = .returned (.tuple #[.string S, .int .i64 x]) ∧ Below w.heap.size w w') ∧ (∀ w, ChS w v L → Calls Tryd.prog 30 #[.agg #[.int .i64 p, v]] w fun e w' => e = .returned (.tuple #[.string S, .int .i64 x]) ∧ Below w.heap.size w w') := by
  by_cases h : VRec p L
  · exact ⟨_, _, fun w hw => recS_ok p v L w h hw, fun w hw => refEncodeRecord_ok p v L w h hw⟩
  · exact ⟨_, _, fun w hw => recS_bad p v L w h hw, fun w hw => refEncodeRecord_bad p v L w hw h⟩
theorem decR_both (s : ByteArray) (hs : s.size ≤ maxLen) : ∃ (x : MRec) (c : Int), (∀ w, Errs w → Calls Tryd.prog 31 #[.string s] w fun e w' => ∃ v, e = .returned (.tuple #[.agg #[.int .i64 x.pos, v], .int .i64 c]) ∧ ChS w' v x.chs ∧ Below w.heap.size w w') ∧ (∀ w, Calls Tryd.prog 32 #[.string s] w fun e w' => ∃ v, e = .returned (.tuple #[.agg #[.int .i64 x.pos, v], .int .i64 c]) ∧ ChS w' v x.chs ∧ Below w.heap.size w w') :=
  ⟨(decRec s).1, (decRec s).2, fun w hE => decodeR_e s w hs hE rfl, fun w => refDecodeRecord_any s w hs⟩
theorem vrec_both (p : Int) (v : Value) (L : List MCh) : ∃ (b : Bool), (∀ w, ChS w v L → Calls Tryd.prog 33 #[.agg #[.int .i64 p, v]] w fun e w' => e = .returned (.bool b) ∧ Below w.heap.size w w') ∧ (∀ w, ChS w v L → Calls Tryd.prog 34 #[.agg #[.int .i64 p, v]] w fun e w' => e = .returned (.bool b) ∧ Below w.heap.size w w') :=
  ⟨_, fun w hw => validRecord_any p v L w hw, fun w hw => refValidRecord_any p v L w hw⟩
theorem same_both (p q : Int) (v u : Value) (L M : List MCh) : ∃ (b : Bool), (∀ w, ChS w v L → ChS w u M → Calls Tryd.prog 36 #[.agg #[.int .i64 p, v], .agg #[.int .i64 q, u]] w fun e w' => e = .returned (.bool b) ∧ Below w.heap.size w w') ∧ (∀ w, ChS w v L → ChS w u M → Calls Tryd.prog 35 #[.agg #[.int .i64 p, v], .agg #[.int .i64 q, u]] w fun e w' => e = .returned (.bool b) ∧ Below w.heap.size w w') :=
  ⟨_, fun w hv hu => same_any p q v u L M w hv hu, fun w hv hu => refSame_any p q v u L M w hv hu⟩
theorem same_self (p : Int) (v u : Value) (L : List MCh) (w : World) (hv : ChS w v L) (hu : ChS w u L) : Calls Tryd.prog 36 #[.agg #[.int .i64 p, v], .agg #[.int .i64 p, u]] w fun e w' => e = .returned (.bool true) ∧ Below w.heap.size w w' := by
  have := same_any p p v u L L w hv hu
  rwa [show sameE p p L L = true by simp [sameE]] at this
theorem refSame_self (p : Int) (v u : Value) (L : List MCh) (w : World) (hv : ChS w v L) (hu : ChS w u L) : Calls Tryd.prog 35 #[.agg #[.int .i64 p, v], .agg #[.int .i64 p, u]] w fun e w' => e = .returned (.bool true) ∧ Below w.heap.size w w' := by
  have := refSame_any p p v u L L w hv hu
  rwa [show sameE p p L L = true by simp [sameE]] at this

set_option maxRecDepth 100000 in
set_option maxHeartbeats 8000000 in
theorem matchRec_walk (p q : Int) (u v : Value) (L M : List MCh) (s : ByteArray) (W : World) (hE : Errs W) (hu : ChI W u L) (hv : ChI W v M) : Calls Tryd.prog 4 #[.agg #[.int .i64 p, u], .agg #[.int .i64 q, v], .string s] W fun e w' => e = .returned (.bool true) ∧ Below W.heap.size W w' := by
  have HG : Hid (∀ w', Below W.heap.size W w' → Errs w') := Lib.hid (fun w' h => hE.below h)
  obtain ⟨m, hmm⟩ : ∃ m, s.extract 0 (min (s.size : Int) 300).toNat = m := ⟨_, rfl⟩
  have HMS : Hid (m.size ≤ maxLen) := Lib.hid (by
    rw [← hmm]
    have := cutN_size s (min (s.size : Int) 300).toNat
    unfold maxLen
    omega)
  have HU := Lib.hid hu
  have HV := Lib.hid hv
  obtain ⟨ua, un, uc, rfl⟩ : ∃ a n c, u = .slice a n c := by obtain ⟨a, n, c, e, _⟩ := hu; exact ⟨a, n, c, e⟩
  obtain ⟨va, vn, vc', rfl⟩ : ∃ a n c, v = .slice a n c := by obtain ⟨a, n, c, e, _⟩ := hv; exact ⟨a, n, c, e⟩
  clear hE hu hv
  go_enter Tryd.func4, Tryd.ntmps4
  have HR0 := Lib.hid (RR.new W p q (.slice ua un uc) (.slice va vn vc'))
  go_wp2_with fail
  (with_reducible refine (sane_any _ (HG.out _ HR0.out.b)).mono ?_)
  rintro e w1 ⟨rfl, hb1⟩
  have HR1 := Lib.hid (HR0.out.next hb1)
  clear hb1 HR0
  obtain ⟨c0, c1, d0, d1, f0, f1, g0, g1, _⟩ := HR1.out
  go_wp2_with fail
  (with_reducible refine (cutO_any p _ L _ (HU.out.below HR1.out.b)).mono ?_)
  rintro e w2 ⟨u1, rfl, hc1, hb2⟩
  clear c0 c1 d0 d1 f0 f1 g0 g1
  obtain ⟨g1, c1', rfl, hg1, hc1', ho1⟩ := hc1
  have HR2 := Lib.hid (HR1.out.next hb2)
  have HO2 := Lib.hid ho1
  have hlt1 := HR1.out.lt
  have hgX : ¬ g1 = W.heap.size := by omega
  have hgY : ¬ g1 = W.heap.size + 1 := by omega
  clear hb2 ho1 HR1 HU
  obtain ⟨A, HA⟩ : ∃ A, Hid (L.take 10 = A) := ⟨_, Lib.hid rfl⟩
  rw [HA.out] at HO2
  obtain ⟨n, HN⟩ : ∃ n, Hid (A.length = n) := ⟨_, Lib.hid rfl⟩
  have hn10 : n ≤ 10 := by rw [← HN.out, ← HA.out, List.length_take]; omega
  rw [HA.out, HN.out]
  obtain ⟨c0, c1, d0, d1, f0, f1, gg0, gg1, _⟩ := HR2.out
  obtain ⟨w3, Hw3⟩ : ∃ w3, Hid ((w2.setCell ⟨W.heap.size, 0, none⟩ (.int .i64 p)).setCell ⟨W.heap.size, 1, none⟩ (.slice (some ⟨g1, 0, none⟩) n c1') = w3) := ⟨_, Lib.hid rfl⟩
  have HR3 := Lib.hid (HR2.out.set1 _ Hw3.out)
  have HO3 : Hid (OwnAt w3 g1 c1' A) := Lib.hid (by rw [← Hw3.out]; exact (HO2.out.far hgX _ _).far hgX _ _)
  clear HR2 HO2
  go_wp2_with fail
  rw [Hw3.out]
  clear c0 c1 d0 d1 f0 f1 gg0 gg1 Hw3
  obtain ⟨c0, c1, d0, d1, f0, f1, gg0, gg1, _⟩ := HR3.out
  go_wp2_with fail
  (with_reducible refine (cutO_any q _ M _ (HV.out.below HR3.out.b)).mono ?_)
  rintro e w4 ⟨u2, rfl, hc2, hb4⟩
  clear c0 c1 d0 d1 f0 f1 gg0 gg1
  obtain ⟨g2, c2', rfl, hg2, hc2', ho2⟩ := hc2
  have HR4 := Lib.hid (HR3.out.next hb4)
  have HO4 := Lib.hid (HO3.out.below hb4)
  have HP4 := Lib.hid ho2
  have hlt3 := HR3.out.lt
  have hgX2 : ¬ g2 = W.heap.size := by omega
  have hgY2 : ¬ g2 = W.heap.size + 1 := by omega
  clear hb4 ho2 HR3 HO3 HV
  obtain ⟨B, HBe⟩ : ∃ B, Hid (M.take 10 = B) := ⟨_, Lib.hid rfl⟩
  rw [HBe.out] at HP4
  obtain ⟨n2, HN2⟩ : ∃ n, Hid (B.length = n) := ⟨_, Lib.hid rfl⟩
  rw [HBe.out, HN2.out]
  obtain ⟨c0, c1, d0, d1, f0, f1, gg0, gg1, _⟩ := HR4.out
  obtain ⟨w5, Hw5⟩ : ∃ w5, Hid ((w4.setCell ⟨W.heap.size + 1, 0, none⟩ (.int .i64 q)).setCell ⟨W.heap.size + 1, 1, none⟩ (.slice (some ⟨g2, 0, none⟩) n2 c2') = w5) := ⟨_, Lib.hid rfl⟩
  have HR5 := Lib.hid (HR4.out.set2 _ Hw5.out)
  have HO5 : Hid (OwnAt w5 g1 c1' A) := Lib.hid (by rw [← Hw5.out]; exact (HO4.out.far hgY _ _).far hgY _ _)
  have HP5 : Hid (ChS w5 (.slice (some ⟨g2, 0, none⟩) n2 c2') B) := Lib.hid (OwnAt.chs (by rw [← Hw5.out]; exact (HP4.out.far hgY2 _ _).far hgY2 _ _) hc2' HN2.out.symm)
  clear HR4 HO4 HP4
  go_wp2_with fail
  rw [Hw5.out]
  clear c0 c1 d0 d1 f0 f1 gg0 gg1 Hw5
  go_wp2_with fail
  go_loopw [8, 9, 10, 11, 12, 13, 14, 15, 16] (fun i _ _ _ _ _ _ _ _ wr => ∃ k : Nat, k ≤ n ∧ i = .int .i64 k ∧ Hid (RR W wr p (.slice (some ⟨g1, 0, none⟩) n c1') q (.slice (some ⟨g2, 0, none⟩) n2 c2')) ∧ Hid (OwnAt wr g1 c1' A) ∧ Hid (ChS wr (.slice (some ⟨g2, 0, none⟩) n2 c2') B)) (fun i _ _ _ _ _ _ _ _ _ => n - (intOf i).toNat)
  case atStart => exact ⟨0, by omega, rfl, HR5, HO5, HP5⟩
  case round =>
    clear HR5 HO5 HP5
    obtain ⟨k, hk, rfl, HR, HO, HS⟩ := hrel
    by_cases hlt : k < n
    · have hkA : Hid (k < A.length) := Lib.hid (by rw [HN.out]; exact hlt)
      obtain ⟨c, HcE⟩ : ∃ c, Hid (A.getD k chZ = c) := ⟨_, Lib.hid rfl⟩
      have HAt : Hid (∀ w', OwnAt w' g1 c1' A → ChAt w' g1 (k * 10) c) := Lib.hid (fun w' h => by have := h.at k hkA.out; rwa [HcE.out] at this)
      obtain ⟨r1, h1, hbf, hbr⟩ := bef_both c
      obtain ⟨r2, h2, haf, har⟩ := aft_both c
      obtain ⟨vb, hvc, hvr⟩ := vc_both c
      have HBF := Lib.hid hbf
      have HBR := Lib.hid hbr
      have HAF := Lib.hid haf
      have HAR := Lib.hid har
      have HVC := Lib.hid hvc
      have HVR := Lib.hid hvr
      clear hbf hbr haf har hvc hvr HcE hkA
      obtain ⟨t, kk, had, ⟨oa, ob, oc⟩, has, ⟨na, nb, nc⟩⟩ := c
      obtain ⟨rt, rk, ⟨ra, rb, rc⟩⟩ := r1
      obtain ⟨qt, qk, ⟨qa, qb, qc⟩⟩ := r2
      obtain ⟨x0, x1, _⟩ := HR.out
      obtain ⟨d0, d1, d2, d3, d4, d5, d6, d7, d8, d9⟩ := (HAt.out _ HO.out).cells
      go_wp2_with fail
      (with_reducible refine (HBF.out _).mono ?_)
      rintro e y1 ⟨rfl, hb1⟩
      have hk1 := bt hb1 (ba y1 (.cells #[.int .i64 rt, .int .i64 rk, .int .i64 ra, .int .i64 rb, .int .i64 rc] 24))
      have HR1 := Lib.hid (HR.out.next hk1)
      have HO1 := Lib.hid (HO.out.below hk1)
      have HS1 := Lib.hid (HS.out.below hk1)
      have HA1_1 := Lib.hid (RwAt.new y1 ⟨rt, rk, ⟨ra, rb, rc⟩⟩)
      clear hb1 hk1 x0 x1 d0 d1 d2 d3 d4 d5 d6 d7 d8 d9 HR HO HS
      obtain ⟨x0, x1, _⟩ := HR1.out
      obtain ⟨d0, d1, d2, d3, d4, d5, d6, d7, d8, d9⟩ := (HAt.out _ HO1.out).cells
      go_wp2_with fail
      (with_reducible refine (HAF.out _).mono ?_)
      rintro e y2 ⟨rfl, hb2⟩
      have hk2 := bt hb2 (ba y2 (.cells #[.int .i64 qt, .int .i64 qk, .int .i64 qa, .int .i64 qb, .int .i64 qc] 24))
      have HR2 := Lib.hid (HR1.out.next hk2)
      have HO2 := Lib.hid (HO1.out.below hk2)
      have HS2 := Lib.hid (HS1.out.below hk2)
      have HA2_2 := Lib.hid (RwAt.new y2 ⟨qt, qk, ⟨qa, qb, qc⟩⟩)
      have HA1_2 := Lib.hid (HA1_1.out.below hk2)
      clear hb2 hk2 x0 x1 d0 d1 d2 d3 d4 d5 d6 d7 d8 d9 HR1 HO1 HS1 HA1_1
      obtain ⟨x0, x1, _⟩ := HR2.out
      obtain ⟨d0, d1, d2, d3, d4, d5, d6, d7, d8, d9⟩ := (HAt.out _ HO2.out).cells
      go_wp2_with fail
      (with_reducible refine (HBR.out _).mono ?_)
      rintro e y3 ⟨rfl, hb3⟩
      have hk3 := bt hb3 (ba y3 (.cells #[.int .i64 rt, .int .i64 rk, .int .i64 ra, .int .i64 rb, .int .i64 rc] 24))
      have HR3 := Lib.hid (HR2.out.next hk3)
      have HO3 := Lib.hid (HO2.out.below hk3)
      have HS3 := Lib.hid (HS2.out.below hk3)
      have HA3_3 := Lib.hid (RwAt.new y3 ⟨rt, rk, ⟨ra, rb, rc⟩⟩)
      have HA1_3 := Lib.hid (HA1_2.out.below hk3)
      have HA2_3 := Lib.hid (HA2_2.out.below hk3)
      clear hb3 hk3 x0 x1 d0 d1 d2 d3 d4 d5 d6 d7 d8 d9 HR2 HO2 HS2 HA1_2 HA2_2
      obtain ⟨x0, x1, _⟩ := HR3.out
      obtain ⟨d0, d1, d2, d3, d4, d5, d6, d7, d8, d9⟩ := (HAt.out _ HO3.out).cells
      go_wp2_with fail
      (with_reducible refine (HAR.out _).mono ?_)
      rintro e y4 ⟨rfl, hb4⟩
      have hk4 := bt hb4 (ba y4 (.cells #[.int .i64 qt, .int .i64 qk, .int .i64 qa, .int .i64 qb, .int .i64 qc] 24))
      have HR4 := Lib.hid (HR3.out.next hk4)
      have HO4 := Lib.hid (HO3.out.below hk4)
      have HS4 := Lib.hid (HS3.out.below hk4)
      have HA4_4 := Lib.hid (RwAt.new y4 ⟨qt, qk, ⟨qa, qb, qc⟩⟩)
      have HA1_4 := Lib.hid (HA1_3.out.below hk4)
      have HA2_4 := Lib.hid (HA2_3.out.below hk4)
      have HA3_4 := Lib.hid (HA3_3.out.below hk4)
      clear hb4 hk4 x0 x1 d0 d1 d2 d3 d4 d5 d6 d7 d8 d9 HR3 HO3 HS3 HA1_3 HA2_3 HA3_3
      go_upto_region 12 with fail
      generalize hy : y4.alloc (.cells #[.int .i64 qt, .int .i64 qk, .int .i64 qa, .int .i64 qb, .int .i64 qc] 24) = y5 at HR4 HO4 HS4 HA1_4 HA2_4 HA3_4 HA4_4 ⊢
      clear hy
      obtain ⟨xx0, xx1, _⟩ := HR4.out
      have x1 := fun d os => cell_regrown xx1 d os
      clear xx0 xx1
      have hg := fun d os => ChAt_regrown (HAt.out _ HO4.out) d os
      have e0 := fun d os => (ChAt.cells (hg d os)).1
      have e1 := fun d os => (ChAt.cells (hg d os)).2.1
      have e2 := fun d os => (ChAt.cells (hg d os)).2.2.1
      have e3 := fun d os => (ChAt.cells (hg d os)).2.2.2.1
      have e4 := fun d os => (ChAt.cells (hg d os)).2.2.2.2.1
      have e5 := fun d os => (ChAt.cells (hg d os)).2.2.2.2.2.1
      have e6 := fun d os => (ChAt.cells (hg d os)).2.2.2.2.2.2.1
      have e7 := fun d os => (ChAt.cells (hg d os)).2.2.2.2.2.2.2.1
      have e8 := fun d os => (ChAt.cells (hg d os)).2.2.2.2.2.2.2.2.1
      have e9 := fun d os => (ChAt.cells (hg d os)).2.2.2.2.2.2.2.2.2
      have a10 := fun d os => cell_regrown HA1_4.out.c0 d os
      have a11 := fun d os => cell_regrown HA1_4.out.c1 d os
      have a12 := fun d os => cell_regrown HA1_4.out.c2 d os
      have a13 := fun d os => cell_regrown HA1_4.out.c3 d os
      have a14 := fun d os => cell_regrown HA1_4.out.c4 d os
      have a20 := fun d os => cell_regrown HA2_4.out.c0 d os
      have a21 := fun d os => cell_regrown HA2_4.out.c1 d os
      have a22 := fun d os => cell_regrown HA2_4.out.c2 d os
      have a23 := fun d os => cell_regrown HA2_4.out.c3 d os
      have a24 := fun d os => cell_regrown HA2_4.out.c4 d os
      have a30 := fun d os => cell_regrown HA3_4.out.c0 d os
      have a31 := fun d os => cell_regrown HA3_4.out.c1 d os
      have a32 := fun d os => cell_regrown HA3_4.out.c2 d os
      have a33 := fun d os => cell_regrown HA3_4.out.c3 d os
      have a34 := fun d os => cell_regrown HA3_4.out.c4 d os
      have a40 := fun d os => cell_regrown HA4_4.out.c0 d os
      have a41 := fun d os => cell_regrown HA4_4.out.c1 d os
      have a42 := fun d os => cell_regrown HA4_4.out.c2 d os
      have a43 := fun d os => cell_regrown HA4_4.out.c3 d os
      have a44 := fun d os => cell_regrown HA4_4.out.c4 d os
      clear hg HA1_4 HA2_4 HA3_4 HA4_4
      have hv1 : ∀ d os, Calls Tryd.prog 27 #[chV ⟨t, kk, had, ⟨oa, ob, oc⟩, has, ⟨na, nb, nc⟩⟩] (grow (redrawn y5 d) os) fun e w'' => e = .returned (.bool vb) ∧ ∃ p : Regrown, w'' = grow (redrawn y5 p.d) p.os := fun d os => Calls.regrown_of (HVC.out _)
      have hv2 : ∀ d os, Calls Tryd.prog 28 #[chV ⟨t, kk, had, ⟨oa, ob, oc⟩, has, ⟨na, nb, nc⟩⟩] (grow (redrawn y5 d) os) fun e w'' => e = .returned (.bool vb) ∧ ∃ p : Regrown, w'' = grow (redrawn y5 p.d) p.os := fun d os => Calls.regrown_of (HVR.out _)
      have hq1 := fun w => neqRow rt rk ra rb rc rt rk ra rb rc w
      rw [show rowE ⟨rt, rk, ⟨ra, rb, rc⟩⟩ ⟨rt, rk, ⟨ra, rb, rc⟩⟩ = true by simp [rowE]] at hq1
      have hq2 := fun w => neqRow qt qk qa qb qc qt qk qa qb qc w
      rw [show rowE ⟨qt, qk, ⟨qa, qb, qc⟩⟩ ⟨qt, qk, ⟨qa, qb, qc⟩⟩ = true by simp [rowE]] at hq2
      have hh1 : (h1 != h1) = false := by simp
      have hh2 : (h2 != h2) = false := by simp
      have hvv : (vb != vb) = false := by simp
      refine wp_region_quiet_below (by kernel_rfl) (by kernel_rfl) ?_
      repeat (first | go_big_quiet_step (first | with_reducible exact hv1 _ _ | with_reducible exact hv2 _ _) | quiet_step (first | with_reducible exact hv1 _ _ | with_reducible exact hv2 _ _))
      refine wpQuiet_nil ?_
      intro _ hw'
      obtain ⟨⟨dq, osq⟩, hw''⟩ := hw'
      subst hw''
      have hbq := below_regrown y5 dq osq
      have HR8 := Lib.hid (HR4.out.next hbq)
      have HO8 := Lib.hid (HO4.out.below hbq)
      have HS8 := Lib.hid (HS4.out.below hbq)
      clear hq1 hq2 hv1 hv2 x1 e0 e1 e2 e3 e4 e5 e6 e7 e8 e9 a10 a11 a12 a13 a14 a20 a21 a22 a23 a24 a30 a31 a32 a33 a34 a40 a41 a42 a43 a44
      go_wp2_with fail
      exact ⟨⟨k + 1, by omega, by go_num, HR8, HO8, HS8⟩, by simp [intOf]; omega⟩
    · obtain rfl : k = n := by omega
      have HSx : Hid (ChS wr (.slice (some ⟨g1, 0, none⟩) k c1') A) := Lib.hid (HO.out.chs hc1' HN.out.symm)
      obtain ⟨S, sx, he1, he2⟩ := encR_both p (.slice (some ⟨g1, 0, none⟩) k c1') A
      obtain ⟨X, dx, hd1, hd2⟩ := decR_both m HMS.out
      obtain ⟨vb, hv1, hv2⟩ := vrec_both p (.slice (some ⟨g1, 0, none⟩) k c1') A
      obtain ⟨sb, hs1, hs2⟩ := same_both p q (.slice (some ⟨g1, 0, none⟩) k c1') (.slice (some ⟨g2, 0, none⟩) n2 c2') A B
      have HE1 := Lib.hid he1
      have HE2 := Lib.hid he2
      have HD1 := Lib.hid hd1
      have HD2 := Lib.hid hd2
      have HV1 := Lib.hid hv1
      have HV2 := Lib.hid hv2
      have HS1 := Lib.hid hs1
      have HS2 := Lib.hid hs2
      clear he1 he2 hd1 hd2 hv1 hv2 hs1 hs2 HO
      obtain ⟨xp, xl⟩ := X
      obtain ⟨x0, x1, _⟩ := HR.out
      go_wp2_with fail
      (with_reducible refine (HE1.out _ HSx.out).mono ?_)
      rintro e y1 ⟨rfl, hb1⟩
      have HRa := Lib.hid (HR.out.next hb1)
      have HXa := Lib.hid (HSx.out.below hb1)
      have HYa := Lib.hid (HS.out.below hb1)
      clear hb1 HR HSx HS x0 x1
      obtain ⟨x0, x1, _⟩ := HRa.out
      go_wp2_with fail
      (with_reducible refine (HE2.out _ HXa.out).mono ?_)
      rintro e y2 ⟨rfl, hb2⟩
      have HRb := Lib.hid (HRa.out.next hb2)
      have HXb := Lib.hid (HXa.out.below hb2)
      have HYb := Lib.hid (HYa.out.below hb2)
      clear hb2 HRa HXa HYa x0 x1
      go_wp2_with fail
      (with_reducible refine (HD1.out _ (HG.out _ HRb.out.b)).mono ?_)
      rintro e y3 ⟨z1, rfl, hz1, hb3⟩
      obtain ⟨za, zn, zc, rfl⟩ : ∃ a n c, z1 = .slice a n c := by obtain ⟨a, n, c, e, _⟩ := hz1; exact ⟨a, n, c, e⟩
      have hk3 := bt hb3 (ba y3 (.cells #[.int .i64 xp, .slice za zn zc] 37))
      have HRc := Lib.hid (HRb.out.next hk3)
      have HXc := Lib.hid (HXb.out.below hk3)
      have HYc := Lib.hid (HYb.out.below hk3)
      have HZc := Lib.hid (hz1.below (ba y3 (.cells #[.int .i64 xp, .slice za zn zc] 37)))
      have HCc := Lib.hid (RecAt.new y3 xp (.slice za zn zc))
      clear hb3 hk3 hz1 HRb HXb HYb
      go_wp2_with fail
      (with_reducible refine (HD2.out _).mono ?_)
      rintro e y4 ⟨z2, rfl, hz2, hb4⟩
      obtain ⟨za', zn', zc', rfl⟩ : ∃ a n c, z2 = .slice a n c := by obtain ⟨a, n, c, e, _⟩ := hz2; exact ⟨a, n, c, e⟩
      have hk4 := bt hb4 (ba y4 (.cells #[.int .i64 xp, .slice za' zn' zc'] 37))
      have HRd := Lib.hid (HRc.out.next hk4)
      have HXd := Lib.hid (HXc.out.below hk4)
      have HYd := Lib.hid (HYc.out.below hk4)
      have HZd := Lib.hid (HZc.out.below hk4)
      have HCd := Lib.hid (HCc.out.next hk4)
      have HTd := Lib.hid (hz2.below (ba y4 (.cells #[.int .i64 xp, .slice za' zn' zc'] 37)))
      have HDd := Lib.hid (RecAt.new y4 xp (.slice za' zn' zc'))
      clear hb4 hk4 hz2 HRc HXc HYc HZc HCc
      go_upto_region 18 with fail
      generalize hy : y4.alloc (.cells #[.int .i64 xp, .slice za' zn' zc'] 37) = y5 at HRd HXd HYd HZd HCd HTd HDd ⊢
      clear hy
      obtain ⟨xx0, xx1, yy0, yy1, _⟩ := HRd.out
      obtain ⟨cc0, cc1, _⟩ := HCd.out
      obtain ⟨dd0, dd1, _⟩ := HDd.out
      have x0 := fun d os => cell_regrown xx0 d os
      have x1 := fun d os => cell_regrown xx1 d os
      have y0 := fun d os => cell_regrown yy0 d os
      have y1' := fun d os => cell_regrown yy1 d os
      have c0 := fun d os => cell_regrown cc0 d os
      have c1 := fun d os => cell_regrown cc1 d os
      have d0 := fun d os => cell_regrown dd0 d os
      have d1 := fun d os => cell_regrown dd1 d os
      clear xx0 xx1 yy0 yy1 cc0 cc1 dd0 dd1
      have hv1 : ∀ d os, Calls Tryd.prog 33 #[.agg #[.int .i64 p, .slice (some ⟨g1, 0, none⟩) k c1']] (grow (redrawn y5 d) os) fun e w'' => e = .returned (.bool vb) ∧ ∃ p : Regrown, w'' = grow (redrawn y5 p.d) p.os := fun d os => Calls.regrown_of (HV1.out _ (HXd.out.below (below_regrown y5 d os)))
      have hv2 : ∀ d os, Calls Tryd.prog 34 #[.agg #[.int .i64 p, .slice (some ⟨g1, 0, none⟩) k c1']] (grow (redrawn y5 d) os) fun e w'' => e = .returned (.bool vb) ∧ ∃ p : Regrown, w'' = grow (redrawn y5 p.d) p.os := fun d os => Calls.regrown_of (HV2.out _ (HXd.out.below (below_regrown y5 d os)))
      have hr1 : ∀ d os, Calls Tryd.prog 35 #[.agg #[.int .i64 xp, .slice za zn zc], .agg #[.int .i64 xp, .slice za' zn' zc']] (grow (redrawn y5 d) os) fun e w'' => e = .returned (.bool true) ∧ ∃ p : Regrown, w'' = grow (redrawn y5 p.d) p.os := fun d os => Calls.regrown_of (refSame_self xp _ _ xl _ (HZd.out.below (below_regrown y5 d os)) (HTd.out.below (below_regrown y5 d os)))
      have hs1 : ∀ d os, Calls Tryd.prog 36 #[.agg #[.int .i64 p, .slice (some ⟨g1, 0, none⟩) k c1'], .agg #[.int .i64 q, (.slice (some ⟨g2, 0, none⟩) n2 c2')]] (grow (redrawn y5 d) os) fun e w'' => e = .returned (.bool sb) ∧ ∃ p : Regrown, w'' = grow (redrawn y5 p.d) p.os := fun d os => Calls.regrown_of (HS1.out _ (HXd.out.below (below_regrown y5 d os)) (HYd.out.below (below_regrown y5 d os)))
      have hs2 : ∀ d os, Calls Tryd.prog 35 #[.agg #[.int .i64 p, .slice (some ⟨g1, 0, none⟩) k c1'], .agg #[.int .i64 q, (.slice (some ⟨g2, 0, none⟩) n2 c2')]] (grow (redrawn y5 d) os) fun e w'' => e = .returned (.bool sb) ∧ ∃ p : Regrown, w'' = grow (redrawn y5 p.d) p.os := fun d os => Calls.regrown_of (HS2.out _ (HXd.out.below (below_regrown y5 d os)) (HYd.out.below (below_regrown y5 d os)))
      have hs3 : ∀ d os, Calls Tryd.prog 36 #[.agg #[.int .i64 p, .slice (some ⟨g1, 0, none⟩) k c1'], .agg #[.int .i64 p, .slice (some ⟨g1, 0, none⟩) k c1']] (grow (redrawn y5 d) os) fun e w'' => e = .returned (.bool true) ∧ ∃ p : Regrown, w'' = grow (redrawn y5 p.d) p.os := fun d os => Calls.regrown_of (same_self p _ _ A _ (HXd.out.below (below_regrown y5 d os)) (HXd.out.below (below_regrown y5 d os)))
      have hvv : (vb == vb) = true := by simp
      have hsb : (sb == sb) = true := by simp
      have hxx : (sx == sx) = true := by simp
      have hdx : (dx == dx) = true := by simp
      have hss : (S.toList == S.toList) = true := by simp
      refine wp_region_quiet_below (by kernel_rfl) (by kernel_rfl) ?_
      repeat (first | go_big_quiet_step (first | with_reducible exact hv1 _ _ | with_reducible exact hv2 _ _ | with_reducible exact hr1 _ _ | with_reducible exact hs1 _ _ | with_reducible exact hs2 _ _ | with_reducible exact hs3 _ _) | quiet_step (first | with_reducible exact hv1 _ _ | with_reducible exact hv2 _ _ | with_reducible exact hr1 _ _ | with_reducible exact hs1 _ _ | with_reducible exact hs2 _ _ | with_reducible exact hs3 _ _))
      refine wpQuiet_nil ?_
      intro _ hw'
      obtain ⟨⟨dq, osq⟩, hw''⟩ := hw'
      subst hw''
      have HB8 := Lib.hid (HRd.out.next (below_regrown y5 dq osq)).b
      clear hv1 hv2 hr1 hs1 hs2 hs3 x0 x1 y0 y1' c0 c1 d0 d1
      go_wp2_with fail
      go_ret
      exact ⟨rfl, HB8.out⟩
end Go.Proofs.YtgkdliocfnoffaaDoor
