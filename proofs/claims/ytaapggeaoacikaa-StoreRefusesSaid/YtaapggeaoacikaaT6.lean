/- WALKS: StoreRefuses, given what Log does. -/
import Derived.Test.YtaapggeaoacikaaS6
import Derived.Test.YtaapggeaoacikaaV1
import Derived.Deep.DeepCutAuto
import Derived.Deep.Cut
import Derived.StillTailTactics
set_option linter.unusedVariables false
set_option linter.unusedSimpArgs false
namespace Go.Proofs.Ytaapggeaoacikaa
open Go.RowKit Go.Sort Go.ChangeMaps Go.MapKept

/-- Block rb holds a record that is refused. -/
def BadRec (w : World) (rb : Nat) (L : List MRow) (p : Int) : Prop := ∃ pos v cs, w.heap[rb]? = some (.cells #[.int .i64 pos, v] 32 (0, 0)) ∧ ChS w v cs ∧ ¬ Okay L p pos cs ∧ I64 pos

set_option maxRecDepth 100000 in
set_option maxHeartbeats 8000000 in
theorem refuses_of (H : LogWalked) {W : World} {v : Value} {n : Nat} {wh how : Int} (h : XS W v n) (hb : I64 wh) (hc : I64 how) : Calls Try.prog 6 #[v, .int .i64 wh, .int .i64 how] W fun e w' => e = .returned (.bool true) ∧ Below W.heap.size W w' := by
  have HX := Lib.hid h
  have HL := Lib.hid H
  have HBk := Lib.hid hb
  have HBh := Lib.hid hc
  clear h H hb hc
  go_enter Try.func6, Try.ntmps6
  go_wp2_with fail
  (with_reducible refine (sane_any W).mono ?_)
  rintro e w1 ⟨rfl, hb1⟩
  have HB1 := Lib.hid hb1
  have HX1 := Lib.hid (HX.out.below hb1)
  clear hb1
  go_wp2_with fail
  (with_reducible refine (lawLog_of HL.out HX1.out).mono ?_)
  rintro e w0 ⟨R, u, rfl, hrs, hch, hl30, hsm, hb0⟩
  have HRS := Lib.hid hrs
  have HCh := Lib.hid hch
  have HB0 := Lib.hid (bt HB1.out hb0)
  obtain ⟨ra, rn, rcap, rfl, hrn, hrest⟩ := hrs
  subst hrn
  clear hrest hch hsm hb0 HX1 HX
  by_cases h0 : R.length = 0
  · have e0 : ((R.length : Int) == 0) = true := beq_iff_eq.2 (by omega)
    clear h0
    go_wp2_with fail
    go_ret
    exact ⟨rfl, HB0.out⟩
  have e0 : ((R.length : Int) == 0) = false := beq_eq_false_iff_ne.2 (by omega)
  obtain ⟨N, hN⟩ : ∃ N, R.length = N + 1 := ⟨R.length - 1, by omega⟩
  have HN := Lib.hid hN
  have hml : N ≤ R.length := by omega
  have hml2 : N < R.length := by omega
  have hwr : IntKind.i64.wrap ((R.length : Int) - 1) = (N : Int) := by rw [IntKind.wrap_i64]; omega
  have hsub : (R.length : Int) - 1 = (N : Int) := by omega
  clear h0 hN
  go_wp2_with fail
  refine (at_any HRS.out HCh.out N hml).mono ?_
  rintro e w2 ⟨b1, m1, rfl, hs1, ho1, hb2⟩
  have HS1 := Lib.hid hs1
  have HO1 := Lib.hid ho1
  have HB2 := Lib.hid hb2
  clear hs1 ho1 hb2
  go_wp2_with fail
  refine (at_any (HRS.out.below HB2.out) HCh.out N hml).mono ?_
  rintro e w3 ⟨b2, m2, rfl, hs2, ho2, hb3⟩
  have HS13 := Lib.hid (HS1.out.below hb3)
  have HS23 := Lib.hid hs2
  have HB3 := Lib.hid (bt HB2.out hb3)
  clear hs2 ho2 hb3 HS1
  have HOa := Lib.hid (HCh.out N hml2)
  obtain ⟨_, _, _, er, hrn, _, _, hrc⟩ := HRS.out.below HB3.out
  simp at er
  obtain ⟨rfl, rfl, rfl⟩ := er
  obtain ⟨rb, ro, rfl, hrb, hcs⟩ := hrc (by omega)
  obtain ⟨q0, vs, q1, hvs⟩ := hcs N hml2
  obtain ⟨r, Hr⟩ : ∃ r, Hid (R.getD N recZ = r) := ⟨_, Lib.hid rfl⟩
  rw [Hr.out] at q0 hvs HOa
  obtain ⟨pos, cs⟩ := r
  simp only at q0 hvs
  obtain rfl : pos = N + 1 := HOa.out.2.1
  have hcl1 : 1 ≤ cs.length := HOa.out.1.2.1.1
  have hcl8 : cs.length ≤ 8 := HOa.out.1.2.1.2
  have HVs := Lib.hid hvs
  obtain ⟨va, vn, vcap, rfl, hvn, hv1, hv2, hvc⟩ := hvs
  subst hvn
  obtain ⟨vb, vo, rfl, hvb, hva⟩ := hvc hcl1
  have HVa : Hid (∀ i, i < cs.length → ChAt w3 vb (vo + i * 10) (cs.getD i chZ)) := Lib.hid hva
  have hrb3 : rb < w3.heap.size := hrb
  obtain ⟨i0, hI, hZ0, hZ1, hZ2⟩ := info_parts Try.info57c
  clear hrc hcs hrn hvc hva
  go_wp2_with (at_builtin; refine hold ?_)
  refine Lib.hid ?_
  refine wpList_append_grows _ rfl (.tmp 51) (.tmp 53) 30 rfl 57 i0 _ 10 80 Try.underlying30 hI hZ0 hZ1 hZ2 rfl (by decide) (some ⟨w3.heap.size + 1, 0, none⟩) 0 0 [] rfl (by simp) rfl (by simp) ⟨vb, vo, none⟩ cs.length vcap (flatC cs) rfl (flatC_len cs) (ch_news (fun i hi => (HVa.out i hi).below hvb (bt (ba w3 _) (ba _ _)))) (flatC_one cs) (by omega) (by unfold maxLen; omega) (by omega) ?_
  intro v5 w5 hown5 hgrow5
  have HG5 := Lib.hid hgrow5
  have HO5 : Hid (OwnC w5 w3.heap.size v5 cs) := Lib.hid (by
    rw [Nat.zero_add, List.nil_append] at hown5
    exact OwnC.mono hown5 (Nat.le_trans (ba w3 _).size (ba _ _).size))
  have HB35 : Hid (Below w3.heap.size w3 w5) := Lib.hid ((bt (ba w3 _) (ba _ _)).grown HG5.out (Nat.le_trans (ba w3 _).size (ba _ _).size) (fun k hk => by cases hk))
  have HR5 : Hid (w5.heap[w3.heap.size]? = some (.cells #[.int .i64 ((N : Int) + 1), .slice (some ⟨vb, vo, none⟩) cs.length vcap] 32 (0, 0))) := Lib.hid ((HG5.out.block _ (by simp; omega) (fun e => by cases e)).trans (((ba (w3.alloc _) _).block _ (by simp)).trans (heap_alloc_new w3 _)))
  clear hown5 hgrow5
  obtain ⟨ga, gn, cap5, rfl⟩ := ownC_form2 HO5.out
  obtain ⟨rfl, hg1, hg2, hg3⟩ := ownC_cases HO5.out
  obtain ⟨g, rfl, hglt⟩ : ∃ g, ga = some ⟨g, 0, none⟩ ∧ g < w5.heap.size := by
    rcases hg3 with ⟨_, _, e⟩ | h
    · rw [e] at hcl1; simp at hcl1
    · exact h
  have HCa5 := Lib.hid (call_own HO5.out hcl1)
  have hgne : g ≠ w3.heap.size := fun e => by
    obtain ⟨_, cur, h1⟩ := own_type HO5.out rfl
    exact type_ne h1 HR5.out (by decide) e
  have hz35 : w3.heap.size < w5.heap.size := lt_of_block HR5.out
  have k1 : w5.cell? ⟨w3.heap.size, 1, none⟩ = some (.slice (some ⟨vb, vo, none⟩) cs.length vcap) := by simp [World.cell?, HR5.out]
  have kf : w5.frozen? ⟨w3.heap.size, 1, none⟩ = false := by simp [World.frozen?, HR5.out]
  clear hg3
  go_upto_region 11 with fail
  generalize hw6 : w5.setCell ⟨w3.heap.size, 1, none⟩ (.slice (some ⟨g, 0, none⟩) cs.length cap5) = w6
  have HK56 : Hid (Kept (fun i => i = w3.heap.size) w5 w6) := Lib.hid (by rw [← hw6]; exact Kept.setCell (F := fun i => i = w3.heap.size) (p := ⟨w3.heap.size, 1, none⟩) (Kept.refl _ _) (.inl rfl) _)
  have HR6 : Hid (w6.heap[w3.heap.size]? = some (.cells #[.int .i64 ((N : Int) + 1), .slice (some ⟨g, 0, none⟩) cs.length cap5] 32 (0, 0))) := Lib.hid (by rw [← hw6]; exact setCell_heap HR5.out 1 _)
  have HO6 := Lib.hid (HO5.out.kept HK56.out (fun i hi e => by simp [Value.ownBlock] at hi; omega))
  have HB36 : Hid (Below w3.heap.size w3 w6) := Lib.hid (by rw [← hw6]; exact HB35.out.setCell (p := ⟨w3.heap.size, 1, none⟩) (Nat.le_refl _) _)
  clear hw6 k1 kf HK56 HR5 HB35 HG5
  have hz36 : w3.heap.size < w6.heap.size := lt_of_block HR6.out
  have k1 : w6.cell? ⟨w3.heap.size, 1, none⟩ = some (.slice (some ⟨g, 0, none⟩) cs.length cap5) := by simp [World.cell?, HR6.out]
  have hpr := pk_range wh (n := (cs.length : Int)) (by omega)
  obtain ⟨q, hq⟩ : ∃ q : Nat, pk wh (cs.length : Int) = q := ⟨(pk wh (cs.length : Int)).toNat, by omega⟩
  have hql : q < cs.length := by omega
  have hqi : (q : Int) < cs.length := by omega
  have HPk : ∀ w, Calls Try.prog 18 #[.int .i64 wh, .int .i64 cs.length] w fun e w' => e = .returned (.int .i64 q) ∧ w' = w := fun w => (pick_any wh cs.length w HBk.out (by omega) (by omega)).mono fun e w' ⟨he, hw⟩ => ⟨by rw [he, hq], hw.symm⟩
  clear hpr hq
  go_quiet ((go_at_call 18; exact Calls.quiet_of_same (HPk _)))
  generalize hwd : w6.drewN nq = wd
  have HBd : Hid (Below w3.heap.size w3 wd) := Lib.hid (by rw [← hwd]; exact bt HB36.out (below_drewN w6 nq))
  have HRd : Hid (wd.heap[w3.heap.size]? = some (.cells #[.int .i64 ((N : Int) + 1), .slice (some ⟨g, 0, none⟩) cs.length cap5] 32 (0, 0))) := Lib.hid (by rw [← hwd]; exact ((below_drewN w6 nq).block _ hz36).trans HR6.out)
  have HOd : Hid (OwnC wd w3.heap.size (.slice (some ⟨g, 0, none⟩) cs.length cap5) cs) := Lib.hid (by rw [← hwd]; exact HO6.out.below (below_drewN w6 nq))
  clear hwd HPk k1 HB36 HR6 HO6 HO5 HCa5
  have HCd := Lib.hid (call_own HOd.out hcl1)
  have hgg : w3.heap.size ≤ g := (own_type HOd.out (g := g) rfl).1
  have hgd : g < wd.heap.size := by
    obtain ⟨_, _, _, h3⟩ := ownC_cases HOd.out
    rcases h3 with ⟨e, _⟩ | ⟨g', e, h⟩
    · simp at e
    · simp at e; rw [e]; exact h
  have HQ0 := Lib.hid q0
  have HQ1 := Lib.hid q1
  have hdz : w3.heap.size < wd.heap.size := lt_of_block HRd.out
  have z0 : wd.cell? ⟨w3.heap.size, 0, none⟩ = some (.int .i64 ((N : Int) + 1)) := by simp [World.cell?, HRd.out]
  have z1 : wd.cell? ⟨w3.heap.size, 1, none⟩ = some (.slice (some ⟨g, 0, none⟩) cs.length cap5) := by simp [World.cell?, HRd.out]
  have zf0 : wd.frozen? ⟨w3.heap.size, 0, none⟩ = false := by simp [World.frozen?, HRd.out]
  have zf1 : wd.frozen? ⟨w3.heap.size, 1, none⟩ = false := by simp [World.frozen?, HRd.out]
  obtain ⟨⟨ct, ck, chad, ⟨coa, cob, coc⟩, chas, ⟨cna, cnb, cnc⟩⟩, Hlc⟩ : ∃ c, Hid (cs.getD q chZ = c) := ⟨_, Lib.hid rfl⟩
  have HCm := HCd.out q hql
  rw [Hlc.out] at HCm
  obtain ⟨d0, d1, d2, d3, d4, d5, d6, d7, d8, d9⟩ := HCm.cells
  have df : ∀ j, wd.frozen? ⟨g, j, none⟩ = false := fun j => by
    obtain ⟨_, cur, h1⟩ := own_type HOd.out (g := g) rfl
    simp [World.frozen?, h1]
  clear HCm d0 d1 d6 d7 d8 d9 q0 q1
  have hpr := pk_range how (n := 4) (by omega)
  obtain ⟨z, hz⟩ : ∃ z : Nat, pk how 4 = z := ⟨(pk how 4).toNat, by omega⟩
  have HPk2 := Lib.hid (pick_any how 4 wd HBh.out (by omega) (by omega))
  rw [hz] at HPk2
  have hz4 : z < 4 := by omega
  clear hpr hz
  have hvc := vrec_mem HOa.out.1 _ (getD_mem (d := chZ) hql)
  have hfc := HOa.out.2.2.1 _ (getD_mem (d := chZ) hql)
  rw [Hlc.out] at hvc hfc
  have HVc := Lib.hid hvc
  have HFc := Lib.hid hfc
  clear hvc hfc
  obtain rfl | rfl | rfl | rfl : z = 0 ∨ z = 1 ∨ z = 2 ∨ z = 3 := by omega
  · go_wp2_with (first | (go_at_call 18; (with_reducible refine HPk2.out.mono ?_); rintro e wx ⟨rfl, rfl⟩))
    generalize hwz : wd.setCell ⟨w3.heap.size, 0, none⟩ (.int .i64 ((N : Int) + 1 + 1)) = wz
    have HR7 : Hid (wz.heap[w3.heap.size]? = some (.cells #[.int .i64 ((N : Int) + 1 + 1), .slice (some ⟨g, 0, none⟩) cs.length cap5] 32 (0, 0))) := Lib.hid (by rw [← hwz]; exact setCell_heap HRd.out 0 _)
    have HBz : Hid (Below w3.heap.size w3 wz) := Lib.hid (by rw [← hwz]; exact HBd.out.setCell (p := ⟨w3.heap.size, 0, none⟩) (Nat.le_refl _) _)
    have HCz : Hid (ChS wz (.slice (some ⟨g, 0, none⟩) cs.length cap5) cs) := Lib.hid (by
      rw [← hwz]
      exact (HOd.out.kept (Kept.setCell (F := fun i => i = w3.heap.size) (p := ⟨w3.heap.size, 0, none⟩) (Kept.refl _ _) (.inl rfl) _) (fun i hi e => by simp [Value.ownBlock] at hi; omega)).chS)
    have HBad := Lib.hid (bad_pos HOa.out)
    clear hwz z0 z1 zf0 zf1 d2 d3 d4 d5 df
    have hz3 : w3.heap.size < wz.heap.size := lt_of_block HR7.out
    have x0 : wz.cell? ⟨w3.heap.size, 0, none⟩ = some (.int .i64 ((N : Int) + 1 + 1)) := by simp [World.cell?, HR7.out]
    have x1 : wz.cell? ⟨w3.heap.size, 1, none⟩ = some (.slice (some ⟨g, 0, none⟩) cs.length cap5) := by simp [World.cell?, HR7.out]
    go_wp2_with fail
    refine (apply_bad (HS13.out.below HBz.out) HCz.out HBad.out).mono ?_
    rintro e w8 ⟨rfl, hb8⟩
    have HB8 := Lib.hid (bt HBz.out hb8)
    clear hb8 x0 x1
    go_wp2_with fail
    refine (equal_true (HS13.out.below HB8.out) (HS23.out.below HB8.out)).mono ?_
    rintro e w9 ⟨rfl, hb9⟩
    have HB9 := Lib.hid (bt HB8.out hb9)
    clear hb9
    go_wp2_with fail
    (with_reducible refine (position_any (HS13.out.below HB9.out)).mono ?_)
    rintro e wx ⟨rfl, rfl⟩
    go_wp2_with fail
    (with_reducible refine (position_any (HS23.out.below HB9.out)).mono ?_)
    rintro e wx ⟨rfl, rfl⟩
    have y0 := (HB9.out.cell (p := ⟨rb, ro + N * 2, none⟩) hrb3).trans HQ0.out
    have y1 := (HB9.out.cell (p := ⟨rb, ro + N * 2 + 1, none⟩) hrb3).trans HQ1.out
    have hrb9 : rb < w9.heap.size := Nat.lt_of_lt_of_le hrb3 HB9.out.size
    go_wp2_with fail
    refine (apply_ok (HS13.out.below HB9.out) (HVs.out.below HB9.out) HOa.out).mono ?_
    rintro e wf ⟨rfl, m6, hst, hkt, hm6⟩
    have HBf : Hid (Below W.heap.size W wf) := Lib.hid (((Kept.of_below (F := foot b1 m1) (bt HB0.out (bt HB3.out HB9.out))).trans hkt (fun _ _ f => f)).below (Nat.le_refl _) (fun x f => by
      have := HB0.out.size
      rcases f with rfl | f
      · have := HO1.out.1; omega
      · have := HO1.out.2 x f; omega))
    clear hst hkt hm6
    go_wp2_with fail
    go_ret
    exact ⟨rfl, HBf.out⟩
  · cases chad
    · go_wp2_with (first | (go_at_call 18; (with_reducible refine HPk2.out.mono ?_); rintro e wx ⟨rfl, rfl⟩))
      generalize hwz : (((wd.setCell ⟨g, q * 10 + 2, none⟩ (.bool true)).setCell ⟨g, q * 10 + 3, none⟩ (.int .i64 0)).setCell ⟨g, q * 10 + 3 + 1, none⟩ (.int .i64 0)).setCell ⟨g, q * 10 + 3 + 2, none⟩ (.int .i64 0) = wz
      have HKz : Hid (Kept (fun i => i = g) wd wz) := Lib.hid (by rw [← hwz]; exact ks (ks (ks (ks (Kept.refl _ _) _ _) _ _) _ _) _ _)
      have HR7 : Hid (wz.heap[w3.heap.size]? = some (.cells #[.int .i64 ((N : Int) + 1), .slice (some ⟨g, 0, none⟩) cs.length cap5] 32 (0, 0))) := Lib.hid ((HKz.out.block _ hdz (fun e => hgne e.symm)).trans HRd.out)
      have HBz : Hid (Below w3.heap.size w3 wz) := Lib.hid (((Kept.of_below (F := fun i => i = g) HBd.out).trans HKz.out (fun _ _ f => f)).below (Nat.le_refl _) (fun i e => by rw [e]; exact hgg))
      have HCz : Hid (ChS wz (.slice (some ⟨g, 0, none⟩) cs.length cap5) (cs.set q ⟨ct, ck, true, ⟨0, 0, 0⟩, chas, ⟨cna, cnb, cnc⟩⟩)) := Lib.hid (call_chS (by rw [← hwz]; exact call_had HCd.out hql Hlc.out true) (by simp) hg1 hg2 (Nat.lt_of_lt_of_le hgd HKz.out.size))
      have HBad := Lib.hid (bad_set (p := (N : Int)) (pos := (N : Int) + 1) (L := rowsOf (R.take N)) hql (bad_had HFc.out))
      clear hwz z0 z1 zf0 zf1 d2 d3 d4 d5 df
      have hz3 : w3.heap.size < wz.heap.size := lt_of_block HR7.out
      have x0 : wz.cell? ⟨w3.heap.size, 0, none⟩ = some (.int .i64 ((N : Int) + 1)) := by simp [World.cell?, HR7.out]
      have x1 : wz.cell? ⟨w3.heap.size, 1, none⟩ = some (.slice (some ⟨g, 0, none⟩) cs.length cap5) := by simp [World.cell?, HR7.out]
      go_wp2_with fail
      refine (apply_bad (HS13.out.below HBz.out) HCz.out HBad.out).mono ?_
      rintro e w8 ⟨rfl, hb8⟩
      have HB8 := Lib.hid (bt HBz.out hb8)
      clear hb8 x0 x1
      go_wp2_with fail
      refine (equal_true (HS13.out.below HB8.out) (HS23.out.below HB8.out)).mono ?_
      rintro e w9 ⟨rfl, hb9⟩
      have HB9 := Lib.hid (bt HB8.out hb9)
      clear hb9
      go_wp2_with fail
      (with_reducible refine (position_any (HS13.out.below HB9.out)).mono ?_)
      rintro e wx ⟨rfl, rfl⟩
      go_wp2_with fail
      (with_reducible refine (position_any (HS23.out.below HB9.out)).mono ?_)
      rintro e wx ⟨rfl, rfl⟩
      have y0 := (HB9.out.cell (p := ⟨rb, ro + N * 2, none⟩) hrb3).trans HQ0.out
      have y1 := (HB9.out.cell (p := ⟨rb, ro + N * 2 + 1, none⟩) hrb3).trans HQ1.out
      have hrb9 : rb < w9.heap.size := Nat.lt_of_lt_of_le hrb3 HB9.out.size
      go_wp2_with fail
      refine (apply_ok (HS13.out.below HB9.out) (HVs.out.below HB9.out) HOa.out).mono ?_
      rintro e wf ⟨rfl, m6, hst, hkt, hm6⟩
      have HBf : Hid (Below W.heap.size W wf) := Lib.hid (((Kept.of_below (F := foot b1 m1) (bt HB0.out (bt HB3.out HB9.out))).trans hkt (fun _ _ f => f)).below (Nat.le_refl _) (fun x f => by
        have := HB0.out.size
        rcases f with rfl | f
        · have := HO1.out.1; omega
        · have := HO1.out.2 x f; omega))
      clear hst hkt hm6
      go_wp2_with fail
      go_ret
      exact ⟨rfl, HBf.out⟩
    · go_wp2_with (first | (go_at_call 18; (with_reducible refine HPk2.out.mono ?_); rintro e wx ⟨rfl, rfl⟩))
      generalize hwz : (((wd.setCell ⟨g, q * 10 + 2, none⟩ (.bool false)).setCell ⟨g, q * 10 + 3, none⟩ (.int .i64 0)).setCell ⟨g, q * 10 + 3 + 1, none⟩ (.int .i64 0)).setCell ⟨g, q * 10 + 3 + 2, none⟩ (.int .i64 0) = wz
      have HKz : Hid (Kept (fun i => i = g) wd wz) := Lib.hid (by rw [← hwz]; exact ks (ks (ks (ks (Kept.refl _ _) _ _) _ _) _ _) _ _)
      have HR7 : Hid (wz.heap[w3.heap.size]? = some (.cells #[.int .i64 ((N : Int) + 1), .slice (some ⟨g, 0, none⟩) cs.length cap5] 32 (0, 0))) := Lib.hid ((HKz.out.block _ hdz (fun e => hgne e.symm)).trans HRd.out)
      have HBz : Hid (Below w3.heap.size w3 wz) := Lib.hid (((Kept.of_below (F := fun i => i = g) HBd.out).trans HKz.out (fun _ _ f => f)).below (Nat.le_refl _) (fun i e => by rw [e]; exact hgg))
      have HCz : Hid (ChS wz (.slice (some ⟨g, 0, none⟩) cs.length cap5) (cs.set q ⟨ct, ck, false, ⟨0, 0, 0⟩, chas, ⟨cna, cnb, cnc⟩⟩)) := Lib.hid (call_chS (by rw [← hwz]; exact call_had HCd.out hql Hlc.out false) (by simp) hg1 hg2 (Nat.lt_of_lt_of_le hgd HKz.out.size))
      have HBad := Lib.hid (bad_set (p := (N : Int)) (pos := (N : Int) + 1) (L := rowsOf (R.take N)) hql (bad_had HFc.out))
      clear hwz z0 z1 zf0 zf1 d2 d3 d4 d5 df
      have hz3 : w3.heap.size < wz.heap.size := lt_of_block HR7.out
      have x0 : wz.cell? ⟨w3.heap.size, 0, none⟩ = some (.int .i64 ((N : Int) + 1)) := by simp [World.cell?, HR7.out]
      have x1 : wz.cell? ⟨w3.heap.size, 1, none⟩ = some (.slice (some ⟨g, 0, none⟩) cs.length cap5) := by simp [World.cell?, HR7.out]
      go_wp2_with fail
      refine (apply_bad (HS13.out.below HBz.out) HCz.out HBad.out).mono ?_
      rintro e w8 ⟨rfl, hb8⟩
      have HB8 := Lib.hid (bt HBz.out hb8)
      clear hb8 x0 x1
      go_wp2_with fail
      refine (equal_true (HS13.out.below HB8.out) (HS23.out.below HB8.out)).mono ?_
      rintro e w9 ⟨rfl, hb9⟩
      have HB9 := Lib.hid (bt HB8.out hb9)
      clear hb9
      go_wp2_with fail
      (with_reducible refine (position_any (HS13.out.below HB9.out)).mono ?_)
      rintro e wx ⟨rfl, rfl⟩
      go_wp2_with fail
      (with_reducible refine (position_any (HS23.out.below HB9.out)).mono ?_)
      rintro e wx ⟨rfl, rfl⟩
      have y0 := (HB9.out.cell (p := ⟨rb, ro + N * 2, none⟩) hrb3).trans HQ0.out
      have y1 := (HB9.out.cell (p := ⟨rb, ro + N * 2 + 1, none⟩) hrb3).trans HQ1.out
      have hrb9 : rb < w9.heap.size := Nat.lt_of_lt_of_le hrb3 HB9.out.size
      go_wp2_with fail
      refine (apply_ok (HS13.out.below HB9.out) (HVs.out.below HB9.out) HOa.out).mono ?_
      rintro e wf ⟨rfl, m6, hst, hkt, hm6⟩
      have HBf : Hid (Below W.heap.size W wf) := Lib.hid (((Kept.of_below (F := foot b1 m1) (bt HB0.out (bt HB3.out HB9.out))).trans hkt (fun _ _ f => f)).below (Nat.le_refl _) (fun x f => by
        have := HB0.out.size
        rcases f with rfl | f
        · have := HO1.out.1; omega
        · have := HO1.out.2 x f; omega))
      clear hst hkt hm6
      go_wp2_with fail
      go_ret
      exact ⟨rfl, HBf.out⟩
  · go_wp2_with (first | (go_at_call 18; (with_reducible refine HPk2.out.mono ?_); rintro e wx ⟨rfl, rfl⟩))
    have hcb := old_bound HVc.out
    have hwb : IntKind.i64.wrap (cob + 1) = cob + 1 := by rw [IntKind.wrap_i64]; omega
    go_still_tail 10, (by kernel_rfl)
    change wpList _ _ _ _ _ wd.drew
    generalize hwe : wd.drew = we
    have HBe0 : Hid (Below wd.heap.size wd we) := Lib.hid (by rw [← hwe]; exact (Below.refl _ _).drew)
    clear z0 z1 zf0 zf1 d2 d3 d4 d5 df hwe
    have HBe : Hid (Below w3.heap.size w3 we) := Lib.hid (bt HBd.out HBe0.out)
    have HRe : Hid (we.heap[w3.heap.size]? = some (.cells #[.int .i64 ((N : Int) + 1), .slice (some ⟨g, 0, none⟩) cs.length cap5] 32 (0, 0))) := Lib.hid ((HBe0.out.block _ hdz).trans HRd.out)
    have HCe := Lib.hid (call_below HCd.out hgd HBe0.out)
    have hge : g < we.heap.size := Nat.lt_of_lt_of_le hgd HBe0.out.size
    have hez : w3.heap.size < we.heap.size := lt_of_block HRe.out
    have z0 : we.cell? ⟨w3.heap.size, 0, none⟩ = some (.int .i64 ((N : Int) + 1)) := by simp [World.cell?, HRe.out]
    have z1 : we.cell? ⟨w3.heap.size, 1, none⟩ = some (.slice (some ⟨g, 0, none⟩) cs.length cap5) := by simp [World.cell?, HRe.out]
    have HCm := HCe.out q hql
    rw [Hlc.out] at HCm
    obtain ⟨_, _, _, _, d4, _⟩ := HCm.cells
    have df : ∀ j, we.frozen? ⟨g, j, none⟩ = false := fun j => by
      obtain ⟨_, cur, h1⟩ := own_type (HOd.out.below HBe0.out) (g := g) rfl
      simp [World.frozen?, h1]
    clear HCm
    go_wp2_with fail
    generalize hwz : we.setCell ⟨g, q * 10 + 3 + 1, none⟩ (.int .i64 (cob + 1)) = wz
    have HKz : Hid (Kept (fun i => i = g) we wz) := Lib.hid (by rw [← hwz]; exact ks (Kept.refl _ _) _ _)
    have HR7 : Hid (wz.heap[w3.heap.size]? = some (.cells #[.int .i64 ((N : Int) + 1), .slice (some ⟨g, 0, none⟩) cs.length cap5] 32 (0, 0))) := Lib.hid ((HKz.out.block _ hez (fun e => hgne e.symm)).trans HRe.out)
    have HBz : Hid (Below w3.heap.size w3 wz) := Lib.hid (((Kept.of_below (F := fun i => i = g) HBe.out).trans HKz.out (fun _ _ f => f)).below (Nat.le_refl _) (fun i e => by rw [e]; exact hgg))
    have HCz : Hid (ChS wz (.slice (some ⟨g, 0, none⟩) cs.length cap5) (cs.set q ⟨ct, ck, chad, ⟨coa, cob + 1, coc⟩, chas, ⟨cna, cnb, cnc⟩⟩)) := Lib.hid (call_chS (by rw [← hwz]; exact call_old HCe.out hql Hlc.out (cob + 1)) (by simp) hg1 hg2 (Nat.lt_of_lt_of_le hge HKz.out.size))
    have HBad := Lib.hid (bad_set (p := (N : Int)) (pos := (N : Int) + 1) (L := rowsOf (R.take N)) hql (bad_old HFc.out HVc.out))
    clear hwz z0 z1 d4 df hwb
    have hz3 : w3.heap.size < wz.heap.size := lt_of_block HR7.out
    have x0 : wz.cell? ⟨w3.heap.size, 0, none⟩ = some (.int .i64 ((N : Int) + 1)) := by simp [World.cell?, HR7.out]
    have x1 : wz.cell? ⟨w3.heap.size, 1, none⟩ = some (.slice (some ⟨g, 0, none⟩) cs.length cap5) := by simp [World.cell?, HR7.out]
    go_wp2_with fail
    refine (apply_bad (HS13.out.below HBz.out) HCz.out HBad.out).mono ?_
    rintro e w8 ⟨rfl, hb8⟩
    have HB8 := Lib.hid (bt HBz.out hb8)
    clear hb8 x0 x1
    go_wp2_with fail
    refine (equal_true (HS13.out.below HB8.out) (HS23.out.below HB8.out)).mono ?_
    rintro e w9 ⟨rfl, hb9⟩
    have HB9 := Lib.hid (bt HB8.out hb9)
    clear hb9
    go_wp2_with fail
    (with_reducible refine (position_any (HS13.out.below HB9.out)).mono ?_)
    rintro e wx ⟨rfl, rfl⟩
    go_wp2_with fail
    (with_reducible refine (position_any (HS23.out.below HB9.out)).mono ?_)
    rintro e wx ⟨rfl, rfl⟩
    have y0 := (HB9.out.cell (p := ⟨rb, ro + N * 2, none⟩) hrb3).trans HQ0.out
    have y1 := (HB9.out.cell (p := ⟨rb, ro + N * 2 + 1, none⟩) hrb3).trans HQ1.out
    have hrb9 : rb < w9.heap.size := Nat.lt_of_lt_of_le hrb3 HB9.out.size
    go_wp2_with fail
    refine (apply_ok (HS13.out.below HB9.out) (HVs.out.below HB9.out) HOa.out).mono ?_
    rintro e wf ⟨rfl, m6, hst, hkt, hm6⟩
    have HBf : Hid (Below W.heap.size W wf) := Lib.hid (((Kept.of_below (F := foot b1 m1) (bt HB0.out (bt HB3.out HB9.out))).trans hkt (fun _ _ f => f)).below (Nat.le_refl _) (fun x f => by
      have := HB0.out.size
      rcases f with rfl | f
      · have := HO1.out.1; omega
      · have := HO1.out.2 x f; omega))
    clear hst hkt hm6
    go_wp2_with fail
    go_ret
    exact ⟨rfl, HBf.out⟩
  · go_wp2_with (first | (go_at_call 18; (with_reducible refine HPk2.out.mono ?_); rintro e wx ⟨rfl, rfl⟩))
    generalize hwz : wd.setCell ⟨w3.heap.size, 1, none⟩ (.slice none 0 0) = wz
    have HR7 : Hid (wz.heap[w3.heap.size]? = some (.cells #[.int .i64 ((N : Int) + 1), .slice none 0 0] 32 (0, 0))) := Lib.hid (by rw [← hwz]; exact setCell_heap HRd.out 1 _)
    have HBz : Hid (Below w3.heap.size w3 wz) := Lib.hid (by rw [← hwz]; exact HBd.out.setCell (p := ⟨w3.heap.size, 1, none⟩) (Nat.le_refl _) _)
    have HCz : Hid (ChS wz (.slice none 0 0) []) := Lib.hid ⟨none, 0, 0, rfl, rfl, Nat.le_refl _, by omega, fun h => by omega⟩
    have HBad := Lib.hid (bad_nil (L := rowsOf (R.take N)) (p := (N : Int)) (pos := (N : Int) + 1))
    clear hwz z0 z1 zf0 zf1 d2 d3 d4 d5 df
    have hz3 : w3.heap.size < wz.heap.size := lt_of_block HR7.out
    have x0 : wz.cell? ⟨w3.heap.size, 0, none⟩ = some (.int .i64 ((N : Int) + 1)) := by simp [World.cell?, HR7.out]
    have x1 : wz.cell? ⟨w3.heap.size, 1, none⟩ = some (.slice none 0 0) := by simp [World.cell?, HR7.out]
    go_wp2_with fail
    refine (apply_bad (HS13.out.below HBz.out) HCz.out HBad.out).mono ?_
    rintro e w8 ⟨rfl, hb8⟩
    have HB8 := Lib.hid (bt HBz.out hb8)
    clear hb8 x0 x1
    go_wp2_with fail
    refine (equal_true (HS13.out.below HB8.out) (HS23.out.below HB8.out)).mono ?_
    rintro e w9 ⟨rfl, hb9⟩
    have HB9 := Lib.hid (bt HB8.out hb9)
    clear hb9
    go_wp2_with fail
    (with_reducible refine (position_any (HS13.out.below HB9.out)).mono ?_)
    rintro e wx ⟨rfl, rfl⟩
    go_wp2_with fail
    (with_reducible refine (position_any (HS23.out.below HB9.out)).mono ?_)
    rintro e wx ⟨rfl, rfl⟩
    have y0 := (HB9.out.cell (p := ⟨rb, ro + N * 2, none⟩) hrb3).trans HQ0.out
    have y1 := (HB9.out.cell (p := ⟨rb, ro + N * 2 + 1, none⟩) hrb3).trans HQ1.out
    have hrb9 : rb < w9.heap.size := Nat.lt_of_lt_of_le hrb3 HB9.out.size
    go_wp2_with fail
    refine (apply_ok (HS13.out.below HB9.out) (HVs.out.below HB9.out) HOa.out).mono ?_
    rintro e wf ⟨rfl, m6, hst, hkt, hm6⟩
    have HBf : Hid (Below W.heap.size W wf) := Lib.hid (((Kept.of_below (F := foot b1 m1) (bt HB0.out (bt HB3.out HB9.out))).trans hkt (fun _ _ f => f)).below (Nat.le_refl _) (fun x f => by
      have := HB0.out.size
      rcases f with rfl | f
      · have := HO1.out.1; omega
      · have := HO1.out.2 x f; omega))
    clear hst hkt hm6
    go_wp2_with fail
    go_ret
    exact ⟨rfl, HBf.out⟩
end Go.Proofs.Ytaapggeaoacikaa
