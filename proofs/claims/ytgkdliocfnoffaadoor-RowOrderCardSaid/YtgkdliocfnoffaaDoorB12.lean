/- WALKS: RowOrder. -/
import Derived.Test.YtgkdliocfnoffaaDoorB11
import Derived.Test.YtgkdliocfnoffaaDoorB9
import Derived.Deep.AppendLies
import Derived.Deep.Cut
set_option linter.unusedVariables false
set_option linter.unusedSimpArgs false
namespace Go.Proofs.YtgkdliocfnoffaaDoor
open Go.RowKit Go.Sort

set_option maxRecDepth 100000 in
set_option maxHeartbeats 4000000 in
theorem order_bad (p i k : Int) (u : Value) (L : List MCh) (W : World) (hE : Errs W) (hu : ChI W u L) (hv : ¬ VRec p (L.take 10)) : Calls Tryd.prog 10 #[.agg #[.int .i64 p, u], .int .i64 i, .int .i64 k] W fun e w' => e = .returned (.bool true) ∧ Below W.heap.size W w' := by
  have HG : Hid (∀ w', Below W.heap.size W w' → Errs w') := Lib.hid (fun w' h => hE.below h)
  have HU := Lib.hid hu
  have HV := Lib.hid hv
  obtain ⟨ua, un, uc, rfl⟩ : ∃ a n c, u = .slice a n c := by obtain ⟨a, n, c, e, _⟩ := hu; exact ⟨a, n, c, e⟩
  clear hE hu hv
  go_enter Tryd.func10, Tryd.ntmps10
  have HX0 := Lib.hid (RecAt.new W p (.slice ua un uc))
  go_wp2_with fail
  (with_reducible refine (sane_any _ (HG.out _ (ba _ _))).mono ?_)
  rintro e w1 ⟨rfl, hb1⟩
  have HB1 := Lib.hid (bt (ba W (.cells #[.int .i64 p, .slice ua un uc] 37)) hb1)
  have HX1 := Lib.hid (HX0.out.next hb1)
  clear hb1 HX0
  obtain ⟨c0, c1, f0, f1⟩ := HX1.out
  go_wp2_with fail
  (with_reducible refine (cutO_any p _ L _ (HU.out.below HB1.out)).mono ?_)
  rintro e w2 ⟨u1, rfl, ho1, hb2⟩
  obtain ⟨g1, c1', rfl, hg1, hc1, ho1⟩ := ho1
  have hX1 := HX1.out.lt
  have HX2 := Lib.hid (HX1.out.next hb2)
  have HB2 := Lib.hid (bt HB1.out hb2)
  have HO2 := Lib.hid ho1
  have hgX : ¬ g1 = W.heap.size := by omega
  clear hb2 ho1 c0 c1 f0 f1 HX1 HB1 HU
  obtain ⟨A, HA⟩ : ∃ A, Hid (L.take 10 = A) := ⟨_, Lib.hid rfl⟩
  rw [HA.out] at HO2 HV
  obtain ⟨n, HN⟩ : ∃ n, Hid (A.length = n) := ⟨_, Lib.hid rfl⟩
  rw [HA.out, HN.out]
  obtain ⟨c0, c1, f0, f1⟩ := HX2.out
  obtain ⟨w3, Hw3⟩ : ∃ w3, Hid ((w2.setCell ⟨W.heap.size, 0, none⟩ (.int .i64 p)).setCell ⟨W.heap.size, 1, none⟩ (.slice (some ⟨g1, 0, none⟩) n c1') = w3) := ⟨_, Lib.hid rfl⟩
  have HX3 := Lib.hid (HX2.out.set _ _ Hw3.out)
  have HO3 : Hid (OwnAt w3 g1 c1' A) := Lib.hid (by rw [← Hw3.out]; exact (HO2.out.far hgX _ _).far hgX _ _)
  have HB3 : Hid (Below W.heap.size W w3) := Lib.hid (by rw [← Hw3.out]; exact below_setCell (below_setCell HB2.out (by simp) _) (by simp) _)
  clear HX2 HO2 HB2 hX1
  go_wp2_with fail
  rw [Hw3.out]
  clear c0 c1 f0 f1 Hw3
  obtain ⟨c0, c1, f0, f1⟩ := HX3.out
  go_wp2_with fail
  (with_reducible refine (vrecC_f p _ A _ (HO3.out.chs hc1 HN.out.symm) HV.out).mono ?_)
  rintro e w4 ⟨rfl, hb4⟩
  have HB4 := Lib.hid (bt HB3.out hb4)
  go_wp2_with fail
  go_ret
  exact ⟨rfl, HB4.out⟩

set_option maxRecDepth 100000 in
set_option maxHeartbeats 8000000 in
theorem order_good (p i k : Int) (u : Value) (L : List MCh) (W : World) (hi1 : -9223372036854775808 ≤ i) (hi2 : i ≤ 9223372036854775807) (hk1 : -9223372036854775808 ≤ k) (hk2 : k ≤ 9223372036854775807) (hE : Errs W) (hu : ChI W u L) (hv : VRec p (L.take 10)) : Calls Tryd.prog 10 #[.agg #[.int .i64 p, u], .int .i64 i, .int .i64 k] W fun e w' => e = .returned (.bool true) ∧ Below W.heap.size W w' := by
  have HG : Hid (∀ w', Below W.heap.size W w' → Errs w') := Lib.hid (fun w' h => hE.below h)
  have HU := Lib.hid hu
  have HV := Lib.hid hv
  obtain ⟨ua, un, uc, rfl⟩ : ∃ a n c, u = .slice a n c := by obtain ⟨a, n, c, e, _⟩ := hu; exact ⟨a, n, c, e⟩
  clear hE hu hv
  obtain ⟨A, HA⟩ : ∃ A, Hid (L.take 10 = A) := ⟨_, Lib.hid rfl⟩
  rw [HA.out] at HV
  obtain ⟨n, HN⟩ : ∃ n, Hid (A.length = n) := ⟨_, Lib.hid rfl⟩
  have hn1 : 1 ≤ n := by rw [← HN.out]; exact HV.out.2.1.1
  have hn8 : n ≤ 8 := by rw [← HN.out]; exact HV.out.2.1.2
  obtain ⟨q, hqn, hpq⟩ := pickN i n hi1 hi2 hn1 (by omega)
  obtain ⟨r, hrn, hpr⟩ := pickN k n hk1 hk2 hn1 (by omega)
  have HPQ := Lib.hid hpq
  have HPR := Lib.hid hpr
  have HL10 : Hid (A.length ≤ 10) := Lib.hid (by rw [HN.out]; omega)
  have HqA : Hid (q < A.length) := Lib.hid (by rw [HN.out]; exact hqn)
  have HrA : Hid (r < A.length) := Lib.hid (by rw [HN.out]; exact hrn)
  clear hpq hpr hi1 hi2 hk1 hk2
  go_enter Tryd.func10, Tryd.ntmps10
  have HX0 := Lib.hid (RecAt.new W p (.slice ua un uc))
  go_wp2_with fail
  (with_reducible refine (sane_any _ (HG.out _ (ba _ _))).mono ?_)
  rintro e w1 ⟨rfl, hb1⟩
  have HB1 := Lib.hid (bt (ba W (.cells #[.int .i64 p, .slice ua un uc] 37)) hb1)
  have HX1 := Lib.hid (HX0.out.next hb1)
  clear hb1 HX0
  obtain ⟨c0, c1, f0, f1⟩ := HX1.out
  go_wp2_with fail
  (with_reducible refine (cutO_any p _ L _ (HU.out.below HB1.out)).mono ?_)
  rintro e w2 ⟨u1, rfl, ho1, hb2⟩
  obtain ⟨g1, c1', rfl, hg1, hc1, ho1⟩ := ho1
  have hX1 := HX1.out.lt
  have HX2 := Lib.hid (HX1.out.next hb2)
  have HB2 := Lib.hid (bt HB1.out hb2)
  have HO2 := Lib.hid ho1
  have hgX : ¬ g1 = W.heap.size := by omega
  clear hb2 ho1 c0 c1 f0 f1 HX1 HB1 HU
  rw [HA.out] at HO2
  rw [HA.out, HN.out]
  obtain ⟨c0, c1, f0, f1⟩ := HX2.out
  obtain ⟨w3, Hw3⟩ : ∃ w3, Hid ((w2.setCell ⟨W.heap.size, 0, none⟩ (.int .i64 p)).setCell ⟨W.heap.size, 1, none⟩ (.slice (some ⟨g1, 0, none⟩) n c1') = w3) := ⟨_, Lib.hid rfl⟩
  have HX3 := Lib.hid (HX2.out.set _ _ Hw3.out)
  have HO3 : Hid (OwnAt w3 g1 c1' A) := Lib.hid (by rw [← Hw3.out]; exact (HO2.out.far hgX _ _).far hgX _ _)
  have HB3 : Hid (Below W.heap.size W w3) := Lib.hid (by rw [← Hw3.out]; exact below_setCell (below_setCell HB2.out (by simp) _) (by simp) _)
  clear HX2 HO2 HB2 hX1
  go_wp2_with fail
  rw [Hw3.out]
  clear c0 c1 f0 f1 Hw3
  obtain ⟨c0, c1, f0, f1⟩ := HX3.out
  go_wp2_with fail
  (with_reducible refine (vrecC_t p _ A _ (HO3.out.chs hc1 HN.out.symm) HV.out).mono ?_)
  rintro e w4 ⟨rfl, hb4⟩
  have HX4 := Lib.hid (HX3.out.next hb4)
  have HO4 := Lib.hid (HO3.out.below hb4)
  have HB4 := Lib.hid (bt HB3.out hb4)
  clear hb4 HX3 HO3 HB3 c0 c1 f0 f1
  obtain ⟨c0, c1, f0, f1⟩ := HX4.out
  go_wp2_with fail
  (with_reducible refine (HPQ.out _).mono ?_)
  rintro e w5 ⟨rfl, hb5⟩
  have HX5 := Lib.hid (HX4.out.next hb5)
  have HO5 := Lib.hid (HO4.out.below hb5)
  have HB5 := Lib.hid (bt HB4.out hb5)
  clear hb5 HX4 HO4 HB4 c0 c1 f0 f1
  go_wp2_with fail
  (with_reducible refine (HPR.out _).mono ?_)
  rintro e w6 ⟨rfl, hb6⟩
  have HX6 := Lib.hid (HX5.out.next hb6)
  have HO6 := Lib.hid (HO5.out.below hb6)
  have HB6 := Lib.hid (bt HB5.out hb6)
  clear hb6 HX5 HO5 HB5
  obtain ⟨c0, c1, f0, f1⟩ := HX6.out
  go_wp2_with fail
  (with_reducible refine (cutO_any p _ A _ (HO6.out.chi hc1 HN.out.symm)).mono ?_)
  rintro e w7 ⟨u2, rfl, ho2, hb7⟩
  obtain ⟨g2, c2', rfl, hg2, hc2, ho2⟩ := ho2
  rw [List.take_of_length_le HL10.out] at ho2 ⊢
  rw [HN.out]
  have hX6 := HX6.out.lt
  have hg1l := HO6.out.lt
  have hb8 := ba w7 (.cells #[.int .i64 p, .slice (some ⟨g2, 0, none⟩) n c2'] 37)
  have HX8 := Lib.hid ((HX6.out.next hb7).next hb8)
  have HB8 := Lib.hid (bt (bt HB6.out hb7) hb8)
  have HO8 := Lib.hid ((HO6.out.below hb7).below hb8)
  have HP8 := Lib.hid (ho2.below hb8)
  have HY8 := Lib.hid (RecAt.new w7 p (.slice (some ⟨g2, 0, none⟩) n c2'))
  have hgY : ¬ w7.heap.size = g2 := by have := ho2.lt; omega
  have hg12 : ¬ g1 = g2 := by omega
  have hXg2 : ¬ W.heap.size = g2 := by omega
  have hXg2' : W.heap.size ≤ g2 := by omega
  clear hb7 hb8 ho2 c0 c1 f0 f1 HX6 HB6 HO6
  go_upto_region 11 with fail
  generalize hw8 : w7.alloc (.cells #[.int .i64 p, .slice (some ⟨g2, 0, none⟩) n c2'] 37) = w8 at HX8 HB8 HO8 HP8 HY8 ⊢
  clear hw8
  obtain ⟨Y, HYe⟩ : ∃ Y, Hid (w7.heap.size = Y) := ⟨_, Lib.hid rfl⟩
  rw [HYe.out] at HY8 hgY
  try rw [HYe.out]
  have hY8 := HY8.out.lt
  go_cut [] from 36 (fun wx => Hid (RecAt wx W.heap.size p (.slice (some ⟨g1, 0, none⟩) n c1')) ∧ Hid (RecAt wx Y p (.slice (some ⟨g2, 0, none⟩) n c2')) ∧ Hid (OwnAt wx g1 c1' A) ∧ Hid (OwnAt wx g2 c2' (swap A q r)) ∧ Hid (Below W.heap.size W wx))
  case first =>
    refine wp_region_held_drew (S := fun w' => (w'.cell? ⟨Y, 0, none⟩ = some (.int .i64 p) ∧ w'.cell? ⟨Y, 1, none⟩ = some (.slice (some ⟨g2, 0, none⟩) n c2'))) (by kernel_rfl) ⟨HY8.out.c0, HY8.out.c1⟩ (fun hHeld => ?_)
    have HX9 : Hid (RecAt w8.drew W.heap.size p (.slice (some ⟨g1, 0, none⟩) n c1')) := Lib.hid (HX8.out.heapEq rfl)
    have HY9 : Hid (RecAt w8.drew Y p (.slice (some ⟨g2, 0, none⟩) n c2')) := Lib.hid (HY8.out.heapEq rfl)
    have HB9 : Hid (Below W.heap.size W w8.drew) := Lib.hid HB8.out.drew
    have HO9 : Hid (OwnAt w8.drew g1 c1' A) := Lib.hid HO8.out
    have HP9 : Hid (OwnAt w8.drew g2 c2' A) := Lib.hid HP8.out
    have hY9 : Y < w8.drew.heap.size := hY8
    clear HX8 HY8 HB8 HO8 HP8 hY8
    generalize w8.drew = w9 at HX9 HY9 HB9 HO9 HP9 hY9 hHeld ⊢
    have HPq := HP9.out.at q HqA.out
    have HPr := HP9.out.at r HrA.out
    obtain ⟨cq, HQ⟩ : ∃ c, Hid (A.getD q chZ = c) := ⟨_, Lib.hid rfl⟩
    obtain ⟨cr, HR⟩ : ∃ c, Hid (A.getD r chZ = c) := ⟨_, Lib.hid rfl⟩
    rw [HQ.out] at HPq
    rw [HR.out] at HPr
    obtain ⟨t, kk, had, ⟨oa, ob, oc⟩, has, ⟨na, nb, nc⟩⟩ := cq
    obtain ⟨t', kk', had', ⟨oa', ob', oc'⟩, has', ⟨na', nb', nc'⟩⟩ := cr
    obtain ⟨d0, d1, d2, d3, d4, d5, d6, d7, d8, d9⟩ := HPq.cells
    obtain ⟨e0, e1, e2, e3, e4, e5, e6, e7, e8, e9⟩ := HPr.cells
    refine wpAnyH_take (i := 0) (oi := _) (v := .pointer (some ⟨Y, 1, none⟩)) rfl (by kernel_rfl) (by kernel_rfl) (by kernel_rfl) (fun _ _ _ h => h) (Or.inl ⟨by rfl, ?_⟩) hHeld ?_
    · intro w' hSw
      obtain ⟨hS0, hS1⟩ := hSw
      go_simp
    skip
    simp only [Act.put, List.setIfInBounds_toArray, List.set_cons_zero, List.set_cons_succ]
    refine wpAnyH_take (i := 1) (oi := _) (v := (.slice (some ⟨g2, 0, none⟩) n c2')) rfl (by kernel_rfl) (by kernel_rfl) (by kernel_rfl) (fun _ _ _ h => h) (Or.inl ⟨by rfl, ?_⟩) hHeld ?_
    · intro w' hSw
      obtain ⟨hS0, hS1⟩ := hSw
      go_simp
    skip
    simp only [Act.put, List.setIfInBounds_toArray, List.set_cons_zero, List.set_cons_succ]
    refine wpAnyH_take (i := 2) (oi := _) (v := .int .i64 (q : Int)) rfl (by kernel_rfl) (by kernel_rfl) (by kernel_rfl) (fun _ _ _ h => h) (Or.inl ⟨by rfl, ?_⟩) hHeld ?_
    · intro w' hSw
      obtain ⟨hS0, hS1⟩ := hSw
      go_simp
    skip
    simp only [Act.put, List.setIfInBounds_toArray, List.set_cons_zero, List.set_cons_succ]
    refine wpAnyH_take (i := 3) (oi := _) (v := .pointer (some ⟨Y, 1, none⟩)) rfl (by kernel_rfl) (by kernel_rfl) (by kernel_rfl) (fun _ _ _ h => h) (Or.inl ⟨by rfl, ?_⟩) hHeld ?_
    · intro w' hSw
      obtain ⟨hS0, hS1⟩ := hSw
      go_simp
    skip
    simp only [Act.put, List.setIfInBounds_toArray, List.set_cons_zero, List.set_cons_succ]
    refine wpAnyH_take (i := 4) (oi := _) (v := (.slice (some ⟨g2, 0, none⟩) n c2')) rfl (by kernel_rfl) (by kernel_rfl) (by kernel_rfl) (fun _ _ _ h => h) (Or.inl ⟨by rfl, ?_⟩) hHeld ?_
    · intro w' hSw
      obtain ⟨hS0, hS1⟩ := hSw
      go_simp
    skip
    simp only [Act.put, List.setIfInBounds_toArray, List.set_cons_zero, List.set_cons_succ]
    refine wpAnyH_take (i := 5) (oi := _) (v := .int .i64 (r : Int)) rfl (by kernel_rfl) (by kernel_rfl) (by kernel_rfl) (fun _ _ _ h => h) (Or.inl ⟨by rfl, ?_⟩) hHeld ?_
    · intro w' hSw
      obtain ⟨hS0, hS1⟩ := hSw
      go_simp
    skip
    simp only [Act.put, List.setIfInBounds_toArray, List.set_cons_zero, List.set_cons_succ]
    refine wpAnyH_take (i := 6) (oi := _) (v := .pointer (some ⟨Y, 1, none⟩)) rfl (by kernel_rfl) (by kernel_rfl) (by kernel_rfl) (fun _ _ _ h => h) (Or.inl ⟨by rfl, ?_⟩) hHeld ?_
    · intro w' hSw
      obtain ⟨hS0, hS1⟩ := hSw
      go_simp
    skip
    simp only [Act.put, List.setIfInBounds_toArray, List.set_cons_zero, List.set_cons_succ]
    refine wpAnyH_take (i := 7) (oi := _) (v := (.slice (some ⟨g2, 0, none⟩) n c2')) rfl (by kernel_rfl) (by kernel_rfl) (by kernel_rfl) (fun _ _ _ h => h) (Or.inl ⟨by rfl, ?_⟩) hHeld ?_
    · intro w' hSw
      obtain ⟨hS0, hS1⟩ := hSw
      go_simp
    skip
    simp only [Act.put, List.setIfInBounds_toArray, List.set_cons_zero, List.set_cons_succ]
    refine wpAnyH_take (i := 8) (oi := _) (v := .int .i64 (r : Int)) rfl (by kernel_rfl) (by kernel_rfl) (by kernel_rfl) (fun _ _ _ h => h) (Or.inl ⟨by rfl, ?_⟩) hHeld ?_
    · intro w' hSw
      obtain ⟨hS0, hS1⟩ := hSw
      go_simp
    skip
    simp only [Act.put, List.setIfInBounds_toArray, List.set_cons_zero, List.set_cons_succ]
    refine wpAnyH_take (i := 9) (oi := _) (v := .pointer (some ⟨g2, r * 10, none⟩)) rfl (by kernel_rfl) (by kernel_rfl) (by kernel_rfl) (fun _ _ _ h => h) (Or.inl ⟨by rfl, ?_⟩) hHeld ?_
    · intro w' hSw
      obtain ⟨hS0, hS1⟩ := hSw
      go_simp
    skip
    simp only [Act.put, List.setIfInBounds_toArray, List.set_cons_zero, List.set_cons_succ]
    refine wpAnyH_take (i := 11) (oi := _) (v := .pointer (some ⟨Y, 1, none⟩)) rfl (by kernel_rfl) (by kernel_rfl) (by kernel_rfl) (fun _ _ _ h => h) (Or.inl ⟨by rfl, ?_⟩) hHeld ?_
    · intro w' hSw
      obtain ⟨hS0, hS1⟩ := hSw
      go_simp
    skip
    simp only [Act.put, List.setIfInBounds_toArray, List.set_cons_zero, List.set_cons_succ]
    refine wpAnyH_take (i := 12) (oi := _) (v := (.slice (some ⟨g2, 0, none⟩) n c2')) rfl (by kernel_rfl) (by kernel_rfl) (by kernel_rfl) (fun _ _ _ h => h) (Or.inl ⟨by rfl, ?_⟩) hHeld ?_
    · intro w' hSw
      obtain ⟨hS0, hS1⟩ := hSw
      go_simp
    skip
    simp only [Act.put, List.setIfInBounds_toArray, List.set_cons_zero, List.set_cons_succ]
    refine wpAnyH_take (i := 13) (oi := _) (v := .int .i64 (q : Int)) rfl (by kernel_rfl) (by kernel_rfl) (by kernel_rfl) (fun _ _ _ h => h) (Or.inl ⟨by rfl, ?_⟩) hHeld ?_
    · intro w' hSw
      obtain ⟨hS0, hS1⟩ := hSw
      go_simp
    skip
    simp only [Act.put, List.setIfInBounds_toArray, List.set_cons_zero, List.set_cons_succ]
    refine wpAnyH_take (i := 14) (oi := _) (v := .pointer (some ⟨g2, q * 10, none⟩)) rfl (by kernel_rfl) (by kernel_rfl) (by kernel_rfl) (fun _ _ _ h => h) (Or.inl ⟨by rfl, ?_⟩) hHeld ?_
    · intro w' hSw
      obtain ⟨hS0, hS1⟩ := hSw
      go_simp
    skip
    simp only [Act.put, List.setIfInBounds_toArray, List.set_cons_zero, List.set_cons_succ]
    refine wpAnyH_ready (rs := [10, 15]) (by kernel_rfl) (by simp) ?_
    refine AllReadyH.cons (o := _) rfl (fun K hK => ?_) (AllReadyH.cons (o := _) rfl (fun K hK => ?_) AllReadyH.nil)
    · rw [if_pos (by rfl)]
      go_simp
      refine hK.out _ _ hHeld (fun hHeld => ?_)
      clear hK K
      refine wpAnyH_ready (rs := [15]) (by kernel_rfl) (by simp) ?_
      refine AllReadyH.cons (o := _) rfl (fun K hK => ?_) AllReadyH.nil
      rw [if_pos (by rfl)]
      go_simp
      refine hK.out _ _ hHeld (fun hHeld => ?_)
      clear hK K
      refine wpAnyH_take (i := 16) (oi := _) (v := .pointer (some ⟨g2, q * 10, none⟩)) rfl (by kernel_rfl) (by kernel_rfl) (by kernel_rfl) (fun _ _ _ h => h) (Or.inl ⟨by rfl, ?_⟩) hHeld ?_
      · intro w' hSw
        obtain ⟨hS0, hS1⟩ := hSw
        go_simp
      change wpAnyH _ _ _ _ _ _ _ (Act.put _ (some 52) _) _
      simp only [Act.put, List.setIfInBounds_toArray, List.set_cons_zero, List.set_cons_succ]
      refine wpAnyH_ready (rs := [17]) (by kernel_rfl) (by simp) ?_
      refine AllReadyH.cons (o := _) rfl (fun K hK => ?_) AllReadyH.nil
      refine step_store_ch (by rfl) _ _ (by rfl) (by rfl) g2 (q * 10) ⟨t', kk', had', ⟨oa', ob', oc'⟩, has', ⟨na', nb', nc'⟩⟩ (by rfl) (by rfl) (HP9.out.roomAt q HqA.out) HP9.out.room ?_
      intro w10 hw10
      have HP10 := Lib.hid (own_set_of (x := ⟨t', kk', had', ⟨oa', ob', oc'⟩, has', ⟨na', nb', nc'⟩⟩) hw10 HP9.out HqA.out)
      have HO10 := Lib.hid (own_far_of hw10 HO9.out hg12)
      have HX10 := Lib.hid (rec_far_of hw10 HX9.out hXg2)
      have HY10 := Lib.hid (rec_far_of hw10 HY9.out hgY)
      have HB10 := Lib.hid (below_far_of hw10 HB9.out hXg2')
      have hz10 : w10.heap.size = w9.heap.size := by rw [hw10]; simp [World.setCell]
      clear hw10 d0 d1 d2 d3 d4 d5 d6 d7 d8 d9 e0 e1 e2 e3 e4 e5 e6 e7 e8 e9
      refine hK.out _ _ ⟨HY10.out.c0, HY10.out.c1⟩ (fun hHeld => ?_)
      clear hK K
      refine wpAnyH_take (i := 18) (oi := _) (v := .pointer (some ⟨g2, r * 10, none⟩)) rfl (by kernel_rfl) (by kernel_rfl) (by kernel_rfl) (fun _ _ _ h => h) (Or.inl ⟨by rfl, ?_⟩) hHeld ?_
      · intro w' hSw
        obtain ⟨hS0, hS1⟩ := hSw
        go_simp
      change wpAnyH _ _ _ _ _ _ _ (Act.put _ (some 53) _) _
      simp only [Act.put, List.setIfInBounds_toArray, List.set_cons_zero, List.set_cons_succ]
      refine wpAnyH_ready (rs := [19]) (by kernel_rfl) (by simp) ?_
      refine AllReadyH.cons (o := _) rfl (fun K hK => ?_) AllReadyH.nil
      refine step_store_ch (by rfl) _ _ (by rfl) (by rfl) g2 (r * 10) ⟨t, kk, had, ⟨oa, ob, oc⟩, has, ⟨na, nb, nc⟩⟩ (by rfl) (by rfl) (HP10.out.roomAt r (by rw [List.length_set]; exact HrA.out)) HP10.out.room ?_
      intro w11 hw11
      have HP11 := Lib.hid (own_set_of (x := ⟨t, kk, had, ⟨oa, ob, oc⟩, has, ⟨na, nb, nc⟩⟩) hw11 HP10.out (by rw [List.length_set]; exact HrA.out))
      have HO11 := Lib.hid (own_far_of hw11 HO10.out hg12)
      have HX11 := Lib.hid (rec_far_of hw11 HX10.out hXg2)
      have HY11 := Lib.hid (rec_far_of hw11 HY10.out hgY)
      have HB11 := Lib.hid (below_far_of hw11 HB10.out hXg2')
      clear hw11
      refine hK.out _ _ ⟨HY11.out.c0, HY11.out.c1⟩ (fun hHeld => ?_)
      clear hK K hHeld
      refine wpAnyH_done (by kernel_rfl) ?_ _
      have HP12 : Hid (OwnAt w11 g2 c2' (swap A q r)) := Lib.hid (by unfold swap; rw [HQ.out, HR.out]; exact HP11.out)
      clear HP11 HP10 HO10 HX10 HY10 HB10 HP9 HO9 HX9 HY9 HB9 HQ HR HPq HPr
      go_wp2_with fail
      go_meet
      exact ⟨HX11, HY11, HO11, HP12, HB11⟩
    · rw [if_pos (by rfl)]
      go_simp
      refine hK.out _ _ hHeld (fun hHeld => ?_)
      clear hK K
      refine wpAnyH_ready (rs := [10]) (by kernel_rfl) (by simp) ?_
      refine AllReadyH.cons (o := _) rfl (fun K hK => ?_) AllReadyH.nil
      rw [if_pos (by rfl)]
      go_simp
      refine hK.out _ _ hHeld (fun hHeld => ?_)
      clear hK K
      refine wpAnyH_take (i := 16) (oi := _) (v := .pointer (some ⟨g2, q * 10, none⟩)) rfl (by kernel_rfl) (by kernel_rfl) (by kernel_rfl) (fun _ _ _ h => h) (Or.inl ⟨by rfl, ?_⟩) hHeld ?_
      · intro w' hSw
        obtain ⟨hS0, hS1⟩ := hSw
        go_simp
      change wpAnyH _ _ _ _ _ _ _ (Act.put _ (some 52) _) _
      simp only [Act.put, List.setIfInBounds_toArray, List.set_cons_zero, List.set_cons_succ]
      refine wpAnyH_ready (rs := [17]) (by kernel_rfl) (by simp) ?_
      refine AllReadyH.cons (o := _) rfl (fun K hK => ?_) AllReadyH.nil
      refine step_store_ch (by rfl) _ _ (by rfl) (by rfl) g2 (q * 10) ⟨t', kk', had', ⟨oa', ob', oc'⟩, has', ⟨na', nb', nc'⟩⟩ (by rfl) (by rfl) (HP9.out.roomAt q HqA.out) HP9.out.room ?_
      intro w10 hw10
      have HP10 := Lib.hid (own_set_of (x := ⟨t', kk', had', ⟨oa', ob', oc'⟩, has', ⟨na', nb', nc'⟩⟩) hw10 HP9.out HqA.out)
      have HO10 := Lib.hid (own_far_of hw10 HO9.out hg12)
      have HX10 := Lib.hid (rec_far_of hw10 HX9.out hXg2)
      have HY10 := Lib.hid (rec_far_of hw10 HY9.out hgY)
      have HB10 := Lib.hid (below_far_of hw10 HB9.out hXg2')
      have hz10 : w10.heap.size = w9.heap.size := by rw [hw10]; simp [World.setCell]
      clear hw10 d0 d1 d2 d3 d4 d5 d6 d7 d8 d9 e0 e1 e2 e3 e4 e5 e6 e7 e8 e9
      refine hK.out _ _ ⟨HY10.out.c0, HY10.out.c1⟩ (fun hHeld => ?_)
      clear hK K
      refine wpAnyH_take (i := 18) (oi := _) (v := .pointer (some ⟨g2, r * 10, none⟩)) rfl (by kernel_rfl) (by kernel_rfl) (by kernel_rfl) (fun _ _ _ h => h) (Or.inl ⟨by rfl, ?_⟩) hHeld ?_
      · intro w' hSw
        obtain ⟨hS0, hS1⟩ := hSw
        go_simp
      change wpAnyH _ _ _ _ _ _ _ (Act.put _ (some 53) _) _
      simp only [Act.put, List.setIfInBounds_toArray, List.set_cons_zero, List.set_cons_succ]
      refine wpAnyH_ready (rs := [19]) (by kernel_rfl) (by simp) ?_
      refine AllReadyH.cons (o := _) rfl (fun K hK => ?_) AllReadyH.nil
      refine step_store_ch (by rfl) _ _ (by rfl) (by rfl) g2 (r * 10) ⟨t, kk, had, ⟨oa, ob, oc⟩, has, ⟨na, nb, nc⟩⟩ (by rfl) (by rfl) (HP10.out.roomAt r (by rw [List.length_set]; exact HrA.out)) HP10.out.room ?_
      intro w11 hw11
      have HP11 := Lib.hid (own_set_of (x := ⟨t, kk, had, ⟨oa, ob, oc⟩, has, ⟨na, nb, nc⟩⟩) hw11 HP10.out (by rw [List.length_set]; exact HrA.out))
      have HO11 := Lib.hid (own_far_of hw11 HO10.out hg12)
      have HX11 := Lib.hid (rec_far_of hw11 HX10.out hXg2)
      have HY11 := Lib.hid (rec_far_of hw11 HY10.out hgY)
      have HB11 := Lib.hid (below_far_of hw11 HB10.out hXg2')
      clear hw11
      refine hK.out _ _ ⟨HY11.out.c0, HY11.out.c1⟩ (fun hHeld => ?_)
      clear hK K hHeld
      refine wpAnyH_done (by kernel_rfl) ?_ _
      have HP12 : Hid (OwnAt w11 g2 c2' (swap A q r)) := Lib.hid (by unfold swap; rw [HQ.out, HR.out]; exact HP11.out)
      clear HP11 HP10 HO10 HX10 HY10 HB10 HP9 HO9 HX9 HY9 HB9 HQ HR HPq HPr
      go_wp2_with fail
      go_meet
      exact ⟨HX11, HY11, HO11, HP12, HB11⟩
  case rest =>
    clear HX8 HY8 HB8 HO8 HP8 hY8
    obtain ⟨HX, HY, HO, HP, HB⟩ := hcut
    obtain ⟨c0, c1, f0, f1⟩ := HX.out
    have hYl := HY.out.lt
    go_wp2_with fail
    (with_reducible refine (cutO_any p _ A _ (HO.out.chi hc1 HN.out.symm)).mono ?_)
    rintro e v1 ⟨u3, rfl, ho3, hb1⟩
    obtain ⟨g3, c3', rfl, hg3, hc3, ho3⟩ := ho3
    rw [List.take_of_length_le HL10.out] at ho3 ⊢
    rw [HN.out]
    have hlX := HX.out.lt
    have hlg1 := HO.out.lt
    have hlg2 := HP.out.lt
    have hb2 := ba v1 (.cells #[.int .i64 p, .slice (some ⟨g3, 0, none⟩) n c3'] 37)
    have hgZ : g3 < v1.heap.size := ho3.lt
    have HX2 := Lib.hid ((HX.out.next hb1).next hb2)
    have HY2 := Lib.hid ((HY.out.next hb1).next hb2)
    have HO2 := Lib.hid ((HO.out.below hb1).below hb2)
    have HP2 := Lib.hid ((HP.out.below hb1).below hb2)
    have HB2 := Lib.hid (bt (bt HB.out hb1) hb2)
    have HR2 := Lib.hid (ho3.below hb2)
    have HZ2 := Lib.hid (RecAt.new v1 p (.slice (some ⟨g3, 0, none⟩) n c3'))
    have hBW : W.heap.size ≤ wc.heap.size := HB.out.size
    clear hb1 hb2 ho3 c0 c1 f0 f1 HX HY HO HP HB
    go_upto_region 13 with fail
    generalize hv2 : v1.alloc (.cells #[.int .i64 p, .slice (some ⟨g3, 0, none⟩) n c3'] 37) = v2 at HX2 HY2 HO2 HP2 HB2 HR2 HZ2 ⊢
    clear hv2
    obtain ⟨Z, HZe⟩ : ∃ Z, Hid (v1.heap.size = Z) := ⟨_, Lib.hid rfl⟩
    rw [HZe.out] at HZ2 hgZ
    try rw [HZe.out]
    have hZ2 := HZ2.out.lt
    obtain ⟨m, Hm⟩ : ∃ m : Nat, Hid (n = m + 1) := ⟨n - 1, Lib.hid (by omega)⟩
    have hmn : m < n := by have := Hm.out; omega
    have HmA : Hid (m < A.length) := Lib.hid (by rw [HN.out]; exact hmn)
    go_cut [] from 56 (fun wx => ∃ g cp, Hid (RecAt wx W.heap.size p (.slice (some ⟨g1, 0, none⟩) n c1')) ∧ Hid (RecAt wx Y p (.slice (some ⟨g2, 0, none⟩) n c2')) ∧ Hid (OwnAt wx g1 c1' A) ∧ Hid (OwnAt wx g2 c2' (swap A q r)) ∧ Hid (RecAt wx Z p (.slice (some ⟨g, 0, none⟩) (n + 1) cp)) ∧ Hid (ChS wx (.slice (some ⟨g, 0, none⟩) (n + 1) cp) (A ++ [A.getD m chZ])) ∧ Hid (Below W.heap.size W wx))
    case first =>
      refine wp_region_held_drew (S := fun w' => True) (by kernel_rfl) trivial (fun hHeld => ?_)
      have HX3 : Hid (RecAt v2.drew W.heap.size p (.slice (some ⟨g1, 0, none⟩) n c1')) := Lib.hid (HX2.out.heapEq rfl)
      have HY3 : Hid (RecAt v2.drew Y p (.slice (some ⟨g2, 0, none⟩) n c2')) := Lib.hid (HY2.out.heapEq rfl)
      have HZ3 : Hid (RecAt v2.drew Z p (.slice (some ⟨g3, 0, none⟩) n c3')) := Lib.hid (HZ2.out.heapEq rfl)
      have HB3 : Hid (Below W.heap.size W v2.drew) := Lib.hid HB2.out.drew
      have HO3 : Hid (OwnAt v2.drew g1 c1' A) := Lib.hid (HO2.out.heapEq rfl)
      have HP3 : Hid (OwnAt v2.drew g2 c2' (swap A q r)) := Lib.hid (HP2.out.heapEq rfl)
      have HR3 : Hid (OwnAt v2.drew g3 c3' A) := Lib.hid (HR2.out.heapEq rfl)
      clear HX2 HY2 HZ2 HB2 HO2 HP2 HR2
      generalize v2.drew = v3 at HX3 HY3 HZ3 HB3 HO3 HP3 HR3 hHeld ⊢
      have hz1 := HZ3.out.c1
      have hZl := HZ3.out.lt
      have HE := HR3.out.at m HmA.out
      obtain ⟨ce, HLast⟩ : ∃ c, Hid (A.getD m chZ = c) := ⟨_, Lib.hid rfl⟩
      rw [HLast.out] at HE
      obtain ⟨t, kk, had, ⟨oa, ob, oc⟩, has, ⟨na, nb, nc⟩⟩ := ce
      obtain ⟨e0, e1, e2, e3, e4, e5, e6, e7, e8, e9⟩ := HE.cells
      obtain ⟨i0, hi0, hz0, hzz1, hzz3⟩ := info_parts info42'
      refine wpAnyH_take (i := 0) (oi := _) (v := .pointer (some ⟨Z, 1, none⟩)) rfl (by kernel_rfl) (by kernel_rfl) (by kernel_rfl) (fun _ _ _ h => h) (Or.inl ⟨by rfl, ?_⟩) hHeld ?_
      · intro w' hSw
        go_simp
      simp only [Act.put, List.setIfInBounds_toArray, List.set_cons_zero, List.set_cons_succ]
      refine wpAnyH_take (i := 2) (oi := _) (v := .pointer (some ⟨Z, 1, none⟩)) rfl (by kernel_rfl) (by kernel_rfl) (by kernel_rfl) (fun _ _ _ h => h) (Or.inl ⟨by rfl, ?_⟩) hHeld ?_
      · intro w' hSw
        go_simp
      simp only [Act.put, List.setIfInBounds_toArray, List.set_cons_zero, List.set_cons_succ]
      refine wpAnyH_take (i := 4) (oi := _) (v := .int .i64 (n : Int)) rfl (by kernel_rfl) (by kernel_rfl) (by kernel_rfl) (fun _ _ _ h => h) (Or.inl ⟨by rfl, ?_⟩) hHeld ?_
      · intro w' hSw
        go_simp
      simp only [Act.put, List.setIfInBounds_toArray, List.set_cons_zero, List.set_cons_succ]
      refine wpAnyH_take (i := 5) (oi := _) (v := .int .i64 (m : Int)) rfl (by kernel_rfl) (by kernel_rfl) (by kernel_rfl) (fun _ _ _ h => h) (Or.inl ⟨by rfl, ?_⟩) hHeld ?_
      · intro w' hSw
        have hwm : IntKind.i64.wrap ((n : Int) - 1) = (m : Int) := by rw [IntKind.wrap_i64]; have := Hm.out; omega
        go_simp
      simp only [Act.put, List.setIfInBounds_toArray, List.set_cons_zero, List.set_cons_succ]
      refine wpAnyH_ready (rs := [1, 3]) (by kernel_rfl) (by simp) ?_
      refine AllReadyH.cons (o := _) rfl (fun K hK => ?_) (AllReadyH.cons (o := _) rfl (fun K hK => ?_) AllReadyH.nil)
      · rw [if_pos (by rfl)]
        go_simp
        refine hK.out _ _ trivial (fun hHeld => ?_)
        clear hK K
        refine wpAnyH_ready (rs := [3]) (by kernel_rfl) (by simp) ?_
        refine AllReadyH.cons (o := _) rfl (fun K hK => ?_) AllReadyH.nil
        rw [if_pos (by rfl)]
        go_simp
        refine hK.out _ _ trivial (fun hHeld => ?_)
        clear hK K
        refine wpAnyH_take (i := 6) (oi := _) (v := .pointer (some ⟨g3, m * 10, none⟩)) rfl (by kernel_rfl) (by kernel_rfl) (by kernel_rfl) (fun _ _ _ h => h) (Or.inl ⟨by rfl, ?_⟩) hHeld ?_
        · intro w' hSw
          go_simp
        simp only [Act.put, List.setIfInBounds_toArray, List.set_cons_zero, List.set_cons_succ]
        refine wpAnyH_ready (rs := [7]) (by kernel_rfl) (by simp) ?_
        refine AllReadyH.cons (o := _) rfl (fun K hK => ?_) AllReadyH.nil
        rw [if_pos (by rfl)]
        go_simp
        refine hK.out _ _ trivial (fun hHeld => ?_)
        clear hK K
        refine wpAnyH_ready (rs := [8]) (by kernel_rfl) (by simp) ?_
        refine AllReadyH.cons (o := _) rfl (fun K hK => ?_) AllReadyH.nil
        rw [if_pos (by rfl)]
        go_simp
        have hb3 := ba v3 (.cells #[.int .i64 t, .int .i64 kk, .bool had, .int .i64 oa, .int .i64 ob, .int .i64 oc, .bool has, .int .i64 na, .int .i64 nb, .int .i64 nc] 42)
        have HX4 := Lib.hid (HX3.out.next hb3)
        have HY4 := Lib.hid (HY3.out.next hb3)
        have HO4 := Lib.hid (HO3.out.below hb3)
        have HP4 := Lib.hid (HP3.out.below hb3)
        have HB4 := Lib.hid (bt HB3.out hb3)
        have HR4 := Lib.hid (HR3.out.below hb3)
        have HZ4 := Lib.hid (HZ3.out.next hb3)
        have hN4 := heap_alloc_new v3 (.cells #[.int .i64 t, .int .i64 kk, .bool had, .int .i64 oa, .int .i64 ob, .int .i64 oc, .bool has, .int .i64 na, .int .i64 nb, .int .i64 nc] 42)
        have hz4 : wc.heap.size ≤ (v3.alloc (.cells #[.int .i64 t, .int .i64 kk, .bool had, .int .i64 oa, .int .i64 ob, .int .i64 oc, .bool has, .int .i64 na, .int .i64 nb, .int .i64 nc] 42)).heap.size := by rw [World.size_alloc]; omega
        have hz4' : v3.heap.size < (v3.alloc (.cells #[.int .i64 t, .int .i64 kk, .bool had, .int .i64 oa, .int .i64 ob, .int .i64 oc, .bool has, .int .i64 na, .int .i64 nb, .int .i64 nc] 42)).heap.size := by rw [World.size_alloc]; omega
        clear hb3
        generalize v3.alloc (.cells #[.int .i64 t, .int .i64 kk, .bool had, .int .i64 oa, .int .i64 ob, .int .i64 oc, .bool has, .int .i64 na, .int .i64 nb, .int .i64 nc] 42) = v4 at HX4 HY4 HO4 HP4 HB4 HR4 HZ4 hN4 hz4 hz4' hK ⊢
        have hz1 := HZ4.out.c1
        refine hK.out _ _ trivial (fun hHeld => ?_)
        clear hK K
        refine wpAnyH_ready (rs := [9]) (by kernel_rfl) (by simp) ?_
        refine AllReadyH.cons (o := _) rfl (fun K hK => ?_) AllReadyH.nil
        refine step_append_lies _ (by rfl) _ _ _ (by rfl) wc.heap.size 42 i0 (.agg (chCells chZ)) 10 80 Tryd.underlying35 hi0 hz0 hzz1 hzz3 (by rfl) (by decide) (.slice (some ⟨g3, 0, none⟩) n c3') n (cellsOf A n) (by rfl) (by have := HR4.out.owns hg3 hc3; rwa [HN.out] at this) ⟨v3.heap.size, 0, none⟩ 1 1 (chCells ⟨t, kk, had, ⟨oa, ob, oc⟩, has, ⟨na, nb, nc⟩⟩).toList (by rfl) (by rfl) (World.news_of_block hN4) (by simp [chCells, Value.oneCell']) (by decide) (by unfold maxLen; omega) (by omega) hz4 v4.heap.size rfl ?_
        intro g cp v5 hown5 hgrow hat hgl
        have hgZ5 : ¬ g = Z := by
          have := HZ4.out.lt
          rcases hat with h | h
          · have : g3 = g := by simpa [Value.ownBlock] using h
            omega
          · omega
        have hXg3 : W.heap.size ≤ g3 := by omega
        have hXZ : ¬ W.heap.size = Z := by omega
        have hYZ : ¬ Y = Z := by omega
        have h1Z : ¬ g1 = Z := by omega
        have h2Z : ¬ g2 = Z := by omega
        have heb : ∀ k, k < v4.heap.size → ¬ k = g3 → v5.heap[k]? = v4.heap[k]? := fun k hk hne => hgrow.block k hk (by simpa [Value.ownBlock] using hne)
        have HX5 := Lib.hid (HX4.out.heapEq (heb _ HX4.out.lt (by omega)))
        have HY5 := Lib.hid (HY4.out.heapEq (heb _ HY4.out.lt (by omega)))
        have HO5 := Lib.hid (HO4.out.heapEq (heb _ HO4.out.lt (by omega)))
        have HP5 := Lib.hid (HP4.out.heapEq (heb _ HP4.out.lt (by omega)))
        have HZ5 := Lib.hid (HZ4.out.heapEq (heb _ HZ4.out.lt (by omega)))
        have HB5 := Lib.hid (HB4.out.grown hgrow HB4.out.size (by intro k hk; have : g3 = k := by simpa [Value.ownBlock] using hk
                                                                  omega))
        have HW5 : Hid (v5.ownsRow wc.heap.size 42 10 (.slice (some ⟨g, 0, none⟩) (n + 1) cp) (n + 1) (cellsOf (A ++ [⟨t, kk, had, ⟨oa, ob, oc⟩, has, ⟨na, nb, nc⟩⟩]) (n + 1))) := Lib.hid (by rw [← cellsOf_snoc A n ⟨t, kk, had, ⟨oa, ob, oc⟩, has, ⟨na, nb, nc⟩⟩ HN.out]; exact hown5)
        obtain ⟨z0, z1, zf0, zf1⟩ := HZ5.out
        clear hown5 hgrow hat hN4 hz4 hz4' heb HX4 HY4 HO4 HP4 HZ4 HB4 HR4 hz1
        refine hK.out _ _ trivial (fun hHeld => ?_)
        clear hK K
        refine wpAnyH_take (i := 10) (oi := _) (v := .pointer (some ⟨Z, 1, none⟩)) rfl (by kernel_rfl) (by kernel_rfl) (by kernel_rfl) (fun _ _ _ h => h) (Or.inl ⟨by rfl, ?_⟩) hHeld ?_
        · intro w' hSw
          go_simp
        simp only [Act.put, List.setIfInBounds_toArray, List.set_cons_zero, List.set_cons_succ]
        refine wpAnyH_ready (rs := [11]) (by kernel_rfl) (by simp) ?_
        refine AllReadyH.cons (o := _) rfl (fun K hK => ?_) AllReadyH.nil
        rw [if_pos (by rfl)]
        go_simp
        have HX6 := Lib.hid (HX5.out.heapEq (w' := v5.setCell ⟨Z, 1, none⟩ (.slice (some ⟨g, 0, none⟩) (n + 1) cp)) (heap_setCell_far hXZ _ _))
        have HY6 := Lib.hid (HY5.out.heapEq (w' := v5.setCell ⟨Z, 1, none⟩ (.slice (some ⟨g, 0, none⟩) (n + 1) cp)) (heap_setCell_far hYZ _ _))
        have HO6 := Lib.hid (HO5.out.heapEq (w' := v5.setCell ⟨Z, 1, none⟩ (.slice (some ⟨g, 0, none⟩) (n + 1) cp)) (heap_setCell_far h1Z _ _))
        have HP6 := Lib.hid (HP5.out.heapEq (w' := v5.setCell ⟨Z, 1, none⟩ (.slice (some ⟨g, 0, none⟩) (n + 1) cp)) (heap_setCell_far h2Z _ _))
        have HZ6 := Lib.hid (HZ5.out.set1 (.slice (some ⟨g, 0, none⟩) (n + 1) cp))
        have HB6 : Hid (Below W.heap.size W (v5.setCell ⟨Z, 1, none⟩ (.slice (some ⟨g, 0, none⟩) (n + 1) cp))) := Lib.hid (below_setCell HB5.out (by simp; omega) _)
        have HS6 := Lib.hid (chs_owns (own_setCell HW5.out hgZ5 1 (.slice (some ⟨g, 0, none⟩) (n + 1) cp)) (by rw [List.length_append, HN.out]; rfl))
        refine hK.out _ _ trivial (fun hHeld => ?_)
        clear hK K hHeld
        refine wpAnyH_done (by kernel_rfl) ?_ _
        go_wp2_with fail
        go_meet
        exact ⟨g, cp, HX6, HY6, HO6, HP6, HZ6, by rw [HLast.out]; exact HS6, HB6⟩
      · rw [if_pos (by rfl)]
        go_simp
        refine hK.out _ _ trivial (fun hHeld => ?_)
        clear hK K
        refine wpAnyH_take (i := 6) (oi := _) (v := .pointer (some ⟨g3, m * 10, none⟩)) rfl (by kernel_rfl) (by kernel_rfl) (by kernel_rfl) (fun _ _ _ h => h) (Or.inl ⟨by rfl, ?_⟩) hHeld ?_
        · intro w' hSw
          go_simp
        simp only [Act.put, List.setIfInBounds_toArray, List.set_cons_zero, List.set_cons_succ]
        refine wpAnyH_ready (rs := [1, 7]) (by kernel_rfl) (by simp) ?_
        refine AllReadyH.cons (o := _) rfl (fun K hK => ?_) (AllReadyH.cons (o := _) rfl (fun K hK => ?_) AllReadyH.nil)
        · rw [if_pos (by rfl)]
          go_simp
          refine hK.out _ _ trivial (fun hHeld => ?_)
          clear hK K
          refine wpAnyH_ready (rs := [7]) (by kernel_rfl) (by simp) ?_
          refine AllReadyH.cons (o := _) rfl (fun K hK => ?_) AllReadyH.nil
          rw [if_pos (by rfl)]
          go_simp
          refine hK.out _ _ trivial (fun hHeld => ?_)
          clear hK K
          refine wpAnyH_ready (rs := [8]) (by kernel_rfl) (by simp) ?_
          refine AllReadyH.cons (o := _) rfl (fun K hK => ?_) AllReadyH.nil
          rw [if_pos (by rfl)]
          go_simp
          have hb3 := ba v3 (.cells #[.int .i64 t, .int .i64 kk, .bool had, .int .i64 oa, .int .i64 ob, .int .i64 oc, .bool has, .int .i64 na, .int .i64 nb, .int .i64 nc] 42)
          have HX4 := Lib.hid (HX3.out.next hb3)
          have HY4 := Lib.hid (HY3.out.next hb3)
          have HO4 := Lib.hid (HO3.out.below hb3)
          have HP4 := Lib.hid (HP3.out.below hb3)
          have HB4 := Lib.hid (bt HB3.out hb3)
          have HR4 := Lib.hid (HR3.out.below hb3)
          have HZ4 := Lib.hid (HZ3.out.next hb3)
          have hN4 := heap_alloc_new v3 (.cells #[.int .i64 t, .int .i64 kk, .bool had, .int .i64 oa, .int .i64 ob, .int .i64 oc, .bool has, .int .i64 na, .int .i64 nb, .int .i64 nc] 42)
          have hz4 : wc.heap.size ≤ (v3.alloc (.cells #[.int .i64 t, .int .i64 kk, .bool had, .int .i64 oa, .int .i64 ob, .int .i64 oc, .bool has, .int .i64 na, .int .i64 nb, .int .i64 nc] 42)).heap.size := by rw [World.size_alloc]; omega
          have hz4' : v3.heap.size < (v3.alloc (.cells #[.int .i64 t, .int .i64 kk, .bool had, .int .i64 oa, .int .i64 ob, .int .i64 oc, .bool has, .int .i64 na, .int .i64 nb, .int .i64 nc] 42)).heap.size := by rw [World.size_alloc]; omega
          clear hb3
          generalize v3.alloc (.cells #[.int .i64 t, .int .i64 kk, .bool had, .int .i64 oa, .int .i64 ob, .int .i64 oc, .bool has, .int .i64 na, .int .i64 nb, .int .i64 nc] 42) = v4 at HX4 HY4 HO4 HP4 HB4 HR4 HZ4 hN4 hz4 hz4' hK ⊢
          have hz1 := HZ4.out.c1
          refine hK.out _ _ trivial (fun hHeld => ?_)
          clear hK K
          refine wpAnyH_ready (rs := [9]) (by kernel_rfl) (by simp) ?_
          refine AllReadyH.cons (o := _) rfl (fun K hK => ?_) AllReadyH.nil
          refine step_append_lies _ (by rfl) _ _ _ (by rfl) wc.heap.size 42 i0 (.agg (chCells chZ)) 10 80 Tryd.underlying35 hi0 hz0 hzz1 hzz3 (by rfl) (by decide) (.slice (some ⟨g3, 0, none⟩) n c3') n (cellsOf A n) (by rfl) (by have := HR4.out.owns hg3 hc3; rwa [HN.out] at this) ⟨v3.heap.size, 0, none⟩ 1 1 (chCells ⟨t, kk, had, ⟨oa, ob, oc⟩, has, ⟨na, nb, nc⟩⟩).toList (by rfl) (by rfl) (World.news_of_block hN4) (by simp [chCells, Value.oneCell']) (by decide) (by unfold maxLen; omega) (by omega) hz4 v4.heap.size rfl ?_
          intro g cp v5 hown5 hgrow hat hgl
          have hgZ5 : ¬ g = Z := by
            have := HZ4.out.lt
            rcases hat with h | h
            · have : g3 = g := by simpa [Value.ownBlock] using h
              omega
            · omega
          have hXg3 : W.heap.size ≤ g3 := by omega
          have hXZ : ¬ W.heap.size = Z := by omega
          have hYZ : ¬ Y = Z := by omega
          have h1Z : ¬ g1 = Z := by omega
          have h2Z : ¬ g2 = Z := by omega
          have heb : ∀ k, k < v4.heap.size → ¬ k = g3 → v5.heap[k]? = v4.heap[k]? := fun k hk hne => hgrow.block k hk (by simpa [Value.ownBlock] using hne)
          have HX5 := Lib.hid (HX4.out.heapEq (heb _ HX4.out.lt (by omega)))
          have HY5 := Lib.hid (HY4.out.heapEq (heb _ HY4.out.lt (by omega)))
          have HO5 := Lib.hid (HO4.out.heapEq (heb _ HO4.out.lt (by omega)))
          have HP5 := Lib.hid (HP4.out.heapEq (heb _ HP4.out.lt (by omega)))
          have HZ5 := Lib.hid (HZ4.out.heapEq (heb _ HZ4.out.lt (by omega)))
          have HB5 := Lib.hid (HB4.out.grown hgrow HB4.out.size (by intro k hk; have : g3 = k := by simpa [Value.ownBlock] using hk
                                                                    omega))
          have HW5 : Hid (v5.ownsRow wc.heap.size 42 10 (.slice (some ⟨g, 0, none⟩) (n + 1) cp) (n + 1) (cellsOf (A ++ [⟨t, kk, had, ⟨oa, ob, oc⟩, has, ⟨na, nb, nc⟩⟩]) (n + 1))) := Lib.hid (by rw [← cellsOf_snoc A n ⟨t, kk, had, ⟨oa, ob, oc⟩, has, ⟨na, nb, nc⟩⟩ HN.out]; exact hown5)
          obtain ⟨z0, z1, zf0, zf1⟩ := HZ5.out
          clear hown5 hgrow hat hN4 hz4 hz4' heb HX4 HY4 HO4 HP4 HZ4 HB4 HR4 hz1
          refine hK.out _ _ trivial (fun hHeld => ?_)
          clear hK K
          refine wpAnyH_take (i := 10) (oi := _) (v := .pointer (some ⟨Z, 1, none⟩)) rfl (by kernel_rfl) (by kernel_rfl) (by kernel_rfl) (fun _ _ _ h => h) (Or.inl ⟨by rfl, ?_⟩) hHeld ?_
          · intro w' hSw
            go_simp
          simp only [Act.put, List.setIfInBounds_toArray, List.set_cons_zero, List.set_cons_succ]
          refine wpAnyH_ready (rs := [11]) (by kernel_rfl) (by simp) ?_
          refine AllReadyH.cons (o := _) rfl (fun K hK => ?_) AllReadyH.nil
          rw [if_pos (by rfl)]
          go_simp
          have HX6 := Lib.hid (HX5.out.heapEq (w' := v5.setCell ⟨Z, 1, none⟩ (.slice (some ⟨g, 0, none⟩) (n + 1) cp)) (heap_setCell_far hXZ _ _))
          have HY6 := Lib.hid (HY5.out.heapEq (w' := v5.setCell ⟨Z, 1, none⟩ (.slice (some ⟨g, 0, none⟩) (n + 1) cp)) (heap_setCell_far hYZ _ _))
          have HO6 := Lib.hid (HO5.out.heapEq (w' := v5.setCell ⟨Z, 1, none⟩ (.slice (some ⟨g, 0, none⟩) (n + 1) cp)) (heap_setCell_far h1Z _ _))
          have HP6 := Lib.hid (HP5.out.heapEq (w' := v5.setCell ⟨Z, 1, none⟩ (.slice (some ⟨g, 0, none⟩) (n + 1) cp)) (heap_setCell_far h2Z _ _))
          have HZ6 := Lib.hid (HZ5.out.set1 (.slice (some ⟨g, 0, none⟩) (n + 1) cp))
          have HB6 : Hid (Below W.heap.size W (v5.setCell ⟨Z, 1, none⟩ (.slice (some ⟨g, 0, none⟩) (n + 1) cp))) := Lib.hid (below_setCell HB5.out (by simp; omega) _)
          have HS6 := Lib.hid (chs_owns (own_setCell HW5.out hgZ5 1 (.slice (some ⟨g, 0, none⟩) (n + 1) cp)) (by rw [List.length_append, HN.out]; rfl))
          refine hK.out _ _ trivial (fun hHeld => ?_)
          clear hK K hHeld
          refine wpAnyH_done (by kernel_rfl) ?_ _
          go_wp2_with fail
          go_meet
          exact ⟨g, cp, HX6, HY6, HO6, HP6, HZ6, by rw [HLast.out]; exact HS6, HB6⟩
        · rw [if_pos (by rfl)]
          go_simp
          refine hK.out _ _ trivial (fun hHeld => ?_)
          clear hK K
          refine wpAnyH_ready (rs := [1, 8]) (by kernel_rfl) (by simp) ?_
          refine AllReadyH.cons (o := _) rfl (fun K hK => ?_) (AllReadyH.cons (o := _) rfl (fun K hK => ?_) AllReadyH.nil)
          · rw [if_pos (by rfl)]
            go_simp
            refine hK.out _ _ trivial (fun hHeld => ?_)
            clear hK K
            refine wpAnyH_ready (rs := [8]) (by kernel_rfl) (by simp) ?_
            refine AllReadyH.cons (o := _) rfl (fun K hK => ?_) AllReadyH.nil
            rw [if_pos (by rfl)]
            go_simp
            have hb3 := ba v3 (.cells #[.int .i64 t, .int .i64 kk, .bool had, .int .i64 oa, .int .i64 ob, .int .i64 oc, .bool has, .int .i64 na, .int .i64 nb, .int .i64 nc] 42)
            have HX4 := Lib.hid (HX3.out.next hb3)
            have HY4 := Lib.hid (HY3.out.next hb3)
            have HO4 := Lib.hid (HO3.out.below hb3)
            have HP4 := Lib.hid (HP3.out.below hb3)
            have HB4 := Lib.hid (bt HB3.out hb3)
            have HR4 := Lib.hid (HR3.out.below hb3)
            have HZ4 := Lib.hid (HZ3.out.next hb3)
            have hN4 := heap_alloc_new v3 (.cells #[.int .i64 t, .int .i64 kk, .bool had, .int .i64 oa, .int .i64 ob, .int .i64 oc, .bool has, .int .i64 na, .int .i64 nb, .int .i64 nc] 42)
            have hz4 : wc.heap.size ≤ (v3.alloc (.cells #[.int .i64 t, .int .i64 kk, .bool had, .int .i64 oa, .int .i64 ob, .int .i64 oc, .bool has, .int .i64 na, .int .i64 nb, .int .i64 nc] 42)).heap.size := by rw [World.size_alloc]; omega
            have hz4' : v3.heap.size < (v3.alloc (.cells #[.int .i64 t, .int .i64 kk, .bool had, .int .i64 oa, .int .i64 ob, .int .i64 oc, .bool has, .int .i64 na, .int .i64 nb, .int .i64 nc] 42)).heap.size := by rw [World.size_alloc]; omega
            clear hb3
            generalize v3.alloc (.cells #[.int .i64 t, .int .i64 kk, .bool had, .int .i64 oa, .int .i64 ob, .int .i64 oc, .bool has, .int .i64 na, .int .i64 nb, .int .i64 nc] 42) = v4 at HX4 HY4 HO4 HP4 HB4 HR4 HZ4 hN4 hz4 hz4' hK ⊢
            have hz1 := HZ4.out.c1
            refine hK.out _ _ trivial (fun hHeld => ?_)
            clear hK K
            refine wpAnyH_ready (rs := [9]) (by kernel_rfl) (by simp) ?_
            refine AllReadyH.cons (o := _) rfl (fun K hK => ?_) AllReadyH.nil
            refine step_append_lies _ (by rfl) _ _ _ (by rfl) wc.heap.size 42 i0 (.agg (chCells chZ)) 10 80 Tryd.underlying35 hi0 hz0 hzz1 hzz3 (by rfl) (by decide) (.slice (some ⟨g3, 0, none⟩) n c3') n (cellsOf A n) (by rfl) (by have := HR4.out.owns hg3 hc3; rwa [HN.out] at this) ⟨v3.heap.size, 0, none⟩ 1 1 (chCells ⟨t, kk, had, ⟨oa, ob, oc⟩, has, ⟨na, nb, nc⟩⟩).toList (by rfl) (by rfl) (World.news_of_block hN4) (by simp [chCells, Value.oneCell']) (by decide) (by unfold maxLen; omega) (by omega) hz4 v4.heap.size rfl ?_
            intro g cp v5 hown5 hgrow hat hgl
            have hgZ5 : ¬ g = Z := by
              have := HZ4.out.lt
              rcases hat with h | h
              · have : g3 = g := by simpa [Value.ownBlock] using h
                omega
              · omega
            have hXg3 : W.heap.size ≤ g3 := by omega
            have hXZ : ¬ W.heap.size = Z := by omega
            have hYZ : ¬ Y = Z := by omega
            have h1Z : ¬ g1 = Z := by omega
            have h2Z : ¬ g2 = Z := by omega
            have heb : ∀ k, k < v4.heap.size → ¬ k = g3 → v5.heap[k]? = v4.heap[k]? := fun k hk hne => hgrow.block k hk (by simpa [Value.ownBlock] using hne)
            have HX5 := Lib.hid (HX4.out.heapEq (heb _ HX4.out.lt (by omega)))
            have HY5 := Lib.hid (HY4.out.heapEq (heb _ HY4.out.lt (by omega)))
            have HO5 := Lib.hid (HO4.out.heapEq (heb _ HO4.out.lt (by omega)))
            have HP5 := Lib.hid (HP4.out.heapEq (heb _ HP4.out.lt (by omega)))
            have HZ5 := Lib.hid (HZ4.out.heapEq (heb _ HZ4.out.lt (by omega)))
            have HB5 := Lib.hid (HB4.out.grown hgrow HB4.out.size (by intro k hk; have : g3 = k := by simpa [Value.ownBlock] using hk
                                                                      omega))
            have HW5 : Hid (v5.ownsRow wc.heap.size 42 10 (.slice (some ⟨g, 0, none⟩) (n + 1) cp) (n + 1) (cellsOf (A ++ [⟨t, kk, had, ⟨oa, ob, oc⟩, has, ⟨na, nb, nc⟩⟩]) (n + 1))) := Lib.hid (by rw [← cellsOf_snoc A n ⟨t, kk, had, ⟨oa, ob, oc⟩, has, ⟨na, nb, nc⟩⟩ HN.out]; exact hown5)
            obtain ⟨z0, z1, zf0, zf1⟩ := HZ5.out
            clear hown5 hgrow hat hN4 hz4 hz4' heb HX4 HY4 HO4 HP4 HZ4 HB4 HR4 hz1
            refine hK.out _ _ trivial (fun hHeld => ?_)
            clear hK K
            refine wpAnyH_take (i := 10) (oi := _) (v := .pointer (some ⟨Z, 1, none⟩)) rfl (by kernel_rfl) (by kernel_rfl) (by kernel_rfl) (fun _ _ _ h => h) (Or.inl ⟨by rfl, ?_⟩) hHeld ?_
            · intro w' hSw
              go_simp
            simp only [Act.put, List.setIfInBounds_toArray, List.set_cons_zero, List.set_cons_succ]
            refine wpAnyH_ready (rs := [11]) (by kernel_rfl) (by simp) ?_
            refine AllReadyH.cons (o := _) rfl (fun K hK => ?_) AllReadyH.nil
            rw [if_pos (by rfl)]
            go_simp
            have HX6 := Lib.hid (HX5.out.heapEq (w' := v5.setCell ⟨Z, 1, none⟩ (.slice (some ⟨g, 0, none⟩) (n + 1) cp)) (heap_setCell_far hXZ _ _))
            have HY6 := Lib.hid (HY5.out.heapEq (w' := v5.setCell ⟨Z, 1, none⟩ (.slice (some ⟨g, 0, none⟩) (n + 1) cp)) (heap_setCell_far hYZ _ _))
            have HO6 := Lib.hid (HO5.out.heapEq (w' := v5.setCell ⟨Z, 1, none⟩ (.slice (some ⟨g, 0, none⟩) (n + 1) cp)) (heap_setCell_far h1Z _ _))
            have HP6 := Lib.hid (HP5.out.heapEq (w' := v5.setCell ⟨Z, 1, none⟩ (.slice (some ⟨g, 0, none⟩) (n + 1) cp)) (heap_setCell_far h2Z _ _))
            have HZ6 := Lib.hid (HZ5.out.set1 (.slice (some ⟨g, 0, none⟩) (n + 1) cp))
            have HB6 : Hid (Below W.heap.size W (v5.setCell ⟨Z, 1, none⟩ (.slice (some ⟨g, 0, none⟩) (n + 1) cp))) := Lib.hid (below_setCell HB5.out (by simp; omega) _)
            have HS6 := Lib.hid (chs_owns (own_setCell HW5.out hgZ5 1 (.slice (some ⟨g, 0, none⟩) (n + 1) cp)) (by rw [List.length_append, HN.out]; rfl))
            refine hK.out _ _ trivial (fun hHeld => ?_)
            clear hK K hHeld
            refine wpAnyH_done (by kernel_rfl) ?_ _
            go_wp2_with fail
            go_meet
            exact ⟨g, cp, HX6, HY6, HO6, HP6, HZ6, by rw [HLast.out]; exact HS6, HB6⟩
          · rw [if_pos (by rfl)]
            go_simp
            have hb3 := ba v3 (.cells #[.int .i64 t, .int .i64 kk, .bool had, .int .i64 oa, .int .i64 ob, .int .i64 oc, .bool has, .int .i64 na, .int .i64 nb, .int .i64 nc] 42)
            have HX4 := Lib.hid (HX3.out.next hb3)
            have HY4 := Lib.hid (HY3.out.next hb3)
            have HO4 := Lib.hid (HO3.out.below hb3)
            have HP4 := Lib.hid (HP3.out.below hb3)
            have HB4 := Lib.hid (bt HB3.out hb3)
            have HR4 := Lib.hid (HR3.out.below hb3)
            have HZ4 := Lib.hid (HZ3.out.next hb3)
            have hN4 := heap_alloc_new v3 (.cells #[.int .i64 t, .int .i64 kk, .bool had, .int .i64 oa, .int .i64 ob, .int .i64 oc, .bool has, .int .i64 na, .int .i64 nb, .int .i64 nc] 42)
            have hz4 : wc.heap.size ≤ (v3.alloc (.cells #[.int .i64 t, .int .i64 kk, .bool had, .int .i64 oa, .int .i64 ob, .int .i64 oc, .bool has, .int .i64 na, .int .i64 nb, .int .i64 nc] 42)).heap.size := by rw [World.size_alloc]; omega
            have hz4' : v3.heap.size < (v3.alloc (.cells #[.int .i64 t, .int .i64 kk, .bool had, .int .i64 oa, .int .i64 ob, .int .i64 oc, .bool has, .int .i64 na, .int .i64 nb, .int .i64 nc] 42)).heap.size := by rw [World.size_alloc]; omega
            clear hb3
            generalize v3.alloc (.cells #[.int .i64 t, .int .i64 kk, .bool had, .int .i64 oa, .int .i64 ob, .int .i64 oc, .bool has, .int .i64 na, .int .i64 nb, .int .i64 nc] 42) = v4 at HX4 HY4 HO4 HP4 HB4 HR4 HZ4 hN4 hz4 hz4' hK ⊢
            have hz1 := HZ4.out.c1
            refine hK.out _ _ trivial (fun hHeld => ?_)
            clear hK K
            refine wpAnyH_ready (rs := [1]) (by kernel_rfl) (by simp) ?_
            refine AllReadyH.cons (o := _) rfl (fun K hK => ?_) AllReadyH.nil
            rw [if_pos (by rfl)]
            go_simp
            refine hK.out _ _ trivial (fun hHeld => ?_)
            clear hK K
            refine wpAnyH_ready (rs := [9]) (by kernel_rfl) (by simp) ?_
            refine AllReadyH.cons (o := _) rfl (fun K hK => ?_) AllReadyH.nil
            refine step_append_lies _ (by rfl) _ _ _ (by rfl) wc.heap.size 42 i0 (.agg (chCells chZ)) 10 80 Tryd.underlying35 hi0 hz0 hzz1 hzz3 (by rfl) (by decide) (.slice (some ⟨g3, 0, none⟩) n c3') n (cellsOf A n) (by rfl) (by have := HR4.out.owns hg3 hc3; rwa [HN.out] at this) ⟨v3.heap.size, 0, none⟩ 1 1 (chCells ⟨t, kk, had, ⟨oa, ob, oc⟩, has, ⟨na, nb, nc⟩⟩).toList (by rfl) (by rfl) (World.news_of_block hN4) (by simp [chCells, Value.oneCell']) (by decide) (by unfold maxLen; omega) (by omega) hz4 v4.heap.size rfl ?_
            intro g cp v5 hown5 hgrow hat hgl
            have hgZ5 : ¬ g = Z := by
              have := HZ4.out.lt
              rcases hat with h | h
              · have : g3 = g := by simpa [Value.ownBlock] using h
                omega
              · omega
            have hXg3 : W.heap.size ≤ g3 := by omega
            have hXZ : ¬ W.heap.size = Z := by omega
            have hYZ : ¬ Y = Z := by omega
            have h1Z : ¬ g1 = Z := by omega
            have h2Z : ¬ g2 = Z := by omega
            have heb : ∀ k, k < v4.heap.size → ¬ k = g3 → v5.heap[k]? = v4.heap[k]? := fun k hk hne => hgrow.block k hk (by simpa [Value.ownBlock] using hne)
            have HX5 := Lib.hid (HX4.out.heapEq (heb _ HX4.out.lt (by omega)))
            have HY5 := Lib.hid (HY4.out.heapEq (heb _ HY4.out.lt (by omega)))
            have HO5 := Lib.hid (HO4.out.heapEq (heb _ HO4.out.lt (by omega)))
            have HP5 := Lib.hid (HP4.out.heapEq (heb _ HP4.out.lt (by omega)))
            have HZ5 := Lib.hid (HZ4.out.heapEq (heb _ HZ4.out.lt (by omega)))
            have HB5 := Lib.hid (HB4.out.grown hgrow HB4.out.size (by intro k hk; have : g3 = k := by simpa [Value.ownBlock] using hk
                                                                      omega))
            have HW5 : Hid (v5.ownsRow wc.heap.size 42 10 (.slice (some ⟨g, 0, none⟩) (n + 1) cp) (n + 1) (cellsOf (A ++ [⟨t, kk, had, ⟨oa, ob, oc⟩, has, ⟨na, nb, nc⟩⟩]) (n + 1))) := Lib.hid (by rw [← cellsOf_snoc A n ⟨t, kk, had, ⟨oa, ob, oc⟩, has, ⟨na, nb, nc⟩⟩ HN.out]; exact hown5)
            obtain ⟨z0, z1, zf0, zf1⟩ := HZ5.out
            clear hown5 hgrow hat hN4 hz4 hz4' heb HX4 HY4 HO4 HP4 HZ4 HB4 HR4 hz1
            refine hK.out _ _ trivial (fun hHeld => ?_)
            clear hK K
            refine wpAnyH_take (i := 10) (oi := _) (v := .pointer (some ⟨Z, 1, none⟩)) rfl (by kernel_rfl) (by kernel_rfl) (by kernel_rfl) (fun _ _ _ h => h) (Or.inl ⟨by rfl, ?_⟩) hHeld ?_
            · intro w' hSw
              go_simp
            simp only [Act.put, List.setIfInBounds_toArray, List.set_cons_zero, List.set_cons_succ]
            refine wpAnyH_ready (rs := [11]) (by kernel_rfl) (by simp) ?_
            refine AllReadyH.cons (o := _) rfl (fun K hK => ?_) AllReadyH.nil
            rw [if_pos (by rfl)]
            go_simp
            have HX6 := Lib.hid (HX5.out.heapEq (w' := v5.setCell ⟨Z, 1, none⟩ (.slice (some ⟨g, 0, none⟩) (n + 1) cp)) (heap_setCell_far hXZ _ _))
            have HY6 := Lib.hid (HY5.out.heapEq (w' := v5.setCell ⟨Z, 1, none⟩ (.slice (some ⟨g, 0, none⟩) (n + 1) cp)) (heap_setCell_far hYZ _ _))
            have HO6 := Lib.hid (HO5.out.heapEq (w' := v5.setCell ⟨Z, 1, none⟩ (.slice (some ⟨g, 0, none⟩) (n + 1) cp)) (heap_setCell_far h1Z _ _))
            have HP6 := Lib.hid (HP5.out.heapEq (w' := v5.setCell ⟨Z, 1, none⟩ (.slice (some ⟨g, 0, none⟩) (n + 1) cp)) (heap_setCell_far h2Z _ _))
            have HZ6 := Lib.hid (HZ5.out.set1 (.slice (some ⟨g, 0, none⟩) (n + 1) cp))
            have HB6 : Hid (Below W.heap.size W (v5.setCell ⟨Z, 1, none⟩ (.slice (some ⟨g, 0, none⟩) (n + 1) cp))) := Lib.hid (below_setCell HB5.out (by simp; omega) _)
            have HS6 := Lib.hid (chs_owns (own_setCell HW5.out hgZ5 1 (.slice (some ⟨g, 0, none⟩) (n + 1) cp)) (by rw [List.length_append, HN.out]; rfl))
            refine hK.out _ _ trivial (fun hHeld => ?_)
            clear hK K hHeld
            refine wpAnyH_done (by kernel_rfl) ?_ _
            go_wp2_with fail
            go_meet
            exact ⟨g, cp, HX6, HY6, HO6, HP6, HZ6, by rw [HLast.out]; exact HS6, HB6⟩
    case rest =>
      clear HX2 HY2 HO2 HP2 HB2 HR2 HZ2
      obtain ⟨g, cp, HX, HY, HO, HP, HZ, HS, HB⟩ := hcut
      obtain ⟨c0, c1, f0, f1⟩ := HX.out
      go_wp2_with fail
      (with_reducible refine (cutO_any p _ A _ (HO.out.chi hc1 HN.out.symm)).mono ?_)
      rintro e y1 ⟨u4, rfl, ho4, hb1⟩
      obtain ⟨g4, c4', rfl, hg4, hc4, ho4⟩ := ho4
      rw [List.take_of_length_le HL10.out] at ho4 ⊢
      rw [HN.out]
      have HY1 := Lib.hid (HY.out.next hb1)
      have HZ1 := Lib.hid (HZ.out.next hb1)
      have HP1 := Lib.hid (HP.out.below hb1)
      have HS1 := Lib.hid (HS.out.below hb1)
      have HB1 := Lib.hid (bt HB.out hb1)
      have HR1 := Lib.hid ho4
      clear hb1 ho4 c0 c1 f0 f1 HX HY HO HP HB HZ HS
      go_upto_region 16 with fail
      obtain ⟨V, HVe⟩ : ∃ V, Hid (y1.heap.size = V) := ⟨_, Lib.hid rfl⟩
      have hk := ba y1 (.cells #[.int .i64 0, .slice (some ⟨g4, 0, none⟩) n c4'] 37)
      have HY2 := HY1.out.next hk
      have HZ2 := HZ1.out.next hk
      have HP2 := Lib.hid (HP1.out.below hk)
      have HS2 := Lib.hid (HS1.out.below hk)
      have HB2 := Lib.hid (bt HB1.out hk)
      have HR2 := Lib.hid (HR1.out.below hk)
      have HV2 := RecAt.new y1 0 (.slice (some ⟨g4, 0, none⟩) n c4')
      rw [HVe.out] at HV2
      try rw [HVe.out]
      generalize y1.alloc (.cells #[.int .i64 0, .slice (some ⟨g4, 0, none⟩) n c4'] 37) = y2 at HY2 HZ2 HP2 HS2 HB2 HR2 HV2 ⊢
      clear hk HY1 HZ1 HP1 HS1 HB1 HR1
      have HY3 := Lib.hid HY2
      have HZ3 := Lib.hid HZ2
      have HV3 := Lib.hid HV2
      have HSw := Lib.hid (vrec_swap HV.out q r HqA.out HrA.out)
      have HNs : Hid (n = (swap A q r).length) := Lib.hid (by rw [swap_len, HN.out])
      have HTw : Hid (¬ VRec p (A ++ [A.getD m chZ])) := Lib.hid (vrec_twice m (by rw [HN.out, Hm.out]))
      clear HY2 HZ2 HV2
      obtain ⟨a0, a1, _⟩ := HY3.out
      obtain ⟨bs, hbs, HBS⟩ : ∃ bs, ((q : Int) == (r : Int)) = bs ∧ Hid (vrec p (swap A q r) = bs) := by
        by_cases h : q = r
        · exact ⟨true, by simp [h], Lib.hid (decide_eq_true (HSw.out.2 h))⟩
        · exact ⟨false, by simp; omega, Lib.hid (decide_eq_false (fun hh => h (HSw.out.1 hh)))⟩
      have hbb : (bs == bs) = true := by simp
      go_wp2_with fail
      (with_reducible refine (vrec_to p _ (swap A q r) _ HBS (HP2.out.chs hc2 HNs.out)).mono ?_)
      rintro e y3 ⟨rfl, hb3⟩
      have HZ4 := HZ3.out.next hb3
      have HV4 := Lib.hid (HV3.out.next hb3)
      have HS4 := Lib.hid (HS2.out.below hb3)
      have HR4 := Lib.hid (HR2.out.below hb3)
      have HB4 := Lib.hid (bt HB2.out hb3)
      clear hb3 HY3 HZ3 HV3 HP2 HS2 HR2 HB2 a0 a1
      obtain ⟨a0, a1, _⟩ := HZ4
      go_wp2_with fail
      (with_reducible refine (vrecC_f p _ (A ++ [A.getD m chZ]) _ HS4.out HTw.out).mono ?_)
      rintro e y4 ⟨rfl, hb4⟩
      have HV5 := HV4.out.next hb4
      have HR5 := Lib.hid (HR4.out.below hb4)
      have HB5 := Lib.hid (bt HB4.out hb4)
      clear hb4 HV4 HS4 HR4 HB4 a0 a1
      obtain ⟨a0, a1, _⟩ := HV5
      go_wp2_with fail
      (with_reducible refine (vrecC_f 0 _ A _ (HR5.out.chs hc4 HN.out.symm) (vrec_zero A)).mono ?_)
      rintro e y5 ⟨rfl, hb5⟩
      have HB6 := Lib.hid (bt HB5.out hb5)
      clear hb5 a0 a1
      go_wp2_with fail
      go_ret
      exact ⟨rfl, HB6.out⟩
theorem order_walk (p i k : Int) (u : Value) (L : List MCh) (W : World) (hi1 : -9223372036854775808 ≤ i) (hi2 : i ≤ 9223372036854775807) (hk1 : -9223372036854775808 ≤ k) (hk2 : k ≤ 9223372036854775807) (hE : Errs W) (hu : ChI W u L) : Calls Tryd.prog 10 #[.agg #[.int .i64 p, u], .int .i64 i, .int .i64 k] W fun e w' => e = .returned (.bool true) ∧ Below W.heap.size W w' := by
  by_cases hv : VRec p (L.take 10)
  · exact order_good p i k u L W hi1 hi2 hk1 hk2 hE hu hv
  · exact order_bad p i k u L W hE hu hv
end Go.Proofs.YtgkdliocfnoffaaDoor
