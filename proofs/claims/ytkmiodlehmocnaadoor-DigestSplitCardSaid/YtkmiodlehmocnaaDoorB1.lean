/- THE WALK OF DigestSplit. -/
import Derived.Test.YtkmiodlehmocnaaDoorB0
set_option linter.unusedVariables false
namespace Go.Proofs.YtkmiodlehmocnaaDoor
open Go.RowKit

set_option maxRecDepth 100000 in
set_option maxHeartbeats 2000000 in
theorem split_walk (L : List ByteArray) (v : Value) (s : ByteArray) (w : World) (hS : InS w v L) (hz : ∀ x ∈ L, x.size ≤ maxLen) (hs : s.size ≤ maxLen) (hT : Tab w) :
    Calls Tryd.prog 9 #[v, .string s] w fun e W' => e = .returned (.bool true) ∧ Below w.heap.size w W' := by
  have HT := Lib.hid hT
  have HS := Lib.hid hS
  have HZ := Lib.hid hz
  clear hT hS hz
  unfold maxLen at hs
  obtain ⟨i0, hi0, hz0, hz1, hz2⟩ := info_parts Tryd.info9
  have HI0 := Lib.hid hi0
  have HZ0 := Lib.hid hz0
  have HZ1 := Lib.hid hz1
  have HZ2 := Lib.hid hz2
  clear hi0 hz0 hz1 hz2
  obtain ⟨F, HF⟩ : ∃ F, Hid (fewL L 40 = F) := ⟨_, Lib.hid rfl⟩
  obtain ⟨y, HY⟩ : ∃ y, Hid (s.extract 0 (min (s.size : Int) 60).toNat = y) := ⟨_, Lib.hid rfl⟩
  have hy60 : y.size ≤ 60 := by rw [← HY.out]; exact cut60_size s
  have HFs := Lib.hid (show Short F from by rw [← HF.out]; exact fewL_short _ _)
  have HFl := Lib.hid (show F.length ≤ 40 from by rw [← HF.out, fewL_length]; omega)
  have HMs := Lib.hid (show Short (F ++ [y]) from fun x hx => by
    rcases List.mem_append.1 hx with h | h
    · exact HFs.out x h
    · rw [List.mem_singleton.1 h]; omega)
  have HML := Lib.hid (show (F ++ [y]).length = F.length + 1 from by simp)
  have HMl := Lib.hid (show (F ++ [y]).length ≤ 1000000 from by have := HFl.out; rw [HML.out]; omega)
  have HTk := Lib.hid (show (F ++ [y]).take F.length = F from by simp)
  have HAc := Lib.hid (ext_accept (F ++ [y]) F.length (by simp))
  rw [HTk.out] at HAc
  go_enter Tryd.func9, Tryd.ntmps9
  go_wp2_with fail
  refine (sane_c _ HT.out).mono ?_
  rintro e w1 ⟨rfl, hb1⟩
  have HB1 := Lib.hid hb1
  clear hb1
  go_wp2_with fail
  refine (few_c L v 40 _ (by decide) (HS.out.below HB1.out) HZ.out).mono ?_
  rintro e w2 ⟨v2, rfl, ho2, hnil, hb2⟩
  have HB2 := Lib.hid (bt HB1.out hb2)
  clear hb2 HB1
  rw [HF.out] at ho2 hnil
  have HO2 := Lib.hid ho2
  have HNil := Lib.hid hnil
  clear hnil
  have hy := HY.out
  have m1 : 0 ≤ min (s.size : Int) 60 := by omega
  have m2 : min (s.size : Int) 60 ≤ (s.size : Int) := by omega
  have HB3 := Lib.hid (show Below w2.heap.size w2 (w2.alloc (.cells #[] 9)) from (Below.refl _ w2).alloc (Nat.le_refl _) _)
  have HE3 := Lib.hid (own_empty w2 w2.heap.size (Nat.le_refl _))
  by_cases hF : F = []
  · have hv2 := HNil.out hF
    subst hv2
    have hF' := hF
    subst hF
    clear ho2
    have HOne := Lib.hid (dg.root_one y)
    have HN0 := Lib.hid dg.root_nil
    have HE4 := Lib.hid (World.ownsRow.alloc HE3.out (.cells #[.string y] 9))
    have HB4 := Lib.hid (HB3.out.alloc HB3.out.size (.cells #[.string y] 9))
    have HN4 := Lib.hid (World.news_of_block (show ((w2.alloc (.cells #[] 9)).alloc (.cells #[.string y] 9)).heap[w2.heap.size + 1]? = some (.cells #[.string y] 9 (0, 0)) from by have := heap_alloc_new (w2.alloc (.cells #[] 9)) (.cells #[.string y] 9); rwa [World.size_alloc] at this))
    go_wp2_with (at_builtin; refine wpList_append_own _ rfl (.tmp 20) (.tmp 22) 26 rfl w2.heap.size 9 i0 (.string ⟨#[]⟩) 1 16 Tryd.underlying26 HI0.out HZ0.out HZ1.out HZ2.out rfl (by decide) _ 0 [] rfl HE4.out ⟨w2.heap.size + 1, 0, none⟩ 1 1 [.string y] rfl rfl HN4.out (strOne y) (by decide) (by decide) (by have := HB4.out.size; exact this) ?_; intro v4 w4 hown4 hgrow4 _)
    have HM4 := Lib.hid (show OwnS w4 w2.heap.size v4 [y] from hown4)
    have HB5 := Lib.hid (bt HB2.out (below_app2 HB4.out HE4.out HB4.out.size hgrow4))
    obtain ⟨g4, p4, rfl, hg4, hl4⟩ := HM4.out.form (by simp)
    rw [show [y].length = 1 from rfl] at HM4 ⊢
    clear hown4 hgrow4 hg4 hl4
    have HS4 := Lib.hid (OwnS.strs HM4.out)
    go_wp2_with fail
    have HAc' := Lib.hid (show dg.verifyExt (dg.root []) 0 (dg.root [y]) 1 [] = true from by have h := HAc.out; simpa [extL] using h)
    have hq1 := str_eq HOne.out
    have hq2 := str_eq HN0.out
    have hys : Short [y] := fun x hx => by rw [List.mem_singleton.1 hx]; omega
    have HYs := Lib.hid hys
    clear hys
    refine (ext_zero [y] _ w4 HS4.out).mono ?_
    rintro e w4 ⟨rfl, rfl⟩
    go_wp2_with fail
    refine (root_c 0 [] _ _ (Nat.le_refl _) (Strs.nil _) (fun x hx => absurd hx (by simp)) (HT.out.below HB5.out)).mono ?_
    rintro e w5 ⟨rfl, hb5⟩
    have HB6 := Lib.hid (bt HB5.out hb5)
    have HS5 := Lib.hid (HS4.out.below hb5)
    clear hb5 HB5 HS4
    go_wp2_with fail
    refine (root_c 1 [y] _ _ (Nat.le_refl _) HS5.out HYs.out (HT.out.below HB6.out)).mono ?_
    rintro e w6 ⟨rfl, hb6⟩
    have HB7 := Lib.hid (bt HB6.out hb6)
    have HS6 := Lib.hid (HS5.out.below hb6)
    clear hb6 HB6 HS5
    go_wp2_with fail
    refine (verifyExt_c (dg.root []) 0 (dg.root [y]) 1 _ [] _ (by decide) (by decide) (by decide) (by decide) (by rw [dg.root_size]; decide) (by rw [dg.root_size]; decide) (Strs.nil _) (fun x hx => absurd hx (by simp)) (HT.out.below HB7.out)).mono ?_
    rintro e w7 ⟨rfl, hb7⟩
    rw [HAc'.out]
    have HB8 := Lib.hid (bt HB7.out hb7)
    have HS7 := Lib.hid (HS6.out.below hb7)
    clear hb7 HB7 HS6
    go_wp2_with fail
    refine (root_c 1 [y] _ _ (Nat.le_refl _) HS7.out HYs.out (HT.out.below HB8.out)).mono ?_
    rintro e w8 ⟨rfl, hb8⟩
    have HB9 := Lib.hid (bt HB8.out hb8)
    clear hb8 HB8 HS7
    go_wp2_with fail
    refine (leaf_c y _ (by omega) (HT.out.below HB9.out)).mono ?_
    rintro e w9 ⟨rfl, hb9⟩
    have HB10 := Lib.hid (bt HB9.out hb9)
    clear hb9 HB9
    go_wp2_with fail
    refine (root_c 0 [] _ _ (Nat.le_refl _) (Strs.nil _) (fun x hx => absurd hx (by simp)) (HT.out.below HB10.out)).mono ?_
    rintro e w10 ⟨rfl, hb10⟩
    have HB11 := Lib.hid (bt HB10.out hb10)
    clear hb10 HB10
    go_wp2_with fail
    refine (sum_c ⟨#[]⟩ _ (show 0 ≤ 1000000000 by omega) (HT.out.below HB11.out)).mono ?_
    rintro e w11 ⟨rfl, hb11⟩
    have HB12 := Lib.hid (bt HB11.out hb11)
    go_wp2_with fail
    go_ret
    exact ⟨rfl, HB12.out⟩
  · obtain ⟨g2, p2, rfl, hg2, hl2⟩ := HO2.out.form hF
    have HFp := Lib.hid (show 1 ≤ F.length from by cases F; exact absurd rfl hF; simp)
    clear ho2 HNil
    obtain ⟨n, HN⟩ : ∃ n, Hid (F.length = n) := ⟨_, Lib.hid rfl⟩
    rw [HN.out] at HO2 ⊢
    have HS2 := Lib.hid (OwnS.strs HO2.out)
    have HC2 := Lib.hid (fun j u h => (HB3.out.cell (p := (⟨g2, 0, none⟩ : Addr).add j) (by unfold Addr.add; split <;> exact hl2)).trans (OwnS.cells HO2.out j u h))
    have HVl := Lib.hid (show (strV F).length = n * 1 from by rw [strV_length, HN.out, Nat.mul_one])
    have hn40 : n ≤ 40 := by rw [← HN.out]; exact HFl.out
    have hb63 : 0 + n ≤ maxLen := by unfold maxLen; omega
    have hb16 : (0 + n) * 16 ≤ 140737488355328 := by omega
    have hc63 : 0 + n + 1 ≤ maxLen := by unfold maxLen; omega
    have hc16 : (0 + n + 1) * 16 ≤ 140737488355328 := by omega
    clear hF
    go_wp2_with (first | (at_builtin; refine wpList_append_own _ rfl (.tmp 18) (.tmp 19) 26 rfl w2.heap.size 9 i0 (.string ⟨#[]⟩) 1 16 Tryd.underlying26 HI0.out HZ0.out HZ1.out HZ2.out rfl (by decide) _ 0 [] rfl HE3.out ⟨g2, 0, none⟩ n p2 (strV F) rfl HVl.out HC2.out (strV_one F) hb63 hb16 HB3.out.size ?_; intro v3 w3 hown3 hgrow3 _; have hsz3 := HB3.out.size; have HB4 := Lib.hid (below_app2 HB3.out HE3.out HB3.out.size hgrow3); have HO3 := Lib.hid hown3; clear hgrow3 hown3 hsz3) | (at_builtin; refine wpList_append_own _ rfl (.tmp 20) (.tmp 22) 26 rfl w2.heap.size 9 i0 (.string ⟨#[]⟩) 1 16 Tryd.underlying26 HI0.out HZ0.out HZ1.out HZ2.out rfl (by decide) _ (0 + n) _ rfl (World.ownsRow.alloc HO3.out _) ⟨w3.heap.size, 0, none⟩ 1 1 [.string y] rfl rfl (World.news_of_block (heap_alloc_new w3 _)) (strOne y) hc63 hc16 (Nat.le_trans HB4.out.size (by simp)) ?_; intro v4 w4 hown4 hgrow4 _))
    have hB24 : Below w2.heap.size w2 w4 := below_app2 (HB4.out.alloc HB4.out.size (.cells #[.string y] 9)) (World.ownsRow.alloc HO3.out _) (Nat.le_trans HB4.out.size (by simp)) hgrow4
    have HB5 := Lib.hid (bt HB2.out hB24)
    have HF5 := Lib.hid (HS2.out.below hB24)
    obtain ⟨M, HM⟩ : ∃ M, Hid (F ++ [y] = M) := ⟨_, Lib.hid rfl⟩
    rw [HM.out, HN.out] at HML
    rw [HM.out] at HMs HMl
    have HM4 := Lib.hid (show OwnS w4 w2.heap.size v4 M from by
      unfold OwnS
      rw [HML.out, ← HM.out, strV_snoc]
      have h := hown4
      rw [Nat.zero_add] at h
      exact h)
    obtain ⟨n1, HN1⟩ : ∃ n1, Hid (n + 1 = n1) := ⟨_, Lib.hid rfl⟩
    rw [HN1.out] at HML
    have hn1l : n1 ≤ 41 := by rw [← HN1.out]; omega
    have hn2l : 2 ≤ n1 := by have := HFp.out; rw [HN.out] at this; rw [← HN1.out]; omega
    have hnn1 : n ≤ n1 := by rw [← HN1.out]; omega
    obtain ⟨g4, p4, rfl, hg4, hl4⟩ := HM4.out.form (by rw [← HM.out]; simp)
    rw [HML.out] at HM4 ⊢
    have HS4 := Lib.hid (OwnS.strs HM4.out)
    have HAc' := Lib.hid (show dg.verifyExt (dg.root F) (n : Int) (dg.root M) (n1 : Int) (dg.beg M n true) = true from by
      have h := HAc.out
      rw [HM.out, HML.out, HN.out] at h
      unfold extL at h
      rw [if_neg (by have := HFp.out; rw [HN.out] at this; omega)] at h
      exact h)
    have hn1 : 1 ≤ n := by have := HFp.out; rw [HN.out] at this; exact this
    clear hown4 hgrow4 hg4 hl4 hB24 HO3 HB4 HC2 HVl hg2 hl2 hb63 hb16 hc63 hc16
    have hn0 : ((n : Int) == 0) = false := by simp; omega
    refine (ext_c M _ n w4 HMl.out hn1 (by rw [HML.out]; omega) HS4.out HMs.out (HT.out.below HB5.out)).mono ?_
    rintro e w5 ⟨vx, rfl, hx5, hb5⟩
    have HB6 := Lib.hid (bt HB5.out hb5)
    have HF6 := Lib.hid (HF5.out.below hb5)
    have HS5 := Lib.hid (HS4.out.below hb5)
    have HX5 := Lib.hid (OwnS.strs hx5)
    clear hb5 hx5 HB5 HF5 HS4
    go_wp2_with fail
    refine (root_c 40 F _ _ (by rw [HN.out]; exact hn40) HF6.out HFs.out (HT.out.below HB6.out)).mono ?_
    rintro e w6 ⟨rfl, hb6⟩
    have HB7 := Lib.hid (bt HB6.out hb6)
    have HF7 := Lib.hid (HF6.out.below hb6)
    have HS6 := Lib.hid (HS5.out.below hb6)
    have HX6 := Lib.hid (HX5.out.below hb6)
    clear hb6 HB6 HF6 HS5 HX5
    go_wp2_with fail
    refine (root_c 41 M _ _ (by rw [HML.out]; omega) HS6.out HMs.out (HT.out.below HB7.out)).mono ?_
    rintro e w7 ⟨rfl, hb7⟩
    have HB8 := Lib.hid (bt HB7.out hb7)
    have HF8 := Lib.hid (HF7.out.below hb7)
    have HS7 := Lib.hid (HS6.out.below hb7)
    have HX7 := Lib.hid (HX6.out.below hb7)
    clear hb7 HB7 HF7 HS6 HX6
    go_wp2_with fail
    refine (verifyExt_c (dg.root F) n (dg.root M) n1 _ (dg.beg M n true) _ (by omega) (by omega) (by omega) (by omega) (by rw [dg.root_size]; decide) (by rw [dg.root_size]; decide) HX7.out (short_areD (dg.beg_areD _ _ _)) (HT.out.below HB8.out)).mono ?_
    rintro e w8 ⟨rfl, hb8⟩
    rw [HAc'.out]
    have HB9 := Lib.hid (bt HB8.out hb8)
    have HS8 := Lib.hid (HS7.out.below hb8)
    clear hb8 HB8 HF8 HS7 HX7
    go_wp2_with fail
    refine (left_c n1 _ (by omega) (by omega)).mono ?_
    rintro e w8 ⟨rfl, rfl⟩
    obtain ⟨k, HK⟩ : ∃ k, Hid (spl n1 = k) := ⟨_, Lib.hid rfl⟩
    have hk1 : 1 ≤ k := by rw [← HK.out]; exact spl_pos _
    have hk2 : k < n1 := by rw [← HK.out]; exact spl_lt (by omega)
    rw [HK.out]
    obtain ⟨b4, o4, c4, hv4, hc4, hm4, hb4, hcell4⟩ := HS8.out.open1 (by rw [HML.out]; omega)
    simp only [Value.slice.injEq, Option.some.injEq, Addr.mk.injEq] at hv4
    obtain ⟨⟨rfl, rfl, _⟩, h9, rfl⟩ := hv4
    clear h9
    have HC1 := Lib.hid (fun (w' : World) (hw : Below w8.heap.size w8 w') => root_c 41 (M.take k) _ w' (by simp; have := HML.out; omega) ((Strs.take hc4 hm4 hb4 hcell4 (k := k) (by rw [HML.out]; omega)).below hw) (HMs.out.take k) ((HT.out.below HB9.out).below hw))
    have HC2 := Lib.hid (fun (w' : World) (hw : Below w8.heap.size w8 w') => root_c 41 (M.drop k) _ w' (by simp; have := HML.out; omega) ((Strs.drop hc4 hm4 hb4 hcell4 (k := k) (by rw [HML.out]; omega)).below hw) (HMs.out.drop k) ((HT.out.below HB9.out).below hw))
    have HC0 := Lib.hid (fun (w' : World) (hw : Below w8.heap.size w8 w') => root_c 41 M _ w' (by have := HML.out; omega) (HS8.out.below hw) HMs.out ((HT.out.below HB9.out).below hw))
    have HE := Lib.hid (dg.root_two (l := M) (by rw [HML.out]; omega))
    rw [HML.out, HK.out] at HE
    rw [HML.out, Nat.zero_add] at HC2
    rw [HML.out] at hc4
    obtain ⟨r1, R1⟩ : ∃ r, Hid (dg.root (M.take k) = r) := ⟨_, Lib.hid rfl⟩
    obtain ⟨r2, R2⟩ : ∃ r, Hid (dg.root (M.drop k) = r) := ⟨_, Lib.hid rfl⟩
    obtain ⟨r0, R0⟩ : ∃ r, Hid (dg.root M = r) := ⟨_, Lib.hid rfl⟩
    have hr1 : r1.size ≤ 32 := by rw [← R1.out, dg.root_size]; exact Nat.le_refl _
    have hr2 : r2.size ≤ 32 := by rw [← R2.out, dg.root_size]; exact Nat.le_refl _
    rw [R1.out, R2.out, R0.out] at HE
    rw [R1.out] at HC1
    rw [R2.out] at HC2
    rw [R0.out] at HC0 ⊢
    have HND := Lib.hid (fun (w' : World) (hw : Below w8.heap.size w8 w') => node_c r1 r2 w' (by omega) (by omega) ((HT.out.below HB9.out).below hw))
    have hqe := str_eq HE.out
    clear hcell4 R1 R2 R0
    unfold maxLen at hm4
    have hck : ¬ p4 = k := by omega
    have hk0 : 0 ≤ (k : Int) := by omega
    have hkn : (k : Int) ≤ (n1 : Int) := by omega
    have hkc : (k : Int) ≤ (p4 : Int) := by omega
    have hnc : (n1 : Int) ≤ (p4 : Int) := by omega
    go_wp2_with fail
    go_region_held3 (fun w' => Below w8.heap.size w8 w')
      (first | assumption | exact (Below.refl _ _).drew | exact bt (by assumption) (by assumption))
      (first | (go_at_call_of 25 (n1 - k); refine (HC2.out _ (by first | assumption | exact (Below.refl _ _).drew | exact bt (by assumption) (by assumption))).mono ?_; rintro e1 w9 ⟨rfl, hb9⟩) | (go_at_call_of 25 (Value.slice (some ⟨g4, 0, none⟩) k p4); refine (HC1.out _ (by first | assumption | exact (Below.refl _ _).drew | exact bt (by assumption) (by assumption))).mono ?_; rintro e1 w9 ⟨rfl, hb9⟩) | (go_at_call 25; refine (HC0.out _ (by first | assumption | exact (Below.refl _ _).drew | exact bt (by assumption) (by assumption))).mono ?_; rintro e1 w9 ⟨rfl, hb9⟩) | (go_at_call 15; refine (HND.out _ (by first | assumption | exact bt (by assumption) (by assumption))).mono ?_; rintro e1 w9 ⟨rfl, hb9⟩))
    go_wp2_with fail
    go_ret
    exact ⟨rfl, bt HB9.out (by first | assumption | exact bt (by assumption) (by assumption))⟩
end Go.Proofs.YtkmiodlehmocnaaDoor
