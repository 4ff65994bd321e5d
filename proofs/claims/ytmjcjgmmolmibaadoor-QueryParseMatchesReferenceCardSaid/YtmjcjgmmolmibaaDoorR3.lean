/- WALKS: the reference's Line. -/
import Derived.Test.YtmjcjgmmolmibaaDoorR2
import Derived.Test.YtmjcjgmmolmibaaDoorQ1
import Derived.Test.YtmjcjgmmolmibaaDoorE1
import Derived.Deep.QuietTactic
set_option linter.unusedVariables false
set_option linter.unusedSimpArgs false
namespace Go.Proofs.YtmjcjgmmolmibaaDoor
open Go.RowKit Go.Sort

theorem bcat (a b : List UInt8) : bstr a ++ bstr b = bstr (a ++ b) := by
  apply ByteArray.ext
  simp [bstr]
theorem rword_int (k : Int) (hk : 0 ≤ k ∧ k < 8) (w : World) : Calls Tryd.prog 32 #[.int .i64 k] w fun e w' => e = .returned (.string (bstr (wordOf k))) ∧ Below w.heap.size w w' := by
  obtain ⟨n, rfl⟩ : ∃ n : Nat, k = n := ⟨k.toNat, by omega⟩
  exact rword_any n (by omega) w
theorem word_size (k : Int) : (bstr (wordOf k)).size ≤ 5 := by
  rw [bstr_size]
  unfold wordOf
  repeat' split
  all_goals decide
theorem QAt.calm {w : World} {b : Nat} {q : MQ} (h : QAt w b q) : ∀ w0, BW w w0 → ∀ d os, QAt (grow (redrawn w0 d) os) b q := fun w0 h0 d os => (h.below h0).below (below_regrown w0 d os)

set_option maxRecDepth 100000 in
set_option maxHeartbeats 4000000 in
theorem rline_1 (t c l h b o : Int) (ht : -1000000000 ≤ t ∧ t ≤ 1000000000) (hl : -1000000000 ≤ l ∧ l ≤ 1000000000) (w : World) : Calls Tryd.prog 23 #[qV ⟨1, t, c, l, h, b, o⟩] w fun e w' => e = .returned (.string (bstr (line ⟨1, t, c, l, h, b, o⟩))) ∧ Below w.heap.size w w' := by
  have HLn : Hid (bstr (line ⟨1, t, c, l, h, b, o⟩) = bstr (wordOf 1) ++ bstr [32] ++ bstr (Lib.itoa t) ++ bstr [32] ++ bstr (Lib.itoa l)) := Lib.hid (by
    simp [bcat, line, wordsOf, rest, Lib.join])
  have hz1 := itoa_len ht
  have hz2 := itoa_len hl
  rw [← bstr_size] at hz1 hz2
  have HC1 := Lib.hid (fun w => rnumber_any t ht w)
  have HC2 := Lib.hid (fun w => rnumber_any l hl w)
  obtain ⟨T1, HT1⟩ : ∃ T, Hid (bstr (Lib.itoa t) = T) := ⟨_, Lib.hid rfl⟩
  obtain ⟨T2, HT2⟩ : ∃ T, Hid (bstr (Lib.itoa l) = T) := ⟨_, Lib.hid rfl⟩
  rw [HT1.out] at hz1 HC1 HLn
  rw [HT2.out] at hz2 HC2 HLn
  have HQ0 := Lib.hid (QAt.new w ⟨1, t, c, l, h, b, o⟩)
  have HW := Lib.hid (rword_int 1 (by decide) (w.alloc (.cells #[.int .i64 1, .int .i64 t, .int .i64 c, .int .i64 l, .int .i64 h, .int .i64 b, .int .i64 o] 23)))
  have hz0 := word_size 1
  obtain ⟨T0, HT0⟩ : ∃ T, Hid (bstr (wordOf 1) = T) := ⟨_, Lib.hid rfl⟩
  rw [HT0.out] at hz0 HW HLn
  clear ht hl HT1 HT2 HT0
  unfold qV
  go_enter Tryd.func23, Tryd.ntmps23
  go_wp2_with fail
  (with_reducible refine HW.out.mono ?_)
  rintro e w1 ⟨rfl, hb1⟩
  have HB1 := Lib.hid (bt (ba w _) hb1)
  have HQ1 := Lib.hid (HQ0.out.below hb1)
  clear hb1
  obtain ⟨y0, y1, y2, y3, y4, y5, y6⟩ := HQ1.out
  go_wp2_with fail
  clear y0 y1 y2 y3 y4 y5 y6
  have g1 : ∀ w0, BW w1 w0 → ∀ d os, (grow (redrawn w0 d) os).cell? ⟨w.heap.size, 1, none⟩ = some (.int .i64 t) := fun w0 h d os => (HQ1.out.calm w0 h d os).c1
  have g3 : ∀ w0, BW w1 w0 → ∀ d os, (grow (redrawn w0 d) os).cell? ⟨w.heap.size, 3, none⟩ = some (.int .i64 l) := fun w0 h d os => (HQ1.out.calm w0 h d os).c3
  refine wp_region_calm 11 12 [0, 1, 2, 3, 4, 5, 6, 7, 8, 9, 10] (by kernel_rfl) (by kernel_rfl) (by intro oz h; simp at h) (by intro oz h; simp at h) (by rfl) ?_
  simp only [List.take_succ_cons, List.take_zero]
  iterate 4
    apply wpCalm_want
    · rfl
    · exact bc_refl
    · exact ⟨_, Below.refl _ _⟩
    · intro w0 hC0 K hK
      go_big_quiet_op
      exact hK
  apply wpCalm_want
  · rfl
  · exact bc_refl
  · exact ⟨_, Below.refl _ _⟩
  · intro w0 hC0 K hK
    go_big_quiet_op
    apply Exists.intro
    refine ⟨fun p => ?_, ?_⟩
    · exact Calls.regrown_of (HC1.out _)
    · exact hK
  iterate 4
    apply wpCalm_want
    · rfl
    · exact bc_refl
    · exact ⟨_, Below.refl _ _⟩
    · intro w0 hC0 K hK
      go_big_quiet_op
      exact hK
  apply wpCalm_want
  · rfl
  · exact bc_refl
  · exact ⟨_, Below.refl _ _⟩
  · intro w0 hC0 K hK
    go_big_quiet_op
    apply Exists.intro
    refine ⟨fun p => ?_, ?_⟩
    · exact Calls.regrown_of (HC2.out _)
    · exact hK
  iterate 1
    apply wpCalm_want
    · rfl
    · exact bc_refl
    · exact ⟨_, Below.refl _ _⟩
    · intro w0 hC0 K hK
      go_big_quiet_op
      exact hK
  refine wpCalm_nil ?_
  intro wc hbc
  simp only [List.drop_succ_cons, List.drop_zero]
  go_wp2_with fail
  go_ret
  exact ⟨by rw [HLn.out]; rfl, bt HB1.out hbc⟩
-- ARMS
set_option maxRecDepth 100000 in
set_option maxHeartbeats 8000000 in
theorem rline_2 (t c l h b o : Int) (ht : -1000000000 ≤ t ∧ t ≤ 1000000000) (hc : -1000000000 ≤ c ∧ c ≤ 1000000000) (hl : -1000000000 ≤ l ∧ l ≤ 1000000000) (hh : -1000000000 ≤ h ∧ h ≤ 1000000000) (w : World) : Calls Tryd.prog 23 #[qV ⟨2, t, c, l, h, b, o⟩] w fun e w' => e = .returned (.string (bstr (line ⟨2, t, c, l, h, b, o⟩))) ∧ Below w.heap.size w w' := by
  have HLn : Hid (bstr (line ⟨2, t, c, l, h, b, o⟩) = bstr (wordOf 2) ++ bstr [32] ++ bstr (Lib.itoa t) ++ bstr [32] ++ bstr (Lib.itoa c) ++ bstr [32] ++ bstr (Lib.itoa l) ++ bstr [32] ++ bstr (Lib.itoa h)) := Lib.hid (by
    simp [bcat, line, wordsOf, rest, Lib.join, wOf, wTo, bs])
  have hzt := itoa_len ht
  have hzc := itoa_len hc
  have hzl := itoa_len hl
  have hzh := itoa_len hh
  rw [← bstr_size] at hzt hzc hzl hzh
  have HCt := Lib.hid (fun w => rnumber_any t ht w)
  have HCc := Lib.hid (fun w => rnumber_any c hc w)
  have HCl := Lib.hid (fun w => rnumber_any l hl w)
  have HCh := Lib.hid (fun w => rnumber_any h hh w)
  obtain ⟨Tt, HTt⟩ : ∃ T, Hid (bstr (Lib.itoa t) = T) := ⟨_, Lib.hid rfl⟩
  rw [HTt.out] at hzt HCt HLn
  obtain ⟨Tc, HTc⟩ : ∃ T, Hid (bstr (Lib.itoa c) = T) := ⟨_, Lib.hid rfl⟩
  rw [HTc.out] at hzc HCc HLn
  obtain ⟨Tl, HTl⟩ : ∃ T, Hid (bstr (Lib.itoa l) = T) := ⟨_, Lib.hid rfl⟩
  rw [HTl.out] at hzl HCl HLn
  obtain ⟨Th, HTh⟩ : ∃ T, Hid (bstr (Lib.itoa h) = T) := ⟨_, Lib.hid rfl⟩
  rw [HTh.out] at hzh HCh HLn
  have HQ0 := Lib.hid (QAt.new w ⟨2, t, c, l, h, b, o⟩)
  have HW := Lib.hid (rword_int 2 (by decide) (w.alloc (.cells #[.int .i64 2, .int .i64 t, .int .i64 c, .int .i64 l, .int .i64 h, .int .i64 b, .int .i64 o] 23)))
  have hz0 := word_size 2
  obtain ⟨T0, HT0⟩ : ∃ T, Hid (bstr (wordOf 2) = T) := ⟨_, Lib.hid rfl⟩
  rw [HT0.out] at hz0 HW HLn
  clear ht hc hl hh HTt HTc HTl HTh HT0
  unfold qV
  go_enter Tryd.func23, Tryd.ntmps23
  go_wp2_with fail
  (with_reducible refine HW.out.mono ?_)
  rintro e w1 ⟨rfl, hb1⟩
  have HB1 := Lib.hid (bt (ba w _) hb1)
  have HQ1 := Lib.hid (HQ0.out.below hb1)
  clear hb1
  obtain ⟨y0, y1, y2, y3, y4, y5, y6⟩ := HQ1.out
  go_wp2_with fail
  clear y0 y1 y2 y3 y4 y5 y6
  have g1 : ∀ w0, BW w1 w0 → ∀ d os, (grow (redrawn w0 d) os).cell? ⟨w.heap.size, 1, none⟩ = some (.int .i64 t) := fun w0 h d os => (HQ1.out.calm w0 h d os).c1
  have g2 : ∀ w0, BW w1 w0 → ∀ d os, (grow (redrawn w0 d) os).cell? ⟨w.heap.size, 2, none⟩ = some (.int .i64 c) := fun w0 h d os => (HQ1.out.calm w0 h d os).c2
  have g3 : ∀ w0, BW w1 w0 → ∀ d os, (grow (redrawn w0 d) os).cell? ⟨w.heap.size, 3, none⟩ = some (.int .i64 l) := fun w0 h d os => (HQ1.out.calm w0 h d os).c3
  have g4 : ∀ w0, BW w1 w0 → ∀ d os, (grow (redrawn w0 d) os).cell? ⟨w.heap.size, 4, none⟩ = some (.int .i64 h) := fun w0 h d os => (HQ1.out.calm w0 h d os).c4
  refine wp_region_calm 21 22 [0, 1, 2, 3, 4, 5, 6, 7, 8, 9, 10, 11, 12, 13, 14, 15, 16, 17, 18, 19, 20] (by kernel_rfl) (by kernel_rfl) (by intro oz h; simp at h) (by intro oz h; simp at h) (by rfl) ?_
  simp only [List.take_succ_cons, List.take_zero]
  iterate 4
    apply wpCalm_want
    · rfl
    · exact bc_refl
    · exact ⟨_, Below.refl _ _⟩
    · intro w0 hC0 K hK
      go_big_quiet_op
      exact hK
  apply wpCalm_want
  · rfl
  · exact bc_refl
  · exact ⟨_, Below.refl _ _⟩
  · intro w0 hC0 K hK
    go_big_quiet_op
    apply Exists.intro
    refine ⟨fun p => ?_, ?_⟩
    · exact Calls.regrown_of (HCt.out _)
    · exact hK
  iterate 4
    apply wpCalm_want
    · rfl
    · exact bc_refl
    · exact ⟨_, Below.refl _ _⟩
    · intro w0 hC0 K hK
      go_big_quiet_op
      exact hK
  apply wpCalm_want
  · rfl
  · exact bc_refl
  · exact ⟨_, Below.refl _ _⟩
  · intro w0 hC0 K hK
    go_big_quiet_op
    apply Exists.intro
    refine ⟨fun p => ?_, ?_⟩
    · exact Calls.regrown_of (HCc.out _)
    · exact hK
  iterate 4
    apply wpCalm_want
    · rfl
    · exact bc_refl
    · exact ⟨_, Below.refl _ _⟩
    · intro w0 hC0 K hK
      go_big_quiet_op
      exact hK
  apply wpCalm_want
  · rfl
  · exact bc_refl
  · exact ⟨_, Below.refl _ _⟩
  · intro w0 hC0 K hK
    go_big_quiet_op
    apply Exists.intro
    refine ⟨fun p => ?_, ?_⟩
    · exact Calls.regrown_of (HCl.out _)
    · exact hK
  iterate 4
    apply wpCalm_want
    · rfl
    · exact bc_refl
    · exact ⟨_, Below.refl _ _⟩
    · intro w0 hC0 K hK
      go_big_quiet_op
      exact hK
  apply wpCalm_want
  · rfl
  · exact bc_refl
  · exact ⟨_, Below.refl _ _⟩
  · intro w0 hC0 K hK
    go_big_quiet_op
    apply Exists.intro
    refine ⟨fun p => ?_, ?_⟩
    · exact Calls.regrown_of (HCh.out _)
    · exact hK
  iterate 1
    apply wpCalm_want
    · rfl
    · exact bc_refl
    · exact ⟨_, Below.refl _ _⟩
    · intro w0 hC0 K hK
      go_big_quiet_op
      exact hK
  refine wpCalm_nil ?_
  intro wc hbc
  simp only [List.drop_succ_cons, List.drop_zero]
  go_wp2_with fail
  go_ret
  exact ⟨by rw [HLn.out]; rfl, bt HB1.out hbc⟩
set_option maxRecDepth 100000 in
set_option maxHeartbeats 8000000 in
theorem rline_3 (t c l h b o : Int) (ht : -1000000000 ≤ t ∧ t ≤ 1000000000) (hc : -1000000000 ≤ c ∧ c ≤ 1000000000) (hl : -1000000000 ≤ l ∧ l ≤ 1000000000) (hh : -1000000000 ≤ h ∧ h ≤ 1000000000) (w : World) : Calls Tryd.prog 23 #[qV ⟨3, t, c, l, h, b, o⟩] w fun e w' => e = .returned (.string (bstr (line ⟨3, t, c, l, h, b, o⟩))) ∧ Below w.heap.size w w' := by
  have HLn : Hid (bstr (line ⟨3, t, c, l, h, b, o⟩) = bstr (wordOf 3) ++ bstr [32] ++ bstr (Lib.itoa t) ++ bstr [32] ++ bstr (Lib.itoa c) ++ bstr [32] ++ bstr (Lib.itoa l) ++ bstr [32] ++ bstr (Lib.itoa h)) := Lib.hid (by
    simp [bcat, line, wordsOf, rest, Lib.join, wOf, wTo, bs])
  have hzt := itoa_len ht
  have hzc := itoa_len hc
  have hzl := itoa_len hl
  have hzh := itoa_len hh
  rw [← bstr_size] at hzt hzc hzl hzh
  have HCt := Lib.hid (fun w => rnumber_any t ht w)
  have HCc := Lib.hid (fun w => rnumber_any c hc w)
  have HCl := Lib.hid (fun w => rnumber_any l hl w)
  have HCh := Lib.hid (fun w => rnumber_any h hh w)
  obtain ⟨Tt, HTt⟩ : ∃ T, Hid (bstr (Lib.itoa t) = T) := ⟨_, Lib.hid rfl⟩
  rw [HTt.out] at hzt HCt HLn
  obtain ⟨Tc, HTc⟩ : ∃ T, Hid (bstr (Lib.itoa c) = T) := ⟨_, Lib.hid rfl⟩
  rw [HTc.out] at hzc HCc HLn
  obtain ⟨Tl, HTl⟩ : ∃ T, Hid (bstr (Lib.itoa l) = T) := ⟨_, Lib.hid rfl⟩
  rw [HTl.out] at hzl HCl HLn
  obtain ⟨Th, HTh⟩ : ∃ T, Hid (bstr (Lib.itoa h) = T) := ⟨_, Lib.hid rfl⟩
  rw [HTh.out] at hzh HCh HLn
  have HQ0 := Lib.hid (QAt.new w ⟨3, t, c, l, h, b, o⟩)
  have HW := Lib.hid (rword_int 3 (by decide) (w.alloc (.cells #[.int .i64 3, .int .i64 t, .int .i64 c, .int .i64 l, .int .i64 h, .int .i64 b, .int .i64 o] 23)))
  have hz0 := word_size 3
  obtain ⟨T0, HT0⟩ : ∃ T, Hid (bstr (wordOf 3) = T) := ⟨_, Lib.hid rfl⟩
  rw [HT0.out] at hz0 HW HLn
  clear ht hc hl hh HTt HTc HTl HTh HT0
  unfold qV
  go_enter Tryd.func23, Tryd.ntmps23
  go_wp2_with fail
  (with_reducible refine HW.out.mono ?_)
  rintro e w1 ⟨rfl, hb1⟩
  have HB1 := Lib.hid (bt (ba w _) hb1)
  have HQ1 := Lib.hid (HQ0.out.below hb1)
  clear hb1
  obtain ⟨y0, y1, y2, y3, y4, y5, y6⟩ := HQ1.out
  go_wp2_with fail
  clear y0 y1 y2 y3 y4 y5 y6
  have g1 : ∀ w0, BW w1 w0 → ∀ d os, (grow (redrawn w0 d) os).cell? ⟨w.heap.size, 1, none⟩ = some (.int .i64 t) := fun w0 h d os => (HQ1.out.calm w0 h d os).c1
  have g2 : ∀ w0, BW w1 w0 → ∀ d os, (grow (redrawn w0 d) os).cell? ⟨w.heap.size, 2, none⟩ = some (.int .i64 c) := fun w0 h d os => (HQ1.out.calm w0 h d os).c2
  have g3 : ∀ w0, BW w1 w0 → ∀ d os, (grow (redrawn w0 d) os).cell? ⟨w.heap.size, 3, none⟩ = some (.int .i64 l) := fun w0 h d os => (HQ1.out.calm w0 h d os).c3
  have g4 : ∀ w0, BW w1 w0 → ∀ d os, (grow (redrawn w0 d) os).cell? ⟨w.heap.size, 4, none⟩ = some (.int .i64 h) := fun w0 h d os => (HQ1.out.calm w0 h d os).c4
  refine wp_region_calm 21 22 [0, 1, 2, 3, 4, 5, 6, 7, 8, 9, 10, 11, 12, 13, 14, 15, 16, 17, 18, 19, 20] (by kernel_rfl) (by kernel_rfl) (by intro oz h; simp at h) (by intro oz h; simp at h) (by rfl) ?_
  simp only [List.take_succ_cons, List.take_zero]
  iterate 4
    apply wpCalm_want
    · rfl
    · exact bc_refl
    · exact ⟨_, Below.refl _ _⟩
    · intro w0 hC0 K hK
      go_big_quiet_op
      exact hK
  apply wpCalm_want
  · rfl
  · exact bc_refl
  · exact ⟨_, Below.refl _ _⟩
  · intro w0 hC0 K hK
    go_big_quiet_op
    apply Exists.intro
    refine ⟨fun p => ?_, ?_⟩
    · exact Calls.regrown_of (HCt.out _)
    · exact hK
  iterate 4
    apply wpCalm_want
    · rfl
    · exact bc_refl
    · exact ⟨_, Below.refl _ _⟩
    · intro w0 hC0 K hK
      go_big_quiet_op
      exact hK
  apply wpCalm_want
  · rfl
  · exact bc_refl
  · exact ⟨_, Below.refl _ _⟩
  · intro w0 hC0 K hK
    go_big_quiet_op
    apply Exists.intro
    refine ⟨fun p => ?_, ?_⟩
    · exact Calls.regrown_of (HCc.out _)
    · exact hK
  iterate 4
    apply wpCalm_want
    · rfl
    · exact bc_refl
    · exact ⟨_, Below.refl _ _⟩
    · intro w0 hC0 K hK
      go_big_quiet_op
      exact hK
  apply wpCalm_want
  · rfl
  · exact bc_refl
  · exact ⟨_, Below.refl _ _⟩
  · intro w0 hC0 K hK
    go_big_quiet_op
    apply Exists.intro
    refine ⟨fun p => ?_, ?_⟩
    · exact Calls.regrown_of (HCl.out _)
    · exact hK
  iterate 4
    apply wpCalm_want
    · rfl
    · exact bc_refl
    · exact ⟨_, Below.refl _ _⟩
    · intro w0 hC0 K hK
      go_big_quiet_op
      exact hK
  apply wpCalm_want
  · rfl
  · exact bc_refl
  · exact ⟨_, Below.refl _ _⟩
  · intro w0 hC0 K hK
    go_big_quiet_op
    apply Exists.intro
    refine ⟨fun p => ?_, ?_⟩
    · exact Calls.regrown_of (HCh.out _)
    · exact hK
  iterate 1
    apply wpCalm_want
    · rfl
    · exact bc_refl
    · exact ⟨_, Below.refl _ _⟩
    · intro w0 hC0 K hK
      go_big_quiet_op
      exact hK
  refine wpCalm_nil ?_
  intro wc hbc
  simp only [List.drop_succ_cons, List.drop_zero]
  go_wp2_with fail
  go_ret
  exact ⟨by rw [HLn.out]; rfl, bt HB1.out hbc⟩
set_option maxRecDepth 100000 in
set_option maxHeartbeats 8000000 in
theorem rline_4 (t c l h b o : Int) (ht : -1000000000 ≤ t ∧ t ≤ 1000000000) (hc : -1000000000 ≤ c ∧ c ≤ 1000000000) (hl : -1000000000 ≤ l ∧ l ≤ 1000000000) (hh : -1000000000 ≤ h ∧ h ≤ 1000000000) (hb : -1000000000 ≤ b ∧ b ≤ 1000000000) (w : World) : Calls Tryd.prog 23 #[qV ⟨4, t, c, l, h, b, o⟩] w fun e w' => e = .returned (.string (bstr (line ⟨4, t, c, l, h, b, o⟩))) ∧ Below w.heap.size w w' := by
  have HLn : Hid (bstr (line ⟨4, t, c, l, h, b, o⟩) = bstr (wordOf 4) ++ bstr [32] ++ bstr (Lib.itoa b) ++ bstr [32, 111, 102] ++ bstr [32] ++ bstr (Lib.itoa t) ++ bstr [32] ++ bstr (Lib.itoa c) ++ bstr [32] ++ bstr (Lib.itoa l) ++ bstr [32] ++ bstr (Lib.itoa h)) := Lib.hid (by
    simp [bcat, line, wordsOf, rest, Lib.join, wOf, wTo, bs])
  have hzt := itoa_len ht
  have hzc := itoa_len hc
  have hzl := itoa_len hl
  have hzh := itoa_len hh
  have hzb := itoa_len hb
  rw [← bstr_size] at hzt hzc hzl hzh hzb
  have HCt := Lib.hid (fun w => rnumber_any t ht w)
  have HCc := Lib.hid (fun w => rnumber_any c hc w)
  have HCl := Lib.hid (fun w => rnumber_any l hl w)
  have HCh := Lib.hid (fun w => rnumber_any h hh w)
  have HCb := Lib.hid (fun w => rnumber_any b hb w)
  obtain ⟨Tt, HTt⟩ : ∃ T, Hid (bstr (Lib.itoa t) = T) := ⟨_, Lib.hid rfl⟩
  rw [HTt.out] at hzt HCt HLn
  obtain ⟨Tc, HTc⟩ : ∃ T, Hid (bstr (Lib.itoa c) = T) := ⟨_, Lib.hid rfl⟩
  rw [HTc.out] at hzc HCc HLn
  obtain ⟨Tl, HTl⟩ : ∃ T, Hid (bstr (Lib.itoa l) = T) := ⟨_, Lib.hid rfl⟩
  rw [HTl.out] at hzl HCl HLn
  obtain ⟨Th, HTh⟩ : ∃ T, Hid (bstr (Lib.itoa h) = T) := ⟨_, Lib.hid rfl⟩
  rw [HTh.out] at hzh HCh HLn
  obtain ⟨Tb, HTb⟩ : ∃ T, Hid (bstr (Lib.itoa b) = T) := ⟨_, Lib.hid rfl⟩
  rw [HTb.out] at hzb HCb HLn
  have HQ0 := Lib.hid (QAt.new w ⟨4, t, c, l, h, b, o⟩)
  have HW := Lib.hid (rword_int 4 (by decide) (w.alloc (.cells #[.int .i64 4, .int .i64 t, .int .i64 c, .int .i64 l, .int .i64 h, .int .i64 b, .int .i64 o] 23)))
  have hz0 := word_size 4
  obtain ⟨T0, HT0⟩ : ∃ T, Hid (bstr (wordOf 4) = T) := ⟨_, Lib.hid rfl⟩
  rw [HT0.out] at hz0 HW HLn
  clear ht hc hl hh hb HTt HTc HTl HTh HTb HT0
  unfold qV
  go_enter Tryd.func23, Tryd.ntmps23
  go_wp2_with fail
  (with_reducible refine HW.out.mono ?_)
  rintro e w1 ⟨rfl, hb1⟩
  have HB1 := Lib.hid (bt (ba w _) hb1)
  have HQ1 := Lib.hid (HQ0.out.below hb1)
  clear hb1
  obtain ⟨y0, y1, y2, y3, y4, y5, y6⟩ := HQ1.out
  go_wp2_with fail
  refine (HCb.out _).mono ?_
  rintro e w2 ⟨rfl, hb2⟩
  have HB2 := Lib.hid (bt HB1.out hb2)
  have HQ2 := Lib.hid (HQ1.out.below hb2)
  clear hb2 y0 y1 y2 y3 y4 y5 y6
  obtain ⟨y0, y1, y2, y3, y4, y5, y6⟩ := HQ2.out
  go_wp2_with fail
  clear y0 y1 y2 y3 y4 y5 y6
  have g1 : ∀ w0, BW w2 w0 → ∀ d os, (grow (redrawn w0 d) os).cell? ⟨w.heap.size, 1, none⟩ = some (.int .i64 t) := fun w0 h d os => (HQ2.out.calm w0 h d os).c1
  have g2 : ∀ w0, BW w2 w0 → ∀ d os, (grow (redrawn w0 d) os).cell? ⟨w.heap.size, 2, none⟩ = some (.int .i64 c) := fun w0 h d os => (HQ2.out.calm w0 h d os).c2
  have g3 : ∀ w0, BW w2 w0 → ∀ d os, (grow (redrawn w0 d) os).cell? ⟨w.heap.size, 3, none⟩ = some (.int .i64 l) := fun w0 h d os => (HQ2.out.calm w0 h d os).c3
  have g4 : ∀ w0, BW w2 w0 → ∀ d os, (grow (redrawn w0 d) os).cell? ⟨w.heap.size, 4, none⟩ = some (.int .i64 h) := fun w0 h d os => (HQ2.out.calm w0 h d os).c4
  refine wp_region_calm 21 22 [0, 1, 2, 3, 4, 5, 6, 7, 8, 9, 10, 11, 12, 13, 14, 15, 16, 17, 18, 19, 20] (by kernel_rfl) (by kernel_rfl) (by intro oz h; simp at h) (by intro oz h; simp at h) (by rfl) ?_
  simp only [List.take_succ_cons, List.take_zero]
  iterate 4
    apply wpCalm_want
    · rfl
    · exact bc_refl
    · exact ⟨_, Below.refl _ _⟩
    · intro w0 hC0 K hK
      go_big_quiet_op
      exact hK
  apply wpCalm_want
  · rfl
  · exact bc_refl
  · exact ⟨_, Below.refl _ _⟩
  · intro w0 hC0 K hK
    go_big_quiet_op
    apply Exists.intro
    refine ⟨fun p => ?_, ?_⟩
    · exact Calls.regrown_of (HCt.out _)
    · exact hK
  iterate 4
    apply wpCalm_want
    · rfl
    · exact bc_refl
    · exact ⟨_, Below.refl _ _⟩
    · intro w0 hC0 K hK
      go_big_quiet_op
      exact hK
  apply wpCalm_want
  · rfl
  · exact bc_refl
  · exact ⟨_, Below.refl _ _⟩
  · intro w0 hC0 K hK
    go_big_quiet_op
    apply Exists.intro
    refine ⟨fun p => ?_, ?_⟩
    · exact Calls.regrown_of (HCc.out _)
    · exact hK
  iterate 4
    apply wpCalm_want
    · rfl
    · exact bc_refl
    · exact ⟨_, Below.refl _ _⟩
    · intro w0 hC0 K hK
      go_big_quiet_op
      exact hK
  apply wpCalm_want
  · rfl
  · exact bc_refl
  · exact ⟨_, Below.refl _ _⟩
  · intro w0 hC0 K hK
    go_big_quiet_op
    apply Exists.intro
    refine ⟨fun p => ?_, ?_⟩
    · exact Calls.regrown_of (HCl.out _)
    · exact hK
  iterate 4
    apply wpCalm_want
    · rfl
    · exact bc_refl
    · exact ⟨_, Below.refl _ _⟩
    · intro w0 hC0 K hK
      go_big_quiet_op
      exact hK
  apply wpCalm_want
  · rfl
  · exact bc_refl
  · exact ⟨_, Below.refl _ _⟩
  · intro w0 hC0 K hK
    go_big_quiet_op
    apply Exists.intro
    refine ⟨fun p => ?_, ?_⟩
    · exact Calls.regrown_of (HCh.out _)
    · exact hK
  iterate 1
    apply wpCalm_want
    · rfl
    · exact bc_refl
    · exact ⟨_, Below.refl _ _⟩
    · intro w0 hC0 K hK
      go_big_quiet_op
      exact hK
  refine wpCalm_nil ?_
  intro wc hbc
  simp only [List.drop_succ_cons, List.drop_zero]
  go_wp2_with fail
  go_ret
  exact ⟨by rw [HLn.out]; rfl, bt HB2.out hbc⟩
set_option maxRecDepth 100000 in
set_option maxHeartbeats 8000000 in
theorem rline_5 (t c l h b o : Int) (ht : -1000000000 ≤ t ∧ t ≤ 1000000000) (hc : -1000000000 ≤ c ∧ c ≤ 1000000000) (hl : -1000000000 ≤ l ∧ l ≤ 1000000000) (hh : -1000000000 ≤ h ∧ h ≤ 1000000000) (hb : -1000000000 ≤ b ∧ b ≤ 1000000000) (w : World) : Calls Tryd.prog 23 #[qV ⟨5, t, c, l, h, b, o⟩] w fun e w' => e = .returned (.string (bstr (line ⟨5, t, c, l, h, b, o⟩))) ∧ Below w.heap.size w w' := by
  have HLn : Hid (bstr (line ⟨5, t, c, l, h, b, o⟩) = bstr (wordOf 5) ++ bstr [32] ++ bstr (Lib.itoa b) ++ bstr [32, 111, 102] ++ bstr [32] ++ bstr (Lib.itoa t) ++ bstr [32] ++ bstr (Lib.itoa c) ++ bstr [32] ++ bstr (Lib.itoa l) ++ bstr [32] ++ bstr (Lib.itoa h)) := Lib.hid (by
    simp [bcat, line, wordsOf, rest, Lib.join, wOf, wTo, bs])
  have hzt := itoa_len ht
  have hzc := itoa_len hc
  have hzl := itoa_len hl
  have hzh := itoa_len hh
  have hzb := itoa_len hb
  rw [← bstr_size] at hzt hzc hzl hzh hzb
  have HCt := Lib.hid (fun w => rnumber_any t ht w)
  have HCc := Lib.hid (fun w => rnumber_any c hc w)
  have HCl := Lib.hid (fun w => rnumber_any l hl w)
  have HCh := Lib.hid (fun w => rnumber_any h hh w)
  have HCb := Lib.hid (fun w => rnumber_any b hb w)
  obtain ⟨Tt, HTt⟩ : ∃ T, Hid (bstr (Lib.itoa t) = T) := ⟨_, Lib.hid rfl⟩
  rw [HTt.out] at hzt HCt HLn
  obtain ⟨Tc, HTc⟩ : ∃ T, Hid (bstr (Lib.itoa c) = T) := ⟨_, Lib.hid rfl⟩
  rw [HTc.out] at hzc HCc HLn
  obtain ⟨Tl, HTl⟩ : ∃ T, Hid (bstr (Lib.itoa l) = T) := ⟨_, Lib.hid rfl⟩
  rw [HTl.out] at hzl HCl HLn
  obtain ⟨Th, HTh⟩ : ∃ T, Hid (bstr (Lib.itoa h) = T) := ⟨_, Lib.hid rfl⟩
  rw [HTh.out] at hzh HCh HLn
  obtain ⟨Tb, HTb⟩ : ∃ T, Hid (bstr (Lib.itoa b) = T) := ⟨_, Lib.hid rfl⟩
  rw [HTb.out] at hzb HCb HLn
  have HQ0 := Lib.hid (QAt.new w ⟨5, t, c, l, h, b, o⟩)
  have HW := Lib.hid (rword_int 5 (by decide) (w.alloc (.cells #[.int .i64 5, .int .i64 t, .int .i64 c, .int .i64 l, .int .i64 h, .int .i64 b, .int .i64 o] 23)))
  have hz0 := word_size 5
  obtain ⟨T0, HT0⟩ : ∃ T, Hid (bstr (wordOf 5) = T) := ⟨_, Lib.hid rfl⟩
  rw [HT0.out] at hz0 HW HLn
  clear ht hc hl hh hb HTt HTc HTl HTh HTb HT0
  unfold qV
  go_enter Tryd.func23, Tryd.ntmps23
  go_wp2_with fail
  (with_reducible refine HW.out.mono ?_)
  rintro e w1 ⟨rfl, hb1⟩
  have HB1 := Lib.hid (bt (ba w _) hb1)
  have HQ1 := Lib.hid (HQ0.out.below hb1)
  clear hb1
  obtain ⟨y0, y1, y2, y3, y4, y5, y6⟩ := HQ1.out
  go_wp2_with fail
  refine (HCb.out _).mono ?_
  rintro e w2 ⟨rfl, hb2⟩
  have HB2 := Lib.hid (bt HB1.out hb2)
  have HQ2 := Lib.hid (HQ1.out.below hb2)
  clear hb2 y0 y1 y2 y3 y4 y5 y6
  obtain ⟨y0, y1, y2, y3, y4, y5, y6⟩ := HQ2.out
  go_wp2_with fail
  clear y0 y1 y2 y3 y4 y5 y6
  have g1 : ∀ w0, BW w2 w0 → ∀ d os, (grow (redrawn w0 d) os).cell? ⟨w.heap.size, 1, none⟩ = some (.int .i64 t) := fun w0 h d os => (HQ2.out.calm w0 h d os).c1
  have g2 : ∀ w0, BW w2 w0 → ∀ d os, (grow (redrawn w0 d) os).cell? ⟨w.heap.size, 2, none⟩ = some (.int .i64 c) := fun w0 h d os => (HQ2.out.calm w0 h d os).c2
  have g3 : ∀ w0, BW w2 w0 → ∀ d os, (grow (redrawn w0 d) os).cell? ⟨w.heap.size, 3, none⟩ = some (.int .i64 l) := fun w0 h d os => (HQ2.out.calm w0 h d os).c3
  have g4 : ∀ w0, BW w2 w0 → ∀ d os, (grow (redrawn w0 d) os).cell? ⟨w.heap.size, 4, none⟩ = some (.int .i64 h) := fun w0 h d os => (HQ2.out.calm w0 h d os).c4
  refine wp_region_calm 21 22 [0, 1, 2, 3, 4, 5, 6, 7, 8, 9, 10, 11, 12, 13, 14, 15, 16, 17, 18, 19, 20] (by kernel_rfl) (by kernel_rfl) (by intro oz h; simp at h) (by intro oz h; simp at h) (by rfl) ?_
  simp only [List.take_succ_cons, List.take_zero]
  iterate 4
    apply wpCalm_want
    · rfl
    · exact bc_refl
    · exact ⟨_, Below.refl _ _⟩
    · intro w0 hC0 K hK
      go_big_quiet_op
      exact hK
  apply wpCalm_want
  · rfl
  · exact bc_refl
  · exact ⟨_, Below.refl _ _⟩
  · intro w0 hC0 K hK
    go_big_quiet_op
    apply Exists.intro
    refine ⟨fun p => ?_, ?_⟩
    · exact Calls.regrown_of (HCt.out _)
    · exact hK
  iterate 4
    apply wpCalm_want
    · rfl
    · exact bc_refl
    · exact ⟨_, Below.refl _ _⟩
    · intro w0 hC0 K hK
      go_big_quiet_op
      exact hK
  apply wpCalm_want
  · rfl
  · exact bc_refl
  · exact ⟨_, Below.refl _ _⟩
  · intro w0 hC0 K hK
    go_big_quiet_op
    apply Exists.intro
    refine ⟨fun p => ?_, ?_⟩
    · exact Calls.regrown_of (HCc.out _)
    · exact hK
  iterate 4
    apply wpCalm_want
    · rfl
    · exact bc_refl
    · exact ⟨_, Below.refl _ _⟩
    · intro w0 hC0 K hK
      go_big_quiet_op
      exact hK
  apply wpCalm_want
  · rfl
  · exact bc_refl
  · exact ⟨_, Below.refl _ _⟩
  · intro w0 hC0 K hK
    go_big_quiet_op
    apply Exists.intro
    refine ⟨fun p => ?_, ?_⟩
    · exact Calls.regrown_of (HCl.out _)
    · exact hK
  iterate 4
    apply wpCalm_want
    · rfl
    · exact bc_refl
    · exact ⟨_, Below.refl _ _⟩
    · intro w0 hC0 K hK
      go_big_quiet_op
      exact hK
  apply wpCalm_want
  · rfl
  · exact bc_refl
  · exact ⟨_, Below.refl _ _⟩
  · intro w0 hC0 K hK
    go_big_quiet_op
    apply Exists.intro
    refine ⟨fun p => ?_, ?_⟩
    · exact Calls.regrown_of (HCh.out _)
    · exact hK
  iterate 1
    apply wpCalm_want
    · rfl
    · exact bc_refl
    · exact ⟨_, Below.refl _ _⟩
    · intro w0 hC0 K hK
      go_big_quiet_op
      exact hK
  refine wpCalm_nil ?_
  intro wc hbc
  simp only [List.drop_succ_cons, List.drop_zero]
  go_wp2_with fail
  go_ret
  exact ⟨by rw [HLn.out]; rfl, bt HB2.out hbc⟩
set_option maxRecDepth 100000 in
set_option maxHeartbeats 8000000 in
theorem rline_6 (t c l h b o : Int) (ht : -1000000000 ≤ t ∧ t ≤ 1000000000) (hc : -1000000000 ≤ c ∧ c ≤ 1000000000) (hl : -1000000000 ≤ l ∧ l ≤ 1000000000) (hh : -1000000000 ≤ h ∧ h ≤ 1000000000) (hb : -1000000000 ≤ b ∧ b ≤ 1000000000) (w : World) : Calls Tryd.prog 23 #[qV ⟨6, t, c, l, h, b, o⟩] w fun e w' => e = .returned (.string (bstr (line ⟨6, t, c, l, h, b, o⟩))) ∧ Below w.heap.size w w' := by
  have HLn : Hid (bstr (line ⟨6, t, c, l, h, b, o⟩) = bstr (wordOf 6) ++ bstr [32] ++ bstr (Lib.itoa b) ++ bstr [32, 111, 102] ++ bstr [32] ++ bstr (Lib.itoa t) ++ bstr [32] ++ bstr (Lib.itoa c) ++ bstr [32] ++ bstr (Lib.itoa l) ++ bstr [32] ++ bstr (Lib.itoa h)) := Lib.hid (by
    simp [bcat, line, wordsOf, rest, Lib.join, wOf, wTo, bs])
  have hzt := itoa_len ht
  have hzc := itoa_len hc
  have hzl := itoa_len hl
  have hzh := itoa_len hh
  have hzb := itoa_len hb
  rw [← bstr_size] at hzt hzc hzl hzh hzb
  have HCt := Lib.hid (fun w => rnumber_any t ht w)
  have HCc := Lib.hid (fun w => rnumber_any c hc w)
  have HCl := Lib.hid (fun w => rnumber_any l hl w)
  have HCh := Lib.hid (fun w => rnumber_any h hh w)
  have HCb := Lib.hid (fun w => rnumber_any b hb w)
  obtain ⟨Tt, HTt⟩ : ∃ T, Hid (bstr (Lib.itoa t) = T) := ⟨_, Lib.hid rfl⟩
  rw [HTt.out] at hzt HCt HLn
  obtain ⟨Tc, HTc⟩ : ∃ T, Hid (bstr (Lib.itoa c) = T) := ⟨_, Lib.hid rfl⟩
  rw [HTc.out] at hzc HCc HLn
  obtain ⟨Tl, HTl⟩ : ∃ T, Hid (bstr (Lib.itoa l) = T) := ⟨_, Lib.hid rfl⟩
  rw [HTl.out] at hzl HCl HLn
  obtain ⟨Th, HTh⟩ : ∃ T, Hid (bstr (Lib.itoa h) = T) := ⟨_, Lib.hid rfl⟩
  rw [HTh.out] at hzh HCh HLn
  obtain ⟨Tb, HTb⟩ : ∃ T, Hid (bstr (Lib.itoa b) = T) := ⟨_, Lib.hid rfl⟩
  rw [HTb.out] at hzb HCb HLn
  have HQ0 := Lib.hid (QAt.new w ⟨6, t, c, l, h, b, o⟩)
  have HW := Lib.hid (rword_int 6 (by decide) (w.alloc (.cells #[.int .i64 6, .int .i64 t, .int .i64 c, .int .i64 l, .int .i64 h, .int .i64 b, .int .i64 o] 23)))
  have hz0 := word_size 6
  obtain ⟨T0, HT0⟩ : ∃ T, Hid (bstr (wordOf 6) = T) := ⟨_, Lib.hid rfl⟩
  rw [HT0.out] at hz0 HW HLn
  clear ht hc hl hh hb HTt HTc HTl HTh HTb HT0
  unfold qV
  go_enter Tryd.func23, Tryd.ntmps23
  go_wp2_with fail
  (with_reducible refine HW.out.mono ?_)
  rintro e w1 ⟨rfl, hb1⟩
  have HB1 := Lib.hid (bt (ba w _) hb1)
  have HQ1 := Lib.hid (HQ0.out.below hb1)
  clear hb1
  obtain ⟨y0, y1, y2, y3, y4, y5, y6⟩ := HQ1.out
  go_wp2_with fail
  refine (HCb.out _).mono ?_
  rintro e w2 ⟨rfl, hb2⟩
  have HB2 := Lib.hid (bt HB1.out hb2)
  have HQ2 := Lib.hid (HQ1.out.below hb2)
  clear hb2 y0 y1 y2 y3 y4 y5 y6
  obtain ⟨y0, y1, y2, y3, y4, y5, y6⟩ := HQ2.out
  go_wp2_with fail
  clear y0 y1 y2 y3 y4 y5 y6
  have g1 : ∀ w0, BW w2 w0 → ∀ d os, (grow (redrawn w0 d) os).cell? ⟨w.heap.size, 1, none⟩ = some (.int .i64 t) := fun w0 h d os => (HQ2.out.calm w0 h d os).c1
  have g2 : ∀ w0, BW w2 w0 → ∀ d os, (grow (redrawn w0 d) os).cell? ⟨w.heap.size, 2, none⟩ = some (.int .i64 c) := fun w0 h d os => (HQ2.out.calm w0 h d os).c2
  have g3 : ∀ w0, BW w2 w0 → ∀ d os, (grow (redrawn w0 d) os).cell? ⟨w.heap.size, 3, none⟩ = some (.int .i64 l) := fun w0 h d os => (HQ2.out.calm w0 h d os).c3
  have g4 : ∀ w0, BW w2 w0 → ∀ d os, (grow (redrawn w0 d) os).cell? ⟨w.heap.size, 4, none⟩ = some (.int .i64 h) := fun w0 h d os => (HQ2.out.calm w0 h d os).c4
  refine wp_region_calm 21 22 [0, 1, 2, 3, 4, 5, 6, 7, 8, 9, 10, 11, 12, 13, 14, 15, 16, 17, 18, 19, 20] (by kernel_rfl) (by kernel_rfl) (by intro oz h; simp at h) (by intro oz h; simp at h) (by rfl) ?_
  simp only [List.take_succ_cons, List.take_zero]
  iterate 4
    apply wpCalm_want
    · rfl
    · exact bc_refl
    · exact ⟨_, Below.refl _ _⟩
    · intro w0 hC0 K hK
      go_big_quiet_op
      exact hK
  apply wpCalm_want
  · rfl
  · exact bc_refl
  · exact ⟨_, Below.refl _ _⟩
  · intro w0 hC0 K hK
    go_big_quiet_op
    apply Exists.intro
    refine ⟨fun p => ?_, ?_⟩
    · exact Calls.regrown_of (HCt.out _)
    · exact hK
  iterate 4
    apply wpCalm_want
    · rfl
    · exact bc_refl
    · exact ⟨_, Below.refl _ _⟩
    · intro w0 hC0 K hK
      go_big_quiet_op
      exact hK
  apply wpCalm_want
  · rfl
  · exact bc_refl
  · exact ⟨_, Below.refl _ _⟩
  · intro w0 hC0 K hK
    go_big_quiet_op
    apply Exists.intro
    refine ⟨fun p => ?_, ?_⟩
    · exact Calls.regrown_of (HCc.out _)
    · exact hK
  iterate 4
    apply wpCalm_want
    · rfl
    · exact bc_refl
    · exact ⟨_, Below.refl _ _⟩
    · intro w0 hC0 K hK
      go_big_quiet_op
      exact hK
  apply wpCalm_want
  · rfl
  · exact bc_refl
  · exact ⟨_, Below.refl _ _⟩
  · intro w0 hC0 K hK
    go_big_quiet_op
    apply Exists.intro
    refine ⟨fun p => ?_, ?_⟩
    · exact Calls.regrown_of (HCl.out _)
    · exact hK
  iterate 4
    apply wpCalm_want
    · rfl
    · exact bc_refl
    · exact ⟨_, Below.refl _ _⟩
    · intro w0 hC0 K hK
      go_big_quiet_op
      exact hK
  apply wpCalm_want
  · rfl
  · exact bc_refl
  · exact ⟨_, Below.refl _ _⟩
  · intro w0 hC0 K hK
    go_big_quiet_op
    apply Exists.intro
    refine ⟨fun p => ?_, ?_⟩
    · exact Calls.regrown_of (HCh.out _)
    · exact hK
  iterate 1
    apply wpCalm_want
    · rfl
    · exact bc_refl
    · exact ⟨_, Below.refl _ _⟩
    · intro w0 hC0 K hK
      go_big_quiet_op
      exact hK
  refine wpCalm_nil ?_
  intro wc hbc
  simp only [List.drop_succ_cons, List.drop_zero]
  go_wp2_with fail
  go_ret
  exact ⟨by rw [HLn.out]; rfl, bt HB2.out hbc⟩
set_option maxRecDepth 100000 in
set_option maxHeartbeats 8000000 in
theorem rline_7 (t c l h b o : Int) (ht : -1000000000 ≤ t ∧ t ≤ 1000000000) (hc : -1000000000 ≤ c ∧ c ≤ 1000000000) (hl : -1000000000 ≤ l ∧ l ≤ 1000000000) (hh : -1000000000 ≤ h ∧ h ≤ 1000000000) (hb : -1000000000 ≤ b ∧ b ≤ 1000000000) (ho : -1000000000 ≤ o ∧ o ≤ 1000000000) (w : World) : Calls Tryd.prog 23 #[qV ⟨7, t, c, l, h, b, o⟩] w fun e w' => e = .returned (.string (bstr (line ⟨7, t, c, l, h, b, o⟩))) ∧ Below w.heap.size w w' := by
  have HLn : Hid (bstr (line ⟨7, t, c, l, h, b, o⟩) = bstr (wordOf 7) ++ bstr [32] ++ bstr (Lib.itoa b) ++ bstr [32, 116, 111, 32] ++ bstr (Lib.itoa o) ++ bstr [32, 111, 102] ++ bstr [32] ++ bstr (Lib.itoa t) ++ bstr [32] ++ bstr (Lib.itoa c) ++ bstr [32] ++ bstr (Lib.itoa l) ++ bstr [32] ++ bstr (Lib.itoa h)) := Lib.hid (by
    simp [bcat, line, wordsOf, rest, Lib.join, wOf, wTo, bs])
  have hzt := itoa_len ht
  have hzc := itoa_len hc
  have hzl := itoa_len hl
  have hzh := itoa_len hh
  have hzb := itoa_len hb
  have hzo := itoa_len ho
  rw [← bstr_size] at hzt hzc hzl hzh hzb hzo
  have HCt := Lib.hid (fun w => rnumber_any t ht w)
  have HCc := Lib.hid (fun w => rnumber_any c hc w)
  have HCl := Lib.hid (fun w => rnumber_any l hl w)
  have HCh := Lib.hid (fun w => rnumber_any h hh w)
  have HCb := Lib.hid (fun w => rnumber_any b hb w)
  have HCo := Lib.hid (fun w => rnumber_any o ho w)
  obtain ⟨Tt, HTt⟩ : ∃ T, Hid (bstr (Lib.itoa t) = T) := ⟨_, Lib.hid rfl⟩
  rw [HTt.out] at hzt HCt HLn
  obtain ⟨Tc, HTc⟩ : ∃ T, Hid (bstr (Lib.itoa c) = T) := ⟨_, Lib.hid rfl⟩
  rw [HTc.out] at hzc HCc HLn
  obtain ⟨Tl, HTl⟩ : ∃ T, Hid (bstr (Lib.itoa l) = T) := ⟨_, Lib.hid rfl⟩
  rw [HTl.out] at hzl HCl HLn
  obtain ⟨Th, HTh⟩ : ∃ T, Hid (bstr (Lib.itoa h) = T) := ⟨_, Lib.hid rfl⟩
  rw [HTh.out] at hzh HCh HLn
  obtain ⟨Tb, HTb⟩ : ∃ T, Hid (bstr (Lib.itoa b) = T) := ⟨_, Lib.hid rfl⟩
  rw [HTb.out] at hzb HCb HLn
  obtain ⟨To, HTo⟩ : ∃ T, Hid (bstr (Lib.itoa o) = T) := ⟨_, Lib.hid rfl⟩
  rw [HTo.out] at hzo HCo HLn
  have HQ0 := Lib.hid (QAt.new w ⟨7, t, c, l, h, b, o⟩)
  have HW := Lib.hid (rword_int 7 (by decide) (w.alloc (.cells #[.int .i64 7, .int .i64 t, .int .i64 c, .int .i64 l, .int .i64 h, .int .i64 b, .int .i64 o] 23)))
  have hz0 := word_size 7
  obtain ⟨T0, HT0⟩ : ∃ T, Hid (bstr (wordOf 7) = T) := ⟨_, Lib.hid rfl⟩
  rw [HT0.out] at hz0 HW HLn
  clear ht hc hl hh hb ho HTt HTc HTl HTh HTb HTo HT0
  unfold qV
  go_enter Tryd.func23, Tryd.ntmps23
  go_wp2_with fail
  (with_reducible refine HW.out.mono ?_)
  rintro e w1 ⟨rfl, hb1⟩
  have HB1 := Lib.hid (bt (ba w _) hb1)
  have HQ1 := Lib.hid (HQ0.out.below hb1)
  clear hb1
  obtain ⟨y0, y1, y2, y3, y4, y5, y6⟩ := HQ1.out
  go_wp2_with fail
  refine (HCb.out _).mono ?_
  rintro e w2 ⟨rfl, hb2⟩
  have HB2 := Lib.hid (bt HB1.out hb2)
  have HQ2 := Lib.hid (HQ1.out.below hb2)
  clear hb2 y0 y1 y2 y3 y4 y5 y6
  obtain ⟨y0, y1, y2, y3, y4, y5, y6⟩ := HQ2.out
  go_wp2_with fail
  refine (HCo.out _).mono ?_
  rintro e w3 ⟨rfl, hb3⟩
  have HB3 := Lib.hid (bt HB2.out hb3)
  have HQ3 := Lib.hid (HQ2.out.below hb3)
  clear hb3 y0 y1 y2 y3 y4 y5 y6
  obtain ⟨y0, y1, y2, y3, y4, y5, y6⟩ := HQ3.out
  go_wp2_with fail
  clear y0 y1 y2 y3 y4 y5 y6
  have g1 : ∀ w0, BW w3 w0 → ∀ d os, (grow (redrawn w0 d) os).cell? ⟨w.heap.size, 1, none⟩ = some (.int .i64 t) := fun w0 h d os => (HQ3.out.calm w0 h d os).c1
  have g2 : ∀ w0, BW w3 w0 → ∀ d os, (grow (redrawn w0 d) os).cell? ⟨w.heap.size, 2, none⟩ = some (.int .i64 c) := fun w0 h d os => (HQ3.out.calm w0 h d os).c2
  have g3 : ∀ w0, BW w3 w0 → ∀ d os, (grow (redrawn w0 d) os).cell? ⟨w.heap.size, 3, none⟩ = some (.int .i64 l) := fun w0 h d os => (HQ3.out.calm w0 h d os).c3
  have g4 : ∀ w0, BW w3 w0 → ∀ d os, (grow (redrawn w0 d) os).cell? ⟨w.heap.size, 4, none⟩ = some (.int .i64 h) := fun w0 h d os => (HQ3.out.calm w0 h d os).c4
  refine wp_region_calm 21 22 [0, 1, 2, 3, 4, 5, 6, 7, 8, 9, 10, 11, 12, 13, 14, 15, 16, 17, 18, 19, 20] (by kernel_rfl) (by kernel_rfl) (by intro oz h; simp at h) (by intro oz h; simp at h) (by rfl) ?_
  simp only [List.take_succ_cons, List.take_zero]
  iterate 4
    apply wpCalm_want
    · rfl
    · exact bc_refl
    · exact ⟨_, Below.refl _ _⟩
    · intro w0 hC0 K hK
      go_big_quiet_op
      exact hK
  apply wpCalm_want
  · rfl
  · exact bc_refl
  · exact ⟨_, Below.refl _ _⟩
  · intro w0 hC0 K hK
    go_big_quiet_op
    apply Exists.intro
    refine ⟨fun p => ?_, ?_⟩
    · exact Calls.regrown_of (HCt.out _)
    · exact hK
  iterate 4
    apply wpCalm_want
    · rfl
    · exact bc_refl
    · exact ⟨_, Below.refl _ _⟩
    · intro w0 hC0 K hK
      go_big_quiet_op
      exact hK
  apply wpCalm_want
  · rfl
  · exact bc_refl
  · exact ⟨_, Below.refl _ _⟩
  · intro w0 hC0 K hK
    go_big_quiet_op
    apply Exists.intro
    refine ⟨fun p => ?_, ?_⟩
    · exact Calls.regrown_of (HCc.out _)
    · exact hK
  iterate 4
    apply wpCalm_want
    · rfl
    · exact bc_refl
    · exact ⟨_, Below.refl _ _⟩
    · intro w0 hC0 K hK
      go_big_quiet_op
      exact hK
  apply wpCalm_want
  · rfl
  · exact bc_refl
  · exact ⟨_, Below.refl _ _⟩
  · intro w0 hC0 K hK
    go_big_quiet_op
    apply Exists.intro
    refine ⟨fun p => ?_, ?_⟩
    · exact Calls.regrown_of (HCl.out _)
    · exact hK
  iterate 4
    apply wpCalm_want
    · rfl
    · exact bc_refl
    · exact ⟨_, Below.refl _ _⟩
    · intro w0 hC0 K hK
      go_big_quiet_op
      exact hK
  apply wpCalm_want
  · rfl
  · exact bc_refl
  · exact ⟨_, Below.refl _ _⟩
  · intro w0 hC0 K hK
    go_big_quiet_op
    apply Exists.intro
    refine ⟨fun p => ?_, ?_⟩
    · exact Calls.regrown_of (HCh.out _)
    · exact hK
  iterate 1
    apply wpCalm_want
    · rfl
    · exact bc_refl
    · exact ⟨_, Below.refl _ _⟩
    · intro w0 hC0 K hK
      go_big_quiet_op
      exact hK
  refine wpCalm_nil ?_
  intro wc hbc
  simp only [List.drop_succ_cons, List.drop_zero]
  go_wp2_with fail
  go_ret
  exact ⟨by rw [HLn.out]; rfl, bt HB3.out hbc⟩
/-- **Line**, of a valid query. -/
theorem rline_any (q : MQ) (hv : validB q = true) (w : World) : Calls Tryd.prog 23 #[qV q] w fun e w' => e = .returned (.string (bstr (line q))) ∧ Below w.heap.size w w' := by
  obtain ⟨a1, a2, a3, a4, a5, a6⟩ := valid_bounds hv
  have hk := (valid_ok hv).2
  obtain ⟨k, t, c, l, h, b, o⟩ := q
  simp only at a1 a2 a3 a4 a5 a6 hk
  have ht : -1000000000 ≤ t ∧ t ≤ 1000000000 := by omega
  have hc : -1000000000 ≤ c ∧ c ≤ 1000000000 := by omega
  have hl : -1000000000 ≤ l ∧ l ≤ 1000000000 := by omega
  have hh : -1000000000 ≤ h ∧ h ≤ 1000000000 := by omega
  have hb : -1000000000 ≤ b ∧ b ≤ 1000000000 := by omega
  have ho : -1000000000 ≤ o ∧ o ≤ 1000000000 := by omega
  rcases (by omega : k = 1 ∨ k = 2 ∨ k = 3 ∨ k = 4 ∨ k = 5 ∨ k = 6 ∨ k = 7) with rfl | rfl | rfl | rfl | rfl | rfl | rfl
  · exact rline_1 t c l h b o ht hl w
  · exact rline_2 t c l h b o ht hc hl hh w
  · exact rline_3 t c l h b o ht hc hl hh w
  · exact rline_4 t c l h b o ht hc hl hh hb w
  · exact rline_5 t c l h b o ht hc hl hh hb w
  · exact rline_6 t c l h b o ht hc hl hh hb w
  · exact rline_7 t c l h b o ht hc hl hh hb ho w
end Go.Proofs.YtmjcjgmmolmibaaDoor
