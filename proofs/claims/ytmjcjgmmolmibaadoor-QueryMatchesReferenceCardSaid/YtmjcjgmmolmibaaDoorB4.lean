/- WALKS: QueryMatchesReference. -/
import Derived.Test.YtmjcjgmmolmibaaDoorR4
import Derived.Test.YtmjcjgmmolmibaaDoorB1
set_option linter.unusedVariables false
set_option linter.unusedSimpArgs false
namespace Go.Proofs.YtmjcjgmmolmibaaDoor
open Go.RowKit Go.Sort

theorem scanV_form (q : MQ) : ∃ s1 s2 s3 s4 : Int, scanV q = .tuple #[.int .i64 s1, .int .i64 s2, .int .i64 s3, .int .i64 s4] := by
  unfold scanV
  split
  · exact ⟨_, _, _, _, rfl⟩
  · exact ⟨0, 0, 0, 0, rfl⟩

set_option maxRecDepth 100000 in
set_option maxHeartbeats 4000000 in
theorem matches_walk (a : Addr) (q : MQ) (W : World) (hL : Lw a W) : Calls Tryd.prog 3 #[qV q] W fun e w' => e = .returned (.bool true) ∧ Below W.heap.size W w' := by
  have HL : Hid (∀ w, Below W.heap.size W w → Lw a w) := Lib.hid (fun w h => hL.below h)
  clear hL
  obtain ⟨s1, s2, s3, s4, hsc⟩ := scanV_form q
  have HP := Lib.hid (fun w hb => print_any a q w (HL.out w hb))
  have HR := Lib.hid (fun w => rprint_any q w)
  have HS := Lib.hid (fun w => scan_any q w)
  have HT := Lib.hid (fun w => rscan_any q w)
  have HV := Lib.hid (fun w => valid_any q w)
  have HU := Lib.hid (fun w => rvalid_any q w)
  rw [hsc] at HS HT
  obtain ⟨S, HSs⟩ : ∃ S, Hid ((if validB q then bstr (line q) else ⟨#[]⟩) = S) := ⟨_, Lib.hid rfl⟩
  obtain ⟨N, HN⟩ : ∃ N : Int, Hid ((if validB q then 0 else 50) = N) := ⟨_, Lib.hid rfl⟩
  obtain ⟨v, Hv⟩ : ∃ v, Hid (validB q = v) := ⟨_, Lib.hid rfl⟩
  rw [HSs.out, HN.out] at HP HR
  rw [Hv.out] at HV HU
  clear hsc HSs HN Hv
  have hse := str_eq (rfl : S = S)
  obtain ⟨k, t, c, l, h, b, o⟩ := q
  obtain ⟨W1, HW1⟩ : ∃ W1, Hid (W.alloc (.cells #[.int .i64 k, .int .i64 t, .int .i64 c, .int .i64 l, .int .i64 h, .int .i64 b, .int .i64 o] 23) = W1) := ⟨_, Lib.hid rfl⟩
  have HB1 : Hid (Below W.heap.size W W1) := Lib.hid (by rw [← HW1.out]; exact ba _ _)
  have HQ1 : Hid (QAt W1 W.heap.size ⟨k, t, c, l, h, b, o⟩) := Lib.hid (by rw [← HW1.out]; exact QAt.new W ⟨k, t, c, l, h, b, o⟩)
  have HSa := Lib.hid (sane_any a W1 (HL.out _ HB1.out))
  unfold qV at *
  go_enter Tryd.func3, Tryd.ntmps3
  go_wp2_with fail
  rw [HW1.out]
  refine (HSa.out).mono ?_
  rintro e w2 ⟨rfl, hb2⟩
  have HB2 := Lib.hid (bt HB1.out hb2)
  have HQ2 := Lib.hid (HQ1.out.below hb2)
  clear hb2
  obtain ⟨y0, y1, y2, y3, y4, y5, y6⟩ := HQ2.out
  go_wp2_with fail
  clear y0 y1 y2 y3 y4 y5 y6
  refine (HP.out _ HB2.out).mono ?_
  rintro e w3 ⟨rfl, hb3⟩
  have HB3 := Lib.hid (bt HB2.out hb3)
  have HQ3 := Lib.hid (HQ2.out.below hb3)
  clear hb3
  obtain ⟨y0, y1, y2, y3, y4, y5, y6⟩ := HQ3.out
  go_wp2_with fail
  clear y0 y1 y2 y3 y4 y5 y6
  refine (HR.out _).mono ?_
  rintro e w4 ⟨rfl, hb4⟩
  have HB4 := Lib.hid (bt HB3.out hb4)
  have HQ4 := Lib.hid (HQ3.out.below hb4)
  clear hb4
  obtain ⟨y0, y1, y2, y3, y4, y5, y6⟩ := HQ4.out
  go_wp2_with fail
  clear y0 y1 y2 y3 y4 y5 y6
  refine (HS.out _).mono ?_
  rintro e w5 ⟨rfl, hb5⟩
  have HB5 := Lib.hid (bt HB4.out hb5)
  have HQ5 := Lib.hid (HQ4.out.below hb5)
  clear hb5
  obtain ⟨y0, y1, y2, y3, y4, y5, y6⟩ := HQ5.out
  go_wp2_with fail
  clear y0 y1 y2 y3 y4 y5 y6
  refine (HT.out _).mono ?_
  rintro e w6 ⟨rfl, hb6⟩
  have HB6 := Lib.hid (bt HB5.out hb6)
  have HQ6 := Lib.hid (HQ5.out.below hb6)
  clear hb6
  obtain ⟨y0, y1, y2, y3, y4, y5, y6⟩ := HQ6.out
  go_wp2_with fail
  clear y0 y1 y2 y3 y4 y5 y6
  have g0 : ∀ w0, BW w6 w0 → ∀ d os, (grow (redrawn w0 d) os).cell? ⟨W.heap.size, 0, none⟩ = some (.int .i64 k) := fun w0 h d os => (HQ6.out.calm w0 h d os).c0
  have g1 : ∀ w0, BW w6 w0 → ∀ d os, (grow (redrawn w0 d) os).cell? ⟨W.heap.size, 1, none⟩ = some (.int .i64 t) := fun w0 h d os => (HQ6.out.calm w0 h d os).c1
  have g2 : ∀ w0, BW w6 w0 → ∀ d os, (grow (redrawn w0 d) os).cell? ⟨W.heap.size, 2, none⟩ = some (.int .i64 c) := fun w0 h d os => (HQ6.out.calm w0 h d os).c2
  have g3 : ∀ w0, BW w6 w0 → ∀ d os, (grow (redrawn w0 d) os).cell? ⟨W.heap.size, 3, none⟩ = some (.int .i64 l) := fun w0 h d os => (HQ6.out.calm w0 h d os).c3
  have g4 : ∀ w0, BW w6 w0 → ∀ d os, (grow (redrawn w0 d) os).cell? ⟨W.heap.size, 4, none⟩ = some (.int .i64 h) := fun w0 h d os => (HQ6.out.calm w0 h d os).c4
  have g5 : ∀ w0, BW w6 w0 → ∀ d os, (grow (redrawn w0 d) os).cell? ⟨W.heap.size, 5, none⟩ = some (.int .i64 b) := fun w0 h d os => (HQ6.out.calm w0 h d os).c5
  have g6 : ∀ w0, BW w6 w0 → ∀ d os, (grow (redrawn w0 d) os).cell? ⟨W.heap.size, 6, none⟩ = some (.int .i64 o) := fun w0 h d os => (HQ6.out.calm w0 h d os).c6
  refine wp_region_calm 38 39 [0, 1, 2, 3, 4, 5, 6, 7, 8, 9, 10, 11, 12, 13, 14, 15, 16, 17, 18, 19, 20, 21, 22, 23, 24, 25, 26, 27, 28, 29, 30, 31, 32, 33, 34, 35, 36, 37] (by kernel_rfl) (by kernel_rfl) (by intro oz h; simp at h) (by intro oz h; simp at h) (by rfl) ?_
  simp only [List.take_succ_cons, List.take_zero]
  iterate 3
    apply wpCalm_want
    · rfl
    · exact bc_refl
    · exact ⟨_, Below.refl _ _⟩
    · intro w0 hC0 K hK
      go_big_quiet_op
      exact hK
  apply wpCalm_want
  · rfl
  · exact bc_refl
  · exact ⟨_, Below.refl _ _⟩
  · intro w0 hC0 K hK
    go_big_quiet_op
    apply Exists.intro
    refine ⟨fun p => ?_, ?_⟩
    · exact Calls.regrown_of (HV.out _)
    · exact hK
  iterate 1
    apply wpCalm_want
    · rfl
    · exact bc_refl
    · exact ⟨_, Below.refl _ _⟩
    · intro w0 hC0 K hK
      go_big_quiet_op
      exact hK
  apply wpCalm_want
  · rfl
  · exact bc_refl
  · exact ⟨_, Below.refl _ _⟩
  · intro w0 hC0 K hK
    go_big_quiet_op
    apply Exists.intro
    refine ⟨fun p => ?_, ?_⟩
    · exact Calls.regrown_of (HU.out _)
    · exact hK
  iterate 32
    apply wpCalm_want
    · rfl
    · exact bc_refl
    · exact ⟨_, Below.refl _ _⟩
    · intro w0 hC0 K hK
      go_big_quiet_op
      exact hK
  refine wpCalm_nil ?_
  intro wc hbc
  simp only [List.drop_succ_cons, List.drop_zero]
  go_wp2_with fail
  go_ret
  exact ⟨rfl, bt HB6.out hbc⟩
end Go.Proofs.YtmjcjgmmolmibaaDoor
