/- WALKS: the reference's within, Valid. -/
import Derived.Test.YtmjcjgmmolmibaaDoorV2
set_option linter.unusedVariables false
set_option linter.unusedSimpArgs false
namespace Go.Proofs.YtmjcjgmmolmibaaDoor
open Go.RowKit

set_option maxRecDepth 100000 in
theorem within_any (n a b : Int) (w : World) : Calls Tryd.prog 28 #[.int .i64 n, .int .i64 a, .int .i64 b] w fun e w' => e = .returned (.bool (btw n a b)) ∧ w = w' := by
  by_cases h1 : a ≤ n
  · have d1 : decide (a ≤ n) = true := decide_eq_true h1
    go_enter Tryd.func28, Tryd.ntmps28
    go_wp2_with fail
    go_ret
    exact ⟨ret_bool (by simp [btw, h1]), rfl⟩
  · have d1 : decide (a ≤ n) = false := decide_eq_false h1
    go_enter Tryd.func28, Tryd.ntmps28
    go_wp2_with fail
    go_ret
    exact ⟨ret_bool (btw_f (by omega)).symm, rfl⟩

set_option maxRecDepth 100000 in
set_option maxHeartbeats 2000000 in
theorem rvalid_no (k t c l h b o : Int) (w : World) (hs : scanB ⟨k, t, c, l, h, b, o⟩ = false) : Calls Tryd.prog 15 #[qV ⟨k, t, c, l, h, b, o⟩] w fun e w' => e = .returned (.bool (validB ⟨k, t, c, l, h, b, o⟩)) ∧ Below w.heap.size w w' := by
  have HV := Lib.hid (validB_scan hs)
  have hcase : decide (t < 0) = true ∨ (decide (t < 0) = false ∧ decide (4 ≤ t) = true) ∨ (decide (t < 0) = false ∧ decide (4 ≤ t) = false ∧ decide (c < 0) = true) ∨ (decide (t < 0) = false ∧ decide (4 ≤ t) = false ∧ decide (c < 0) = false ∧ decide (4 ≤ c) = true)
      ∨ (decide (t < 0) = false ∧ decide (4 ≤ t) = false ∧ decide (c < 0) = false ∧ decide (4 ≤ c) = false ∧ decide (l < -1000000000) = true)
      ∨ (decide (t < 0) = false ∧ decide (4 ≤ t) = false ∧ decide (c < 0) = false ∧ decide (4 ≤ c) = false ∧ decide (l < -1000000000) = false ∧ decide (1000000000 < h) = true)
      ∨ (decide (t < 0) = false ∧ decide (4 ≤ t) = false ∧ decide (c < 0) = false ∧ decide (4 ≤ c) = false ∧ decide (l < -1000000000) = false ∧ decide (1000000000 < h) = false ∧ decide (h < l) = true) := by
    simp only [scanB, Bool.and_eq_false_iff, decide_eq_false_iff_not] at hs
    simp only [decide_eq_true_eq, decide_eq_false_iff_not]
    omega
  clear hs
  unfold qV
  rcases hcase with d1 | ⟨d1, d2⟩ | ⟨d1, d2, d3⟩ | ⟨d1, d2, d3, d4⟩ | ⟨d1, d2, d3, d4, d5⟩ | ⟨d1, d2, d3, d4, d5, d6⟩ | ⟨d1, d2, d3, d4, d5, d6, d7⟩
  all_goals
    go_enter Tryd.func15, Tryd.ntmps15
    go_wp2_with fail
    go_ret
    exact ⟨ret_bool HV.out.symm, ba _ _⟩

theorem scan_facts {k t c l h b o : Int} (hs : scanB ⟨k, t, c, l, h, b, o⟩ = true) : decide (t < 0) = false ∧ decide (4 ≤ t) = false ∧ decide (c < 0) = false ∧ decide (4 ≤ c) = false ∧ decide (l < -1000000000) = false ∧ decide (1000000000 < h) = false ∧ decide (h < l) = false := by
  simp only [scanB, Bool.and_eq_true, decide_eq_true_eq] at hs
  simp only [decide_eq_false_iff_not]
  omega

set_option maxRecDepth 100000 in
set_option maxHeartbeats 2000000 in
theorem rvalid_none (k t c l h b o : Int) (w : World) (hs : scanB ⟨k, t, c, l, h, b, o⟩ = true) (hk : ¬ (1 ≤ k ∧ k ≤ 7)) : Calls Tryd.prog 15 #[qV ⟨k, t, c, l, h, b, o⟩] w fun e w' => e = .returned (.bool (validB ⟨k, t, c, l, h, b, o⟩)) ∧ Below w.heap.size w w' := by
  have HV : Hid (validB ⟨k, t, c, l, h, b, o⟩ = false) := Lib.hid (by
    cases e : validB ⟨k, t, c, l, h, b, o⟩ with
    | false => rfl
    | true => exact absurd (valid_ok e).2 hk)
  obtain ⟨d1, d2, d3, d4, d5, d6, d7⟩ := scan_facts hs
  have k1 := ne_beq (show ¬ k = 1 by omega)
  have k2 := ne_beq (show ¬ k = 2 by omega)
  have k3 := ne_beq (show ¬ k = 3 by omega)
  have k4 := ne_beq (show ¬ k = 4 by omega)
  have k5 := ne_beq (show ¬ k = 5 by omega)
  have k6 := ne_beq (show ¬ k = 6 by omega)
  have k7 := ne_beq (show ¬ k = 7 by omega)
  clear hk hs
  unfold qV
  go_enter Tryd.func15, Tryd.ntmps15
  go_wp2_with fail
  go_ret
  exact ⟨ret_bool HV.out.symm, ba _ _⟩

set_option maxRecDepth 100000 in
set_option maxHeartbeats 2000000 in
theorem rvalid_23 (k t c l h b o : Int) (w : World) (hs : scanB ⟨k, t, c, l, h, b, o⟩ = true) (hk : k = 2 ∨ k = 3) : Calls Tryd.prog 15 #[qV ⟨k, t, c, l, h, b, o⟩] w fun e w' => e = .returned (.bool (validB ⟨k, t, c, l, h, b, o⟩)) ∧ Below w.heap.size w w' := by
  have HV : Hid (validB ⟨k, t, c, l, h, b, o⟩ = ((b == 0) && (o == 0))) := Lib.hid (by
    have e : ¬ k = 1 := by omega
    simp [validB, e, hk, hs]; rfl)
  obtain ⟨d1, d2, d3, d4, d5, d6, d7⟩ := scan_facts hs
  clear hs
  obtain ⟨vb, Hb⟩ : ∃ v, (b == 0) = v := ⟨_, rfl⟩
  obtain ⟨vo, Ho⟩ : ∃ v, (o == 0) = v := ⟨_, rfl⟩
  rw [Hb, Ho] at HV
  unfold qV
  rcases hk with rfl | rfl <;> cases vb <;> cases vo
  all_goals
    go_enter Tryd.func15, Tryd.ntmps15
    go_wp2_with fail
    go_ret
    exact ⟨ret_bool (by rw [HV.out]; rfl), ba _ _⟩

set_option maxRecDepth 100000 in
set_option maxHeartbeats 2000000 in
theorem rvalid_456 (k t c l h b o : Int) (w : World) (hs : scanB ⟨k, t, c, l, h, b, o⟩ = true) (hk : k = 4 ∨ k = 5 ∨ k = 6) : Calls Tryd.prog 15 #[qV ⟨k, t, c, l, h, b, o⟩] w fun e w' => e = .returned (.bool (validB ⟨k, t, c, l, h, b, o⟩)) ∧ Below w.heap.size w w' := by
  have HV : Hid (validB ⟨k, t, c, l, h, b, o⟩ = (btw b 1 3 && (o == 0))) := Lib.hid (by
    have e : ¬ k = 1 := by omega
    have e2 : ¬ (k = 2 ∨ k = 3) := by omega
    have e3 : (k = 4 ∨ k = 5) ∨ k = 6 := by omega
    simp [validB, e, e2, e3, btw, hs]; rfl)
  obtain ⟨d1, d2, d3, d4, d5, d6, d7⟩ := scan_facts hs
  clear hs
  obtain ⟨vb, Hb⟩ : ∃ v, Hid (btw b 1 3 = v) := ⟨_, Lib.hid rfl⟩
  obtain ⟨vo, Ho⟩ : ∃ v, (o == 0) = v := ⟨_, rfl⟩
  rw [Hb.out, Ho] at HV
  unfold qV
  rcases hk with rfl | rfl | rfl <;> cases vb <;> cases vo
  all_goals
    go_enter Tryd.func15, Tryd.ntmps15
    go_wp2_with fail
    (with_reducible refine (within_any _ _ _ _).mono ?_)
    rintro e w' ⟨rfl, rfl⟩
    rw [Hb.out]
    go_wp2_with fail
    go_ret
    exact ⟨ret_bool (by rw [HV.out]; rfl), ba _ _⟩

set_option maxRecDepth 100000 in
set_option maxHeartbeats 2000000 in
theorem rvalid_7 (k t c l h b o : Int) (w : World) (hs : scanB ⟨k, t, c, l, h, b, o⟩ = true) (hk : k = 7) : Calls Tryd.prog 15 #[qV ⟨k, t, c, l, h, b, o⟩] w fun e w' => e = .returned (.bool (validB ⟨k, t, c, l, h, b, o⟩)) ∧ Below w.heap.size w w' := by
  have HV : Hid (validB ⟨k, t, c, l, h, b, o⟩ = (btw b 1 3 && btw o 0 3)) := Lib.hid (by
    subst hk
    simp [validB, btw, hs])
  obtain ⟨d1, d2, d3, d4, d5, d6, d7⟩ := scan_facts hs
  clear hs
  obtain ⟨vb, Hb⟩ : ∃ v, Hid (btw b 1 3 = v) := ⟨_, Lib.hid rfl⟩
  obtain ⟨vo, Ho⟩ : ∃ v, Hid (btw o 0 3 = v) := ⟨_, Lib.hid rfl⟩
  rw [Hb.out, Ho.out] at HV
  unfold qV
  subst hk
  cases vb
  · go_enter Tryd.func15, Tryd.ntmps15
    go_wp2_with fail
    (with_reducible refine (within_any _ _ _ _).mono ?_)
    rintro e w' ⟨rfl, rfl⟩
    rw [Hb.out]
    go_wp2_with fail
    go_ret
    exact ⟨ret_bool (by rw [HV.out]; rfl), ba _ _⟩
  · go_enter Tryd.func15, Tryd.ntmps15
    go_wp2_with fail
    (with_reducible refine (within_any _ _ _ _).mono ?_)
    rintro e w' ⟨rfl, rfl⟩
    rw [Hb.out]
    go_wp2_with fail
    (with_reducible refine (within_any _ _ _ _).mono ?_)
    rintro e w' ⟨rfl, rfl⟩
    rw [Ho.out]
    go_wp2_with fail
    go_ret
    exact ⟨ret_bool (by rw [HV.out]; rfl), ba _ _⟩

set_option maxRecDepth 100000 in
set_option maxHeartbeats 2000000 in
theorem rvalid_1 (k t c l h b o : Int) (w : World) (hs : scanB ⟨k, t, c, l, h, b, o⟩ = true) (hk : k = 1) : Calls Tryd.prog 15 #[qV ⟨k, t, c, l, h, b, o⟩] w fun e w' => e = .returned (.bool (validB ⟨k, t, c, l, h, b, o⟩)) ∧ Below w.heap.size w w' := by
  have HV : Hid (validB ⟨k, t, c, l, h, b, o⟩ = ((c == 0) && (l == h) && btw l 1 1000000 && ((b == 0) && (o == 0)))) := Lib.hid (by
    subst hk
    unfold validB
    rw [hs, Bool.eq_iff_iff]
    simp only [Bool.and_eq_true, beq_iff_eq, btw, decide_eq_true_eq, if_true, Bool.true_and]
    constructor
    · rintro ⟨⟨⟨⟨h1, h2⟩, h3⟩, h4⟩, h5⟩
      exact ⟨⟨⟨h1, h2⟩, h3⟩, h4, h5⟩
    · rintro ⟨⟨⟨h1, h2⟩, h3⟩, h4, h5⟩
      exact ⟨⟨⟨⟨h1, h2⟩, h3⟩, h4⟩, h5⟩)
  obtain ⟨d1, d2, d3, d4, d5, d6, d7⟩ := scan_facts hs
  clear hs
  obtain ⟨vc, Hc⟩ : ∃ v, (c == 0) = v := ⟨_, rfl⟩
  obtain ⟨vl, Hl⟩ : ∃ v, (l == h) = v := ⟨_, rfl⟩
  obtain ⟨vw, Hw⟩ : ∃ v, Hid (btw l 1 1000000 = v) := ⟨_, Lib.hid rfl⟩
  obtain ⟨vb, Hb⟩ : ∃ v, (b == 0) = v := ⟨_, rfl⟩
  obtain ⟨vo, Ho⟩ : ∃ v, (o == 0) = v := ⟨_, rfl⟩
  rw [Hc, Hl, Hw.out, Hb, Ho] at HV
  unfold qV
  subst hk
  cases vc
  · clear Hl Hb Ho
    go_enter Tryd.func15, Tryd.ntmps15
    go_wp2_with fail
    go_ret
    exact ⟨ret_bool (by rw [HV.out]; simp), ba _ _⟩
  cases vl
  · clear Hb Ho
    go_enter Tryd.func15, Tryd.ntmps15
    go_wp2_with fail
    go_ret
    exact ⟨ret_bool (by rw [HV.out]; simp), ba _ _⟩
  cases vw
  · clear Hb Ho
    go_enter Tryd.func15, Tryd.ntmps15
    go_wp2_with fail
    (with_reducible refine (within_any _ _ _ _).mono ?_)
    rintro e w' ⟨rfl, rfl⟩
    rw [Hw.out]
    go_wp2_with fail
    go_ret
    exact ⟨ret_bool (by rw [HV.out]; simp), ba _ _⟩
  cases vb <;> cases vo
  all_goals
    go_enter Tryd.func15, Tryd.ntmps15
    go_wp2_with fail
    (with_reducible refine (within_any _ _ _ _).mono ?_)
    rintro e w' ⟨rfl, rfl⟩
    rw [Hw.out]
    go_wp2_with fail
    go_ret
    exact ⟨ret_bool (by rw [HV.out]; rfl), ba _ _⟩

/-- **The reference's Valid.** -/
theorem rvalid_any (q : MQ) (w : World) : Calls Tryd.prog 15 #[qV q] w fun e w' => e = .returned (.bool (validB q)) ∧ Below w.heap.size w w' := by
  obtain ⟨k, t, c, l, h, b, o⟩ := q
  cases hs : scanB ⟨k, t, c, l, h, b, o⟩ with
  | false => exact rvalid_no k t c l h b o w hs
  | true =>
    by_cases h1 : 1 ≤ k ∧ k ≤ 7
    · by_cases h2 : k = 1
      · exact rvalid_1 k t c l h b o w hs h2
      · by_cases h3 : k = 2 ∨ k = 3
        · exact rvalid_23 k t c l h b o w hs h3
        · by_cases h4 : k = 7
          · exact rvalid_7 k t c l h b o w hs h4
          · exact rvalid_456 k t c l h b o w hs (by omega)
    · exact rvalid_none k t c l h b o w hs h1
end Go.Proofs.YtmjcjgmmolmibaaDoor
