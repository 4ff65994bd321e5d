/- WALKS: Valid. -/
import Derived.Test.YtmjcjgmmolmibaaDoorV1
set_option linter.unusedVariables false
set_option linter.unusedSimpArgs false
namespace Go.Proofs.YtmjcjgmmolmibaaDoor
open Go.RowKit

theorem validB_scan {q : MQ} (h : scanB q = false) : validB q = false := by simp [validB, h]
theorem ne_beq {a b : Int} (h : ¬ a = b) : (a == b) = false := by simp [h]
theorem eq_beq {a b : Int} (h : a = b) : (a == b) = true := by simp [h]

set_option maxRecDepth 100000 in
set_option maxHeartbeats 1000000 in
/-- Ranges and counts. -/
theorem valid_23 (k t c l h b o : Int) (w : World) (hk : k = 2 ∨ k = 3) : Calls Tryd.prog 14 #[qV ⟨k, t, c, l, h, b, o⟩] w fun e w' => e = .returned (.bool (validB ⟨k, t, c, l, h, b, o⟩)) ∧ Below w.heap.size w w' := by
  have HV : Hid (validB ⟨k, t, c, l, h, b, o⟩ = (scanB ⟨k, t, c, l, h, b, o⟩ && ((b == 0) && (o == 0)))) := Lib.hid (by
    have e : ¬ k = 1 := by omega
    simp [validB, e, hk]; rfl)
  obtain ⟨sb, Hsb⟩ : ∃ sb, Hid (scanB ⟨k, t, c, l, h, b, o⟩ = sb) := ⟨_, Lib.hid rfl⟩
  have HC := Lib.hid (validScan_any k t c l h b o (w.alloc (.cells #[.int .i64 k, .int .i64 t, .int .i64 c, .int .i64 l, .int .i64 h, .int .i64 b, .int .i64 o] 23)))
  unfold qV at HC
  unfold qV
  rcases hk with rfl | rfl
  all_goals
    go_enter Tryd.func14, Tryd.ntmps14
    go_wp2_with fail
    (with_reducible refine HC.out.mono ?_)
    rintro e w1 ⟨rfl, hb1⟩
    obtain ⟨y0, y1, y2, y3, y4, y5, y6⟩ := (QAt.new w ⟨2, t, c, l, h, b, o⟩)
    have c5 : w1.cell? ⟨w.heap.size, 5, none⟩ = some (.int .i64 b) := (hb1.cell (p := ⟨w.heap.size, 5, none⟩) (by simp)).trans (by simp [go_sem])
    have c6 : w1.cell? ⟨w.heap.size, 6, none⟩ = some (.int .i64 o) := (hb1.cell (p := ⟨w.heap.size, 6, none⟩) (by simp)).trans (by simp [go_sem])
    have HB := Lib.hid (bt (ba w _) hb1)
    clear hb1 y0 y1 y2 y3 y4 y5 y6
    rw [Hsb.out]
    cases sb
    · go_wp2_with fail
      go_ret
      exact ⟨ret_bool (by rw [HV.out, Hsb.out]; rfl), HB.out⟩
    · by_cases hb : b = 0
      · have gb := eq_beq hb
        by_cases ho : o = 0
        · have go' := eq_beq ho
          clear hb ho
          go_wp2_with fail
          go_ret
          exact ⟨ret_bool (by rw [HV.out, Hsb.out, gb, go']; rfl), HB.out⟩
        · have go' := ne_beq ho
          clear hb ho
          go_wp2_with fail
          go_ret
          exact ⟨ret_bool (by rw [HV.out, Hsb.out, gb, go']; rfl), HB.out⟩
      · have gb := ne_beq hb
        clear hb
        go_wp2_with fail
        go_ret
        exact ⟨ret_bool (by rw [HV.out, Hsb.out, gb]; rfl), HB.out⟩

set_option maxRecDepth 100000 in
set_option maxHeartbeats 1000000 in
/-- Sums and the like. -/
theorem valid_456 (k t c l h b o : Int) (w : World) (hk : k = 4 ∨ k = 5 ∨ k = 6) : Calls Tryd.prog 14 #[qV ⟨k, t, c, l, h, b, o⟩] w fun e w' => e = .returned (.bool (validB ⟨k, t, c, l, h, b, o⟩)) ∧ Below w.heap.size w w' := by
  have HV : Hid (validB ⟨k, t, c, l, h, b, o⟩ = (scanB ⟨k, t, c, l, h, b, o⟩ && (btw b 1 3 && (o == 0)))) := Lib.hid (by
    have e : ¬ k = 1 := by omega
    have e2 : ¬ (k = 2 ∨ k = 3) := by omega
    have e3 : (k = 4 ∨ k = 5) ∨ k = 6 := by omega
    simp [validB, e, e2, e3, btw]; rfl)
  obtain ⟨sb, Hsb⟩ : ∃ sb, Hid (scanB ⟨k, t, c, l, h, b, o⟩ = sb) := ⟨_, Lib.hid rfl⟩
  have HC := Lib.hid (validScan_any k t c l h b o (w.alloc (.cells #[.int .i64 k, .int .i64 t, .int .i64 c, .int .i64 l, .int .i64 h, .int .i64 b, .int .i64 o] 23)))
  unfold qV at HC
  unfold qV
  obtain ⟨bb, Hbb⟩ : ∃ bb, Hid (btw b 1 3 = bb) := ⟨_, Lib.hid rfl⟩
  rcases hk with rfl | rfl | rfl
  all_goals
    go_enter Tryd.func14, Tryd.ntmps14
    go_wp2_with fail
    (with_reducible refine HC.out.mono ?_)
    rintro e w1 ⟨rfl, hb1⟩
    have c5 : w1.cell? ⟨w.heap.size, 5, none⟩ = some (.int .i64 b) := (hb1.cell (p := ⟨w.heap.size, 5, none⟩) (by simp)).trans (by simp [go_sem])
    have c6 : w1.cell? ⟨w.heap.size, 6, none⟩ = some (.int .i64 o) := (hb1.cell (p := ⟨w.heap.size, 6, none⟩) (by simp)).trans (by simp [go_sem])
    have HB := Lib.hid (bt (ba w _) hb1)
    clear hb1
    rw [Hsb.out]
    cases sb
    · go_wp2_with fail
      go_ret
      exact ⟨ret_bool (by rw [HV.out, Hsb.out]; rfl), HB.out⟩
    · go_wp2_with fail
      (with_reducible refine (validBy_any _ _).mono ?_)
      rintro e w' ⟨rfl, rfl⟩
      rw [Hbb.out]
      cases bb
      · go_wp2_with fail
        go_ret
        exact ⟨ret_bool (by rw [HV.out, Hsb.out, Hbb.out]; rfl), HB.out⟩
      · by_cases ho : o = 0
        · have go' := eq_beq ho
          clear ho
          go_wp2_with fail
          go_ret
          exact ⟨ret_bool (by rw [HV.out, Hsb.out, Hbb.out, go']; rfl), HB.out⟩
        · have go' := ne_beq ho
          clear ho
          go_wp2_with fail
          go_ret
          exact ⟨ret_bool (by rw [HV.out, Hsb.out, Hbb.out, go']; rfl), HB.out⟩

set_option maxRecDepth 100000 in
set_option maxHeartbeats 1000000 in
/-- Joins. -/
theorem valid_7 (k t c l h b o : Int) (w : World) (hk : k = 7) : Calls Tryd.prog 14 #[qV ⟨k, t, c, l, h, b, o⟩] w fun e w' => e = .returned (.bool (validB ⟨k, t, c, l, h, b, o⟩)) ∧ Below w.heap.size w w' := by
  have HV : Hid (validB ⟨k, t, c, l, h, b, o⟩ = (scanB ⟨k, t, c, l, h, b, o⟩ && (btw b 1 3 && btw o 0 3))) := Lib.hid (by
    subst hk
    simp [validB, btw])
  obtain ⟨sb, Hsb⟩ : ∃ sb, Hid (scanB ⟨k, t, c, l, h, b, o⟩ = sb) := ⟨_, Lib.hid rfl⟩
  have HC := Lib.hid (validScan_any k t c l h b o (w.alloc (.cells #[.int .i64 k, .int .i64 t, .int .i64 c, .int .i64 l, .int .i64 h, .int .i64 b, .int .i64 o] 23)))
  unfold qV at HC
  unfold qV
  obtain ⟨bb, Hbb⟩ : ∃ bb, Hid (btw b 1 3 = bb) := ⟨_, Lib.hid rfl⟩
  obtain ⟨ob, Hob⟩ : ∃ ob, Hid (btw o 0 3 = ob) := ⟨_, Lib.hid rfl⟩
  rcases hk with rfl
  all_goals
    go_enter Tryd.func14, Tryd.ntmps14
    go_wp2_with fail
    (with_reducible refine HC.out.mono ?_)
    rintro e w1 ⟨rfl, hb1⟩
    have c5 : w1.cell? ⟨w.heap.size, 5, none⟩ = some (.int .i64 b) := (hb1.cell (p := ⟨w.heap.size, 5, none⟩) (by simp)).trans (by simp [go_sem])
    have c6 : w1.cell? ⟨w.heap.size, 6, none⟩ = some (.int .i64 o) := (hb1.cell (p := ⟨w.heap.size, 6, none⟩) (by simp)).trans (by simp [go_sem])
    have HB := Lib.hid (bt (ba w _) hb1)
    clear hb1
    rw [Hsb.out]
    cases sb
    · go_wp2_with fail
      go_ret
      exact ⟨ret_bool (by rw [HV.out, Hsb.out]; rfl), HB.out⟩
    · go_wp2_with fail
      (with_reducible refine (validBy_any _ _).mono ?_)
      rintro e w' ⟨rfl, rfl⟩
      rw [Hbb.out]
      cases bb
      · go_wp2_with fail
        go_ret
        exact ⟨ret_bool (by rw [HV.out, Hsb.out, Hbb.out]; rfl), HB.out⟩
      · go_wp2_with fail
        (with_reducible refine (validTable_any _ _).mono ?_)
        rintro e w' ⟨rfl, rfl⟩
        rw [Hob.out]
        go_wp2_with fail
        go_ret
        exact ⟨ret_bool (by rw [HV.out, Hsb.out, Hbb.out, Hob.out]; rfl), HB.out⟩

set_option maxRecDepth 100000 in
set_option maxHeartbeats 1000000 in
/-- No kind. -/
theorem valid_no (k t c l h b o : Int) (w : World) (hk : ¬ (1 ≤ k ∧ k ≤ 7)) : Calls Tryd.prog 14 #[qV ⟨k, t, c, l, h, b, o⟩] w fun e w' => e = .returned (.bool (validB ⟨k, t, c, l, h, b, o⟩)) ∧ Below w.heap.size w w' := by
  have HV : Hid (validB ⟨k, t, c, l, h, b, o⟩ = false) := Lib.hid (by
    cases e : validB ⟨k, t, c, l, h, b, o⟩ with
    | false => rfl
    | true => exact absurd (valid_ok e).2 hk)
  have k1 := ne_beq (show ¬ k = 1 by omega)
  have k2 := ne_beq (show ¬ k = 2 by omega)
  have k3 := ne_beq (show ¬ k = 3 by omega)
  have k4 := ne_beq (show ¬ k = 4 by omega)
  have k5 := ne_beq (show ¬ k = 5 by omega)
  have k6 := ne_beq (show ¬ k = 6 by omega)
  have k7 := ne_beq (show ¬ k = 7 by omega)
  clear hk
  unfold qV
  go_enter Tryd.func14, Tryd.ntmps14
  go_wp2_with fail
  go_ret
  exact ⟨ret_bool HV.out.symm, ba _ _⟩

set_option maxRecDepth 100000 in
set_option maxHeartbeats 2000000 in
/-- Rows. -/
theorem valid_1 (k t c l h b o : Int) (w : World) (hk : k = 1) : Calls Tryd.prog 14 #[qV ⟨k, t, c, l, h, b, o⟩] w fun e w' => e = .returned (.bool (validB ⟨k, t, c, l, h, b, o⟩)) ∧ Below w.heap.size w w' := by
  have HV : Hid (validB ⟨k, t, c, l, h, b, o⟩ = ((c == 0) && (l == h) && btw l 1 1000000 && (scanB ⟨k, t, c, l, h, b, o⟩ && ((b == 0) && (o == 0))))) := Lib.hid (by
    subst hk
    unfold validB
    rw [Bool.eq_iff_iff]
    simp only [Bool.and_eq_true, beq_iff_eq, btw, decide_eq_true_eq, if_true]
    constructor
    · rintro ⟨h1, ⟨⟨⟨h2, h3⟩, h4, h5⟩, h6⟩, h7⟩
      exact ⟨⟨⟨h2, h3⟩, h4, h5⟩, h1, h6, h7⟩
    · rintro ⟨⟨⟨h2, h3⟩, h4, h5⟩, h1, h6, h7⟩
      exact ⟨h1, ⟨⟨⟨h2, h3⟩, h4, h5⟩, h6⟩, h7⟩)
  obtain ⟨sb, Hsb⟩ : ∃ sb, Hid (scanB ⟨k, t, c, l, h, b, o⟩ = sb) := ⟨_, Lib.hid rfl⟩
  have HC := Lib.hid (validScan_any k t c l h b o (w.alloc (.cells #[.int .i64 k, .int .i64 t, .int .i64 c, .int .i64 l, .int .i64 h, .int .i64 b, .int .i64 o] 23)))
  unfold qV at HC
  unfold qV
  obtain ⟨lb, Hlb⟩ : ∃ lb, Hid (btw l 1 1000000 = lb) := ⟨_, Lib.hid rfl⟩
  rcases hk with rfl
  by_cases hc : c = 0
  · have gc : (c != 0) = false := by simp [hc]
    have Gc := Lib.hid (eq_beq hc)
    by_cases hl : l = h
    · have gl : (l != h) = false := by simp [hl]
      have Gl := Lib.hid (eq_beq hl)
      clear hc hl
      go_enter Tryd.func14, Tryd.ntmps14
      go_wp2_with fail
      (with_reducible refine (between_any _ _ _ _).mono ?_)
      rintro e w' ⟨rfl, rfl⟩
      rw [Hlb.out]
      cases lb
      · go_wp2_with fail
        go_ret
        exact ⟨ret_bool (by rw [HV.out, Hlb.out]; simp), ba _ _⟩
      · go_wp2_with fail
        (with_reducible refine HC.out.mono ?_)
        rintro e w1 ⟨rfl, hb1⟩
        have c5 : w1.cell? ⟨w.heap.size, 5, none⟩ = some (.int .i64 b) := (hb1.cell (p := ⟨w.heap.size, 5, none⟩) (by simp)).trans (by simp [go_sem])
        have c6 : w1.cell? ⟨w.heap.size, 6, none⟩ = some (.int .i64 o) := (hb1.cell (p := ⟨w.heap.size, 6, none⟩) (by simp)).trans (by simp [go_sem])
        have HB := Lib.hid (bt (ba w _) hb1)
        clear hb1
        rw [Hsb.out]
        cases sb
        · go_wp2_with fail
          go_ret
          exact ⟨ret_bool (by rw [HV.out, Hsb.out]; simp), HB.out⟩
        · by_cases hb : b = 0
          · have gb := eq_beq hb
            by_cases ho : o = 0
            · have go' := eq_beq ho
              clear hb ho
              go_wp2_with fail
              go_ret
              exact ⟨ret_bool (by rw [HV.out, Hsb.out, Gc.out, Gl.out, Hlb.out, gb, go']; rfl), HB.out⟩
            · have go' := ne_beq ho
              clear hb ho
              go_wp2_with fail
              go_ret
              exact ⟨ret_bool (by rw [HV.out, go']; simp), HB.out⟩
          · have gb := ne_beq hb
            clear hb
            go_wp2_with fail
            go_ret
            exact ⟨ret_bool (by rw [HV.out, gb]; simp), HB.out⟩
    · have gl : (l != h) = true := by simp [hl]
      have Gl := Lib.hid (ne_beq hl)
      clear hc hl
      go_enter Tryd.func14, Tryd.ntmps14
      go_wp2_with fail
      go_ret
      exact ⟨ret_bool (by rw [HV.out, Gl.out]; simp), ba _ _⟩
  · have gc : (c != 0) = true := by simp [hc]
    have Gc := Lib.hid (ne_beq hc)
    clear hc
    go_enter Tryd.func14, Tryd.ntmps14
    go_wp2_with fail
    go_ret
    exact ⟨ret_bool (by rw [HV.out, Gc.out]; simp), ba _ _⟩

/-- **Valid.** -/
theorem valid_any (q : MQ) (w : World) : Calls Tryd.prog 14 #[qV q] w fun e w' => e = .returned (.bool (validB q)) ∧ Below w.heap.size w w' := by
  obtain ⟨k, t, c, l, h, b, o⟩ := q
  by_cases h1 : 1 ≤ k ∧ k ≤ 7
  · by_cases h2 : k = 1
    · exact valid_1 k t c l h b o w h2
    · by_cases h3 : k = 2 ∨ k = 3
      · exact valid_23 k t c l h b o w h3
      · by_cases h4 : k = 7
        · exact valid_7 k t c l h b o w h4
        · exact valid_456 k t c l h b o w (by omega)
  · exact valid_no k t c l h b o w h1
end Go.Proofs.YtmjcjgmmolmibaaDoor
