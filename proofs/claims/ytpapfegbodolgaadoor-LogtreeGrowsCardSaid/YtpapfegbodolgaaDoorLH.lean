/- WALKS: isDigest, valid, encode, Encode. -/
import Derived.Test.YtpapfegbodolgaaDoorLP
import Derived.Test.YtpapfegbodolgaaDoorP6
import Derived.BigQuiet
import Derived.Outline
set_option linter.unusedVariables false
set_option linter.unusedSimpArgs false
namespace Go.Proofs.YtpapfegbodolgaaDoor
open Go.RowKit

theorem isDigest_any (s : ByteArray) (w : World) (hs : s.size ≤ maxLen) : Calls Tryd.prog 49 #[.string s] w fun e w' => e = .returned (.bool (decide (s.size = 32))) ∧ w = w' := by
  unfold maxLen at hs
  have hd : ((s.size : Int) == 32) = decide (s.size = 32) := by
    by_cases h : s.size = 32
    · simp [h]
    · simp [h]; omega
  go_enter Tryd.func49, Tryd.ntmps49
  go_wp2_with fail
  go_ret
  exact ⟨rfl, rfl⟩
theorem isDigest_t (s : ByteArray) (w : World) (h : s.size = 32) : Calls Tryd.prog 49 #[.string s] w fun e w' => e = .returned (.bool true) ∧ w = w' :=
  (isDigest_any s w (by unfold maxLen; omega)).mono fun e w' hw => by rw [decide_eq_true h] at hw; exact hw
theorem isDigest_f (s : ByteArray) (w : World) (hs : s.size ≤ maxLen) (h : ¬ s.size = 32) : Calls Tryd.prog 49 #[.string s] w fun e w' => e = .returned (.bool false) ∧ w = w' :=
  (isDigest_any s w hs).mono fun e w' hw => by rw [decide_eq_false h] at hw; exact hw

set_option maxRecDepth 100000 in
set_option maxHeartbeats 1000000 in
theorem hhvalid_any' (p : Int) (c s : ByteArray) (w : World) (hc : c.size ≤ maxLen) (hs : s.size ≤ maxLen) :
    Calls Tryd.prog 33 #[headV ⟨p, c, s⟩] w fun e w' => e = .returned (.bool (hok ⟨p, c, s⟩)) ∧ Below w.heap.size w w' := by
  unfold headV
  by_cases h0 : 0 ≤ p
  · by_cases h1 : p ≤ 10000
    · by_cases h2 : c.size = 32
      · by_cases h3 : s.size = 32
        · have e : Hid (hok ⟨p, c, s⟩ = true) := Lib.hid (decide_eq_true ⟨⟨h0, h1⟩, h2, h3⟩)
          rw [e.out]
          have H2 := Lib.hid h2
          have H3 := Lib.hid h3
          have d0 : decide (0 ≤ p) = true := decide_eq_true h0
          have d1 : decide (p ≤ 10000) = true := decide_eq_true h1
          clear h2 h3 hc hs
          go_enter Tryd.func33, Tryd.ntmps33
          go_wp2_with (first | (go_at_call_of 49 (Value.string c); (with_reducible refine (isDigest_t c _ H2.out).mono ?_); rintro e w' ⟨rfl, rfl⟩) | (go_at_call_of 49 (Value.string s); (with_reducible refine (isDigest_t s _ H3.out).mono ?_); rintro e w' ⟨rfl, rfl⟩))
          go_ret
          exact ⟨rfl, (Below.refl _ _).alloc (Nat.le_refl _) _⟩
        · have e : Hid (hok ⟨p, c, s⟩ = false) := Lib.hid (decide_eq_false fun h => h3 h.2.2)
          rw [e.out]
          have H2 := Lib.hid h2
          have H3 := Lib.hid h3
          have Hs := Lib.hid hs
          have d0 : decide (0 ≤ p) = true := decide_eq_true h0
          have d1 : decide (p ≤ 10000) = true := decide_eq_true h1
          clear h2 h3 hc hs
          go_enter Tryd.func33, Tryd.ntmps33
          go_wp2_with (first | (go_at_call_of 49 (Value.string c); (with_reducible refine (isDigest_t c _ H2.out).mono ?_); rintro e w' ⟨rfl, rfl⟩) | (go_at_call_of 49 (Value.string s); (with_reducible refine (isDigest_f s _ Hs.out H3.out).mono ?_); rintro e w' ⟨rfl, rfl⟩))
          go_ret
          exact ⟨rfl, (Below.refl _ _).alloc (Nat.le_refl _) _⟩
      · have e : Hid (hok ⟨p, c, s⟩ = false) := Lib.hid (decide_eq_false fun h => h2 h.2.1)
        rw [e.out]
        have H2 := Lib.hid h2
        have Hc := Lib.hid hc
        have d0 : decide (0 ≤ p) = true := decide_eq_true h0
        have d1 : decide (p ≤ 10000) = true := decide_eq_true h1
        clear h2 hc hs
        go_enter Tryd.func33, Tryd.ntmps33
        go_wp2_with (go_at_call 49; (with_reducible refine (isDigest_f c _ Hc.out H2.out).mono ?_); rintro e w' ⟨rfl, rfl⟩)
        go_ret
        exact ⟨rfl, (Below.refl _ _).alloc (Nat.le_refl _) _⟩
    · have e : Hid (hok ⟨p, c, s⟩ = false) := Lib.hid (decide_eq_false fun h => h1 h.1.2)
      rw [e.out]
      have d0 : decide (0 ≤ p) = true := decide_eq_true h0
      have d1 : decide (p ≤ 10000) = false := decide_eq_false h1
      clear hc hs h0 h1
      go_enter Tryd.func33, Tryd.ntmps33
      go_wp2_with fail
      go_ret
      exact ⟨rfl, (Below.refl _ _).alloc (Nat.le_refl _) _⟩
  · have e : Hid (hok ⟨p, c, s⟩ = false) := Lib.hid (decide_eq_false fun h => h0 h.1.1)
    rw [e.out]
    have d0 : decide (0 ≤ p) = false := decide_eq_false h0
    clear hc hs h0
    go_enter Tryd.func33, Tryd.ntmps33
    go_wp2_with fail
    go_ret
    exact ⟨rfl, (Below.refl _ _).alloc (Nat.le_refl _) _⟩
theorem hvalid_any (h : MHead) (w : World) (hc : h.c.size ≤ maxLen) (hs : h.s.size ≤ maxLen) :
    Calls Tryd.prog 33 #[headV h] w fun e w' => e = .returned (.bool (hok h)) ∧ Below w.heap.size w w' := hhvalid_any' h.p h.c h.s w hc hs
theorem hvalid_t (h : MHead) (w : World) (k : Hok h) : Calls Tryd.prog 33 #[headV h] w fun e w' => e = .returned (.bool true) ∧ Below w.heap.size w w' :=
  (hvalid_any h w (by unfold maxLen; have := k.2.1; omega) (by unfold maxLen; have := k.2.2; omega)).mono fun e w' hw => by rw [hok, decide_eq_true k] at hw; exact hw
theorem hvalid_f (h : MHead) (w : World) (hc : h.c.size ≤ maxLen) (hs : h.s.size ≤ maxLen) (k : ¬ Hok h) : Calls Tryd.prog 33 #[headV h] w fun e w' => e = .returned (.bool false) ∧ Below w.heap.size w w' :=
  (hvalid_any h w hc hs).mono fun e w' hw => by rw [hok, decide_eq_false k] at hw; exact hw

set_option maxRecDepth 100000 in
set_option maxHeartbeats 1000000 in
theorem encode_c' (p : Int) (c s : ByteArray) (w : World) (k : Hok ⟨p, c, s⟩) :
    Calls Tryd.prog 34 #[headV ⟨p, c, s⟩] w fun e w' => e = .returned (.string (encH ⟨p, c, s⟩)) ∧ Below w.heap.size w w' := by
  unfold headV
  have h0 : -4611686018427387903 ≤ p := by have := k.1.1; simp only at this; omega
  have h1 : p ≤ 4611686018427387903 := by have := k.1.2; simp only at this; omega
  have k1 : (encI p).size ≤ 9 := by have := (encI_small k.1.1 k.1.2).2; exact this
  have k2 : c.size ≤ 32 := by have := k.2.1; simp only at this; omega
  have k3 : s.size ≤ 32 := by have := k.2.2; simp only at this; omega
  have k4 : (encI p ++ c).size ≤ 41 := by rw [ByteArray.size_append]; omega
  have hb0 : Below w.heap.size w (w.alloc (.cells #[.int .i64 p, .string c, .string s] 23)) := (Below.refl _ _).alloc (Nat.le_refl _) _
  have HB0 := Lib.hid hb0
  clear k hb0
  go_enter Tryd.func34, Tryd.ntmps34
  go_wp2_with fail
  (with_reducible refine (putInt_enc p _ h0 h1).mono ?_)
  rintro e w1 ⟨rfl, hb1⟩
  have HB1 := Lib.hid (bt HB0.out hb1)
  obtain ⟨hcl, hfr⟩ := bcell hb1
  have c1 : w1.cell? ⟨w.heap.size, 1, none⟩ = some (.string c) := by rw [hcl _ _ (by simp)]; simp [go_sem]
  have c2 : w1.cell? ⟨w.heap.size, 2, none⟩ = some (.string s) := by rw [hcl _ _ (by simp)]; simp [go_sem]
  clear hcl hfr hb1
  go_wp2_with fail
  go_ret
  exact ⟨rfl, HB1.out⟩
theorem encode_c (h : MHead) (w : World) (k : Hok h) : Calls Tryd.prog 34 #[headV h] w fun e w' => e = .returned (.string (encH h)) ∧ Below w.heap.size w w' := encode_c' h.p h.c h.s w k

/-- What Encode returns. -/
def encOutH (h : MHead) : Value := if Hok h then .tuple #[.string (encH h), .int .i64 0] else .tuple #[.string ⟨#[]⟩, .int .i64 90]
set_option maxRecDepth 100000 in
set_option maxHeartbeats 1000000 in
theorem encodeH_any' (p : Int) (c s : ByteArray) (w : World) (hc : c.size ≤ maxLen) (hs : s.size ≤ maxLen) :
    Calls Tryd.prog 8 #[headV ⟨p, c, s⟩] w fun e w' => e = .returned (encOutH ⟨p, c, s⟩) ∧ Below w.heap.size w w' := by
  unfold headV
  have hb0 : Below w.heap.size w (w.alloc (.cells #[.int .i64 p, .string c, .string s] 23)) := (Below.refl _ _).alloc (Nat.le_refl _) _
  have HB0 := Lib.hid hb0
  clear hb0
  by_cases hk : Hok ⟨p, c, s⟩
  · have HO : Hid (encOutH ⟨p, c, s⟩ = .tuple #[.string (encH ⟨p, c, s⟩), .int .i64 0]) := Lib.hid (if_pos hk)
    rw [HO.out]
    have HK := Lib.hid hk
    clear hk hc hs HO
    go_enter Tryd.func8, Tryd.ntmps8
    go_wp2_with fail
    (with_reducible refine (hvalid_t ⟨p, c, s⟩ _ HK.out).mono ?_)
    rintro e w1 ⟨rfl, hb1⟩
    have HB1 := Lib.hid (bt HB0.out hb1)
    obtain ⟨hcl, hfr⟩ := bcell hb1
    have c0 : w1.cell? ⟨w.heap.size, 0, none⟩ = some (.int .i64 p) := by rw [hcl _ _ (by simp)]; simp [go_sem]
    have c1 : w1.cell? ⟨w.heap.size, 1, none⟩ = some (.string c) := by rw [hcl _ _ (by simp)]; simp [go_sem]
    have c2 : w1.cell? ⟨w.heap.size, 2, none⟩ = some (.string s) := by rw [hcl _ _ (by simp)]; simp [go_sem]
    clear hcl hfr hb1
    go_wp2_with fail
    (with_reducible refine (encode_c ⟨p, c, s⟩ _ HK.out).mono ?_)
    rintro e w2 ⟨rfl, hb2⟩
    have HB2 := Lib.hid (bt HB1.out hb2)
    clear hb2 c0 c1 c2
    go_wp2_with fail
    go_ret2
    exact ⟨rfl, HB2.out⟩
  · have HO : Hid (encOutH ⟨p, c, s⟩ = .tuple #[.string ⟨#[]⟩, .int .i64 90]) := Lib.hid (if_neg hk)
    rw [HO.out]
    have HK := Lib.hid hk
    have Hc := Lib.hid hc
    have Hs := Lib.hid hs
    clear hk hc hs HO
    go_enter Tryd.func8, Tryd.ntmps8
    go_wp2_with fail
    (with_reducible refine (hvalid_f ⟨p, c, s⟩ _ Hc.out Hs.out HK.out).mono ?_)
    rintro e w1 ⟨rfl, hb1⟩
    have HB1 := Lib.hid (bt HB0.out hb1)
    clear hb1
    go_wp2_with fail
    go_ret2
    exact ⟨rfl, HB1.out⟩
theorem encodeH_any (h : MHead) (w : World) (hc : h.c.size ≤ maxLen) (hs : h.s.size ≤ maxLen) :
    Calls Tryd.prog 8 #[headV h] w fun e w' => e = .returned (encOutH h) ∧ Below w.heap.size w w' := encodeH_any' h.p h.c h.s w hc hs
end Go.Proofs.YtpapfegbodolgaaDoor
