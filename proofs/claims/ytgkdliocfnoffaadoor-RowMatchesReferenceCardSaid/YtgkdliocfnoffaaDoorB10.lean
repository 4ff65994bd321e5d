/- WALKS: RowMatchesReference. -/
import Derived.Test.YtgkdliocfnoffaaDoorF3
import Derived.Test.YtgkdliocfnoffaaDoorB3
import Derived.Test.YtgkdliocfnoffaaDoorWPick
import Derived.Deep.Cut
set_option linter.unusedVariables false
set_option linter.unusedSimpArgs false
namespace Go.Proofs.YtgkdliocfnoffaaDoor
open Go.RowKit Go.Sort

theorem enc_both (t k a b c : Int) : ∃ (S : ByteArray) (x : Int), (∀ w, Calls Tryd.prog 13 #[rowV ⟨t, k, ⟨a, b, c⟩⟩] w fun e w' => e = .returned (.tuple #[.string S, .int .i64 x]) ∧ Below w.heap.size w w') ∧ (∀ w, Calls Tryd.prog 14 #[rowV ⟨t, k, ⟨a, b, c⟩⟩] w fun e w' => e = .returned (.tuple #[.string S, .int .i64 x]) ∧ Below w.heap.size w w') := by
  by_cases h : VRow ⟨t, k, ⟨a, b, c⟩⟩
  · exact ⟨_, _, fun w => encodeRow_ok t k a b c w h, fun w => refEncode_ok t k a b c w h⟩
  · exact ⟨_, _, fun w => encodeRow_bad t k a b c w h, fun w => refEncode_bad t k a b c w h⟩
theorem dec_both (s : ByteArray) (hs : s.size ≤ maxLen) : ∃ (t k a b c x : Int), (∀ w, Errs w → Calls Tryd.prog 15 #[.string s] w fun e w' => e = .returned (.tuple #[rowV ⟨t, k, ⟨a, b, c⟩⟩, .int .i64 x]) ∧ Below w.heap.size w w') ∧ (∀ w, Calls Tryd.prog 16 #[.string s] w fun e w' => e = .returned (.tuple #[rowV ⟨t, k, ⟨a, b, c⟩⟩, .int .i64 x]) ∧ Below w.heap.size w w') :=
  ⟨_, _, _, _, _, _, fun w hE => decode_e s w hs hE, fun w => refDecode_any s w hs⟩
theorem valid_both (t k a b c : Int) : ∃ v, (∀ w, Calls Tryd.prog 17 #[rowV ⟨t, k, ⟨a, b, c⟩⟩] w fun e w' => e = .returned (.bool v) ∧ Below w.heap.size w w') ∧ (∀ w, Calls Tryd.prog 18 #[rowV ⟨t, k, ⟨a, b, c⟩⟩] w fun e w' => e = .returned (.bool v) ∧ Below w.heap.size w w') :=
  ⟨_, fun w => valid_any t k a b c w, fun w => refValid_any t k a b c w⟩
theorem value_both (t k a b c col : Int) (h1 : -9223372036854775808 ≤ col) (h2 : col ≤ 9223372036854775807) : ∃ x, (∀ w, Calls Tryd.prog 19 #[rowV ⟨t, k, ⟨a, b, c⟩⟩, .int .i64 col] w fun e w' => e = .returned (.int .i64 x) ∧ Below w.heap.size w w') ∧ (∀ w, Calls Tryd.prog 20 #[rowV ⟨t, k, ⟨a, b, c⟩⟩, .int .i64 col] w fun e w' => e = .returned (.int .i64 x) ∧ Below w.heap.size w w') :=
  ⟨_, fun w => value_any t k a b c col w h1 h2, fun w => refValue_any t k a b c col w h1 h2⟩
theorem pick4 (col : Int) (h1 : -9223372036854775808 ≤ col) (h2 : col ≤ 9223372036854775807) : ∃ p, (-9223372036854775808 ≤ p ∧ p ≤ 9223372036854775807) ∧ ∀ w, Calls Tryd.prog 21 #[.int .i64 col, .int .i64 4] w fun e w' => e = .returned (.int .i64 p) ∧ Below w.heap.size w w' :=
  ⟨pk col 4, by unfold pk; split <;> omega, fun w => (pick_any col 4 w h1 h2 (by decide) (by decide)).mono fun e w' hw => ⟨hw.1, by rw [hw.2]; exact Below.refl _ _⟩⟩
theorem cutN_size (s : ByteArray) (k : Nat) : (s.extract 0 k).size ≤ k := by simp; omega

set_option maxRecDepth 100000 in
set_option maxHeartbeats 4000000 in
theorem matchRow_walk (t k a b c col : Int) (s : ByteArray) (hc1 : -9223372036854775808 ≤ col) (hc2 : col ≤ 9223372036854775807) (W : World) (hE : Errs W) :
    Calls Tryd.prog 3 #[rowV ⟨t, k, ⟨a, b, c⟩⟩, .int .i64 col, .string s] W fun e w' => e = .returned (.bool true) ∧ Below W.heap.size W w' := by
  have HG : Hid (∀ w', Below W.heap.size W w' → Errs w') := Lib.hid (fun w' h => hE.below h)
  obtain ⟨m, hmm⟩ : ∃ m, s.extract 0 (min (s.size : Int) 100).toNat = m := ⟨_, rfl⟩
  have HMS : Hid (m.size ≤ maxLen) := Lib.hid (by
    rw [← hmm]
    have := cutN_size s (min (s.size : Int) 100).toNat
    unfold maxLen
    omega)
  obtain ⟨S, x1, he1, he2⟩ := enc_both t k a b c
  obtain ⟨dt, dk, da, db, dc, x2, hd1, hd2⟩ := dec_both m HMS.out
  obtain ⟨v, hv1, hv2⟩ := valid_both t k a b c
  obtain ⟨y1, hy1, hy2⟩ := value_both t k a b c col hc1 hc2
  obtain ⟨p, hp, hpk⟩ := pick4 col hc1 hc2
  obtain ⟨y2, hz1, hz2⟩ := value_both t k a b c p hp.1 hp.2
  have HE1 := Lib.hid he1
  have HE2 := Lib.hid he2
  have HD1 := Lib.hid hd1
  have HD2 := Lib.hid hd2
  have HV1 := Lib.hid hv1
  have HV2 := Lib.hid hv2
  have HY1 := Lib.hid hy1
  have HY2 := Lib.hid hy2
  have HPK := Lib.hid hpk
  have HZ1 := Lib.hid hz1
  have HZ2 := Lib.hid hz2
  clear hE he1 he2 hd1 hd2 hv1 hv2 hy1 hy2 hp hpk hz1 hz2 hc1 hc2
  go_enter Tryd.func3, Tryd.ntmps3
  have HA0 := Lib.hid (RwAt.new W ⟨t, k, ⟨a, b, c⟩⟩)
  go_wp2_with fail
  (with_reducible refine (sane_any _ (HG.out _ (ba _ _))).mono ?_)
  rintro e w1 ⟨rfl, hb1⟩
  have HB1 := Lib.hid (bt (ba W (.cells #[.int .i64 t, .int .i64 k, .int .i64 a, .int .i64 b, .int .i64 c] 24)) hb1)
  have HA1 := Lib.hid (HA0.out.below hb1)
  clear hb1 HA0
  obtain ⟨a0, a1, a2, a3, a4⟩ := HA1.out
  go_wp2_with fail
  (with_reducible refine (HE1.out _).mono ?_)
  rintro e w2 ⟨rfl, hb2⟩
  have HB2 := Lib.hid (bt HB1.out hb2)
  have HA2 := Lib.hid (HA1.out.below hb2)
  clear hb2 HA1 HB1 a0 a1 a2 a3 a4
  obtain ⟨a0, a1, a2, a3, a4⟩ := HA2.out
  go_wp2_with fail
  (with_reducible refine (HE2.out _).mono ?_)
  rintro e w3 ⟨rfl, hb3⟩
  have HB3 := Lib.hid (bt HB2.out hb3)
  have HA3 := Lib.hid (HA2.out.below hb3)
  clear hb3 HA2 HB2 a0 a1 a2 a3 a4
  go_wp2_with fail
  (with_reducible refine (HD1.out _ (HG.out _ HB3.out)).mono ?_)
  rintro e w4 ⟨rfl, hb4⟩
  have hk4 := bt hb4 (ba w4 (.cells #[.int .i64 dt, .int .i64 dk, .int .i64 da, .int .i64 db, .int .i64 dc] 24))
  have HB4 := Lib.hid (bt HB3.out hk4)
  have HA4 := Lib.hid (HA3.out.below hk4)
  have HC4 := Lib.hid (RwAt.new w4 ⟨dt, dk, ⟨da, db, dc⟩⟩)
  clear hb4 hk4 HA3 HB3
  go_wp2_with fail
  (with_reducible refine (HD2.out _).mono ?_)
  rintro e w5 ⟨rfl, hb5⟩
  have hk5 := bt hb5 (ba w5 (.cells #[.int .i64 dt, .int .i64 dk, .int .i64 da, .int .i64 db, .int .i64 dc] 24))
  have HB5 := Lib.hid (bt HB4.out hk5)
  have HA5 := HA4.out.below hk5
  have HC5 := HC4.out.below hk5
  have HD5 := RwAt.new w5 ⟨dt, dk, ⟨da, db, dc⟩⟩
  clear hb5 hk5 HA4 HB4 HC4
  go_upto_region 7 with fail
  generalize hw6 : w5.alloc (.cells #[.int .i64 dt, .int .i64 dk, .int .i64 da, .int .i64 db, .int .i64 dc] 24) = w6 at HA5 HB5 HC5 HD5 ⊢
  clear hw6
  as_aux_lemma =>
    have aa0 := fun d os => cell_regrown HA5.c0 d os
    have aa1 := fun d os => cell_regrown HA5.c1 d os
    have aa2 := fun d os => cell_regrown HA5.c2 d os
    have aa3 := fun d os => cell_regrown HA5.c3 d os
    have aa4 := fun d os => cell_regrown HA5.c4 d os
    have cc0 := fun d os => cell_regrown HC5.c0 d os
    have cc1 := fun d os => cell_regrown HC5.c1 d os
    have cc2 := fun d os => cell_regrown HC5.c2 d os
    have cc3 := fun d os => cell_regrown HC5.c3 d os
    have cc4 := fun d os => cell_regrown HC5.c4 d os
    have dd0 := fun d os => cell_regrown HD5.c0 d os
    have dd1 := fun d os => cell_regrown HD5.c1 d os
    have dd2 := fun d os => cell_regrown HD5.c2 d os
    have dd3 := fun d os => cell_regrown HD5.c3 d os
    have dd4 := fun d os => cell_regrown HD5.c4 d os
    clear HA5 HC5 HD5
    have hv1 : ∀ d os, Calls Tryd.prog 17 #[rowV ⟨t, k, ⟨a, b, c⟩⟩] (grow (redrawn w6 d) os) fun e w'' => e = .returned (.bool v) ∧ ∃ p : Regrown, w'' = grow (redrawn w6 p.d) p.os := fun d os => Calls.regrown_of (HV1.out _)
    have hv2 : ∀ d os, Calls Tryd.prog 18 #[rowV ⟨t, k, ⟨a, b, c⟩⟩] (grow (redrawn w6 d) os) fun e w'' => e = .returned (.bool v) ∧ ∃ p : Regrown, w'' = grow (redrawn w6 p.d) p.os := fun d os => Calls.regrown_of (HV2.out _)
    have hy1 : ∀ d os, Calls Tryd.prog 19 #[rowV ⟨t, k, ⟨a, b, c⟩⟩, .int .i64 col] (grow (redrawn w6 d) os) fun e w'' => e = .returned (.int .i64 y1) ∧ ∃ p : Regrown, w'' = grow (redrawn w6 p.d) p.os := fun d os => Calls.regrown_of (HY1.out _)
    have hy2 : ∀ d os, Calls Tryd.prog 20 #[rowV ⟨t, k, ⟨a, b, c⟩⟩, .int .i64 col] (grow (redrawn w6 d) os) fun e w'' => e = .returned (.int .i64 y1) ∧ ∃ p : Regrown, w'' = grow (redrawn w6 p.d) p.os := fun d os => Calls.regrown_of (HY2.out _)
    have hpk : ∀ d os, Calls Tryd.prog 21 #[.int .i64 col, .int .i64 4] (grow (redrawn w6 d) os) fun e w'' => e = .returned (.int .i64 p) ∧ ∃ p : Regrown, w'' = grow (redrawn w6 p.d) p.os := fun d os => Calls.regrown_of (HPK.out _)
    have hz1 : ∀ d os, Calls Tryd.prog 19 #[rowV ⟨t, k, ⟨a, b, c⟩⟩, .int .i64 p] (grow (redrawn w6 d) os) fun e w'' => e = .returned (.int .i64 y2) ∧ ∃ p : Regrown, w'' = grow (redrawn w6 p.d) p.os := fun d os => Calls.regrown_of (HZ1.out _)
    have hz2 : ∀ d os, Calls Tryd.prog 20 #[rowV ⟨t, k, ⟨a, b, c⟩⟩, .int .i64 p] (grow (redrawn w6 d) os) fun e w'' => e = .returned (.int .i64 y2) ∧ ∃ p : Regrown, w'' = grow (redrawn w6 p.d) p.os := fun d os => Calls.regrown_of (HZ2.out _)
    have hq := fun w => eqlRow dt dk da db dc dt dk da db dc w
    rw [show rowE ⟨dt, dk, ⟨da, db, dc⟩⟩ ⟨dt, dk, ⟨da, db, dc⟩⟩ = true by simp [rowE]] at hq
    have hvv : (v == v) = true := by simp
    have hyy : (y1 == y1) = true := by simp
    have hzz : (y2 == y2) = true := by simp
    have hxx : (x1 == x1) = true := by simp
    have hxx2 : (x2 == x2) = true := by simp
    have hss : (S.toList == S.toList) = true := by simp
    refine wp_region_quiet_below (by kernel_rfl) (by kernel_rfl) ?_
    repeat (first | go_big_quiet_step (first | with_reducible exact hv1 _ _ | with_reducible exact hv2 _ _ | with_reducible exact hy1 _ _ | with_reducible exact hy2 _ _ | with_reducible exact hpk _ _ | with_reducible exact hz1 _ _ | with_reducible exact hz2 _ _) | quiet_step (first | with_reducible exact hv1 _ _ | with_reducible exact hv2 _ _ | with_reducible exact hy1 _ _ | with_reducible exact hy2 _ _ | with_reducible exact hpk _ _ | with_reducible exact hz1 _ _ | with_reducible exact hz2 _ _))
    refine wpQuiet_nil ?_
    intro _ hw'
    obtain ⟨⟨dq, osq⟩, hw''⟩ := hw'
    subst hw''
    have HB8 := Lib.hid (bt HB5.out (below_regrown w6 dq osq))
    clear hq
    go_wp2_with fail
    go_ret
    exact ⟨rfl, HB8.out⟩
end Go.Proofs.YtgkdliocfnoffaaDoor
