/- WALKS: RowRoundTrip. -/
import Derived.Test.YtgkdliocfnoffaaDoorP1
import Derived.Test.YtgkdliocfnoffaaDoorS2
set_option linter.unusedVariables false
namespace Go.Proofs.YtgkdliocfnoffaaDoor
open Go.RowKit Go.Sort

theorem enc_ok (r : MRow) (W : World) (h : VRow r) : Calls Tryd.prog 13 #[rowV r] W fun e w' => e = .returned (.tuple #[.string (encRowS r), .int .i64 0]) ∧ Below W.heap.size W w' := encodeRow_ok r.t r.k r.v.a r.v.b r.v.c W h
theorem enc_bad (r : MRow) (W : World) (h : ¬ VRow r) : Calls Tryd.prog 13 #[rowV r] W fun e w' => e = .returned (.tuple #[.string ⟨#[]⟩, .int .i64 30]) ∧ Below W.heap.size W w' := encodeRow_bad r.t r.k r.v.a r.v.b r.v.c W h
theorem enc_some (r : MRow) (W : World) : Calls Tryd.prog 13 #[rowV r] W fun e w' => ∃ s c, e = .returned (.tuple #[.string s, .int .i64 c]) ∧ Below W.heap.size W w' := by
  by_cases h : VRow r
  · exact (enc_ok r W h).mono fun e w' hw => ⟨_, _, hw⟩
  · exact (enc_bad r W h).mono fun e w' hw => ⟨_, _, hw⟩
theorem dec_to {s : ByteArray} (W : World) {r : MRow} {c : Int} (hd : decRow s = (r, c)) (hs : s.size ≤ maxLen) (hE : Errs W) : Calls Tryd.prog 15 #[.string s] W fun e w' => e = .returned (.tuple #[rowV r, .int .i64 c]) ∧ Below W.heap.size W w' := by
  have := decode_e s W hs hE
  rw [decRowV, hd] at this
  exact this
theorem encRowS_le (r : MRow) : (encRowS r).size ≤ maxLen := by
  have := encStr_size (tokRow r)
  rw [show (tokRow r).length = 5 from rfl] at this
  rw [encRowS]; unfold maxLen; omega

/-- The two rows of a law, as they lie. -/
structure Two (W : World) (a b : MRow) (w : World) : Prop where
  r1 : RwAt w W.heap.size a
  r2 : RwAt w (W.heap.size + 1) b
  b : Below W.heap.size W w
theorem Two.next {W : World} {a b : MRow} {w w' : World} (h : Two W a b w) (k : Below w.heap.size w w') : Two W a b w' := ⟨h.r1.below k, h.r2.below k, bt h.b k⟩
theorem two_new (W : World) (a b : MRow) : Two W a b ((W.alloc (.cells #[.int .i64 a.t, .int .i64 a.k, .int .i64 a.v.a, .int .i64 a.v.b, .int .i64 a.v.c] 24)).alloc (.cells #[.int .i64 b.t, .int .i64 b.k, .int .i64 b.v.a, .int .i64 b.v.b, .int .i64 b.v.c] 24)) :=
  ⟨(RwAt.new W a).below (ba _ _), by have := RwAt.new (W.alloc (.cells #[.int .i64 a.t, .int .i64 a.k, .int .i64 a.v.a, .int .i64 a.v.b, .int .i64 a.v.c] 24)) b; simp only [World.size_alloc] at this; exact this, bt (ba _ _) (ba _ _)⟩

set_option maxRecDepth 100000 in
set_option maxHeartbeats 4000000 in
theorem roundTrip_A (at' ak aa ab ac bt' bk ba' bb bc : Int) (W : World) (hE : Errs W) (ha : ¬ VRow ⟨at', ak, ⟨aa, ab, ac⟩⟩) : Calls Tryd.prog 5 #[rowV ⟨at', ak, ⟨aa, ab, ac⟩⟩, rowV ⟨bt', bk, ⟨ba', bb, bc⟩⟩] W fun e w' => e = .returned (.bool true) ∧ Below W.heap.size W w' := by
  have HA := Lib.hid ha
  clear ha
  have HG : Hid (∀ w', Below W.heap.size W w' → Errs w') := Lib.hid (fun w' h => hE.below h)
  clear hE
  go_enter Tryd.func5, Tryd.ntmps5
  have HT0 := Lib.hid (two_new W ⟨at', ak, ⟨aa, ab, ac⟩⟩ ⟨bt', bk, ⟨ba', bb, bc⟩⟩)
  go_wp2_with fail
  (with_reducible refine (sane_any _ (HG.out _ HT0.out.b)).mono ?_)
  rintro e w1 ⟨rfl, hb1⟩
  have HT1 := Lib.hid (HT0.out.next hb1)
  clear hb1 HT0
  obtain ⟨d0, d1, d2, d3, d4⟩ := HT1.out.r1
  obtain ⟨e0, e1, e2, e3, e4⟩ := HT1.out.r2
  go_wp2_with fail
  (with_reducible refine (enc_bad ⟨at', ak, ⟨aa, ab, ac⟩⟩ _ HA.out).mono ?_)
  rintro e w2 ⟨rfl, hb2⟩
  have HT2 := Lib.hid (HT1.out.next hb2)
  clear hb2 HT1
  clear d0 d1 d2 d3 d4 e0 e1 e2 e3 e4
  obtain ⟨d0, d1, d2, d3, d4⟩ := HT2.out.r1
  obtain ⟨e0, e1, e2, e3, e4⟩ := HT2.out.r2
  go_wp2_with fail
  (with_reducible refine (enc_some ⟨bt', bk, ⟨ba', bb, bc⟩⟩ _).mono ?_)
  rintro e w3 ⟨t, f, rfl, hb3⟩
  have HT3 := Lib.hid (HT2.out.next hb3)
  clear hb3 HT2
  clear d0 d1 d2 d3 d4 e0 e1 e2 e3 e4
  obtain ⟨d0, d1, d2, d3, d4⟩ := HT3.out.r1
  obtain ⟨e0, e1, e2, e3, e4⟩ := HT3.out.r2
  go_wp2_with fail
  (with_reducible refine (valid_f ⟨at', ak, ⟨aa, ab, ac⟩⟩ _ HA.out).mono ?_)
  rintro e w4 ⟨rfl, hb4⟩
  have HT4 := Lib.hid (HT3.out.next hb4)
  clear hb4 HT3
  clear d0 d1 d2 d3 d4 e0 e1 e2 e3 e4
  go_wp2_with fail
  go_ret
  exact ⟨rfl, HT4.out.b⟩

set_option maxRecDepth 100000 in
set_option maxHeartbeats 4000000 in
theorem roundTrip_B1 (at' ak aa ab ac bt' bk ba' bb bc : Int) (W : World) (hE : Errs W) (ha : VRow ⟨at', ak, ⟨aa, ab, ac⟩⟩) (hab : (⟨at', ak, ⟨aa, ab, ac⟩⟩ : MRow) = ⟨bt', bk, ⟨ba', bb, bc⟩⟩) : Calls Tryd.prog 5 #[rowV ⟨at', ak, ⟨aa, ab, ac⟩⟩, rowV ⟨bt', bk, ⟨ba', bb, bc⟩⟩] W fun e w' => e = .returned (.bool true) ∧ Below W.heap.size W w' := by
  obtain ⟨rfl, rfl, rfl, rfl, rfl⟩ : at' = bt' ∧ ak = bk ∧ aa = ba' ∧ ab = bb ∧ ac = bc := by simpa using hab
  have HA := Lib.hid ha
  clear ha hab
  have HG : Hid (∀ w', Below W.heap.size W w' → Errs w') := Lib.hid (fun w' h => hE.below h)
  clear hE
  go_enter Tryd.func5, Tryd.ntmps5
  have HT0 := Lib.hid (two_new W ⟨at', ak, ⟨aa, ab, ac⟩⟩ ⟨at', ak, ⟨aa, ab, ac⟩⟩)
  go_wp2_with fail
  (with_reducible refine (sane_any _ (HG.out _ HT0.out.b)).mono ?_)
  rintro e w1 ⟨rfl, hb1⟩
  have HT1 := Lib.hid (HT0.out.next hb1)
  clear hb1 HT0
  obtain ⟨d0, d1, d2, d3, d4⟩ := HT1.out.r1
  obtain ⟨e0, e1, e2, e3, e4⟩ := HT1.out.r2
  go_wp2_with fail
  (with_reducible refine (enc_ok ⟨at', ak, ⟨aa, ab, ac⟩⟩ _ HA.out).mono ?_)
  rintro e w2 ⟨rfl, hb2⟩
  have HT2 := Lib.hid (HT1.out.next hb2)
  clear hb2 HT1
  clear d0 d1 d2 d3 d4 e0 e1 e2 e3 e4
  obtain ⟨d0, d1, d2, d3, d4⟩ := HT2.out.r1
  obtain ⟨e0, e1, e2, e3, e4⟩ := HT2.out.r2
  go_wp2_with fail
  (with_reducible refine (enc_ok ⟨at', ak, ⟨aa, ab, ac⟩⟩ _ HA.out).mono ?_)
  rintro e w3 ⟨rfl, hb3⟩
  have HT3 := Lib.hid (HT2.out.next hb3)
  clear hb3 HT2
  clear d0 d1 d2 d3 d4 e0 e1 e2 e3 e4
  obtain ⟨d0, d1, d2, d3, d4⟩ := HT3.out.r1
  obtain ⟨e0, e1, e2, e3, e4⟩ := HT3.out.r2
  go_wp2_with fail
  (with_reducible refine (valid_t ⟨at', ak, ⟨aa, ab, ac⟩⟩ _ HA.out).mono ?_)
  rintro e w4 ⟨rfl, hb4⟩
  have HT4 := Lib.hid (HT3.out.next hb4)
  clear hb4 HT3
  clear d0 d1 d2 d3 d4 e0 e1 e2 e3 e4
  go_wp2_with fail
  (with_reducible refine (dec_to _ (decRow_enc HA.out) (encRowS_le ⟨at', ak, ⟨aa, ab, ac⟩⟩) (HG.out _ HT4.out.b)).mono ?_)
  rintro e w5 ⟨rfl, hb5⟩
  have hk5 := bt hb5 (ba w5 (.cells #[.int .i64 at', .int .i64 ak, .int .i64 aa, .int .i64 ab, .int .i64 ac] 24))
  have HT5 := Lib.hid (HT4.out.next hk5)
  obtain ⟨f0, f1, f2, f3, f4⟩ := RwAt.new w5 ⟨at', ak, ⟨aa, ab, ac⟩⟩
  clear hb5 hk5 HT4
  have hq := fun w => eqlRow at' ak aa ab ac at' ak aa ab ac w
  rw [show rowE ⟨at', ak, ⟨aa, ab, ac⟩⟩ ⟨at', ak, ⟨aa, ab, ac⟩⟩ = true by simp [rowE]] at hq
  obtain ⟨d0, d1, d2, d3, d4⟩ := HT5.out.r1
  obtain ⟨e0, e1, e2, e3, e4⟩ := HT5.out.r2
  go_wp2_with fail
  go_ret
  exact ⟨rfl, HT5.out.b⟩

set_option maxRecDepth 100000 in
set_option maxHeartbeats 4000000 in
theorem roundTrip_B2 (at' ak aa ab ac bt' bk ba' bb bc : Int) (W : World) (hE : Errs W) (ha : VRow ⟨at', ak, ⟨aa, ab, ac⟩⟩) (hb : VRow ⟨bt', bk, ⟨ba', bb, bc⟩⟩) (hab : ¬ (⟨at', ak, ⟨aa, ab, ac⟩⟩ : MRow) = ⟨bt', bk, ⟨ba', bb, bc⟩⟩) : Calls Tryd.prog 5 #[rowV ⟨at', ak, ⟨aa, ab, ac⟩⟩, rowV ⟨bt', bk, ⟨ba', bb, bc⟩⟩] W fun e w' => e = .returned (.bool true) ∧ Below W.heap.size W w' := by
  have HA := Lib.hid ha
  have HB := Lib.hid hb
  have hs : ((encRowS ⟨at', ak, ⟨aa, ab, ac⟩⟩).toList == (encRowS ⟨bt', bk, ⟨ba', bb, bc⟩⟩).toList) = false := str_ne (fun h => hab (encRowS_inj ha hb h))
  have hqn := fun w => eqlRow at' ak aa ab ac bt' bk ba' bb bc w
  rw [show rowE ⟨at', ak, ⟨aa, ab, ac⟩⟩ ⟨bt', bk, ⟨ba', bb, bc⟩⟩ = false by simp only [rowE, hab, decide_false]] at hqn
  clear ha hb hab
  have HG : Hid (∀ w', Below W.heap.size W w' → Errs w') := Lib.hid (fun w' h => hE.below h)
  clear hE
  go_enter Tryd.func5, Tryd.ntmps5
  have HT0 := Lib.hid (two_new W ⟨at', ak, ⟨aa, ab, ac⟩⟩ ⟨bt', bk, ⟨ba', bb, bc⟩⟩)
  go_wp2_with fail
  (with_reducible refine (sane_any _ (HG.out _ HT0.out.b)).mono ?_)
  rintro e w1 ⟨rfl, hb1⟩
  have HT1 := Lib.hid (HT0.out.next hb1)
  clear hb1 HT0
  obtain ⟨d0, d1, d2, d3, d4⟩ := HT1.out.r1
  obtain ⟨e0, e1, e2, e3, e4⟩ := HT1.out.r2
  go_wp2_with fail
  (with_reducible refine (enc_ok ⟨at', ak, ⟨aa, ab, ac⟩⟩ _ HA.out).mono ?_)
  rintro e w2 ⟨rfl, hb2⟩
  have HT2 := Lib.hid (HT1.out.next hb2)
  clear hb2 HT1
  clear d0 d1 d2 d3 d4 e0 e1 e2 e3 e4
  obtain ⟨d0, d1, d2, d3, d4⟩ := HT2.out.r1
  obtain ⟨e0, e1, e2, e3, e4⟩ := HT2.out.r2
  go_wp2_with fail
  (with_reducible refine (enc_ok ⟨bt', bk, ⟨ba', bb, bc⟩⟩ _ HB.out).mono ?_)
  rintro e w3 ⟨rfl, hb3⟩
  have HT3 := Lib.hid (HT2.out.next hb3)
  clear hb3 HT2
  clear d0 d1 d2 d3 d4 e0 e1 e2 e3 e4
  obtain ⟨d0, d1, d2, d3, d4⟩ := HT3.out.r1
  obtain ⟨e0, e1, e2, e3, e4⟩ := HT3.out.r2
  go_wp2_with fail
  (with_reducible refine (valid_t ⟨at', ak, ⟨aa, ab, ac⟩⟩ _ HA.out).mono ?_)
  rintro e w4 ⟨rfl, hb4⟩
  have HT4 := Lib.hid (HT3.out.next hb4)
  clear hb4 HT3
  clear d0 d1 d2 d3 d4 e0 e1 e2 e3 e4
  go_wp2_with fail
  (with_reducible refine (dec_to _ (decRow_enc HA.out) (encRowS_le ⟨at', ak, ⟨aa, ab, ac⟩⟩) (HG.out _ HT4.out.b)).mono ?_)
  rintro e w5 ⟨rfl, hb5⟩
  have hk5 := bt hb5 (ba w5 (.cells #[.int .i64 at', .int .i64 ak, .int .i64 aa, .int .i64 ab, .int .i64 ac] 24))
  have HT5 := Lib.hid (HT4.out.next hk5)
  obtain ⟨f0, f1, f2, f3, f4⟩ := RwAt.new w5 ⟨at', ak, ⟨aa, ab, ac⟩⟩
  clear hb5 hk5 HT4
  have hq := fun w => eqlRow at' ak aa ab ac at' ak aa ab ac w
  rw [show rowE ⟨at', ak, ⟨aa, ab, ac⟩⟩ ⟨at', ak, ⟨aa, ab, ac⟩⟩ = true by simp [rowE]] at hq
  obtain ⟨d0, d1, d2, d3, d4⟩ := HT5.out.r1
  obtain ⟨e0, e1, e2, e3, e4⟩ := HT5.out.r2
  go_wp2_with fail
  go_ret
  exact ⟨rfl, HT5.out.b⟩

set_option maxRecDepth 100000 in
set_option maxHeartbeats 4000000 in
theorem roundTrip_B3 (at' ak aa ab ac bt' bk ba' bb bc : Int) (W : World) (hE : Errs W) (ha : VRow ⟨at', ak, ⟨aa, ab, ac⟩⟩) (hb : ¬ VRow ⟨bt', bk, ⟨ba', bb, bc⟩⟩) : Calls Tryd.prog 5 #[rowV ⟨at', ak, ⟨aa, ab, ac⟩⟩, rowV ⟨bt', bk, ⟨ba', bb, bc⟩⟩] W fun e w' => e = .returned (.bool true) ∧ Below W.heap.size W w' := by
  have HA := Lib.hid ha
  have HB := Lib.hid hb
  clear ha hb
  have HG : Hid (∀ w', Below W.heap.size W w' → Errs w') := Lib.hid (fun w' h => hE.below h)
  clear hE
  go_enter Tryd.func5, Tryd.ntmps5
  have HT0 := Lib.hid (two_new W ⟨at', ak, ⟨aa, ab, ac⟩⟩ ⟨bt', bk, ⟨ba', bb, bc⟩⟩)
  go_wp2_with fail
  (with_reducible refine (sane_any _ (HG.out _ HT0.out.b)).mono ?_)
  rintro e w1 ⟨rfl, hb1⟩
  have HT1 := Lib.hid (HT0.out.next hb1)
  clear hb1 HT0
  obtain ⟨d0, d1, d2, d3, d4⟩ := HT1.out.r1
  obtain ⟨e0, e1, e2, e3, e4⟩ := HT1.out.r2
  go_wp2_with fail
  (with_reducible refine (enc_ok ⟨at', ak, ⟨aa, ab, ac⟩⟩ _ HA.out).mono ?_)
  rintro e w2 ⟨rfl, hb2⟩
  have HT2 := Lib.hid (HT1.out.next hb2)
  clear hb2 HT1
  clear d0 d1 d2 d3 d4 e0 e1 e2 e3 e4
  obtain ⟨d0, d1, d2, d3, d4⟩ := HT2.out.r1
  obtain ⟨e0, e1, e2, e3, e4⟩ := HT2.out.r2
  go_wp2_with fail
  (with_reducible refine (enc_bad ⟨bt', bk, ⟨ba', bb, bc⟩⟩ _ HB.out).mono ?_)
  rintro e w3 ⟨rfl, hb3⟩
  have HT3 := Lib.hid (HT2.out.next hb3)
  clear hb3 HT2
  clear d0 d1 d2 d3 d4 e0 e1 e2 e3 e4
  obtain ⟨d0, d1, d2, d3, d4⟩ := HT3.out.r1
  obtain ⟨e0, e1, e2, e3, e4⟩ := HT3.out.r2
  go_wp2_with fail
  (with_reducible refine (valid_t ⟨at', ak, ⟨aa, ab, ac⟩⟩ _ HA.out).mono ?_)
  rintro e w4 ⟨rfl, hb4⟩
  have HT4 := Lib.hid (HT3.out.next hb4)
  clear hb4 HT3
  clear d0 d1 d2 d3 d4 e0 e1 e2 e3 e4
  go_wp2_with fail
  (with_reducible refine (dec_to _ (decRow_enc HA.out) (encRowS_le ⟨at', ak, ⟨aa, ab, ac⟩⟩) (HG.out _ HT4.out.b)).mono ?_)
  rintro e w5 ⟨rfl, hb5⟩
  have hk5 := bt hb5 (ba w5 (.cells #[.int .i64 at', .int .i64 ak, .int .i64 aa, .int .i64 ab, .int .i64 ac] 24))
  have HT5 := Lib.hid (HT4.out.next hk5)
  obtain ⟨f0, f1, f2, f3, f4⟩ := RwAt.new w5 ⟨at', ak, ⟨aa, ab, ac⟩⟩
  clear hb5 hk5 HT4
  have hq := fun w => eqlRow at' ak aa ab ac at' ak aa ab ac w
  rw [show rowE ⟨at', ak, ⟨aa, ab, ac⟩⟩ ⟨at', ak, ⟨aa, ab, ac⟩⟩ = true by simp [rowE]] at hq
  obtain ⟨d0, d1, d2, d3, d4⟩ := HT5.out.r1
  obtain ⟨e0, e1, e2, e3, e4⟩ := HT5.out.r2
  go_wp2_with fail
  go_ret
  exact ⟨rfl, HT5.out.b⟩

theorem roundTrip_walk (a b : MRow) (W : World) (hE : Errs W) : Calls Tryd.prog 5 #[rowV a, rowV b] W fun e w' => e = .returned (.bool true) ∧ Below W.heap.size W w' := by
  obtain ⟨at', ak, ⟨aa, ab, ac⟩⟩ := a
  obtain ⟨bt', bk, ⟨ba', bb, bc⟩⟩ := b
  by_cases ha : VRow ⟨at', ak, ⟨aa, ab, ac⟩⟩
  · by_cases hab : (⟨at', ak, ⟨aa, ab, ac⟩⟩ : MRow) = ⟨bt', bk, ⟨ba', bb, bc⟩⟩
    · exact roundTrip_B1 _ _ _ _ _ _ _ _ _ _ W hE ha hab
    · by_cases hb : VRow ⟨bt', bk, ⟨ba', bb, bc⟩⟩
      · exact roundTrip_B2 _ _ _ _ _ _ _ _ _ _ W hE ha hb hab
      · exact roundTrip_B3 _ _ _ _ _ _ _ _ _ _ W hE ha hb
  · exact roundTrip_A _ _ _ _ _ _ _ _ _ _ W hE ha
end Go.Proofs.YtgkdliocfnoffaaDoor
