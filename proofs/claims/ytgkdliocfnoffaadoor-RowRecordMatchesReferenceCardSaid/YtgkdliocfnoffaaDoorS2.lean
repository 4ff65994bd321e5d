/- WALKS: sane of the laws. -/
import Derived.Test.YtgkdliocfnoffaaDoorS1
set_option linter.unusedVariables false
namespace Go.Proofs.YtgkdliocfnoffaaDoor
open Go.RowKit Go.Sort

/-- A row that lies in a block. -/
structure RwAt (W : World) (b : Nat) (r : MRow) : Prop where
  c0 : W.cell? ⟨b, 0, none⟩ = some (.int .i64 r.t)
  c1 : W.cell? ⟨b, 1, none⟩ = some (.int .i64 r.k)
  c2 : W.cell? ⟨b, 2, none⟩ = some (.int .i64 r.v.a)
  c3 : W.cell? ⟨b, 3, none⟩ = some (.int .i64 r.v.b)
  c4 : W.cell? ⟨b, 4, none⟩ = some (.int .i64 r.v.c)
theorem RwAt.below {W W' : World} {b : Nat} {r : MRow} (h : RwAt W b r) (k : Below W.heap.size W W') : RwAt W' b r := by
  have hl := World.block_lt_of_cell? W _ h.c0
  obtain ⟨hc, _⟩ := bcell k
  exact ⟨by rw [hc _ _ hl]; exact h.c0, by rw [hc _ _ hl]; exact h.c1, by rw [hc _ _ hl]; exact h.c2, by rw [hc _ _ hl]; exact h.c3, by rw [hc _ _ hl]; exact h.c4⟩
theorem RwAt.new (W : World) (r : MRow) : RwAt (W.alloc (.cells #[.int .i64 r.t, .int .i64 r.k, .int .i64 r.v.a, .int .i64 r.v.b, .int .i64 r.v.c] 24)) W.heap.size r :=
  ⟨by simp [go_sem], by simp [go_sem], by simp [go_sem], by simp [go_sem], by simp [go_sem]⟩

abbrev scV : Array Value := #[.int .i64 1, .int .i64 5, .bool false, .int .i64 0, .int .i64 0, .int .i64 0, .bool true, .int .i64 7, .int .i64 (-3), .int .i64 9]
abbrev sW (w : World) : World := (((w.alloc (.cells #[.int .i64 1, .int .i64 5, .int .i64 7, .int .i64 (-3), .int .i64 9] 24)).alloc (.cells scV 42)).alloc (.cells scV 42)).alloc (.cells #[.int .i64 4, .slice (some ⟨w.heap.size + 1 + 1, 0, none⟩) 1 1] 37)
theorem sn_new (w : World) : Sn (sW w) w.heap.size := by
  have h1 : ChAt (w.alloc (.cells #[.int .i64 1, .int .i64 5, .int .i64 7, .int .i64 (-3), .int .i64 9] 24) |>.alloc (.cells scV 42)) (w.heap.size + 1) 0 sc := by
    have := ChAt_new (w.alloc (.cells #[.int .i64 1, .int .i64 5, .int .i64 7, .int .i64 (-3), .int .i64 9] 24)) sc
    simp only [World.size_alloc] at this
    exact this
  have h2 : ChAt (((w.alloc (.cells #[.int .i64 1, .int .i64 5, .int .i64 7, .int .i64 (-3), .int .i64 9] 24)).alloc (.cells scV 42)).alloc (.cells scV 42)) (w.heap.size + 1 + 1) 0 sc := by
    have := ChAt_new ((w.alloc (.cells #[.int .i64 1, .int .i64 5, .int .i64 7, .int .i64 (-3), .int .i64 9] 24)).alloc (.cells scV 42)) sc
    simp only [World.size_alloc] at this
    exact this
  exact ⟨by simp [go_sem], by simp [go_sem], by simp [go_sem], by simp [go_sem], by simp [go_sem],
    h1.below (by simp) (bt (ba _ _) (by first | exact ba _ _ | exact (ba _ _))), h2.below (by simp) (ba _ _), by simp [go_sem], by simp [go_sem], by simp⟩
theorem sb_new (w : World) : Below w.heap.size w (sW w) := bt (bt (bt (ba _ _) (ba _ _)) (ba _ _)) (ba _ _)

/-- What lies while sane runs. -/
structure Sf (w W : World) : Prop where
  sn : Sn W w.heap.size
  b : Below w.heap.size w W
theorem Sf.next {w W W' : World} (h : Sf w W) (k : Below W.heap.size W W') : Sf w W' := ⟨h.sn.below k, bt h.b k⟩

theorem s_enc (W : World) : Calls Tryd.prog 13 #[rowV ⟨1, 5, ⟨7, -3, 9⟩⟩] W fun e w' => e = .returned (.tuple #[.string ⟨#[2, 10, 14, 5, 18]⟩, .int .i64 0]) ∧ Below W.heap.size W w' := by
  have := encodeRow_ok 1 5 7 (-3) 9 W sane7
  rwa [sane1] at this
theorem s_encR (W : World) (v : Value) (h : ChS W v [sc]) : Calls Tryd.prog 29 #[.agg #[.int .i64 4, v]] W fun e w' => e = .returned (.tuple #[.string ⟨#[8, 2, 2, 10, 4, 14, 5, 18]⟩, .int .i64 0]) ∧ Below W.heap.size W w' := by
  have := encodeRecord_ok 4 v [sc] W h sane6
  rwa [sane2] at this
theorem s_dec (W : World) (hE : Errs W) : Calls Tryd.prog 15 #[.string ⟨#[]⟩] W fun e w' => e = .returned (.tuple #[.agg #[.int .i64 0, .int .i64 0, .int .i64 0, .int .i64 0, .int .i64 0], .int .i64 10]) ∧ Below W.heap.size W w' := by
  have := decode_e ⟨#[]⟩ W (by decide) hE
  rw [decRowV, sane4] at this
  exact this
theorem s_decR (W : World) (hE : Errs W) : Calls Tryd.prog 31 #[.string ⟨#[8, 2, 2, 10, 4, 14, 5, 18]⟩] W fun e w' => ∃ v, e = .returned (.tuple #[.agg #[.int .i64 4, v], .int .i64 0]) ∧ ChS w' v [sc] ∧ Below W.heap.size W w' := decodeR_e _ W (by decide) hE sane3
theorem s_decB (W : World) (hE : Errs W) : Calls Tryd.prog 31 #[.string ⟨#[8, 2, 2, 10, 0]⟩] W fun e w' => ∃ v, e = .returned (.tuple #[.agg #[.int .i64 0, v], .int .i64 30]) ∧ ChS w' v [] ∧ Below W.heap.size W w' := decodeR_e _ W (by decide) hE sane5
theorem s_aft (W : World) : Calls Tryd.prog 24 #[.agg scV] W fun e w' => e = .returned (.tuple #[.agg #[.int .i64 1, .int .i64 5, .int .i64 7, .int .i64 (-3), .int .i64 9], .bool true]) ∧ Below W.heap.size W w' := after_any sc W
theorem s_bef (W : World) : Calls Tryd.prog 23 #[.agg scV] W fun e w' => e = .returned (.tuple #[.agg #[.int .i64 0, .int .i64 0, .int .i64 0, .int .i64 0, .int .i64 0], .bool false]) ∧ Below W.heap.size W w' := before_any sc W
theorem s_same (W : World) (u v : Value) (h1 : ChS W u [sc]) (h2 : ChS W v [sc]) : Calls Tryd.prog 36 #[.agg #[.int .i64 4, u], .agg #[.int .i64 4, v]] W fun e w' => e = .returned (.bool true) ∧ Below W.heap.size W w' := by
  have := same_any 4 4 u v [sc] [sc] W h1 h2
  rwa [show sameE 4 4 [sc] [sc] = true by simp [sameE]] at this
theorem s_val (W : World) : Calls Tryd.prog 19 #[.agg #[.int .i64 1, .int .i64 5, .int .i64 7, .int .i64 (-3), .int .i64 9], .int .i64 2] W fun e w' => e = .returned (.int .i64 (-3)) ∧ Below W.heap.size W w' := (value_any 1 5 7 (-3) 9 2 W (by decide) (by decide)).mono fun e w' h => by simpa [vget] using h
theorem s_vld (W : World) : Calls Tryd.prog 17 #[.agg #[.int .i64 1, .int .i64 5, .int .i64 7, .int .i64 (-3), .int .i64 9]] W fun e w' => e = .returned (.bool true) ∧ Below W.heap.size W w' := valid_t ⟨1, 5, ⟨7, -3, 9⟩⟩ W sane7
theorem s_vch (W : World) : Calls Tryd.prog 27 #[.agg scV] W fun e w' => e = .returned (.bool true) ∧ Below W.heap.size W w' := vc_t sc W sane8
theorem s_vrc (W : World) : Calls Tryd.prog 33 #[.agg #[.int .i64 4, .slice none 0 0]] W fun e w' => e = .returned (.bool false) ∧ Below W.heap.size W w' := vrecC_f 4 _ [] W (ChS.nil W) sane9

set_option maxRecDepth 100000 in
set_option maxHeartbeats 8000000 in
theorem sane_any (w : World) (hE : Errs w) : Calls Tryd.prog 12 #[] w fun e w' => e = .returned (.bool true) ∧ Below w.heap.size w w' := by
  have HG : Hid (∀ w', Below w.heap.size w w' → Errs w') := Lib.hid (fun w' h => hE.below h)
  clear hE
  go_enter Tryd.func12, Tryd.ntmps12
  have HF0 : Hid (Sf w (sW w)) := Lib.hid ⟨sn_new w, sb_new w⟩
  go_wp2_with fail
  (with_reducible refine (s_enc _).mono ?_)
  rintro e w1 ⟨rfl, hb1⟩
  have HF1 := Lib.hid (HF0.out.next hb1)
  have x0 := HF1.out.sn.x0
  have x1 := HF1.out.sn.x1
  clear hb1 HF0
  go_wp2_with fail
  (with_reducible refine (s_encR _ _ HF1.out.sn.chs).mono ?_)
  rintro e w2 ⟨rfl, hb2⟩
  have HF2 := Lib.hid (HF1.out.next hb2)
  clear hb2 HF1 x0 x1
  go_wp2_with fail
  (with_reducible refine (s_decR _ (HG.out _ HF2.out.b)).mono ?_)
  rintro e w3 ⟨v, rfl, hv3, hb3⟩
  have hvs : ∃ a n c, v = .slice a n c := by obtain ⟨a, n, c, e, _⟩ := hv3; exact ⟨a, n, c, e⟩
  obtain ⟨va, vn, vcp, rfl⟩ := hvs
  have HF3 := Lib.hid ((HF2.out.next hb3).next (ba _ (.cells #[.int .i64 4, .slice va vn vcp] 37)))
  have HV3 := Lib.hid (hv3.below (ba _ (.cells #[.int .i64 4, .slice va vn vcp] 37)))
  have HY3 : Hid ((w3.alloc (.cells #[.int .i64 4, .slice va vn vcp] 37)).cell? ⟨w3.heap.size, 0, none⟩ = some (.int .i64 4) ∧ (w3.alloc (.cells #[.int .i64 4, .slice va vn vcp] 37)).cell? ⟨w3.heap.size, 1, none⟩ = some (.slice va vn vcp)) := Lib.hid ⟨by simp [go_sem], by simp [go_sem]⟩
  clear hb3 hv3 HF2
  go_wp2_with fail
  (with_reducible refine (s_dec _ (HG.out _ HF3.out.b)).mono ?_)
  rintro e w4 ⟨rfl, hb4⟩
  have hk4 := bt hb4 (ba w4 (.cells #[.int .i64 0, .int .i64 0, .int .i64 0, .int .i64 0, .int .i64 0] 24))
  have HF4 := Lib.hid (HF3.out.next hk4)
  have HV4 := Lib.hid (HV3.out.below hk4)
  have HY4 := Lib.hid (two_below HY3.out.1 HY3.out.2 hk4)
  clear hb4 hk4 HF3 HV3 HY3
  go_wp2_with fail
  (with_reducible refine (s_decB _ (HG.out _ HF4.out.b)).mono ?_)
  rintro e w5 ⟨v5, rfl, hv5, hb5⟩
  have hvs : ∃ a n c, v5 = .slice a n c := by obtain ⟨a, n, c, e, _⟩ := hv5; exact ⟨a, n, c, e⟩
  obtain ⟨ua, un, uc, rfl⟩ := hvs
  have hk5 := bt hb5 (ba w5 (.cells #[.int .i64 0, .slice ua un uc] 37))
  have HF5 := Lib.hid (HF4.out.next hk5)
  have HV5 := Lib.hid (HV4.out.below hk5)
  have HY5 := Lib.hid (two_below HY4.out.1 HY4.out.2 hk5)
  obtain ⟨d0, d1, d2, d3, d4, d5, d6, d7, d8, d9⟩ := ChAt.cells HF5.out.sn.c
  clear hb5 hk5 HF4 HV4 HY4 hv5
  go_wp2_with fail
  (with_reducible refine (s_aft _).mono ?_)
  rintro e w6 ⟨rfl, hb6⟩
  have hk6 := bt hb6 (ba w6 (.cells #[.int .i64 1, .int .i64 5, .int .i64 7, .int .i64 (-3), .int .i64 9] 24))
  have HF6 := Lib.hid (HF5.out.next hk6)
  have HV6 := Lib.hid (HV5.out.below hk6)
  have HY6 := Lib.hid (two_below HY5.out.1 HY5.out.2 hk6)
  have HA6 := Lib.hid (RwAt.new w6 ⟨1, 5, ⟨7, -3, 9⟩⟩)
  clear hb6 hk6 HF5 HV5 HY5 d0 d1 d2 d3 d4 d5 d6 d7 d8 d9
  obtain ⟨d0, d1, d2, d3, d4, d5, d6, d7, d8, d9⟩ := ChAt.cells HF6.out.sn.c
  go_wp2_with fail
  (with_reducible refine (s_bef _).mono ?_)
  rintro e w7 ⟨rfl, hb7⟩
  have hk7 := bt hb7 (ba w7 (.cells #[.int .i64 0, .int .i64 0, .int .i64 0, .int .i64 0, .int .i64 0] 24))
  have HF7 := Lib.hid (HF6.out.next hk7)
  have HV7 := Lib.hid (HV6.out.below hk7)
  have HY7 := Lib.hid (two_below HY6.out.1 HY6.out.2 hk7)
  have HA7 := Lib.hid (HA6.out.below hk7)
  clear hb7 hk7 HF6 HV6 HY6 HA6 d0 d1 d2 d3 d4 d5 d6 d7 d8 d9
  obtain ⟨y0, y1⟩ := HY7.out
  have x0 := HF7.out.sn.x0
  have x1 := HF7.out.sn.x1
  go_wp2_with fail
  (with_reducible refine (s_same _ _ _ HF7.out.sn.chs HV7.out).mono ?_)
  rintro e w8 ⟨rfl, hb8⟩
  have HF8 := Lib.hid (HF7.out.next hb8)
  have HA8 := Lib.hid (HA7.out.below hb8)
  clear hb8 HF7 HV7 HY7 HA7 y0 y1 x0 x1
  have r0 := HF8.out.sn.r0
  have r1 := HF8.out.sn.r1
  have r2 := HF8.out.sn.r2
  have r3 := HF8.out.sn.r3
  have r4 := HF8.out.sn.r4
  have a0 := HA8.out.c0
  have a1 := HA8.out.c1
  have a2 := HA8.out.c2
  have a3 := HA8.out.c3
  have a4 := HA8.out.c4
  have hq : (Op.equalIn 9999 22 (.agg #[.int .i64 7, .int .i64 (-3), .int .i64 9]) (.agg #[.int .i64 7, .int .i64 (-3), .int .i64 9])).run Tryd.prog w8 = .ok true w8 := (equal3 9997 7 (-3) 9 7 (-3) 9 w8).trans (by rw [decide_eq_true rfl])
  go_wp2_with fail
  (with_reducible refine (s_val _).mono ?_)
  rintro e w9 ⟨rfl, hb9⟩
  have HF9 := Lib.hid (HF8.out.next hb9)
  clear hb9 HF8 HA8 r0 r1 r2 r3 r4 a0 a1 a2 a3 a4 hq
  have r0 := HF9.out.sn.r0
  have r1 := HF9.out.sn.r1
  have r2 := HF9.out.sn.r2
  have r3 := HF9.out.sn.r3
  have r4 := HF9.out.sn.r4
  go_wp2_with fail
  (with_reducible refine (s_vld _).mono ?_)
  rintro e wa ⟨rfl, hba⟩
  have HFa := Lib.hid (HF9.out.next hba)
  clear hba HF9 r0 r1 r2 r3 r4
  obtain ⟨d0, d1, d2, d3, d4, d5, d6, d7, d8, d9⟩ := ChAt.cells HFa.out.sn.c
  go_wp2_with fail
  (with_reducible refine (s_vch _).mono ?_)
  rintro e wb ⟨rfl, hbb⟩
  have HFb := Lib.hid (HFa.out.next hbb)
  clear hbb HFa d0 d1 d2 d3 d4 d5 d6 d7 d8 d9
  go_wp2_with fail
  (with_reducible refine (s_vrc _).mono ?_)
  rintro e wc ⟨rfl, hbc⟩
  have HFc := Lib.hid (HFb.out.next hbc)
  clear hbc HFb
  go_wp2_with fail
  go_ret
  exact ⟨rfl, HFc.out.b⟩
end Go.Proofs.YtgkdliocfnoffaaDoor
