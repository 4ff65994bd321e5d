/- LAW: LogtreeRoundTrip. -/
import Derived.Test.YtpapfegbodolgaaDoorS3
import Derived.Test.YtpapfegbodolgaaDoorP7
set_option linter.unusedVariables false
set_option linter.unnecessarySimpa false
set_option linter.unusedSimpArgs false
namespace Go.Proofs.YtpapfegbodolgaaDoor
open Go.RowKit Go.Sort

theorem ext3 (s : ByteArray) (m : Nat) (hm : s.size = m + 64) : s.extract 0 m ++ s.extract m (m + 32) ++ s.extract (m + 32) s.size = s := by
  rw [ByteArray.extract_append_extract]
  have e1 : min 0 m = 0 := by omega
  have e2 : max m (m + 32) = m + 32 := by omega
  rw [e1, e2, ByteArray.extract_append_extract]
  simp
/-- What a string that Decode reads is. -/
theorem dec_cases (s : ByteArray) : (∃ g, decH s = (g, 0) ∧ Hok g ∧ encH g = s) ∨ decH s = (hdZ, 10) ∨ decH s = (hdZ, 90) := by
  unfold decH
  cases h : decInt s.data.toList with
  | none => exact .inr (.inl rfl)
  | some p =>
    obtain ⟨n, m⟩ := p
    simp only
    by_cases h1 : s.size = m + 64
    · rw [if_pos h1]
      by_cases h2 : Hok (rdH s n m)
      · rw [if_pos h2]
        refine .inl ⟨_, rfl, h2, ?_⟩
        obtain ⟨e1, e2, e3, -⟩ := decInt_sound h
        have : encI n = s.extract 0 m := by
          apply ByteArray.ext
          apply Array.ext'
          show encInt n = _
          rw [e2]
          simp
        show encI n ++ s.extract m (m + 32) ++ s.extract (m + 32) s.size = s
        rw [this]
        exact ext3 s m h1
      · rw [if_neg h2]
        exact .inr (.inr rfl)
    · rw [if_neg h1]
      exact .inr (.inl rfl)
/-- The part of a string that is read. -/
def cut100 (s : ByteArray) : ByteArray := s.extract 0 (min (s.size : Int) 100).toNat
theorem cut100_size (s : ByteArray) : (cut100 s).size ≤ 100 := by unfold cut100; rw [ByteArray.size_extract]; omega

set_option maxRecDepth 100000 in
set_option maxHeartbeats 4000000 in
theorem rt_any (p : Int) (c t s : ByteArray) (w : World) (hT : Tab w) (hc : c.size ≤ maxLen) (ht : t.size ≤ maxLen) (hs : s.size ≤ maxLen) :
    Calls Tryd.prog 3 #[headV ⟨p, c, t⟩, .string s] w fun e w' => e = .returned (.bool true) ∧ Below w.heap.size w w' := by
  unfold headV
  have HT := Lib.hid hT
  have HSa := Lib.hid (fun W (h : Tab W) => sane_any W h)
  obtain ⟨s', Hs'⟩ : ∃ x, Hid (cut100 s = x) := ⟨_, Lib.hid rfl⟩
  have Hsl : Hid (s.extract 0 (min (s.size : Int) 100).toNat = s') := Lib.hid Hs'.out
  have HD : Hid (∀ W, Calls Tryd.prog 9 #[.string s'] W fun e w' => e = .returned (decOut s') ∧ Below W.heap.size W w') := Lib.hid fun W => decodeH_any s' W (by rw [← Hs'.out]; have := cut100_size s; unfold maxLen; omega)
  have HDC := Lib.hid (dec_cases s')
  unfold maxLen at hs
  have hm0 : 0 ≤ min (s.size : Int) 100 := by omega
  have hm1 : min (s.size : Int) 100 ≤ s.size := by omega
  have HC := Lib.hid hc
  have HTt := Lib.hid ht
  clear hT hc ht
  by_cases hk : Hok ⟨p, c, t⟩
  · have HK := Lib.hid hk
    clear hk
    have g0 : decide (p < 0) = false := decide_eq_false (by have := HK.out.1.1; simp only at this; omega)
    have g1 : decide (10000 < p) = false := decide_eq_false (by have := HK.out.1.2; simp only at this; omega)
    have g2 : (c.size != 32) = false := by have := HK.out.2.1; simp only at this; simp [this]
    have g3 : (t.size != 32) = false := by have := HK.out.2.2; simp only at this; simp [this]
    have g4 : c.size = 32 := HK.out.2.1
    have g5 : t.size = 32 := HK.out.2.2
    obtain ⟨E, HE⟩ : ∃ x, Hid (encH ⟨p, c, t⟩ = x) := ⟨_, Lib.hid rfl⟩
    have HEc : Hid (∀ W, Calls Tryd.prog 8 #[.agg #[.int .i64 p, .string c, .string t]] W fun e w' => e = .returned (.tuple #[.string E, .int .i64 0]) ∧ Below W.heap.size W w') := Lib.hid fun W => by
      have := encodeH_any ⟨p, c, t⟩ W HC.out HTt.out
      rw [encOutH, if_pos HK.out, HE.out] at this
      exact this
    have HDc : Hid (∀ W, Calls Tryd.prog 9 #[.string E] W fun e w' => e = .returned (.tuple #[.agg #[.int .i64 p, .string c, .string t], .int .i64 0]) ∧ Below W.heap.size W w') := Lib.hid fun W => by
      have := decodeH_any E W (by rw [← HE.out]; have := encH_size HK.out; unfold maxLen; omega)
      rw [decOut, ← HE.out, enc_dec HK.out] at this
      rw [HE.out] at this
      exact this
    go_enter Tryd.func3, Tryd.ntmps3
    go_wp2_with fail
    obtain ⟨w0, Hw0⟩ : ∃ w0, Hid (w.alloc (.cells #[.int .i64 p, .string c, .string t] 23) = w0) := ⟨_, Lib.hid rfl⟩
    have HH0 : Hid (w0.heap[w.heap.size]? = some (.cells #[.int .i64 p, .string c, .string t] 23 (0, 0))) := Lib.hid (by rw [← Hw0.out]; exact heap_alloc_new w _)
    have HT0 : Hid (Tab w0) := Lib.hid (by rw [← Hw0.out]; exact HT.out.below (ba w _))
    have HB0 : Hid (Below w.heap.size w w0) := Lib.hid (by rw [← Hw0.out]; exact ba w _)
    rw [Hw0.out]
    clear Hw0
    (with_reducible refine (HSa.out _ HT0.out).mono ?_)
    rintro e w1 ⟨rfl, hb1⟩
    have HH1 := Lib.hid (gone hb1 HH0.out)
    have HB1 := Lib.hid (bt HB0.out hb1)
    clear hb1 HH0 HT0 HB0
    have hsl := Hsl.out
    go_wp2_with (refine wpList_load_row rfl 23 _ rfl w.heap.size rfl 23 _ _ _ HH1.out Tryd.underlying23 rfl (by kernel_rfl) ?_)
    (with_reducible refine (HEc.out _).mono ?_)
    rintro e w2 ⟨rfl, hb2⟩
    have HH2 := Lib.hid (gone hb2 HH1.out)
    have HB2 := Lib.hid (bt HB1.out hb2)
    clear hb2 HH1 HB1
    go_wp2_with fail
    (with_reducible refine (HDc.out _).mono ?_)
    rintro e w3 ⟨rfl, hb3⟩
    have HH3 := Lib.hid (gone hb3 HH2.out)
    have HB3 := Lib.hid (bt HB2.out hb3)
    clear hb3 HH2 HB2
    go_upto_region 6 with fail
    obtain ⟨w4, Hw4⟩ : ∃ w4, Hid (w3.alloc (.cells #[.int .i64 p, .string c, .string t] 23) = w4) := ⟨_, Lib.hid rfl⟩
    have HG4 : Hid (w4.heap[w3.heap.size]? = some (.cells #[.int .i64 p, .string c, .string t] 23 (0, 0))) := Lib.hid (by rw [← Hw4.out]; exact heap_alloc_new w3 _)
    have HH4 : Hid (w4.heap[w.heap.size]? = some (.cells #[.int .i64 p, .string c, .string t] 23 (0, 0))) := Lib.hid (by rw [← Hw4.out]; exact gone (ba w3 _) HH3.out)
    have HB4 : Hid (Below w.heap.size w w4) := Lib.hid (by rw [← Hw4.out]; exact bt HB3.out (ba w3 _))
    rw [Hw4.out]
    clear Hw4 HH3 HB3
    have c0 := cellOf (j := 0) HH4.out rfl
    have c1 := cellOf (j := 1) HH4.out rfl
    have c2 := cellOf (j := 2) HH4.out rfl
    have hq := neqHd ⟨p, c, t⟩ ⟨p, c, t⟩
    rw [hdE_t rfl] at hq
    simp only at hq
    go_wp2_with (first
      | (refine wpList_load_rowW (by rfl) 23 _ rfl w3.heap.size rfl 23 _ _ _ HG4.out Tryd.underlying23 rfl (by kernel_rfl) ?_)
      | (refine wpList_load_rowW (by rfl) 23 _ rfl w.heap.size rfl 23 _ _ _ HH4.out Tryd.underlying23 rfl (by kernel_rfl) ?_))
    (with_reducible refine (HD.out _).mono ?_)
    rintro e w5 ⟨rfl, hb5⟩
    have HB5 := Lib.hid (bt HB4.out hb5)
    clear hb5
    rcases HDC.out with ⟨⟨gp, gc, gt⟩, hde, hgk, hge⟩ | hde | hde
    · rw [show decOut s' = .tuple #[.agg #[.int .i64 gp, .string gc, .string gt], .int .i64 0] from by rw [decOut, hde]]
      have HEg : Hid (∀ W, Calls Tryd.prog 8 #[.agg #[.int .i64 gp, .string gc, .string gt]] W fun e w' => e = .returned (.tuple #[.string s', .int .i64 0]) ∧ Below W.heap.size W w') := Lib.hid fun W => by
        have := encodeH_any ⟨gp, gc, gt⟩ W (by have := hgk.2.1; unfold maxLen; omega) (by have := hgk.2.2; unfold maxLen; omega)
        rw [encOutH, if_pos hgk, hge] at this
        exact this
      clear hde hgk hge
      go_wp2_with fail
      (with_reducible refine (HEg.out _).mono ?_)
      rintro e w6 ⟨rfl, hb6⟩
      have HB6 := Lib.hid (hb6)
      clear hb6
      go_wp2_with fail
      try rw [Exit.noGoto_ret]
      go_ret
      exact ⟨rfl, bt HB5.out ((ba w5 _).trans (HB6.out.mono (ba w5 _).size))⟩
    · rw [show decOut s' = .tuple #[.agg #[.int .i64 0, .string ⟨#[]⟩, .string ⟨#[]⟩], .int .i64 10] from by rw [decOut, hde]; rfl]
      have hq := eqlHd hdZ hdZ
      rw [hdE_t rfl] at hq
      simp only [hdZ] at hq
      clear hde
      go_upto_region 12 with fail
      obtain ⟨w6, Hw6⟩ : ∃ w6, Hid (w5.alloc (.cells #[.int .i64 0, .string ⟨#[]⟩, .string ⟨#[]⟩] 23) = w6) := ⟨_, Lib.hid rfl⟩
      have HG6 : Hid (w6.heap[w5.heap.size]? = some (.cells #[.int .i64 0, .string ⟨#[]⟩, .string ⟨#[]⟩] 23 (0, 0))) := Lib.hid (by rw [← Hw6.out]; exact heap_alloc_new w5 _)
      have HB6 : Hid (Below w.heap.size w w6) := Lib.hid (by rw [← Hw6.out]; exact bt HB5.out (ba w5 _))
      rw [Hw6.out]
      clear Hw6
      go_wp2_with (refine wpList_load_rowW (by rfl) 23 _ rfl w5.heap.size rfl 23 _ _ _ HG6.out Tryd.underlying23 rfl (by kernel_rfl) ?_)
      try rw [Exit.noGoto_ret]
      go_ret
      exact ⟨rfl, HB6.out⟩
    · rw [show decOut s' = .tuple #[.agg #[.int .i64 0, .string ⟨#[]⟩, .string ⟨#[]⟩], .int .i64 90] from by rw [decOut, hde]; rfl]
      have hq := eqlHd hdZ hdZ
      rw [hdE_t rfl] at hq
      simp only [hdZ] at hq
      clear hde
      go_upto_region 12 with fail
      obtain ⟨w6, Hw6⟩ : ∃ w6, Hid (w5.alloc (.cells #[.int .i64 0, .string ⟨#[]⟩, .string ⟨#[]⟩] 23) = w6) := ⟨_, Lib.hid rfl⟩
      have HG6 : Hid (w6.heap[w5.heap.size]? = some (.cells #[.int .i64 0, .string ⟨#[]⟩, .string ⟨#[]⟩] 23 (0, 0))) := Lib.hid (by rw [← Hw6.out]; exact heap_alloc_new w5 _)
      have HB6 : Hid (Below w.heap.size w w6) := Lib.hid (by rw [← Hw6.out]; exact bt HB5.out (ba w5 _))
      rw [Hw6.out]
      clear Hw6
      go_wp2_with (refine wpList_load_rowW (by rfl) 23 _ rfl w5.heap.size rfl 23 _ _ _ HG6.out Tryd.underlying23 rfl (by kernel_rfl) ?_)
      try rw [Exit.noGoto_ret]
      go_ret
      exact ⟨rfl, HB6.out⟩
  · have HK := Lib.hid hk
    clear hk
    have HEc : Hid (∀ W, Calls Tryd.prog 8 #[.agg #[.int .i64 p, .string c, .string t]] W fun e w' => e = .returned (.tuple #[.string ⟨#[]⟩, .int .i64 90]) ∧ Below W.heap.size W w') := Lib.hid fun W => by
      have := encodeH_any ⟨p, c, t⟩ W HC.out HTt.out
      rw [encOutH, if_neg HK.out] at this
      exact this
    go_enter Tryd.func3, Tryd.ntmps3
    go_wp2_with fail
    obtain ⟨w0, Hw0⟩ : ∃ w0, Hid (w.alloc (.cells #[.int .i64 p, .string c, .string t] 23) = w0) := ⟨_, Lib.hid rfl⟩
    have HH0 : Hid (w0.heap[w.heap.size]? = some (.cells #[.int .i64 p, .string c, .string t] 23 (0, 0))) := Lib.hid (by rw [← Hw0.out]; exact heap_alloc_new w _)
    have HT0 : Hid (Tab w0) := Lib.hid (by rw [← Hw0.out]; exact HT.out.below (ba w _))
    have HB0 : Hid (Below w.heap.size w w0) := Lib.hid (by rw [← Hw0.out]; exact ba w _)
    rw [Hw0.out]
    clear Hw0
    (with_reducible refine (HSa.out _ HT0.out).mono ?_)
    rintro e w1 ⟨rfl, hb1⟩
    have HH1 := Lib.hid (gone hb1 HH0.out)
    have HB1 := Lib.hid (bt HB0.out hb1)
    clear hb1 HH0 HT0 HB0
    have hsl := Hsl.out
    go_wp2_with (refine wpList_load_row rfl 23 _ rfl w.heap.size rfl 23 _ _ _ HH1.out Tryd.underlying23 rfl (by kernel_rfl) ?_)
    (with_reducible refine (HEc.out _).mono ?_)
    rintro e w2 ⟨rfl, hb2⟩
    have HH2 := Lib.hid (gone hb2 HH1.out)
    have HB2 := Lib.hid (bt HB1.out hb2)
    clear hb2 HH1 HB1
    go_wp2_with fail
    (with_reducible refine (HD.out _).mono ?_)
    rintro e w5 ⟨rfl, hb5⟩
    have HB5 := Lib.hid (bt HB2.out hb5)
    clear hb5
    rcases HDC.out with ⟨⟨gp, gc, gt⟩, hde, hgk, hge⟩ | hde | hde
    · rw [show decOut s' = .tuple #[.agg #[.int .i64 gp, .string gc, .string gt], .int .i64 0] from by rw [decOut, hde]]
      have HEg : Hid (∀ W, Calls Tryd.prog 8 #[.agg #[.int .i64 gp, .string gc, .string gt]] W fun e w' => e = .returned (.tuple #[.string s', .int .i64 0]) ∧ Below W.heap.size W w') := Lib.hid fun W => by
        have := encodeH_any ⟨gp, gc, gt⟩ W (by have := hgk.2.1; unfold maxLen; omega) (by have := hgk.2.2; unfold maxLen; omega)
        rw [encOutH, if_pos hgk, hge] at this
        exact this
      clear hde hgk hge
      go_wp2_with fail
      (with_reducible refine (HEg.out _).mono ?_)
      rintro e w6 ⟨rfl, hb6⟩
      have HB6 := Lib.hid (hb6)
      clear hb6
      go_wp2_with fail
      try rw [Exit.noGoto_ret]
      go_ret
      exact ⟨rfl, bt HB5.out ((ba w5 _).trans (HB6.out.mono (ba w5 _).size))⟩
    · rw [show decOut s' = .tuple #[.agg #[.int .i64 0, .string ⟨#[]⟩, .string ⟨#[]⟩], .int .i64 10] from by rw [decOut, hde]; rfl]
      have hq := eqlHd hdZ hdZ
      rw [hdE_t rfl] at hq
      simp only [hdZ] at hq
      clear hde
      go_upto_region 12 with fail
      obtain ⟨w6, Hw6⟩ : ∃ w6, Hid (w5.alloc (.cells #[.int .i64 0, .string ⟨#[]⟩, .string ⟨#[]⟩] 23) = w6) := ⟨_, Lib.hid rfl⟩
      have HG6 : Hid (w6.heap[w5.heap.size]? = some (.cells #[.int .i64 0, .string ⟨#[]⟩, .string ⟨#[]⟩] 23 (0, 0))) := Lib.hid (by rw [← Hw6.out]; exact heap_alloc_new w5 _)
      have HB6 : Hid (Below w.heap.size w w6) := Lib.hid (by rw [← Hw6.out]; exact bt HB5.out (ba w5 _))
      rw [Hw6.out]
      clear Hw6
      go_wp2_with (refine wpList_load_rowW (by rfl) 23 _ rfl w5.heap.size rfl 23 _ _ _ HG6.out Tryd.underlying23 rfl (by kernel_rfl) ?_)
      try rw [Exit.noGoto_ret]
      go_ret
      exact ⟨rfl, HB6.out⟩
    · rw [show decOut s' = .tuple #[.agg #[.int .i64 0, .string ⟨#[]⟩, .string ⟨#[]⟩], .int .i64 90] from by rw [decOut, hde]; rfl]
      have hq := eqlHd hdZ hdZ
      rw [hdE_t rfl] at hq
      simp only [hdZ] at hq
      clear hde
      go_upto_region 12 with fail
      obtain ⟨w6, Hw6⟩ : ∃ w6, Hid (w5.alloc (.cells #[.int .i64 0, .string ⟨#[]⟩, .string ⟨#[]⟩] 23) = w6) := ⟨_, Lib.hid rfl⟩
      have HG6 : Hid (w6.heap[w5.heap.size]? = some (.cells #[.int .i64 0, .string ⟨#[]⟩, .string ⟨#[]⟩] 23 (0, 0))) := Lib.hid (by rw [← Hw6.out]; exact heap_alloc_new w5 _)
      have HB6 : Hid (Below w.heap.size w w6) := Lib.hid (by rw [← Hw6.out]; exact bt HB5.out (ba w5 _))
      rw [Hw6.out]
      clear Hw6
      go_wp2_with (refine wpList_load_rowW (by rfl) 23 _ rfl w5.heap.size rfl 23 _ _ _ HG6.out Tryd.underlying23 rfl (by kernel_rfl) ?_)
      try rw [Exit.noGoto_ret]
      go_ret
      exact ⟨rfl, HB6.out⟩
end Go.Proofs.YtpapfegbodolgaaDoor
