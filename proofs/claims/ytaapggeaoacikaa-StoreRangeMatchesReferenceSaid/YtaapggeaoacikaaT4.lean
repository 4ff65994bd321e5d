/- WALKS: StoreRangeMatchesReference, given what Log does. -/
import Derived.Test.YtaapggeaoacikaaY2
import Derived.Test.YtaapggeaoacikaaV1
import Derived.Deep.DeepCutAuto
import Derived.Deep.Cut
import Derived.Deep.RegionHeld3
set_option linter.unusedVariables false
set_option linter.unusedSimpArgs false
namespace Go.Proofs.Ytaapggeaoacikaa
open Go.RowKit Go.Sort Go.ChangeMaps Go.MapKept

/-- What a range is: the rows that are selected, sorted; none for no column. -/
def IsR (L : List MRow) (t col lo hi : Int) (M : List MRow) : Prop := ((0 ≤ col ∧ col ≤ 3) ∧ SortOf L (selR t col lo hi) col M) ∨ (¬ (0 ≤ col ∧ col ≤ 3) ∧ M = [])
theorem isR_unique {L : List MRow} (hL : Srt L) {t col lo hi : Int} {M N : List MRow} (h : IsR L t col lo hi M) (k : IsR L t col lo hi N) : M = N := by
  rcases h with ⟨h0, h⟩ | ⟨h0, rfl⟩
  · rcases k with ⟨_, k⟩ | ⟨k0, _⟩
    · exact sortOf_unique hL (fun r hr => selR_t r hr) h k
    · exact absurd h0 k0
  · rcases k with ⟨k0, _⟩ | ⟨_, rfl⟩
    · exact absurd k0 h0
    · rfl
theorem rangeI {W : World} {b : Nat} {m : Option Nat} {L : List MRow} {p : Int} (h : StAt W b m L p) (t col lo hi : Int) :
    Calls Try.prog 24 #[.pointer (some ⟨b, 0, none⟩), .int .i64 t, .int .i64 col, .int .i64 lo, .int .i64 hi] W fun e w' => ∃ v M, e = .returned v ∧ RowS w' v M ∧ IsR L t col lo hi M ∧ Below W.heap.size W w' := by
  by_cases hc : 0 ≤ col ∧ col ≤ 3
  · refine (range_any h t col lo hi hc.1 hc.2).mono fun e w' hw => ?_
    obtain ⟨v, M, rfl, ho, hs, hb⟩ := hw
    exact ⟨v, M, rfl, ho.rowS, .inl ⟨hc, hs⟩, hb⟩
  · exact (range_col h t col lo hi hc).mono fun e w' hw => ⟨_, [], hw.1, rowS_nil _, .inr ⟨hc, rfl⟩, hw.2⟩
theorem rangeRI {W : World} {b : Nat} {v : Value} {L : List MRow} {p : Int} (h : RfAt W b v L p) (t col lo hi : Int) :
    Calls Try.prog 25 #[.pointer (some ⟨b, 0, none⟩), .int .i64 t, .int .i64 col, .int .i64 lo, .int .i64 hi] W fun e w' => ∃ v M, e = .returned v ∧ RowS w' v M ∧ IsR L t col lo hi M ∧ Below W.heap.size W w' := by
  by_cases hc : 0 ≤ col ∧ col ≤ 3
  · refine (rangeR_any h t col lo hi hc.1 hc.2).mono fun e w' hw => ?_
    obtain ⟨v, M, rfl, ho, hs, hb⟩ := hw
    exact ⟨v, M, rfl, ho.rowS, .inl ⟨hc, hs⟩, hb⟩
  · exact (rangeR_col W _ t col lo hi hc).mono fun e w' hw => ⟨_, [], hw.1, rowS_nil _, .inr ⟨hc, rfl⟩, hw.2 ▸ Below.refl _ _⟩

set_option maxRecDepth 100000 in
set_option maxHeartbeats 16000000 in
theorem rangeMatches_of (H : LogWalked) {W : World} {v : Value} {n : Nat} {p t c lo hi : Int} (h : XS W v n) (hb : I64 p) (h1 : I64 t) (h2 : I64 c) (h3 : I64 lo) (h4 : I64 hi) : Calls Try.prog 4 #[v, .int .i64 p, .int .i64 t, .int .i64 c, .int .i64 lo, .int .i64 hi] W fun e w' => e = .returned (.bool true) ∧ Below W.heap.size W w' := by
  have HX := Lib.hid h
  have HL := Lib.hid H
  have HBp := Lib.hid hb
  have HBt := Lib.hid h1
  have HBc := Lib.hid h2
  have HBl := Lib.hid h3
  have HBh := Lib.hid h4
  clear h H hb h1 h2 h3 h4
  go_enter Try.func4, Try.ntmps4
  go_wp2_with fail
  (with_reducible refine (sane_any W).mono ?_)
  rintro e w1 ⟨rfl, hb1⟩
  have HB1 := Lib.hid hb1
  have HX1 := Lib.hid (HX.out.below hb1)
  clear hb1
  go_wp2_with fail
  (with_reducible refine (lawLog_of HL.out HX1.out).mono ?_)
  rintro e w0 ⟨R, u, rfl, hrs, hch, hl30, hsm, hb0⟩
  have HRS := Lib.hid hrs
  have HCh := Lib.hid hch
  have HB0 := Lib.hid (bt HB1.out hb0)
  obtain ⟨ra, rn, rcap, rfl, hrn, hrest⟩ := hrs
  subst hrn
  clear hrest hch hsm hb0 HX1 HX
  have hpr := pk_range p (n := (R.length : Int) + 2) (by omega)
  obtain ⟨q, Hq⟩ : ∃ q, Hid (pk p ((R.length : Int) + 2) = q) := ⟨_, Lib.hid rfl⟩
  rw [Hq.out] at hpr
  have HPk := Lib.hid (pick_any p ((R.length : Int) + 2) w0 HBp.out (by omega) (by omega))
  rw [Hq.out] at HPk
  go_wp2_with fail
  (with_reducible refine HPk.out.mono ?_)
  rintro e wx ⟨rfl, rfl⟩
  have HIp : Hid (∀ k, k < 2 → I64 (([p, q - 1] : List Int).getD k 0)) := Lib.hid (fun k hk => by
    obtain rfl | rfl : k = 0 ∨ k = 1 := by omega
    · exact HBp.out
    · exact ⟨by simp; omega, by simp; omega⟩)
  go_wp2_with fail
  generalize hw2 : w0.alloc (.cells #[.int .i64 p, .int .i64 (q - 1)] 3) = w2
  have HBw2 : Hid (Below w0.heap.size w0 w2) := Lib.hid (by rw [← hw2]; exact ba w0 _)
  have HP2 : Hid (∀ k, k < 2 → w2.cell? ⟨w0.heap.size, k, none⟩ = some (.int .i64 (([p, q - 1] : List Int).getD k 0))) := Lib.hid (fun k hk => by
    have h := heap_alloc_new w0 (.cells #[.int .i64 p, .int .i64 (q - 1)] 3)
    rw [hw2] at h
    obtain rfl | rfl : k = 0 ∨ k = 1 := by omega
    · simp [World.cell?, h]
    · simp [World.cell?, h])
  have hz2 : w0.heap.size < w2.heap.size := by rw [← hw2]; simp
  clear hw2
  go_loopw [39] (fun s wx => ∃ k : Nat, k ≤ 2 ∧ s = .int .i64 k ∧ Hid (Below w2.heap.size w2 wx)) (fun s _ => 2 - (intOf s).toNat)
  case atStart => exact ⟨0, by omega, rfl, Lib.hid (Below.refl _ _)⟩
  case round =>
    obtain ⟨k, hk, rfl, HBk⟩ := hrel
    rename World => wk
    by_cases hk2 : k < 2
    · have hki : (k : Int) < 2 := by omega
      have p0 := (HBk.out.cell (p := ⟨w0.heap.size, k, none⟩) hz2).trans (HP2.out k hk2)
      have hzk : w0.heap.size < wk.heap.size := Nat.lt_of_lt_of_le hz2 HBk.out.size
      have hi64 := HIp.out k hk2
      obtain ⟨x, Hx⟩ : ∃ x, Hid (([p, q - 1] : List Int).getD k 0 = x) := ⟨_, Lib.hid rfl⟩
      rw [Hx.out] at p0 hi64
      have HI := Lib.hid hi64
      clear hi64
      have HRk := Lib.hid (HRS.out.below (bt HBw2.out HBk.out))
      by_cases hx0 : x < 0
      · have HA := Lib.hid (at_neg (.slice ra R.length rcap) x wk hx0)
        have HR := Lib.hid (atR_neg (.slice ra R.length rcap) x wk hx0)
        clear hx0
        go_wp2_with (first | (go_at_call 19; (with_reducible refine HA.out.mono ?_); rintro e wx ⟨rfl, rfl⟩) | (go_at_call 20; (with_reducible refine HR.out.mono ?_); rintro e wx ⟨rfl, rfl⟩))
        exact ⟨⟨k + 1, by omega, by go_num, HBk⟩, by simp [intOf]; omega⟩
      · by_cases hx1 : (R.length : Int) < x
        · have HA := Lib.hid (at_far HRk.out x hx1)
          have HR := Lib.hid (atR_far HRk.out x hx1)
          clear hx0 hx1
          go_wp2_with (first | (go_at_call 19; (with_reducible refine HA.out.mono ?_); rintro e wx ⟨rfl, rfl⟩) | (go_at_call 20; (with_reducible refine HR.out.mono ?_); rintro e wx ⟨rfl, rfl⟩))
          exact ⟨⟨k + 1, by omega, by go_num, HBk⟩, by simp [intOf]; omega⟩
        · obtain ⟨y, rfl⟩ : ∃ y : Nat, x = y := ⟨x.toNat, by omega⟩
          have hy : y ≤ R.length := by omega
          clear hx0 hx1
          go_wp2_with fail
          refine (at_any HRk.out HCh.out y hy).mono ?_
          rintro e w3 ⟨b1, m1, rfl, hs1, ho1, hb3⟩
          have HS3 := Lib.hid hs1
          have HB3 := Lib.hid hb3
          clear hs1 ho1 hb3
          go_wp2_with fail
          refine (atR_any (HRk.out.below HB3.out) HCh.out y hy).mono ?_
          rintro e w4 ⟨b2, v2, rfl, hs2, ho2, hoo, hb4⟩
          obtain ⟨L, HLd⟩ : ∃ L, Hid (rowsOf (R.take y) = L) := ⟨_, Lib.hid rfl⟩
          rw [HLd.out] at hs2
          have HS4 : Hid (StAt w4 b1 m1 L y) := Lib.hid (by rw [← HLd.out]; exact HS3.out.below hb4)
          have HR4 := Lib.hid hs2
          have HB4 : Hid (Below w2.heap.size w2 w4) := Lib.hid (bt HBk.out (bt HB3.out hb4))
          clear hs2 ho2 hoo hb4 HS3 p0 HLd
          have pr1 := pk_range t (n := 3) (by omega)
          have pr2 := pk_range c (n := 6) (by omega)
          have pr3 := pk_range lo (n := 40) (by omega)
          have pr4 := pk_range hi (n := 40) (by omega)
          obtain ⟨zt, Ht⟩ : ∃ z, Hid (pk t 3 = z) := ⟨_, Lib.hid rfl⟩
          obtain ⟨zc, Hc⟩ : ∃ z, Hid (pk c 6 = z) := ⟨_, Lib.hid rfl⟩
          obtain ⟨zl, Hl⟩ : ∃ z, Hid (pk lo 40 = z) := ⟨_, Lib.hid rfl⟩
          obtain ⟨zh, Hh⟩ : ∃ z, Hid (pk hi 40 = z) := ⟨_, Lib.hid rfl⟩
          rw [Ht.out] at pr1
          rw [Hc.out] at pr2
          rw [Hl.out] at pr3
          rw [Hh.out] at pr4
          have P1 : Hid (∀ w, Calls Try.prog 18 #[.int .i64 t, .int .i64 3] w fun e w' => e = .returned (.int .i64 zt) ∧ w = w') := Lib.hid (fun w => by rw [← Ht.out]; exact pick_any t 3 w HBt.out (by omega) (by omega))
          have P2 : Hid (∀ w, Calls Try.prog 18 #[.int .i64 c, .int .i64 6] w fun e w' => e = .returned (.int .i64 zc) ∧ w = w') := Lib.hid (fun w => by rw [← Hc.out]; exact pick_any c 6 w HBc.out (by omega) (by omega))
          have P3 : Hid (∀ w, Calls Try.prog 18 #[.int .i64 lo, .int .i64 40] w fun e w' => e = .returned (.int .i64 zl) ∧ w = w') := Lib.hid (fun w => by rw [← Hl.out]; exact pick_any lo 40 w HBl.out (by omega) (by omega))
          have P4 : Hid (∀ w, Calls Try.prog 18 #[.int .i64 hi, .int .i64 40] w fun e w' => e = .returned (.int .i64 zh) ∧ w = w') := Lib.hid (fun w => by rw [← Hh.out]; exact pick_any hi 40 w HBh.out (by omega) (by omega))
          go_wp2_with fail
          (with_reducible refine (P1.out _).mono ?_)
          rintro e wx ⟨rfl, rfl⟩
          go_wp2_with fail
          (with_reducible refine (P2.out _).mono ?_)
          rintro e wx ⟨rfl, rfl⟩
          go_wp2_with fail
          (with_reducible refine (P3.out _).mono ?_)
          rintro e wx ⟨rfl, rfl⟩
          go_wp2_with fail
          (with_reducible refine (P4.out _).mono ?_)
          rintro e wx ⟨rfl, rfl⟩
          go_wp2_with fail
          generalize hw5 : w4.alloc (.cells #[.int .i64 t, .int .i64 c, .int .i64 lo, .int .i64 hi, .int .i64 zt, .int .i64 (zc - 1), .int .i64 (zl - 20), .int .i64 (zh - 10)] 46) = w5
          have HB45 : Hid (Below w4.heap.size w4 w5) := Lib.hid (by rw [← hw5]; exact ba w4 _)
          have HX5 : Hid (w5.heap[w4.heap.size]? = some (.cells #[.int .i64 t, .int .i64 c, .int .i64 lo, .int .i64 hi, .int .i64 zt, .int .i64 (zc - 1), .int .i64 (zl - 20), .int .i64 (zh - 10)] 46 (0, 0))) := Lib.hid (by rw [← hw5]; exact heap_alloc_new w4 _)
          have hz45 : w4.heap.size < w5.heap.size := lt_of_block HX5.out
          have HQ : Hid (∀ i, i < 2 → ∃ a b d g : Int, I64 a ∧ I64 b ∧ I64 d ∧ I64 g ∧ w5.cell? ⟨w4.heap.size, i * 4, none⟩ = some (.int .i64 a) ∧ w5.cell? ⟨w4.heap.size, i * 4 + 1, none⟩ = some (.int .i64 b) ∧ w5.cell? ⟨w4.heap.size, i * 4 + 2, none⟩ = some (.int .i64 d) ∧ w5.cell? ⟨w4.heap.size, i * 4 + 3, none⟩ = some (.int .i64 g)) := Lib.hid (fun i hi2 => by
            obtain rfl | rfl : i = 0 ∨ i = 1 := by omega
            · exact ⟨t, c, lo, hi, HBt.out, HBc.out, HBl.out, HBh.out, by simp [World.cell?, HX5.out], by simp [World.cell?, HX5.out], by simp [World.cell?, HX5.out], by simp [World.cell?, HX5.out]⟩
            · exact ⟨zt, zc - 1, zl - 20, zh - 10, ⟨by omega, by omega⟩, ⟨by omega, by omega⟩, ⟨by omega, by omega⟩, ⟨by omega, by omega⟩, by simp [World.cell?, HX5.out], by simp [World.cell?, HX5.out], by simp [World.cell?, HX5.out], by simp [World.cell?, HX5.out]⟩)
          clear hw5 P1 P2 P3 P4 Ht Hc Hl Hh pr1 pr2 pr3 pr4
          go_loopw [86] (fun s wx => ∃ i : Nat, i ≤ 2 ∧ s = .int .i64 i ∧ Hid (Below w5.heap.size w5 wx)) (fun s _ => 2 - (intOf s).toNat)
          case atStart => exact ⟨0, by omega, rfl, Lib.hid (Below.refl _ _)⟩
          case round =>
            obtain ⟨i, hi', rfl, HBi⟩ := hrel
            rename World => wi
            by_cases hi2 : i < 2
            · have hii : (i : Int) < 2 := by omega
              obtain ⟨xa, xb, xc, xd, i1, i2, i3, i4, c0, c1, c2, c3⟩ := HQ.out i hi2
              have HI1 := Lib.hid i1
              have HI2 := Lib.hid i2
              have HI3 := Lib.hid i3
              have HI4 := Lib.hid i4
              replace c0 := (HBi.out.cell (p := ⟨w4.heap.size, i * 4, none⟩) hz45).trans c0
              replace c1 := (HBi.out.cell (p := ⟨w4.heap.size, i * 4 + 1, none⟩) hz45).trans c1
              replace c2 := (HBi.out.cell (p := ⟨w4.heap.size, i * 4 + 2, none⟩) hz45).trans c2
              replace c3 := (HBi.out.cell (p := ⟨w4.heap.size, i * 4 + 3, none⟩) hz45).trans c3
              have hz4i : w4.heap.size < wi.heap.size := Nat.lt_of_lt_of_le hz45 HBi.out.size
              have HSi := Lib.hid (HS4.out.below (bt HB45.out HBi.out))
              have HRi := Lib.hid (HR4.out.below (bt HB45.out HBi.out))
              obtain ⟨⟨rt, rk, ⟨ra1, rb1, rc1⟩⟩, Hrr⟩ : ∃ r, Hid ((look L xa xc).getD rowZ = r) := ⟨_, Lib.hid rfl⟩
              obtain ⟨ok, Hok⟩ : ∃ ok, Hid ((look L xa xc).isSome = ok) := ⟨_, Lib.hid rfl⟩
              clear i1 i2 i3 i4
              go_wp2_with fail
              refine (get_any (HSi.out.below (ba wi _)) HI1.out HI3.out).mono ?_
              rintro e w6 ⟨rfl, hb6⟩
              rw [Hrr.out, Hok.out]
              unfold rowV
              have HBi6 := Lib.hid (bt (ba wi (.cells #[.int .i64 xa, .int .i64 xb, .int .i64 xc, .int .i64 xd] 46)) hb6)
              have HP6 : Hid (w6.heap[wi.heap.size]? = some (.cells #[.int .i64 xa, .int .i64 xb, .int .i64 xc, .int .i64 xd] 46 (0, 0))) := Lib.hid ((hb6.block _ (by simp)).trans (heap_alloc_new wi _))
              have d0 : w6.cell? ⟨wi.heap.size, 0, none⟩ = some (.int .i64 xa) := by simp [World.cell?, HP6.out]
              have d2 : w6.cell? ⟨wi.heap.size, 2, none⟩ = some (.int .i64 xc) := by simp [World.cell?, HP6.out]
              have hz6 : wi.heap.size < w6.heap.size := lt_of_block HP6.out
              have hz6n : ¬ wi.heap.size = w6.heap.size := by omega
              clear hb6 c0 c1 c2 c3
              go_wp2_with fail
              refine (getR_any ((HRi.out.below HBi6.out).below (ba w6 _)) xa xc).mono ?_
              rintro e w7 ⟨rfl, hb7⟩
              rw [Hrr.out, Hok.out]
              unfold rowV
              clear d0 d2
              go_upto_region 16 with fail
              generalize hw8 : w7.alloc (.cells #[.int .i64 rt, .int .i64 rk, .int .i64 ra1, .int .i64 rb1, .int .i64 rc1] 50) = w8
              have hb78 : Below w7.heap.size w7 w8 := by rw [← hw8]; exact ba w7 _
              have HB68 : Hid (Below w6.heap.size w6 w8) := Lib.hid (bt (bt (ba w6 _) hb7) hb78)
              have HZ8 : Hid (w8.heap[w7.heap.size]? = some (.cells #[.int .i64 rt, .int .i64 rk, .int .i64 ra1, .int .i64 rb1, .int .i64 rc1] 50 (0, 0))) := Lib.hid (by rw [← hw8]; exact heap_alloc_new w7 _)
              have HY8 : Hid (w8.heap[w6.heap.size]? = some (.cells #[.int .i64 rt, .int .i64 rk, .int .i64 ra1, .int .i64 rb1, .int .i64 rc1] 50 (0, 0))) := Lib.hid (by
                have h0 := hb7.block w6.heap.size (by simp)
                have h1 := hb78.block w6.heap.size (Nat.lt_of_lt_of_le (by simp) hb7.size)
                exact h1.trans (h0.trans (heap_alloc_new w6 _)))
              have HQ8 : Hid (w8.heap[wi.heap.size]? = some (.cells #[.int .i64 xa, .int .i64 xb, .int .i64 xc, .int .i64 xd] 46 (0, 0))) := Lib.hid ((HB68.out.block _ hz6).trans HP6.out)
              obtain ⟨bq, Hbq⟩ : ∃ x, Hid (wi.heap.size = x) := ⟨_, Lib.hid rfl⟩
              obtain ⟨by', Hby⟩ : ∃ x, Hid (w6.heap.size = x) := ⟨_, Lib.hid rfl⟩
              obtain ⟨bz, Hbz⟩ : ∃ x, Hid (w7.heap.size = x) := ⟨_, Lib.hid rfl⟩
              have HS8 := Lib.hid ((HSi.out.below HBi6.out).below HB68.out)
              have HR8 := Lib.hid ((HRi.out.below HBi6.out).below HB68.out)
              have HBi8 : Hid (Below wi.heap.size wi w8) := Lib.hid (bt HBi6.out HB68.out)
              rw [Hbz.out] at HZ8
              rw [Hby.out] at HY8
              rw [Hbq.out] at HQ8
              rw [Hbz.out, Hby.out, Hbq.out]
              clear hw8 hb78 hb7 hz6 hz6n hz4i hz45
              have HK : Hid (∀ w', Below w8.heap.size w8 w' → w'.cell? ⟨bq, 0, none⟩ = some (.int .i64 xa) ∧ w'.cell? ⟨bq, 1, none⟩ = some (.int .i64 xb) ∧ w'.cell? ⟨bq, 2, none⟩ = some (.int .i64 xc) ∧ w'.cell? ⟨bq, 3, none⟩ = some (.int .i64 xd)
                  ∧ w'.cell? ⟨by', 0, none⟩ = some (.int .i64 rt) ∧ w'.cell? ⟨by', 1, none⟩ = some (.int .i64 rk) ∧ w'.cell? ⟨by', 2, none⟩ = some (.int .i64 ra1) ∧ w'.cell? ⟨by', 3, none⟩ = some (.int .i64 rb1) ∧ w'.cell? ⟨by', 4, none⟩ = some (.int .i64 rc1)
                  ∧ w'.cell? ⟨bz, 0, none⟩ = some (.int .i64 rt) ∧ w'.cell? ⟨bz, 1, none⟩ = some (.int .i64 rk) ∧ w'.cell? ⟨bz, 2, none⟩ = some (.int .i64 ra1) ∧ w'.cell? ⟨bz, 3, none⟩ = some (.int .i64 rb1) ∧ w'.cell? ⟨bz, 4, none⟩ = some (.int .i64 rc1)) := Lib.hid (fun w' hb => by
                have k1 := (hb.block _ (lt_of_block HQ8.out)).trans HQ8.out
                have k2 := (hb.block _ (lt_of_block HY8.out)).trans HY8.out
                have k3 := (hb.block _ (lt_of_block HZ8.out)).trans HZ8.out
                refine ⟨?_, ?_, ?_, ?_, ?_, ?_, ?_, ?_, ?_, ?_, ?_, ?_, ?_, ?_⟩ <;> simp [World.cell?, k1, k2, k3])
              have HF17 : Hid (∀ w', Below w8.heap.size w8 w' → Calls Try.prog 17 #[.pointer (some ⟨b1, 0, none⟩), .pointer (some ⟨b2, 0, none⟩)] w' fun e w'' => e = .returned (.bool true) ∧ Hid (Below w8.heap.size w8 w'')) := Lib.hid (fun w' hb =>
                (same_true (HS8.out.below hb) (HR8.out.below hb)).mono fun e w'' hw => ⟨hw.1, Lib.hid (bt hb hw.2)⟩)
              have HF24 : Hid (∀ w', Below w8.heap.size w8 w' → Calls Try.prog 24 #[.pointer (some ⟨b1, 0, none⟩), .int .i64 xa, .int .i64 xb, .int .i64 xc, .int .i64 xd] w' fun e w'' => ∃ va M, e = .returned va ∧ Hid (RowS w'' va M) ∧ Hid (IsR L xa xb xc xd M) ∧ Hid (Below w8.heap.size w8 w'')) := Lib.hid (fun w' hb =>
                (rangeI (HS8.out.below hb) xa xb xc xd).mono fun e w'' ⟨va, M, he, h1, h2, h3⟩ => ⟨va, M, he, Lib.hid h1, Lib.hid h2, Lib.hid (bt hb h3)⟩)
              have HF25 : Hid (∀ w' va M, Hid (Below w8.heap.size w8 w') → Hid (RowS w' va M) → Calls Try.prog 25 #[.pointer (some ⟨b2, 0, none⟩), .int .i64 xa, .int .i64 xb, .int .i64 xc, .int .i64 xd] w' fun e w'' => ∃ vb N, e = .returned vb ∧ Hid (RowS w'' vb N) ∧ Hid (RowS w'' va M) ∧ Hid (IsR L xa xb xc xd N) ∧ Hid (Below w8.heap.size w8 w'')) := Lib.hid (fun w' va M hb hr =>
                (rangeRI (HR8.out.below hb.out) xa xb xc xd).mono fun e w'' ⟨vb, N, he, h1, h2, h3⟩ => ⟨vb, N, he, Lib.hid h1, Lib.hid (hr.out.below h3), Lib.hid h2, Lib.hid (bt hb.out h3)⟩)
              have HF23 : Hid (∀ w' va vb M N, Hid (Below w8.heap.size w8 w') → Hid (RowS w' va M) → Hid (RowS w' vb N) → Hid (IsR L xa xb xc xd M) → Hid (IsR L xa xb xc xd N) → Calls Try.prog 23 #[va, vb] w' fun e w'' => e = .returned (.bool true) ∧ Hid (Below w8.heap.size w8 w'')) := Lib.hid (fun w' va vb M N hb h1 h2 h3 h4 => by
                have e1 := isR_unique HS8.out.good.1 h3.out h4.out
                refine (sameRows_any h1.out h2.out).mono fun e w'' hw => ⟨?_, Lib.hid (bt hb.out hw.2)⟩
                rw [hw.1, decide_eq_true e1])
              have HNE : ∀ w, (Go.binOp .neq 50 (.agg #[.int .i64 rt, .int .i64 rk, .int .i64 ra1, .int .i64 rb1, .int .i64 rc1]) (.agg #[.int .i64 rt, .int .i64 rk, .int .i64 ra1, .int .i64 rb1, .int .i64 rc1])).run Try.prog w = .ok (.bool false) w := fun w => by
                rw [neqRow]
                simp [rowE]
              have HB17 : Hid (Below w8.heap.size w8 w8.drew) := Lib.hid ⟨rfl, rfl, rfl, Nat.le_refl _, fun _ _ => rfl⟩
              go_region_held3 (fun w' => w'.cell? ⟨bq, 0, none⟩ = some (.int .i64 xa) ∧ w'.cell? ⟨bq, 1, none⟩ = some (.int .i64 xb) ∧ w'.cell? ⟨bq, 2, none⟩ = some (.int .i64 xc) ∧ w'.cell? ⟨bq, 3, none⟩ = some (.int .i64 xd)
                  ∧ w'.cell? ⟨by', 0, none⟩ = some (.int .i64 rt) ∧ w'.cell? ⟨by', 1, none⟩ = some (.int .i64 rk) ∧ w'.cell? ⟨by', 2, none⟩ = some (.int .i64 ra1) ∧ w'.cell? ⟨by', 3, none⟩ = some (.int .i64 rb1) ∧ w'.cell? ⟨by', 4, none⟩ = some (.int .i64 rc1)
                  ∧ w'.cell? ⟨bz, 0, none⟩ = some (.int .i64 rt) ∧ w'.cell? ⟨bz, 1, none⟩ = some (.int .i64 rk) ∧ w'.cell? ⟨bz, 2, none⟩ = some (.int .i64 ra1) ∧ w'.cell? ⟨bz, 3, none⟩ = some (.int .i64 rb1) ∧ w'.cell? ⟨bz, 4, none⟩ = some (.int .i64 rc1))
                (first | exact HK.out _ HB17.out | exact HK.out _ hb17.out | exact HK.out _ hb24.out | exact HK.out _ hb25.out | exact HK.out _ hb23.out)
                (first | (go_at_call 17; (with_reducible refine (HF17.out _ HB17.out).mono ?_); rintro e w9 ⟨rfl, hb17⟩) | (go_at_call 24; (with_reducible refine (HF24.out _ hb17.out).mono ?_); rintro e w10 ⟨va, M, rfl, hr24, hi24, hb24⟩) | (go_at_call 25; (with_reducible refine (HF25.out _ _ _ hb24 hr24).mono ?_); rintro e w11 ⟨vb, N, rfl, hr25, hr25', hi25, hb25⟩) | (go_at_call 23; (with_reducible refine (HF23.out _ _ _ _ _ hb25 hr25' hr25 hi24 hi25).mono ?_); rintro e w12 ⟨rfl, hb23⟩))
              have HBl := Lib.hid (bt HBi.out (bt HBi8.out hb23.out))
              clear HNE
              go_wp2_with fail
              exact ⟨⟨i + 1, by omega, by go_num, HBl⟩, by simp [intOf]; omega⟩
            · obtain rfl : i = 2 := by omega
              have HBn := Lib.hid (bt HB4.out (bt HB45.out HBi.out))
              go_wp2_with fail
              exact ⟨⟨k + 1, by omega, by go_num, HBn⟩, by simp [intOf]; omega⟩
    · obtain rfl : k = 2 := by omega
      have HBf := Lib.hid (bt HB0.out (bt HBw2.out HBk.out))
      go_wp2_with fail
      go_ret
      exact ⟨rfl, HBf.out⟩
end Go.Proofs.Ytaapggeaoacikaa
