/- WALK: EvalMatchesReference. -/
import Derived.Test.YtcffofjialihaaaER3
set_option linter.unusedVariables false
set_option linter.unusedSimpArgs false
namespace Go.Proofs.Ytcffofjialihaaa
open Go.RowKit Go.Sort Go.ChangeMaps Go.MapKept

set_option maxRecDepth 100000 in
set_option maxHeartbeats 16000000 in
theorem evalMatches_of {W : World} {p0 : MQ} {v : Value} {n : Nat} (h : XS4 W v n) {x : X4} (hx : x.Ok) : Calls Try.prog 4 #[v, qV p0, x4V x] W fun e w' => e = .returned (.bool true) ∧ Below W.heap.size W w' := by
  have HX := Lib.hid h
  have HQ := Lib.hid (fun w => query_any x hx w)
  obtain ⟨q, Hq⟩ : ∃ q, Hid (qryX x = q) := ⟨_, Lib.hid rfl⟩
  rw [Hq.out] at HQ
  obtain ⟨x0, x1, x2, x3⟩ := x
  obtain ⟨pk, pt, pc, pl, ph, py, po⟩ := p0
  unfold x4V at *
  obtain ⟨qk, qt, qc, ql, qh, qy, qo⟩ := q
  unfold qV at HQ ⊢
  simp only at *
  clear Hq hx h
  go_enter Try.func4, Try.ntmps4
  go_upto_region 1 with fail
  generalize hw0 : (W.alloc _).alloc _ = w0
  have HB0 : Hid (Below W.heap.size W w0) := Lib.hid (by rw [← hw0]; exact bt (ba W _) (ba _ _))
  have HP0 : Hid (w0.heap[W.heap.size]? = some (.cells (qC ⟨pk, pt, pc, pl, ph, py, po⟩) 23 (0, 0))) := Lib.hid (by rw [← hw0]; exact ((ba (W.alloc _) _).block _ (by simp)).trans (heap_alloc_new W _))
  have HC0 : Hid (w0.heap[W.heap.size + 1]? = some (.cells #[.int .i64 x0, .int .i64 x1, .int .i64 x2, .int .i64 x3] 24 (0, 0))) := Lib.hid (by
    rw [← hw0]
    have h := heap_alloc_new (W.alloc (.cells (qC ⟨pk, pt, pc, pl, ph, py, po⟩) 23)) (.cells #[.int .i64 x0, .int .i64 x1, .int .i64 x2, .int .i64 x3] 24)
    rw [World.size_alloc] at h
    exact h)
  clear hw0
  go_wp2_with fail
  refine (sane_any _).mono ?_
  rintro e w1 ⟨rfl, hb⟩
  have HB1 := Lib.hid (bt HB0.out hb)
  have HC1 := Lib.hid ((hb.block _ (lt_of_block HC0.out)).trans HC0.out)
  have HP1 := Lib.hid ((hb.block _ (lt_of_block HP0.out)).trans HP0.out)
  clear hb HC0 HB0 HP0
  go_wp2_with fail
  refine (changes_any (HX.out.below HB1.out)).mono ?_
  rintro e w2 ⟨R, u, rfl, hrs, hch, -, -, hb⟩
  have HRS := Lib.hid hrs
  have HCh := Lib.hid hch
  have HB2 := Lib.hid (bt HB1.out hb)
  have HC2 := Lib.hid ((hb.block _ (lt_of_block HC1.out)).trans HC1.out)
  have HP2 := Lib.hid ((hb.block _ (lt_of_block HP1.out)).trans HP1.out)
  clear hb HC1 HB1 HP1 hch HX
  obtain ⟨ra, rn, rcap, rfl, hrn, -, -, -⟩ := hrs
  have HN0 := Lib.hid hrn
  clear hrn
  go_upto_region 3 with fail
  go_wp2_with fail
  refine (at_any HRS.out HCh.out rn (by have := HN0.out; omega)).mono ?_
  rintro e w3 ⟨sb, sm, rfl, hst, -, hb⟩
  have HS3 := Lib.hid hst
  have HRS3 := Lib.hid (HRS.out.below hb)
  have HB23 := Lib.hid hb
  clear hst hb HRS
  go_upto_region 4 with fail
  go_wp2_with fail
  refine (atR_any HRS3.out HCh.out rn (by have := HN0.out; omega)).mono ?_
  rintro e w4 ⟨tb, tv, rfl, hrf, -, -, hb⟩
  have HT4 := Lib.hid hrf
  have HS4 := Lib.hid (HS3.out.below hb)
  have HB24 := Lib.hid (bt HB23.out hb)
  have HB4 := Lib.hid (bt HB2.out HB24.out)
  have HC4 := Lib.hid ((HB24.out.block _ (lt_of_block HC2.out)).trans HC2.out)
  have HP4 := Lib.hid ((HB24.out.block _ (lt_of_block HP2.out)).trans HP2.out)
  clear hrf hb HS3 HRS3 HB23 HB24 HB2 HC2 HP2 HCh
  obtain ⟨L, HLe⟩ : ∃ L, Hid (rowsOf (R.take rn) = L) := ⟨_, Lib.hid rfl⟩
  rw [HLe.out] at HS4 HT4
  clear HLe HN0
  have HBd : Hid (Below w4.heap.size w4 w4.drew) := Lib.hid (below_drew _)
  have HK : Hid (∀ w, Below w4.heap.size w4 w → w.cell? ⟨W.heap.size, 0, none⟩ = some (.int .i64 pk) ∧ w.cell? ⟨W.heap.size, 1, none⟩ = some (.int .i64 pt) ∧ w.cell? ⟨W.heap.size, 2, none⟩ = some (.int .i64 pc) ∧ w.cell? ⟨W.heap.size, 3, none⟩ = some (.int .i64 pl) ∧ w.cell? ⟨W.heap.size, 4, none⟩ = some (.int .i64 ph) ∧ w.cell? ⟨W.heap.size, 5, none⟩ = some (.int .i64 py) ∧ w.cell? ⟨W.heap.size, 6, none⟩ = some (.int .i64 po) ∧ w.cell? ⟨W.heap.size + 1, 0, none⟩ = some (.int .i64 x0) ∧ w.cell? ⟨W.heap.size + 1, 1, none⟩ = some (.int .i64 x1) ∧ w.cell? ⟨W.heap.size + 1, 2, none⟩ = some (.int .i64 x2) ∧ w.cell? ⟨W.heap.size + 1, 3, none⟩ = some (.int .i64 x3)) := Lib.hid (fun w hb => by
    have h1 := (hb.block _ (lt_of_block HP4.out)).trans HP4.out
    have h2 := (hb.block _ (lt_of_block HC4.out)).trans HC4.out
    refine ⟨?_, ?_, ?_, ?_, ?_, ?_, ?_, ?_, ?_, ?_, ?_⟩ <;> simp [World.cell?, qC, h1, h2])
  have HC16 : Hid (∀ w, Hid (Below w4.heap.size w4 w) → Calls Try.prog 16 #[.agg #[.int .i64 x0, .int .i64 x1, .int .i64 x2, .int .i64 x3]] w fun e w' => e = .returned (.agg #[.int .i64 qk, .int .i64 qt, .int .i64 qc, .int .i64 ql, .int .i64 qh, .int .i64 qy, .int .i64 qo]) ∧ Hid (Below w4.heap.size w4 w')) := Lib.hid (fun w hb => (HQ.out w).mono fun e w' hw => ⟨hw.1, Lib.hid (bt hb.out hw.2)⟩)
  go_upto_region 7 with fail
  go_region_held3 (fun w => w.cell? ⟨W.heap.size, 0, none⟩ = some (.int .i64 pk) ∧ w.cell? ⟨W.heap.size, 1, none⟩ = some (.int .i64 pt) ∧ w.cell? ⟨W.heap.size, 2, none⟩ = some (.int .i64 pc) ∧ w.cell? ⟨W.heap.size, 3, none⟩ = some (.int .i64 pl) ∧ w.cell? ⟨W.heap.size, 4, none⟩ = some (.int .i64 ph) ∧ w.cell? ⟨W.heap.size, 5, none⟩ = some (.int .i64 py) ∧ w.cell? ⟨W.heap.size, 6, none⟩ = some (.int .i64 po) ∧ w.cell? ⟨W.heap.size + 1, 0, none⟩ = some (.int .i64 x0) ∧ w.cell? ⟨W.heap.size + 1, 1, none⟩ = some (.int .i64 x1) ∧ w.cell? ⟨W.heap.size + 1, 2, none⟩ = some (.int .i64 x2) ∧ w.cell? ⟨W.heap.size + 1, 3, none⟩ = some (.int .i64 x3))
    (first | exact HK.out _ HBd.out | exact HK.out _ HBk.out | exact HK.out _ (bt HBk.out (ba _ _)))
    (first
      | (go_at_call 16; (with_reducible refine (HC16.out _ HBd).mono ?_); rintro e w5 ⟨rfl, HBk⟩))
  generalize hw6 : w5.alloc _ = w6
  have HB46 : Hid (Below w4.heap.size w4 w6) := Lib.hid (by rw [← hw6]; exact bt HBk.out (ba _ _))
  have HZ6 : Hid (w6.heap[w5.heap.size]? = some (.cells #[.int .i64 pk, .int .i64 pt, .int .i64 pc, .int .i64 pl, .int .i64 ph, .int .i64 py, .int .i64 po, .int .i64 qk, .int .i64 qt, .int .i64 qc, .int .i64 ql, .int .i64 qh, .int .i64 qy, .int .i64 qo] 23 (0, 0))) := Lib.hid (by rw [← hw6]; exact heap_alloc_new w5 _)
  obtain ⟨zb, Hzb⟩ : ∃ b, Hid (w5.heap.size = b) := ⟨_, Lib.hid rfl⟩
  rw [Hzb.out] at HZ6 ⊢
  have HB6 := Lib.hid (bt HB4.out HB46.out)
  have HS6 := Lib.hid (HS4.out.below HB46.out)
  have HT6 := Lib.hid (HT4.out.below' HB46.out)
  clear hw6 HBk Hzb HB46 HB4 HS4 HT4 HK HC16 HBd HC4 HP4 HQ
  go_wp2_with fail
  go_loopw [47] (fun iv wr => ∃ k : Nat, k ≤ 2 ∧ iv = .int .i64 k ∧ Hid (Below w6.heap.size w6 wr)) (fun i _ => 2 - (intOf i).toNat)
  case atStart => exact ⟨0, by omega, rfl, Lib.hid (Below.refl _ _)⟩
  case round =>
    obtain ⟨k, hk, rfl, HB⟩ := hrel
    have HZr := Lib.hid ((HB.out.block _ (lt_of_block HZ6.out)).trans HZ6.out)
    obtain hk2 | hk2 | hk2 : k = 2 ∨ k = 0 ∨ k = 1 := by omega
    · subst hk2
      have HBf := Lib.hid (bt HB6.out HB.out)
      go_wp2_with fail
      go_ret
      exact ⟨rfl, HBf.out⟩
    · subst hk2
      have z0 : wr.cell? ⟨zb, 0, none⟩ = some (.int .i64 pk) := by simp [World.cell?, HZr.out]
      have z1 : wr.cell? ⟨zb, 1, none⟩ = some (.int .i64 pt) := by simp [World.cell?, HZr.out]
      have z2 : wr.cell? ⟨zb, 2, none⟩ = some (.int .i64 pc) := by simp [World.cell?, HZr.out]
      have z3 : wr.cell? ⟨zb, 3, none⟩ = some (.int .i64 pl) := by simp [World.cell?, HZr.out]
      have z4 : wr.cell? ⟨zb, 4, none⟩ = some (.int .i64 ph) := by simp [World.cell?, HZr.out]
      have z5 : wr.cell? ⟨zb, 5, none⟩ = some (.int .i64 py) := by simp [World.cell?, HZr.out]
      have z6 : wr.cell? ⟨zb, 6, none⟩ = some (.int .i64 po) := by simp [World.cell?, HZr.out]
      go_upto_region 10 with fail
      generalize hw7 : wr.alloc _ = w7
      have HB7 : Hid (Below wr.heap.size wr w7) := Lib.hid (by rw [← hw7]; exact ba _ _)
      have HY7 : Hid (w7.heap[wr.heap.size]? = some (.cells (qC ⟨pk, pt, pc, pl, ph, py, po⟩) 23 (0, 0))) := Lib.hid (by rw [← hw7]; exact heap_alloc_new wr _)
      obtain ⟨yb, Hyb⟩ : ∃ b, Hid (wr.heap.size = b) := ⟨_, Lib.hid rfl⟩
      rw [Hyb.out] at HY7 ⊢
      have HB67 := Lib.hid (bt HB.out HB7.out)
      have HS7 := Lib.hid (HS6.out.below HB67.out)
      have HT7 := Lib.hid (HT6.out.below' HB67.out)
      clear hw7 HB7 Hyb z0 z1 z2 z3 z4 z5 z6 HZr HB
      cases hvz : validB ⟨pk, pt, pc, pl, ph, py, po⟩
      · have HOf := Lib.hid (of_bad hvz sb w7)
        unfold qV ptr at HOf
        simp only at HOf
        have c0 : w7.cell? ⟨yb, 0, none⟩ = some (.int .i64 pk) := by simp [World.cell?, qC, HY7.out]
        have c1 : w7.cell? ⟨yb, 1, none⟩ = some (.int .i64 pt) := by simp [World.cell?, qC, HY7.out]
        have c2 : w7.cell? ⟨yb, 2, none⟩ = some (.int .i64 pc) := by simp [World.cell?, qC, HY7.out]
        have c3 : w7.cell? ⟨yb, 3, none⟩ = some (.int .i64 pl) := by simp [World.cell?, qC, HY7.out]
        have c4 : w7.cell? ⟨yb, 4, none⟩ = some (.int .i64 ph) := by simp [World.cell?, qC, HY7.out]
        have c5 : w7.cell? ⟨yb, 5, none⟩ = some (.int .i64 py) := by simp [World.cell?, qC, HY7.out]
        have c6 : w7.cell? ⟨yb, 6, none⟩ = some (.int .i64 po) := by simp [World.cell?, qC, HY7.out]
        go_wp2_with fail
        (with_reducible refine HOf.out.mono ?_)
        rintro e w8 ⟨rfl, hb⟩
        have HB78 := Lib.hid hb
        clear hb c0 c1 c2 c3 c4 c5 c6 HOf
        unfold resV
        go_upto_region 11 with fail
        generalize hw9 : w8.alloc _ = w9
        have HB79 : Hid (Below w7.heap.size w7 w9) := Lib.hid (by rw [← hw9]; exact bt HB78.out (ba _ _))
        have HR9 : Hid (w9.heap[w8.heap.size]? = some (.cells (resC (.slice none 0 0) 0 false) 27 (0, 0))) := Lib.hid (by rw [← hw9]; exact heap_alloc_new w8 _)
        obtain ⟨rb, Hrb⟩ : ∃ b, Hid (w8.heap.size = b) := ⟨_, Lib.hid rfl⟩
        rw [Hrb.out] at HR9 ⊢
        have HY9 := Lib.hid ((HB79.out.block _ (lt_of_block HY7.out)).trans HY7.out)
        clear hw9 HB78 Hrb
        have HOr := Lib.hid (ofR_bad hvz tb w9)
        unfold qV ptr at HOr
        simp only at HOr
        clear hvz
        have c0 : w9.cell? ⟨yb, 0, none⟩ = some (.int .i64 pk) := by simp [World.cell?, qC, HY9.out]
        have c1 : w9.cell? ⟨yb, 1, none⟩ = some (.int .i64 pt) := by simp [World.cell?, qC, HY9.out]
        have c2 : w9.cell? ⟨yb, 2, none⟩ = some (.int .i64 pc) := by simp [World.cell?, qC, HY9.out]
        have c3 : w9.cell? ⟨yb, 3, none⟩ = some (.int .i64 pl) := by simp [World.cell?, qC, HY9.out]
        have c4 : w9.cell? ⟨yb, 4, none⟩ = some (.int .i64 ph) := by simp [World.cell?, qC, HY9.out]
        have c5 : w9.cell? ⟨yb, 5, none⟩ = some (.int .i64 py) := by simp [World.cell?, qC, HY9.out]
        have c6 : w9.cell? ⟨yb, 6, none⟩ = some (.int .i64 po) := by simp [World.cell?, qC, HY9.out]
        go_wp2_with fail
        (with_reducible refine HOr.out.mono ?_)
        rintro e w10 ⟨rfl, hb⟩
        have HB910 := Lib.hid hb
        clear hb c0 c1 c2 c3 c4 c5 c6 HOr
        unfold resV
        go_upto_region 12 with fail
        generalize hw11 : w10.alloc _ = w11
        have HB911 : Hid (Below w9.heap.size w9 w11) := Lib.hid (by rw [← hw11]; exact bt HB910.out (ba _ _))
        have HR11 : Hid (w11.heap[w10.heap.size]? = some (.cells (resC (.slice none 0 0) 0 false) 27 (0, 0))) := Lib.hid (by rw [← hw11]; exact heap_alloc_new w10 _)
        obtain ⟨rc, Hrc⟩ : ∃ b, Hid (w10.heap.size = b) := ⟨_, Lib.hid rfl⟩
        rw [Hrc.out] at HR11 ⊢
        have HX11 := Lib.hid ((HB911.out.block _ (lt_of_block HR9.out)).trans HR9.out)
        have HB611 := Lib.hid (bt HB67.out (bt HB79.out HB911.out))
        clear hw11 HB910 Hrc
        have HSm := Lib.hid (rfSame_any (rowS_nil w11) (rowS_nil w11) 0 0 false false)
        have e2 : decide ((0 : Int) = 0 ∧ false = false ∧ ([] : List MRow) = []) = true := by simp
        rw [e2] at HSm
        clear e2
        have a0 : w11.cell? ⟨rb, 0, none⟩ = some (.slice none 0 0) := by simp [World.cell?, HX11.out]
        have a1 : w11.cell? ⟨rb, 1, none⟩ = some (.int .i64 0) := by simp [World.cell?, HX11.out]
        have a2 : w11.cell? ⟨rb, 2, none⟩ = some (.bool false) := by simp [World.cell?, HX11.out]
        have b0 : w11.cell? ⟨rc, 0, none⟩ = some (.slice none 0 0) := by simp [World.cell?, HR11.out]
        have b1 : w11.cell? ⟨rc, 1, none⟩ = some (.int .i64 0) := by simp [World.cell?, HR11.out]
        have b2 : w11.cell? ⟨rc, 2, none⟩ = some (.bool false) := by simp [World.cell?, HR11.out]
        go_wp2_with fail
        refine HSm.out.mono ?_
        rintro e w12 ⟨rfl, hb⟩
        have HB12 := Lib.hid (bt HB611.out hb)
        clear hb a0 a1 a2 b0 b1 b2
        go_wp2_with fail
        exact ⟨⟨1, by omega, by go_num, HB12⟩, by simp [intOf]⟩
      · have Hvz := Lib.hid hvz
        have HOf := Lib.hid (of_any HS7.out hvz)
        unfold qV ptr at HOf
        simp only at HOf
        clear hvz
        have c0 : w7.cell? ⟨yb, 0, none⟩ = some (.int .i64 pk) := by simp [World.cell?, qC, HY7.out]
        have c1 : w7.cell? ⟨yb, 1, none⟩ = some (.int .i64 pt) := by simp [World.cell?, qC, HY7.out]
        have c2 : w7.cell? ⟨yb, 2, none⟩ = some (.int .i64 pc) := by simp [World.cell?, qC, HY7.out]
        have c3 : w7.cell? ⟨yb, 3, none⟩ = some (.int .i64 pl) := by simp [World.cell?, qC, HY7.out]
        have c4 : w7.cell? ⟨yb, 4, none⟩ = some (.int .i64 ph) := by simp [World.cell?, qC, HY7.out]
        have c5 : w7.cell? ⟨yb, 5, none⟩ = some (.int .i64 py) := by simp [World.cell?, qC, HY7.out]
        have c6 : w7.cell? ⟨yb, 6, none⟩ = some (.int .i64 po) := by simp [World.cell?, qC, HY7.out]
        go_wp2_with fail
        (with_reducible refine HOf.out.mono ?_)
        rintro e w8 ⟨u, M, rfl, ho, hsm, hb⟩
        obtain ⟨T, v', f', HT⟩ : ∃ T v f, Hid (resM ⟨pk, pt, pc, pl, ph, py, po⟩ M (L.filter (selT po)) = ⟨T, v, f⟩) := ⟨_, _, _, Lib.hid rfl⟩
        simp only at ho hsm ⊢
        rw [HT.out] at ho ⊢
        simp only at ho ⊢
        obtain ⟨sa, sn, sc, rfl⟩ := ho.form
        have HO8 := Lib.hid ho
        have HM := Lib.hid hsm
        have HB78 := Lib.hid hb
        clear ho hsm hb c0 c1 c2 c3 c4 c5 c6 HOf
        unfold resV
        go_upto_region 11 with fail
        generalize hw9 : w8.alloc _ = w9
        have HB89 : Hid (Below w8.heap.size w8 w9) := Lib.hid (by rw [← hw9]; exact ba _ _)
        have HB79 : Hid (Below w7.heap.size w7 w9) := Lib.hid (bt HB78.out HB89.out)
        have HR9 : Hid (w9.heap[w8.heap.size]? = some (.cells (resC (.slice sa sn sc) v' f') 27 (0, 0))) := Lib.hid (by rw [← hw9]; exact heap_alloc_new w8 _)
        obtain ⟨rb, Hrb⟩ : ∃ b, Hid (w8.heap.size = b) := ⟨_, Lib.hid rfl⟩
        rw [Hrb.out] at HR9 ⊢
        have HY9 := Lib.hid ((HB79.out.block _ (lt_of_block HY7.out)).trans HY7.out)
        have HO9 := Lib.hid (HO8.out.below HB89.out).rowS
        have HT9 := Lib.hid (HT7.out.below' HB79.out)
        clear hw9 HB78 HB89 Hrb HO8
        have HOr := Lib.hid (ofR_any HT9.out Hvz.out)
        unfold qV ptr at HOr
        simp only at HOr
        have c0 : w9.cell? ⟨yb, 0, none⟩ = some (.int .i64 pk) := by simp [World.cell?, qC, HY9.out]
        have c1 : w9.cell? ⟨yb, 1, none⟩ = some (.int .i64 pt) := by simp [World.cell?, qC, HY9.out]
        have c2 : w9.cell? ⟨yb, 2, none⟩ = some (.int .i64 pc) := by simp [World.cell?, qC, HY9.out]
        have c3 : w9.cell? ⟨yb, 3, none⟩ = some (.int .i64 pl) := by simp [World.cell?, qC, HY9.out]
        have c4 : w9.cell? ⟨yb, 4, none⟩ = some (.int .i64 ph) := by simp [World.cell?, qC, HY9.out]
        have c5 : w9.cell? ⟨yb, 5, none⟩ = some (.int .i64 py) := by simp [World.cell?, qC, HY9.out]
        have c6 : w9.cell? ⟨yb, 6, none⟩ = some (.int .i64 po) := by simp [World.cell?, qC, HY9.out]
        go_wp2_with fail
        (with_reducible refine HOr.out.mono ?_)
        rintro e w10 ⟨u, M', rfl, ho, hsm, hb⟩
        simp only at ho hsm ⊢
        have hMM : M' = M := sortOf_unique (t := pt) HS7.out.good.1 (fun r hr => by unfold selR at hr; simp at hr; exact hr.1) hsm HM.out
        subst hMM
        rw [HT.out] at ho ⊢
        simp only at ho ⊢
        obtain ⟨ta, tn, tc, rfl⟩ := ho.form
        have HO10 := Lib.hid ho
        have HB910 := Lib.hid hb
        clear ho hsm hb c0 c1 c2 c3 c4 c5 c6 HOr
        unfold resV
        go_upto_region 12 with fail
        generalize hw11 : w10.alloc _ = w11
        have HB1011 : Hid (Below w10.heap.size w10 w11) := Lib.hid (by rw [← hw11]; exact ba _ _)
        have HB911 : Hid (Below w9.heap.size w9 w11) := Lib.hid (bt HB910.out HB1011.out)
        have HR11 : Hid (w11.heap[w10.heap.size]? = some (.cells (resC (.slice ta tn tc) v' f') 27 (0, 0))) := Lib.hid (by rw [← hw11]; exact heap_alloc_new w10 _)
        obtain ⟨rc, Hrc⟩ : ∃ b, Hid (w10.heap.size = b) := ⟨_, Lib.hid rfl⟩
        rw [Hrc.out] at HR11 ⊢
        have HX11 := Lib.hid ((HB911.out.block _ (lt_of_block HR9.out)).trans HR9.out)
        have HB611 := Lib.hid (bt HB67.out (bt HB79.out HB911.out))
        have HSm := Lib.hid (rfSame_any (HO9.out.below HB911.out) (HO10.out.below HB1011.out).rowS v' v' f' f')
        have e2 : decide (v' = v' ∧ f' = f' ∧ T = T) = true := by simp
        rw [e2] at HSm
        clear hw11 HB910 HB1011 Hrc e2
        have a0 : w11.cell? ⟨rb, 0, none⟩ = some (.slice sa sn sc) := by simp [World.cell?, HX11.out]
        have a1 : w11.cell? ⟨rb, 1, none⟩ = some (.int .i64 v') := by simp [World.cell?, HX11.out]
        have a2 : w11.cell? ⟨rb, 2, none⟩ = some (.bool f') := by simp [World.cell?, HX11.out]
        have b0 : w11.cell? ⟨rc, 0, none⟩ = some (.slice ta tn tc) := by simp [World.cell?, HR11.out]
        have b1 : w11.cell? ⟨rc, 1, none⟩ = some (.int .i64 v') := by simp [World.cell?, HR11.out]
        have b2 : w11.cell? ⟨rc, 2, none⟩ = some (.bool f') := by simp [World.cell?, HR11.out]
        go_wp2_with fail
        refine HSm.out.mono ?_
        rintro e w12 ⟨rfl, hb⟩
        have HB12 := Lib.hid (bt HB611.out hb)
        clear hb a0 a1 a2 b0 b1 b2
        go_wp2_with fail
        exact ⟨⟨1, by omega, by go_num, HB12⟩, by simp [intOf]⟩
    · subst hk2
      have z0 : wr.cell? ⟨zb, 7, none⟩ = some (.int .i64 qk) := by simp [World.cell?, HZr.out]
      have z1 : wr.cell? ⟨zb, 8, none⟩ = some (.int .i64 qt) := by simp [World.cell?, HZr.out]
      have z2 : wr.cell? ⟨zb, 9, none⟩ = some (.int .i64 qc) := by simp [World.cell?, HZr.out]
      have z3 : wr.cell? ⟨zb, 10, none⟩ = some (.int .i64 ql) := by simp [World.cell?, HZr.out]
      have z4 : wr.cell? ⟨zb, 11, none⟩ = some (.int .i64 qh) := by simp [World.cell?, HZr.out]
      have z5 : wr.cell? ⟨zb, 12, none⟩ = some (.int .i64 qy) := by simp [World.cell?, HZr.out]
      have z6 : wr.cell? ⟨zb, 13, none⟩ = some (.int .i64 qo) := by simp [World.cell?, HZr.out]
      go_upto_region 10 with fail
      generalize hw7 : wr.alloc _ = w7
      have HB7 : Hid (Below wr.heap.size wr w7) := Lib.hid (by rw [← hw7]; exact ba _ _)
      have HY7 : Hid (w7.heap[wr.heap.size]? = some (.cells (qC ⟨qk, qt, qc, ql, qh, qy, qo⟩) 23 (0, 0))) := Lib.hid (by rw [← hw7]; exact heap_alloc_new wr _)
      obtain ⟨yb, Hyb⟩ : ∃ b, Hid (wr.heap.size = b) := ⟨_, Lib.hid rfl⟩
      rw [Hyb.out] at HY7 ⊢
      have HB67 := Lib.hid (bt HB.out HB7.out)
      have HS7 := Lib.hid (HS6.out.below HB67.out)
      have HT7 := Lib.hid (HT6.out.below' HB67.out)
      clear hw7 HB7 Hyb z0 z1 z2 z3 z4 z5 z6 HZr HB
      cases hvz : validB ⟨qk, qt, qc, ql, qh, qy, qo⟩
      · have HOf := Lib.hid (of_bad hvz sb w7)
        unfold qV ptr at HOf
        simp only at HOf
        have c0 : w7.cell? ⟨yb, 0, none⟩ = some (.int .i64 qk) := by simp [World.cell?, qC, HY7.out]
        have c1 : w7.cell? ⟨yb, 1, none⟩ = some (.int .i64 qt) := by simp [World.cell?, qC, HY7.out]
        have c2 : w7.cell? ⟨yb, 2, none⟩ = some (.int .i64 qc) := by simp [World.cell?, qC, HY7.out]
        have c3 : w7.cell? ⟨yb, 3, none⟩ = some (.int .i64 ql) := by simp [World.cell?, qC, HY7.out]
        have c4 : w7.cell? ⟨yb, 4, none⟩ = some (.int .i64 qh) := by simp [World.cell?, qC, HY7.out]
        have c5 : w7.cell? ⟨yb, 5, none⟩ = some (.int .i64 qy) := by simp [World.cell?, qC, HY7.out]
        have c6 : w7.cell? ⟨yb, 6, none⟩ = some (.int .i64 qo) := by simp [World.cell?, qC, HY7.out]
        go_wp2_with fail
        (with_reducible refine HOf.out.mono ?_)
        rintro e w8 ⟨rfl, hb⟩
        have HB78 := Lib.hid hb
        clear hb c0 c1 c2 c3 c4 c5 c6 HOf
        unfold resV
        go_upto_region 11 with fail
        generalize hw9 : w8.alloc _ = w9
        have HB79 : Hid (Below w7.heap.size w7 w9) := Lib.hid (by rw [← hw9]; exact bt HB78.out (ba _ _))
        have HR9 : Hid (w9.heap[w8.heap.size]? = some (.cells (resC (.slice none 0 0) 0 false) 27 (0, 0))) := Lib.hid (by rw [← hw9]; exact heap_alloc_new w8 _)
        obtain ⟨rb, Hrb⟩ : ∃ b, Hid (w8.heap.size = b) := ⟨_, Lib.hid rfl⟩
        rw [Hrb.out] at HR9 ⊢
        have HY9 := Lib.hid ((HB79.out.block _ (lt_of_block HY7.out)).trans HY7.out)
        clear hw9 HB78 Hrb
        have HOr := Lib.hid (ofR_bad hvz tb w9)
        unfold qV ptr at HOr
        simp only at HOr
        clear hvz
        have c0 : w9.cell? ⟨yb, 0, none⟩ = some (.int .i64 qk) := by simp [World.cell?, qC, HY9.out]
        have c1 : w9.cell? ⟨yb, 1, none⟩ = some (.int .i64 qt) := by simp [World.cell?, qC, HY9.out]
        have c2 : w9.cell? ⟨yb, 2, none⟩ = some (.int .i64 qc) := by simp [World.cell?, qC, HY9.out]
        have c3 : w9.cell? ⟨yb, 3, none⟩ = some (.int .i64 ql) := by simp [World.cell?, qC, HY9.out]
        have c4 : w9.cell? ⟨yb, 4, none⟩ = some (.int .i64 qh) := by simp [World.cell?, qC, HY9.out]
        have c5 : w9.cell? ⟨yb, 5, none⟩ = some (.int .i64 qy) := by simp [World.cell?, qC, HY9.out]
        have c6 : w9.cell? ⟨yb, 6, none⟩ = some (.int .i64 qo) := by simp [World.cell?, qC, HY9.out]
        go_wp2_with fail
        (with_reducible refine HOr.out.mono ?_)
        rintro e w10 ⟨rfl, hb⟩
        have HB910 := Lib.hid hb
        clear hb c0 c1 c2 c3 c4 c5 c6 HOr
        unfold resV
        go_upto_region 12 with fail
        generalize hw11 : w10.alloc _ = w11
        have HB911 : Hid (Below w9.heap.size w9 w11) := Lib.hid (by rw [← hw11]; exact bt HB910.out (ba _ _))
        have HR11 : Hid (w11.heap[w10.heap.size]? = some (.cells (resC (.slice none 0 0) 0 false) 27 (0, 0))) := Lib.hid (by rw [← hw11]; exact heap_alloc_new w10 _)
        obtain ⟨rc, Hrc⟩ : ∃ b, Hid (w10.heap.size = b) := ⟨_, Lib.hid rfl⟩
        rw [Hrc.out] at HR11 ⊢
        have HX11 := Lib.hid ((HB911.out.block _ (lt_of_block HR9.out)).trans HR9.out)
        have HB611 := Lib.hid (bt HB67.out (bt HB79.out HB911.out))
        clear hw11 HB910 Hrc
        have HSm := Lib.hid (rfSame_any (rowS_nil w11) (rowS_nil w11) 0 0 false false)
        have e2 : decide ((0 : Int) = 0 ∧ false = false ∧ ([] : List MRow) = []) = true := by simp
        rw [e2] at HSm
        clear e2
        have a0 : w11.cell? ⟨rb, 0, none⟩ = some (.slice none 0 0) := by simp [World.cell?, HX11.out]
        have a1 : w11.cell? ⟨rb, 1, none⟩ = some (.int .i64 0) := by simp [World.cell?, HX11.out]
        have a2 : w11.cell? ⟨rb, 2, none⟩ = some (.bool false) := by simp [World.cell?, HX11.out]
        have b0 : w11.cell? ⟨rc, 0, none⟩ = some (.slice none 0 0) := by simp [World.cell?, HR11.out]
        have b1 : w11.cell? ⟨rc, 1, none⟩ = some (.int .i64 0) := by simp [World.cell?, HR11.out]
        have b2 : w11.cell? ⟨rc, 2, none⟩ = some (.bool false) := by simp [World.cell?, HR11.out]
        go_wp2_with fail
        refine HSm.out.mono ?_
        rintro e w12 ⟨rfl, hb⟩
        have HB12 := Lib.hid (bt HB611.out hb)
        clear hb a0 a1 a2 b0 b1 b2
        go_wp2_with fail
        exact ⟨⟨2, by omega, by go_num, HB12⟩, by simp [intOf]⟩
      · have Hvz := Lib.hid hvz
        have HOf := Lib.hid (of_any HS7.out hvz)
        unfold qV ptr at HOf
        simp only at HOf
        clear hvz
        have c0 : w7.cell? ⟨yb, 0, none⟩ = some (.int .i64 qk) := by simp [World.cell?, qC, HY7.out]
        have c1 : w7.cell? ⟨yb, 1, none⟩ = some (.int .i64 qt) := by simp [World.cell?, qC, HY7.out]
        have c2 : w7.cell? ⟨yb, 2, none⟩ = some (.int .i64 qc) := by simp [World.cell?, qC, HY7.out]
        have c3 : w7.cell? ⟨yb, 3, none⟩ = some (.int .i64 ql) := by simp [World.cell?, qC, HY7.out]
        have c4 : w7.cell? ⟨yb, 4, none⟩ = some (.int .i64 qh) := by simp [World.cell?, qC, HY7.out]
        have c5 : w7.cell? ⟨yb, 5, none⟩ = some (.int .i64 qy) := by simp [World.cell?, qC, HY7.out]
        have c6 : w7.cell? ⟨yb, 6, none⟩ = some (.int .i64 qo) := by simp [World.cell?, qC, HY7.out]
        go_wp2_with fail
        (with_reducible refine HOf.out.mono ?_)
        rintro e w8 ⟨u, M, rfl, ho, hsm, hb⟩
        obtain ⟨T, v', f', HT⟩ : ∃ T v f, Hid (resM ⟨qk, qt, qc, ql, qh, qy, qo⟩ M (L.filter (selT qo)) = ⟨T, v, f⟩) := ⟨_, _, _, Lib.hid rfl⟩
        simp only at ho hsm ⊢
        rw [HT.out] at ho ⊢
        simp only at ho ⊢
        obtain ⟨sa, sn, sc, rfl⟩ := ho.form
        have HO8 := Lib.hid ho
        have HM := Lib.hid hsm
        have HB78 := Lib.hid hb
        clear ho hsm hb c0 c1 c2 c3 c4 c5 c6 HOf
        unfold resV
        go_upto_region 11 with fail
        generalize hw9 : w8.alloc _ = w9
        have HB89 : Hid (Below w8.heap.size w8 w9) := Lib.hid (by rw [← hw9]; exact ba _ _)
        have HB79 : Hid (Below w7.heap.size w7 w9) := Lib.hid (bt HB78.out HB89.out)
        have HR9 : Hid (w9.heap[w8.heap.size]? = some (.cells (resC (.slice sa sn sc) v' f') 27 (0, 0))) := Lib.hid (by rw [← hw9]; exact heap_alloc_new w8 _)
        obtain ⟨rb, Hrb⟩ : ∃ b, Hid (w8.heap.size = b) := ⟨_, Lib.hid rfl⟩
        rw [Hrb.out] at HR9 ⊢
        have HY9 := Lib.hid ((HB79.out.block _ (lt_of_block HY7.out)).trans HY7.out)
        have HO9 := Lib.hid (HO8.out.below HB89.out).rowS
        have HT9 := Lib.hid (HT7.out.below' HB79.out)
        clear hw9 HB78 HB89 Hrb HO8
        have HOr := Lib.hid (ofR_any HT9.out Hvz.out)
        unfold qV ptr at HOr
        simp only at HOr
        have c0 : w9.cell? ⟨yb, 0, none⟩ = some (.int .i64 qk) := by simp [World.cell?, qC, HY9.out]
        have c1 : w9.cell? ⟨yb, 1, none⟩ = some (.int .i64 qt) := by simp [World.cell?, qC, HY9.out]
        have c2 : w9.cell? ⟨yb, 2, none⟩ = some (.int .i64 qc) := by simp [World.cell?, qC, HY9.out]
        have c3 : w9.cell? ⟨yb, 3, none⟩ = some (.int .i64 ql) := by simp [World.cell?, qC, HY9.out]
        have c4 : w9.cell? ⟨yb, 4, none⟩ = some (.int .i64 qh) := by simp [World.cell?, qC, HY9.out]
        have c5 : w9.cell? ⟨yb, 5, none⟩ = some (.int .i64 qy) := by simp [World.cell?, qC, HY9.out]
        have c6 : w9.cell? ⟨yb, 6, none⟩ = some (.int .i64 qo) := by simp [World.cell?, qC, HY9.out]
        go_wp2_with fail
        (with_reducible refine HOr.out.mono ?_)
        rintro e w10 ⟨u, M', rfl, ho, hsm, hb⟩
        simp only at ho hsm ⊢
        have hMM : M' = M := sortOf_unique (t := qt) HS7.out.good.1 (fun r hr => by unfold selR at hr; simp at hr; exact hr.1) hsm HM.out
        subst hMM
        rw [HT.out] at ho ⊢
        simp only at ho ⊢
        obtain ⟨ta, tn, tc, rfl⟩ := ho.form
        have HO10 := Lib.hid ho
        have HB910 := Lib.hid hb
        clear ho hsm hb c0 c1 c2 c3 c4 c5 c6 HOr
        unfold resV
        go_upto_region 12 with fail
        generalize hw11 : w10.alloc _ = w11
        have HB1011 : Hid (Below w10.heap.size w10 w11) := Lib.hid (by rw [← hw11]; exact ba _ _)
        have HB911 : Hid (Below w9.heap.size w9 w11) := Lib.hid (bt HB910.out HB1011.out)
        have HR11 : Hid (w11.heap[w10.heap.size]? = some (.cells (resC (.slice ta tn tc) v' f') 27 (0, 0))) := Lib.hid (by rw [← hw11]; exact heap_alloc_new w10 _)
        obtain ⟨rc, Hrc⟩ : ∃ b, Hid (w10.heap.size = b) := ⟨_, Lib.hid rfl⟩
        rw [Hrc.out] at HR11 ⊢
        have HX11 := Lib.hid ((HB911.out.block _ (lt_of_block HR9.out)).trans HR9.out)
        have HB611 := Lib.hid (bt HB67.out (bt HB79.out HB911.out))
        have HSm := Lib.hid (rfSame_any (HO9.out.below HB911.out) (HO10.out.below HB1011.out).rowS v' v' f' f')
        have e2 : decide (v' = v' ∧ f' = f' ∧ T = T) = true := by simp
        rw [e2] at HSm
        clear hw11 HB910 HB1011 Hrc e2
        have a0 : w11.cell? ⟨rb, 0, none⟩ = some (.slice sa sn sc) := by simp [World.cell?, HX11.out]
        have a1 : w11.cell? ⟨rb, 1, none⟩ = some (.int .i64 v') := by simp [World.cell?, HX11.out]
        have a2 : w11.cell? ⟨rb, 2, none⟩ = some (.bool f') := by simp [World.cell?, HX11.out]
        have b0 : w11.cell? ⟨rc, 0, none⟩ = some (.slice ta tn tc) := by simp [World.cell?, HR11.out]
        have b1 : w11.cell? ⟨rc, 1, none⟩ = some (.int .i64 v') := by simp [World.cell?, HR11.out]
        have b2 : w11.cell? ⟨rc, 2, none⟩ = some (.bool f') := by simp [World.cell?, HR11.out]
        go_wp2_with fail
        refine HSm.out.mono ?_
        rintro e w12 ⟨rfl, hb⟩
        have HB12 := Lib.hid (bt HB611.out hb)
        clear hb a0 a1 a2 b0 b1 b2
        go_wp2_with fail
        exact ⟨⟨2, by omega, by go_num, HB12⟩, by simp [intOf]⟩
end Go.Proofs.Ytcffofjialihaaa
