/- WALKS: Follows. -/
import Derived.Test.YtpapfegbodolgaaDoorLV
import Derived.WalkMore
import Derived.Deep.LoopGhost
set_option linter.unusedVariables false
set_option linter.unusedSimpArgs false
namespace Go.Proofs.YtpapfegbodolgaaDoor
open Go.RowKit Go.Sort

theorem ret_bool {a b : Bool} (h : a = b) : Ending.returned (.bool a) = .returned (.bool b) := by rw [h]
theorem folR_snoc (s : ByteArray) (a : MHead) (R : List MRec) (k : Nat) (hk : k < R.length) : folR s a (R.take (k + 1)) = (folR s a (R.take k)).bind fun b => if NxOk b (R.getD k recZ).pos (R.getD k recZ).chs s then some (nxH b (R.getD k recZ).pos (R.getD k recZ).chs s) else none := by
  rw [List.take_succ_eq_append_getElem hk, folR_append, List.getD_eq_getElem?_getD, List.getElem?_eq_getElem hk]
  congr 1
theorem folR_none {s : ByteArray} {a b : MHead} {R : List MRec} {k : Nat} (hk : k < R.length) (h : folR s a (R.take k) = some b) (hn : ¬ NxOk b (R.getD k recZ).pos (R.getD k recZ).chs s) : folR s a R = none := by
  have h1 := folR_snoc s a R k hk
  rw [h, Option.bind_some, if_neg hn] at h1
  rw [← List.take_append_drop (k + 1) R, folR_append, h1]; rfl

set_option maxRecDepth 100000 in
set_option maxHeartbeats 4000000 in
theorem follows_a (a b : MHead) (v : Value) (R : List MRec) (w : World) (hR : RecS w v R) (hk : ¬ Hok a) (hc1 : a.c.size ≤ maxLen) (hs1 : a.s.size ≤ maxLen) :
    Calls Tryd.prog 32 #[headV a, v, headV b] w fun e w' => e = .returned (.bool false) ∧ Below w.heap.size w w' := by
  obtain ⟨va, n, vc, rfl, hn, -⟩ := id hR
  have HR := Lib.hid hR
  obtain ⟨ap, ac, at0⟩ := a
  obtain ⟨bp, bc, bs⟩ := b
  have HK := Lib.hid hk
  have HC := Lib.hid hc1
  have HS := Lib.hid hs1
  clear hk hc1 hs1 hR HR hn
  unfold headV
  go_enter Tryd.func32, Tryd.ntmps32
  go_upto_region 1 with fail
  obtain ⟨w0, Hw0⟩ : ∃ w0, Hid ((w.alloc (.cells #[.int .i64 ap, .string ac, .string at0] 23)).alloc (.cells #[.int .i64 bp, .string bc, .string bs] 23) = w0) := ⟨_, Lib.hid rfl⟩
  obtain ⟨hB0, hA0, hC0⟩ := lay2 w (.cells #[.int .i64 ap, .string ac, .string at0] 23) (.cells #[.int .i64 bp, .string bc, .string bs] 23)
  rw [Hw0.out] at hB0 hA0 hC0 ⊢
  clear Hw0
  have HB0 := Lib.hid hB0
  have HA0 := Lib.hid hA0
  have HC0 := Lib.hid hC0
  clear hB0 hA0 hC0
  go_step3
  go_wp2_with (refine wpList_load_row rfl 23 _ rfl w.heap.size rfl 23 _ _ _ HA0.out Tryd.underlying23 rfl (by kernel_rfl) ?_)
  (with_reducible refine (hvalid_f ⟨ap, ac, at0⟩ _ HC.out HS.out HK.out).mono ?_)
  rintro e w1 ⟨rfl, hb1⟩
  have HB1 := Lib.hid (bt HB0.out hb1)
  have HA1 := Lib.hid (gone hb1 HA0.out)
  have HC1 := Lib.hid (gone hb1 HC0.out)
  clear hb1 HB0 HA0 HC0
  go_wp2_with fail
  try rw [Exit.noGoto_ret]
  go_ret
  exact ⟨rfl, HB1.out⟩

set_option maxRecDepth 100000 in
set_option maxHeartbeats 4000000 in
theorem follows_b (a b : MHead) (v : Value) (R : List MRec) (w : World) (hR : RecS w v R) (ha : Hok a) (hk : ¬ Hok b) (hc1 : b.c.size ≤ maxLen) (hs1 : b.s.size ≤ maxLen) :
    Calls Tryd.prog 32 #[headV a, v, headV b] w fun e w' => e = .returned (.bool false) ∧ Below w.heap.size w w' := by
  obtain ⟨va, n, vc, rfl, hn, -⟩ := id hR
  have HR := Lib.hid hR
  obtain ⟨ap, ac, at0⟩ := a
  obtain ⟨bp, bc, bs⟩ := b
  have HKa := Lib.hid ha
  have HK := Lib.hid hk
  have HC := Lib.hid hc1
  have HS := Lib.hid hs1
  clear ha hk hc1 hs1 hR HR hn
  unfold headV
  go_enter Tryd.func32, Tryd.ntmps32
  go_upto_region 1 with fail
  obtain ⟨w0, Hw0⟩ : ∃ w0, Hid ((w.alloc (.cells #[.int .i64 ap, .string ac, .string at0] 23)).alloc (.cells #[.int .i64 bp, .string bc, .string bs] 23) = w0) := ⟨_, Lib.hid rfl⟩
  obtain ⟨hB0, hA0, hC0⟩ := lay2 w (.cells #[.int .i64 ap, .string ac, .string at0] 23) (.cells #[.int .i64 bp, .string bc, .string bs] 23)
  rw [Hw0.out] at hB0 hA0 hC0 ⊢
  clear Hw0
  have HB0 := Lib.hid hB0
  have HA0 := Lib.hid hA0
  have HC0 := Lib.hid hC0
  clear hB0 hA0 hC0
  go_step3
  go_wp2_with (refine wpList_load_row rfl 23 _ rfl w.heap.size rfl 23 _ _ _ HA0.out Tryd.underlying23 rfl (by kernel_rfl) ?_)
  (with_reducible refine (hvalid_t ⟨ap, ac, at0⟩ _ HKa.out).mono ?_)
  rintro e w1 ⟨rfl, hb1⟩
  have HB1 := Lib.hid (bt HB0.out hb1)
  have HA1 := Lib.hid (gone hb1 HA0.out)
  have HC1 := Lib.hid (gone hb1 HC0.out)
  clear hb1 HB0 HA0 HC0
  go_wp2_with (refine wpList_load_rowW (by rfl) 23 _ rfl (w.heap.size + 1) rfl 23 _ _ _ HC1.out Tryd.underlying23 rfl (by kernel_rfl) ?_)
  (with_reducible refine (hvalid_f ⟨bp, bc, bs⟩ _ HC.out HS.out HK.out).mono ?_)
  rintro e w2 ⟨rfl, hb2⟩
  have HB2 := Lib.hid (bt HB1.out hb2)
  have HA2 := Lib.hid (gone hb2 HA1.out)
  have HC2 := Lib.hid (gone hb2 HC1.out)
  clear hb2 HB1 HA1 HC1
  go_wp2_with fail
  try rw [Exit.noGoto_ret]
  go_ret
  exact ⟨rfl, HB2.out⟩

set_option maxRecDepth 100000 in
set_option maxHeartbeats 4000000 in
theorem follows_len (a b : MHead) (v : Value) (R : List MRec) (w : World) (hR : RecS w v R) (ha : Hok a) (hk : Hok b) (hl : ¬ (R.length : Int) = b.p - a.p) :
    Calls Tryd.prog 32 #[headV a, v, headV b] w fun e w' => e = .returned (.bool false) ∧ Below w.heap.size w w' := by
  obtain ⟨va, n, vc, rfl, hn, -⟩ := id hR
  have HR := Lib.hid hR
  obtain ⟨ap, ac, at0⟩ := a
  obtain ⟨bp, bc, bs⟩ := b
  have HKa := Lib.hid ha
  have HKb := Lib.hid hk
  have g1 : 0 ≤ ap := ha.1.1
  have g2 : ap ≤ 10000 := ha.1.2
  have g3 : 0 ≤ bp := hk.1.1
  have g4 : bp ≤ 10000 := hk.1.2
  clear ha hk
  have d1 : ((n : Int) != bp - ap) = true := by rw [hn]; simpa using hl
  clear hl hR HR hn
  unfold headV
  go_enter Tryd.func32, Tryd.ntmps32
  go_upto_region 1 with fail
  obtain ⟨w0, Hw0⟩ : ∃ w0, Hid ((w.alloc (.cells #[.int .i64 ap, .string ac, .string at0] 23)).alloc (.cells #[.int .i64 bp, .string bc, .string bs] 23) = w0) := ⟨_, Lib.hid rfl⟩
  obtain ⟨hB0, hA0, hC0⟩ := lay2 w (.cells #[.int .i64 ap, .string ac, .string at0] 23) (.cells #[.int .i64 bp, .string bc, .string bs] 23)
  rw [Hw0.out] at hB0 hA0 hC0 ⊢
  clear Hw0
  have HB0 := Lib.hid hB0
  have HA0 := Lib.hid hA0
  have HC0 := Lib.hid hC0
  clear hB0 hA0 hC0
  go_step3
  go_wp2_with (refine wpList_load_row rfl 23 _ rfl w.heap.size rfl 23 _ _ _ HA0.out Tryd.underlying23 rfl (by kernel_rfl) ?_)
  (with_reducible refine (hvalid_t ⟨ap, ac, at0⟩ _ HKa.out).mono ?_)
  rintro e w1 ⟨rfl, hb1⟩
  have HB1 := Lib.hid (bt HB0.out hb1)
  have HA1 := Lib.hid (gone hb1 HA0.out)
  have HC1 := Lib.hid (gone hb1 HC0.out)
  clear hb1 HB0 HA0 HC0
  go_wp2_with (refine wpList_load_rowW (by rfl) 23 _ rfl (w.heap.size + 1) rfl 23 _ _ _ HC1.out Tryd.underlying23 rfl (by kernel_rfl) ?_)
  (with_reducible refine (hvalid_t ⟨bp, bc, bs⟩ _ HKb.out).mono ?_)
  rintro e w2 ⟨rfl, hb2⟩
  have HB2 := Lib.hid (bt HB1.out hb2)
  have HA2 := Lib.hid (gone hb2 HA1.out)
  have HC2 := Lib.hid (gone hb2 HC1.out)
  clear hb2 HB1 HA1 HC1
  have c0 := cellOf (j := 0) HA2.out rfl
  have c1 := cellOf (j := 0) HC2.out rfl
  go_wp2_with fail
  try rw [Exit.noGoto_ret]
  go_ret
  exact ⟨rfl, HB2.out⟩

set_option maxRecDepth 100000 in
set_option maxHeartbeats 8000000 in
theorem follows_ok (a b : MHead) (v : Value) (R : List MRec) (w : World) (hR : RecS w v R) (hT : Tab w) (ha : Hok a) (hk : Hok b) (hl : (R.length : Int) = b.p - a.p) :
    Calls Tryd.prog 32 #[headV a, v, headV b] w fun e w' => e = .returned (.bool (flw a R b)) ∧ Below w.heap.size w w' := by
  obtain ⟨va, n, vc, rfl, hn, -⟩ := id hR
  have HR := Lib.hid hR
  obtain ⟨ap, ac, at0⟩ := a
  obtain ⟨bp, bc, bs⟩ := b
  have HKa := Lib.hid ha
  have HKb := Lib.hid hk
  have g1 : 0 ≤ ap := ha.1.1
  have g2 : ap ≤ 10000 := ha.1.2
  have g3 : 0 ≤ bp := hk.1.1
  have g4 : bp ≤ 10000 := hk.1.2
  clear ha hk
  have hn4 : n ≤ 10000 := by simp only at hl; omega
  have d1 : ((n : Int) != bp - ap) = false := by rw [hn]; simpa using hl
  have HL : Hid ((n : Int) = bp - ap) := Lib.hid (by rw [hn]; exact hl)
  have HN := Lib.hid hn
  have HTb := Lib.hid hT
  have HX : Hid (∀ h, folR bs ⟨ap, ac, at0⟩ R = some h → flw ⟨ap, ac, at0⟩ R ⟨bp, bc, bs⟩ = hdE h ⟨bp, bc, bs⟩) := Lib.hid (fun h e => by
    unfold flw hdE
    have k1 := HKa.out
    have k2 := HKb.out
    simp only [e, k1, k2, true_and, Option.some.injEq])
  have HXn : Hid (folR bs ⟨ap, ac, at0⟩ R = none → flw ⟨ap, ac, at0⟩ R ⟨bp, bc, bs⟩ = false) := Lib.hid (fun e => by unfold flw; simp only [e]; simp)
  clear hl hR hn hT
  unfold headV
  go_enter Tryd.func32, Tryd.ntmps32
  go_upto_region 1 with fail
  obtain ⟨w0, Hw0⟩ : ∃ w0, Hid ((w.alloc (.cells #[.int .i64 ap, .string ac, .string at0] 23)).alloc (.cells #[.int .i64 bp, .string bc, .string bs] 23) = w0) := ⟨_, Lib.hid rfl⟩
  obtain ⟨hB0, hA0, hC0⟩ := lay2 w (.cells #[.int .i64 ap, .string ac, .string at0] 23) (.cells #[.int .i64 bp, .string bc, .string bs] 23)
  rw [Hw0.out] at hB0 hA0 hC0 ⊢
  clear Hw0
  have HB0 := Lib.hid hB0
  have HA0 := Lib.hid hA0
  have HC0 := Lib.hid hC0
  clear hB0 hA0 hC0
  go_step3
  go_wp2_with (refine wpList_load_row rfl 23 _ rfl w.heap.size rfl 23 _ _ _ HA0.out Tryd.underlying23 rfl (by kernel_rfl) ?_)
  (with_reducible refine (hvalid_t ⟨ap, ac, at0⟩ _ HKa.out).mono ?_)
  rintro e w1 ⟨rfl, hb1⟩
  have HB1 := Lib.hid (bt HB0.out hb1)
  have HA1 := Lib.hid (gone hb1 HA0.out)
  have HC1 := Lib.hid (gone hb1 HC0.out)
  clear hb1 HB0 HA0 HC0
  go_wp2_with (refine wpList_load_rowW (by rfl) 23 _ rfl (w.heap.size + 1) rfl 23 _ _ _ HC1.out Tryd.underlying23 rfl (by kernel_rfl) ?_)
  (with_reducible refine (hvalid_t ⟨bp, bc, bs⟩ _ HKb.out).mono ?_)
  rintro e w2 ⟨rfl, hb2⟩
  have HB2 := Lib.hid (bt HB1.out hb2)
  have HA2 := Lib.hid (gone hb2 HA1.out)
  have HC2 := Lib.hid (gone hb2 HC1.out)
  clear hb2 HB1 HA1 HC1
  have c0 := cellOf (j := 0) HA2.out rfl
  have c1 := cellOf (j := 0) HC2.out rfl
  go_wp2_with (refine wpList_load_row rfl 23 _ rfl w.heap.size rfl 23 _ _ _ HA2.out Tryd.underlying23 rfl (by kernel_rfl) ?_)
  go_step3
  go_wp2_with fail
  obtain ⟨g, Hg⟩ : ∃ g, Hid (w2.heap.size = g) := ⟨_, Lib.hid rfl⟩
  obtain ⟨w3, Hw3⟩ : ∃ w3, Hid (w2.alloc (.cells #[.int .i64 ap, .string ac, .string at0] 23) = w3) := ⟨_, Lib.hid rfl⟩
  have HG3 : Hid (w3.heap[g]? = some (.cells (headC ⟨ap, ac, at0⟩) 23 (0, 0))) := Lib.hid (by rw [← Hw3.out, ← Hg.out]; exact heap_alloc_new w2 _)
  have hb3 : Below g w2 w3 := by rw [← Hw3.out, ← Hg.out]; exact ba w2 _
  have HA3 : Hid (w.heap.size + 1 < g) := Lib.hid (by rw [← Hg.out]; exact lt_of_block HC2.out)
  have hwg : w.heap.size ≤ g := by have := HA3.out; omega
  have HBw : Hid (∀ wr, Below g w2 wr → Below w.heap.size w wr) := Lib.hid (fun wr h => HB2.out.trans (h.mono hwg))
  have HCw : Hid (∀ wr, Below g w2 wr → wr.heap[w.heap.size + 1]? = some (.cells #[.int .i64 bp, .string bc, .string bs] 23 (0, 0))) := Lib.hid (fun wr h => (h.block _ HA3.out).trans HC2.out)
  have HB3 := Lib.hid hb3
  rw [Hw3.out, Hg.out]
  have HZ2 := Lib.hid (show w2.heap.size ≤ g by rw [Hg.out]; exact Nat.le_refl _)
  clear hb3 Hw3 c0 c1 HA2 HC2 HB2 hwg Hg
  go_loopw [33] (fun i wr => ∃ k : Nat, k ≤ n ∧ i = .int .i64 k ∧ ∃ hd : MHead, Hid (folR bs ⟨ap, ac, at0⟩ (R.take k) = some hd) ∧ Hid (Hok hd) ∧ Hid (wr.heap[g]? = some (.cells (headC hd) 23 (0, 0))) ∧ Hid (Below g w2 wr)) (fun i _ => n - (intOf i).toNat)
  case atStart => exact ⟨0, Nat.zero_le _, rfl, ⟨ap, ac, at0⟩, Lib.hid rfl, HKa, HG3, HB3⟩
  case round =>
    clear HG3 HB3 HA3
    obtain ⟨k, hk, rfl, hd, HF, HO, HG, HB⟩ := hrel
    have HBr := Lib.hid (HBw.out wr HB.out)
    have HCr := Lib.hid (HCw.out wr HB.out)
    have hgl : g < wr.heap.size := lt_of_block HG.out
    by_cases hlt : k < n
    · obtain ⟨_, _, _, e1, -, -, -, hcell⟩ := HR.out.below HBr.out
      simp at e1
      obtain ⟨rfl, rfl, rfl⟩ := e1
      obtain ⟨vb, vo, rfl, hvb, hcs⟩ := hcell (by omega)
      have HRk : Hid (RecAt wr vb (vo + k * 2) (R.getD k recZ)) := Lib.hid (hcs k hlt)
      have hkR : k < R.length := by have := HN.out; omega
      have HFs := Lib.hid (folR_snoc bs ⟨ap, ac, at0⟩ R k hkR)
      rw [HF.out, Option.bind_some] at HFs
      have HFn := Lib.hid (fun h => folR_none hkR HF.out h)
      have HP := Lib.hid (folR_pos HF.out)
      clear hcs hcell HF
      obtain ⟨r, Hr⟩ : ∃ r, Hid (R.getD k recZ = r) := ⟨_, Lib.hid rfl⟩
      rw [Hr.out] at HRk HFs HFn
      obtain ⟨pos, cs⟩ := r
      obtain ⟨q0, v, q1, hv⟩ := HRk.out
      simp only at q0
      have HV : Hid (ChS wr v cs) := Lib.hid hv
      obtain ⟨xa, xn, xcap, rfl, -⟩ := hv
      obtain ⟨dp, dc, ds⟩ := hd
      clear hkR Hr HRk
      go_upto_region 7 with fail
      obtain ⟨w4, Hw4⟩ : ∃ w4, Hid (wr.alloc (.cells #[.int .i64 pos, .slice xa xn xcap] 51) = w4) := ⟨_, Lib.hid rfl⟩
      have hb4 : Below wr.heap.size wr w4 := by rw [← Hw4.out]; exact ba wr _
      have HR4 : Hid (w4.heap[wr.heap.size]? = some (.cells #[.int .i64 pos, .slice xa xn xcap] 51 (0, 0))) := Lib.hid (by rw [← Hw4.out]; exact heap_alloc_new wr _)
      have HG4 := Lib.hid (gone hb4 HG.out)
      have HC4 := Lib.hid (gone hb4 HCr.out)
      have HB4 : Hid (Below g w2 w4) := Lib.hid (HB.out.trans (hb4.mono (by omega)))
      have HV4 := Lib.hid (HV.out.below hb4)
      have HT4 := Lib.hid (HTb.out.below (bt HBr.out hb4))
      have HNx := Lib.hid (next_any ⟨dp, dc, ds⟩ pos _ cs bs w4 HV4.out HT4.out (by have := HO.out.2.1; unfold maxLen; omega) (by have := HO.out.2.2; unfold maxLen; omega) (by have := HKb.out.2.2; simp only at this; unfold maxLen; omega))
      have c2 := cellOf (j := 2) HC4.out rfl
      rw [Hw4.out]
      clear Hw4 q0 q1 hb4 HV HV4 HT4
      by_cases hx : NxOk ⟨dp, dc, ds⟩ pos cs bs
      · unfold nextOut at HNx
        rw [if_pos hx] at HNx
        rw [if_pos hx] at HFs
        have HO2 := Lib.hid (nx_ok hx)
        obtain ⟨⟨np, nc, ns⟩, HNH⟩ : ∃ nh, Hid (nxH ⟨dp, dc, ds⟩ pos cs bs = nh) := ⟨_, Lib.hid rfl⟩
        rw [HNH.out] at HNx HFs HO2
        clear hx HNH HFn HP
        go_wp2_with (first
          | (refine wpList_load_row rfl 23 _ rfl g rfl 23 _ _ _ HG4.out Tryd.underlying23 rfl (by kernel_rfl) ?_)
          | (refine wpList_load_row rfl 51 _ rfl wr.heap.size rfl 51 _ _ _ HR4.out Tryd.underlying51 rfl (by kernel_rfl) ?_))
        (with_reducible refine HNx.out.mono ?_)
        rintro e w5 ⟨rfl, hb5⟩
        have HG5 := Lib.hid (gone hb5 HG4.out)
        have HB5 : Hid (Below g w2 w5) := Lib.hid (HB4.out.trans (hb5.mono (Nat.le_of_lt (lt_of_block HG4.out))))
        clear hb5 c2 HR4 HC4 HNx HG4 HB4
        go_upto_region 8 with fail
        obtain ⟨w6, Hw6⟩ : ∃ w6, Hid (w5.alloc (.cells #[.int .i64 np, .string nc, .string ns] 23) = w6) := ⟨_, Lib.hid rfl⟩
        have hb6 : Below w5.heap.size w5 w6 := by rw [← Hw6.out]; exact ba w5 _
        have HN6 : Hid (w6.heap[w5.heap.size]? = some (.cells #[.int .i64 np, .string nc, .string ns] 23 (0, 0))) := Lib.hid (by rw [← Hw6.out]; exact heap_alloc_new w5 _)
        have HG6 := Lib.hid (gone hb6 HG5.out)
        have HB6 : Hid (Below g w2 w6) := Lib.hid (HB5.out.trans (hb6.mono (Nat.le_of_lt (lt_of_block HG5.out))))
        rw [Hw6.out]
        clear Hw6 hb6 HG5 HB5
        go_wp2_with (first
          | (refine wpList_load_row rfl 23 _ rfl w5.heap.size rfl 23 _ _ _ HN6.out Tryd.underlying23 rfl (by kernel_rfl) ?_)
          | (refine wpList_store_row rfl 23 _ _ rfl g rfl 23 _ _ rfl HG6.out (by kernel_rfl) (by rfl) (head_one _ _ _) ?_))
        exact ⟨⟨k + 1, by omega, by go_num, ⟨np, nc, ns⟩, HFs, HO2, Lib.hid (setRow_heap _ _ _ _ _ _ HG6.out), Lib.hid (belowRow HB6.out (Nat.le_refl _) _)⟩, by simp [intOf]; omega⟩
      · unfold nextOut at HNx
        rw [if_neg hx, show headV hdZ = .agg #[.int .i64 0, .string ⟨#[]⟩, .string ⟨#[]⟩] from rfl] at HNx
        have HFN := Lib.hid (HXn.out (HFn.out hx))
        have hne : ¬ (⟨dp, dc, ds⟩ : MHead) = ⟨bp, bc, bs⟩ := fun e => by
          have h1 := HP.out
          have h2 := HL.out
          simp only [MHead.mk.injEq] at e
          simp only [List.length_take] at h1
          have := HN.out
          omega
        have hq := eqlHd ⟨dp, dc, ds⟩ ⟨bp, bc, bs⟩
        rw [hdE_f hne] at hq
        simp only at hq
        have HQ := Lib.hid hq
        clear hx hne hq HFn HFs HP
        go_wp2_with (first
          | (refine wpList_load_row rfl 23 _ rfl g rfl 23 _ _ _ HG4.out Tryd.underlying23 rfl (by kernel_rfl) ?_)
          | (refine wpList_load_row rfl 51 _ rfl wr.heap.size rfl 51 _ _ _ HR4.out Tryd.underlying51 rfl (by kernel_rfl) ?_))
        (with_reducible refine HNx.out.mono ?_)
        rintro e w5 ⟨rfl, hb5⟩
        have HG5 := Lib.hid (gone hb5 HG4.out)
        have HC5 := Lib.hid (gone hb5 HC4.out)
        have HB5 : Hid (Below g w2 w5) := Lib.hid (HB4.out.trans (hb5.mono (Nat.le_of_lt (lt_of_block HG4.out))))
        clear hb5 c2 HR4 HC4 HNx HG4 HB4
        go_upto_region 8 with fail
        obtain ⟨w6, Hw6⟩ : ∃ w6, Hid (w5.alloc (.cells #[.int .i64 0, .string ⟨#[]⟩, .string ⟨#[]⟩] 23) = w6) := ⟨_, Lib.hid rfl⟩
        have hb6 : Below w5.heap.size w5 w6 := by rw [← Hw6.out]; exact ba w5 _
        have HG6 := Lib.hid (gone hb6 HG5.out)
        have HC6 := Lib.hid (gone hb6 HC5.out)
        have HB6 : Hid (Below g w2 w6) := Lib.hid (HB5.out.trans (hb6.mono (Nat.le_of_lt (lt_of_block HG5.out))))
        rw [Hw6.out]
        have hq := HQ.out
        clear Hw6 hb6 HG5 HB5 HC5
        go_wp2_with (first
          | (refine wpList_load_row rfl 23 _ rfl g rfl 23 _ _ _ HG6.out Tryd.underlying23 rfl (by kernel_rfl) ?_)
          | (refine wpList_load_row rfl 23 _ rfl (w.heap.size + 1) rfl 23 _ _ _ HC6.out Tryd.underlying23 rfl (by kernel_rfl) ?_))
        try rw [Exit.noGoto_ret]
        go_ret
        exact ⟨ret_bool HFN.out.symm, HBw.out _ HB6.out⟩
    · obtain rfl : k = n := by omega
      have HFr : Hid (folR bs ⟨ap, ac, at0⟩ R = some hd) := Lib.hid (by have := HF.out; rwa [List.take_of_length_le (by have := HN.out; omega)] at this)
      have HXh := Lib.hid (HX.out hd HFr.out)
      obtain ⟨dp, dc, ds⟩ := hd
      have hq := eqlHd ⟨dp, dc, ds⟩ ⟨bp, bc, bs⟩
      obtain ⟨z, Hz⟩ : ∃ z, Hid (hdE ⟨dp, dc, ds⟩ ⟨bp, bc, bs⟩ = z) := ⟨_, Lib.hid rfl⟩
      rw [Hz.out] at hq HXh
      simp only at hq
      clear HF HFr Hz
      go_wp2_with (first
        | (refine wpList_load_row rfl 23 _ rfl g rfl 23 _ _ _ HG.out Tryd.underlying23 rfl (by kernel_rfl) ?_)
        | (refine wpList_load_row rfl 23 _ rfl (w.heap.size + 1) rfl 23 _ _ _ HCr.out Tryd.underlying23 rfl (by kernel_rfl) ?_))
      try rw [Exit.noGoto_ret]
      go_ret
      exact ⟨ret_bool HXh.out.symm, HBr.out⟩

theorem follows_any (a b : MHead) (v : Value) (R : List MRec) (w : World) (hR : RecS w v R) (hT : Tab w) (ha1 : a.c.size ≤ maxLen) (ha2 : a.s.size ≤ maxLen) (hb1 : b.c.size ≤ maxLen) (hb2 : b.s.size ≤ maxLen) :
    Calls Tryd.prog 32 #[headV a, v, headV b] w fun e w' => e = .returned (.bool (flw a R b)) ∧ Below w.heap.size w w' := by
  by_cases ka : Hok a
  · by_cases kb : Hok b
    · by_cases hl : (R.length : Int) = b.p - a.p
      · exact follows_ok a b v R w hR hT ka kb hl
      · have e : flw a R b = false := decide_eq_false (fun h => hl (by have := folR_pos h.2.2; omega))
        rw [e]; exact follows_len a b v R w hR ka kb hl
    · have e : flw a R b = false := decide_eq_false (fun h => kb h.2.1)
      rw [e]; exact follows_b a b v R w hR ka kb hb1 hb2
  · have e : flw a R b = false := decide_eq_false (fun h => ka h.1)
    rw [e]; exact follows_a a b v R w hR ka ha1 ha2
end Go.Proofs.YtpapfegbodolgaaDoor
