/- WALKS: New, Append. -/
import Derived.Test.YtpapfegbodolgaaDoorLM
set_option linter.unusedVariables false
set_option linter.unusedSimpArgs false
namespace Go.Proofs.YtpapfegbodolgaaDoor
open Go.RowKit Go.Sort

def zr32 : ByteArray := ⟨(List.replicate 32 0).toArray⟩
theorem rep32 : (⟨(Lib.repeatL (⟨#[0]⟩ : ByteArray).data.toList 32).toArray⟩ : ByteArray) = zr32 := by decide +kernel
theorem zr32_size : zr32.size = 32 := rfl
theorem repeat_c (w : World) : Calls Tryd.prog 50 #[.string ⟨#[0]⟩, .int .i64 32] w fun e w' => e = .returned (.string zr32) ∧ Below w.heap.size w w' := by
  have h := Tryd.strings_Repeat ⟨#[0]⟩ 32 w (by decide) (by decide)
  rw [rep32] at h
  exact h

set_option maxRecDepth 100000 in
set_option maxHeartbeats 1000000 in
theorem new_bad (st : ByteArray) (w : World) (hs : st.size ≤ maxLen) (hk : ¬ st.size = 32) :
    Calls Tryd.prog 29 #[.string st] w fun e w' => e = .returned (.tuple #[.pointer none, .int .i64 90]) ∧ w = w' := by
  have HI := Lib.hid (isDigest_f st w hs hk)
  clear hs hk
  go_enter Tryd.func29, Tryd.ntmps29
  go_wp2_with fail
  (with_reducible refine HI.out.mono ?_)
  rintro e wx ⟨rfl, rfl⟩
  go_wp2_with fail
  go_ret2
  exact ⟨rfl, rfl⟩

/-- What New leaves. -/
def NewOut (w : World) (st : ByteArray) (e : Ending) (w' : World) : Prop := ∃ b, e = .returned (.tuple #[.pointer (some ⟨b, 0, none⟩), .int .i64 0]) ∧ LgAt w' (fun k => w.heap.size ≤ k) b [] [⟨0, zr32, st⟩] ∧ Below w.heap.size w w'
theorem lg_new {st : ByteArray} (h : st.size = 32) : Lg [] [⟨0, zr32, st⟩] :=
  ⟨rfl, fun i hi => by
    have hi : i < 1 := hi
    obtain rfl : i = 0 := by omega
    exact ⟨⟨⟨by show (0 : Int) ≤ 0; omega, by show (0 : Int) ≤ 10000; omega⟩, zr32_size, h⟩, rfl⟩, fun i hi => by have hi : i < 0 := hi; omega⟩
set_option maxRecDepth 100000 in
set_option maxHeartbeats 2000000 in
theorem new_ok (st : ByteArray) (w : World) (hk : st.size = 32) : Calls Tryd.prog 29 #[.string st] w (NewOut w st) := by
  have HI := Lib.hid (isDigest_t st w hk)
  have HC := Lib.hid (fun w' => clone_s st w' (by omega))
  have HK := Lib.hid hk
  clear hk
  go_enter Tryd.func29, Tryd.ntmps29
  go_wp2_with fail
  (with_reducible refine HI.out.mono ?_)
  rintro e wx ⟨rfl, rfl⟩
  go_wp2_with fail
  (with_reducible refine (repeat_c _).mono ?_)
  rintro e w1 ⟨rfl, hb1⟩
  have HB1 := Lib.hid hb1
  clear hb1
  obtain ⟨zz, Hz⟩ : ∃ zz, Hid (zr32 = zz) := ⟨_, Lib.hid rfl⟩
  rw [Hz.out]
  go_wp2_with fail
  (with_reducible refine (HC.out _).mono ?_)
  rintro e w2 ⟨rfl, hb2⟩
  have HB2 := Lib.hid (bt HB1.out hb2)
  clear hb2 HB1
  go_upto_region 4 with fail
  obtain ⟨w3, Hw3⟩ : ∃ w3, Hid (w2.alloc (.cells #[.int .i64 0, .string zz, .string st] 23) = w3) := ⟨_, Lib.hid rfl⟩
  have hb3 : Below w2.heap.size w2 w3 := by rw [← Hw3.out]; exact ba w2 _
  have HF3 : Hid (w3.heap[w2.heap.size]? = some (.cells #[.int .i64 0, .string zz, .string st] 23 (0, 0))) := Lib.hid (by rw [← Hw3.out]; exact heap_alloc_new w2 _)
  have HB3 := Lib.hid (bt HB2.out hb3)
  rw [Hw3.out]
  clear Hw3 hb3 HB2
  go_wp2_with (refine wpList_load_row rfl 23 _ rfl w2.heap.size rfl 23 _ _ _ HF3.out Tryd.underlying23 rfl (by kernel_rfl) ?_)
  go_ret2
  obtain ⟨hl, h1, h2⟩ := lay2 w3 (.cells #[.int .i64 0, .string zz, .string st] 23) (.cells #[.slice none 0 0, .slice (some ⟨w3.heap.size, 0, none⟩) 1 1] 78)
  have hz3 := HB3.out.size
  refine ⟨w3.heap.size + 1, rfl, ⟨.slice none 0 0, .slice (some ⟨w3.heap.size, 0, none⟩) 1 1, [], h2, by omega, OwnQ.nil _ _, fun i e => by simp [Value.ownBlock] at e, ?_, fun i e => by
    simp [Value.ownBlock] at e; omega, rfl, fun q m => by simp at m, lg_new HK.out⟩, bt HB3.out hl⟩
  refine ⟨rfl, .inr ⟨w3.heap.size, 1, _, rfl, Nat.zero_le _, h1, Nat.le_refl _, by unfold maxLen; omega, rfl, ?_⟩⟩
  rw [← Hz.out]; rfl

set_option maxRecDepth 100000 in
theorem append_nil (v : Value) (st : ByteArray) (p : Int) (w : World) : Calls Tryd.prog 26 #[.pointer none, .agg #[.int .i64 p, v], .string st] w fun e w' => e = .returned (.int .i64 1) ∧ Below w.heap.size w w' := by
  go_enter Tryd.func26, Tryd.ntmps26
  go_wp2_with fail
  go_ret
  exact ⟨rfl, ba w _⟩

set_option maxRecDepth 100000 in
set_option maxHeartbeats 4000000 in
theorem append_bad {w : World} {F : Nat → Prop} {b : Nat} {R : List MRec} {H : List MHead} {u : Value} {L : List MCh} {p : Int} {st : ByteArray} (hl : LgAt w F b R H) (hu : ChS w u L) (hT : Tab w) (hst : st.size ≤ maxLen) (hk : ¬ NxOk (H.getD R.length hdZ) p L st) :
    Calls Tryd.prog 26 #[.pointer (some ⟨b, 0, none⟩), .agg #[.int .i64 p, u], .string st] w fun e w' => e = .returned (.int .i64 90) ∧ Below w.heap.size w w' := by
  obtain ⟨ua, un, uc, rfl, -⟩ := id hu
  have HU := Lib.hid hu
  have HTb := Lib.hid hT
  have HLg := Lib.hid hl
  obtain ⟨x, Hx⟩ : ∃ x, Hid (H.getD R.length hdZ = x) := ⟨_, Lib.hid rfl⟩
  rw [Hx.out] at hk
  have HK := Lib.hid hk
  have HOx : Hid (Hok x) := Lib.hid (by rw [← Hx.out]; exact (hl.lg.ok R.length (by have := hl.lg.len; omega)).1)
  have HHd : Hid (∀ w', Below w.heap.size w w' → Calls Tryd.prog 13 #[.pointer (some ⟨b, 0, none⟩), .int .i64 R.length] w' fun e w2 => e = .returned (.tuple #[headV x, .bool true]) ∧ Below w'.heap.size w' w2) := Lib.hid (fun w' hb => by
    have h := head_any (hl.below hb) (R.length : Int)
    unfold headOut at h
    rw [if_pos ⟨by omega, by have := hl.lg.len; omega⟩, Int.toNat_natCast, Hx.out] at h
    exact h)
  have HLn : Hid (∀ w', Below w.heap.size w w' → Calls Tryd.prog 28 #[.pointer (some ⟨b, 0, none⟩)] w' fun e w2 => e = .returned (.int .i64 R.length) ∧ w' = w2) := Lib.hid (fun w' hb => by
    obtain ⟨vr, vh, h1, h2, h3⟩ := (hl.below hb).read
    exact len_any h1 h2)
  have HNx : Hid (∀ w', Below w.heap.size w w' → Calls Tryd.prog 48 #[headV x, .agg #[.int .i64 p, .slice ua un uc], .string st] w' fun e w2 => e = .returned (.tuple #[headV hdZ, .int .i64 90]) ∧ Below w'.heap.size w' w2) := Lib.hid (fun w' hb => by
    have h := next_any x p _ L st w' (HU.out.below hb) (HTb.out.below hb) (by have := HOx.out.2.1; unfold maxLen; omega) (by have := HOx.out.2.2; unfold maxLen; omega) hst
    unfold nextOut at h
    rw [if_neg HK.out] at h
    exact h)
  obtain ⟨xp, xc, xs⟩ := x
  clear hu hT hl hk Hx
  go_enter Tryd.func26, Tryd.ntmps26
  go_upto_region 1 with fail
  obtain ⟨w0, Hw0⟩ : ∃ w0, Hid (w.alloc (.cells #[.int .i64 p, .slice ua un uc] 51) = w0) := ⟨_, Lib.hid rfl⟩
  have HB0 : Hid (Below w.heap.size w w0) := Lib.hid (by rw [← Hw0.out]; exact ba w _)
  have HR0 : Hid (w0.heap[w.heap.size]? = some (.cells #[.int .i64 p, .slice ua un uc] 51 (0, 0))) := Lib.hid (by rw [← Hw0.out]; exact heap_alloc_new w _)
  rw [Hw0.out]
  clear Hw0
  go_wp2_with fail
  (with_reducible refine (HLn.out _ HB0.out).mono ?_)
  rintro e wx ⟨rfl, rfl⟩
  go_wp2_with fail
  (with_reducible refine (HHd.out _ HB0.out).mono ?_)
  rintro e w1 ⟨rfl, hb1⟩
  have HB1 := Lib.hid (bt HB0.out hb1)
  have HR1 := Lib.hid (gone hb1 HR0.out)
  clear hb1 HB0 HR0 HLn HHd
  go_upto_region 4 with fail
  obtain ⟨w2, Hw2⟩ : ∃ w2, Hid (w1.alloc (.cells #[.int .i64 xp, .string xc, .string xs] 23) = w2) := ⟨_, Lib.hid rfl⟩
  have hb2 : Below w1.heap.size w1 w2 := by rw [← Hw2.out]; exact ba w1 _
  have HF2 : Hid (w2.heap[w1.heap.size]? = some (.cells #[.int .i64 xp, .string xc, .string xs] 23 (0, 0))) := Lib.hid (by rw [← Hw2.out]; exact heap_alloc_new w1 _)
  have HB2 := Lib.hid (bt HB1.out hb2)
  have HR2 := Lib.hid (gone hb2 HR1.out)
  rw [Hw2.out]
  clear Hw2 hb2 HB1 HR1
  go_wp2_with (first
    | (refine wpList_load_row rfl 23 _ rfl w1.heap.size rfl 23 _ _ _ HF2.out Tryd.underlying23 rfl (by kernel_rfl) ?_)
    | (refine wpList_load_row rfl 51 _ rfl w.heap.size rfl 51 _ _ _ HR2.out Tryd.underlying51 rfl (by kernel_rfl) ?_))
  (with_reducible refine (HNx.out _ HB2.out).mono ?_)
  rintro e w3 ⟨rfl, hb3⟩
  have HB3 := Lib.hid (bt HB2.out hb3)
  clear hb3 HB2 HR2 HF2 HNx
  go_wp2_with fail
  go_ret
  exact ⟨rfl, bt HB3.out (ba _ _)⟩

/-- What a good Append leaves. -/
def AppOut (W : World) (F : Nat → Prop) (b : Nat) (R : List MRec) (H : List MHead) (p : Int) (L : List MCh) (st : ByteArray) (e : Ending) (w' : World) : Prop :=
  e = .returned (.int .i64 0) ∧ LgAt w' (fun k => F k ∨ W.heap.size ≤ k) b (R ++ [⟨p, L⟩]) (H ++ [nxH (H.getD R.length hdZ) p L st]) ∧ Kept F W w'
set_option maxRecDepth 100000 in
set_option maxHeartbeats 8000000 in
theorem append_ok {w : World} {F : Nat → Prop} {b : Nat} {R : List MRec} {H : List MHead} {u : Value} {L : List MCh} {p : Int} {st : ByteArray} (hl : LgAt w F b R H) (hu : ChS w u L) (hT : Tab w) (hk : NxOk (H.getD R.length hdZ) p L st) :
    Calls Tryd.prog 26 #[.pointer (some ⟨b, 0, none⟩), .agg #[.int .i64 p, u], .string st] w (AppOut w F b R H p L st) := by
  have HSn := Lib.hid (hl.lg.snoc hk)
  obtain ⟨nh, Hn⟩ : ∃ nh, Hid (nxH (H.getD R.length hdZ) p L st = nh) := ⟨_, Lib.hid rfl⟩
  have HPost : Hid (∀ w', LgAt w' (fun k => F k ∨ w.heap.size ≤ k) b (R ++ [⟨p, L⟩]) (H ++ [nh]) → Kept F w w' → AppOut w F b R H p L st (.returned (.int .i64 0)) w') := Lib.hid (fun w' h1 h2 => ⟨rfl, by rw [Hn.out]; exact h1, h2⟩)
  rw [Hn.out] at HSn
  have hn8 : L.length ≤ 8 := hk.1.2.1.2
  have HRl := Lib.hid hl.lg.small
  have HHl := Lib.hid hl.lg.len
  obtain ⟨ua, un, uc, rfl, -⟩ := id hu
  have HU := Lib.hid hu
  have HTb := Lib.hid hT
  have HLg := Lib.hid hl
  obtain ⟨x, Hx⟩ : ∃ x, Hid (H.getD R.length hdZ = x) := ⟨_, Lib.hid rfl⟩
  rw [Hx.out] at hk Hn
  have HK := Lib.hid hk
  have HOx : Hid (Hok x) := Lib.hid (by rw [← Hx.out]; exact (hl.lg.ok R.length (by have := hl.lg.len; omega)).1)
  have HHd : Hid (∀ w', Below w.heap.size w w' → Calls Tryd.prog 13 #[.pointer (some ⟨b, 0, none⟩), .int .i64 R.length] w' fun e w2 => e = .returned (.tuple #[headV x, .bool true]) ∧ Below w'.heap.size w' w2) := Lib.hid (fun w' hb => by
    have h := head_any (hl.below hb) (R.length : Int)
    unfold headOut at h
    rw [if_pos ⟨by omega, by have := hl.lg.len; omega⟩, Int.toNat_natCast, Hx.out] at h
    exact h)
  have HLn : Hid (∀ w', Below w.heap.size w w' → Calls Tryd.prog 28 #[.pointer (some ⟨b, 0, none⟩)] w' fun e w2 => e = .returned (.int .i64 R.length) ∧ w' = w2) := Lib.hid (fun w' hb => by
    obtain ⟨vr, vh, h1, h2, h3⟩ := (hl.below hb).read
    exact len_any h1 h2)
  have HNx : Hid (∀ w', Below w.heap.size w w' → Calls Tryd.prog 48 #[headV x, .agg #[.int .i64 p, .slice ua un uc], .string st] w' fun e w2 => e = .returned (.tuple #[headV nh, .int .i64 0]) ∧ Below w'.heap.size w' w2) := Lib.hid (fun w' hb => by
    have h := next_ok x p _ L st w' (HU.out.below hb) (HTb.out.below hb) HK.out
    rw [Hn.out] at h
    exact h)
  have HCl : Hid (∀ w', Below w.heap.size w w' → Calls Tryd.prog 45 #[.agg #[.int .i64 p, .slice ua un uc]] w' fun e w2 => ∃ v, e = .returned (.agg #[.int .i64 p, v]) ∧ OwnC w2 w'.heap.size v L ∧ Below w'.heap.size w' w2) := Lib.hid (fun w' hb => clone_any p (HU.out.below hb) (by omega))
  clear Hn
  obtain ⟨xp, xc, xs⟩ := x
  clear hu hT hl hk Hx
  go_enter Tryd.func26, Tryd.ntmps26
  go_upto_region 1 with fail
  obtain ⟨w0, Hw0⟩ : ∃ w0, Hid (w.alloc (.cells #[.int .i64 p, .slice ua un uc] 51) = w0) := ⟨_, Lib.hid rfl⟩
  have HB0 : Hid (Below w.heap.size w w0) := Lib.hid (by rw [← Hw0.out]; exact ba w _)
  have HR0 : Hid (w0.heap[w.heap.size]? = some (.cells #[.int .i64 p, .slice ua un uc] 51 (0, 0))) := Lib.hid (by rw [← Hw0.out]; exact heap_alloc_new w _)
  rw [Hw0.out]
  clear Hw0
  go_wp2_with fail
  (with_reducible refine (HLn.out _ HB0.out).mono ?_)
  rintro e wx ⟨rfl, rfl⟩
  go_wp2_with fail
  (with_reducible refine (HHd.out _ HB0.out).mono ?_)
  rintro e w1 ⟨rfl, hb1⟩
  have HB1 := Lib.hid (bt HB0.out hb1)
  have HR1 := Lib.hid (gone hb1 HR0.out)
  clear hb1 HB0 HR0 HLn HHd
  go_upto_region 4 with fail
  obtain ⟨w2, Hw2⟩ : ∃ w2, Hid (w1.alloc (.cells #[.int .i64 xp, .string xc, .string xs] 23) = w2) := ⟨_, Lib.hid rfl⟩
  have hb2 : Below w1.heap.size w1 w2 := by rw [← Hw2.out]; exact ba w1 _
  have HF2 : Hid (w2.heap[w1.heap.size]? = some (.cells #[.int .i64 xp, .string xc, .string xs] 23 (0, 0))) := Lib.hid (by rw [← Hw2.out]; exact heap_alloc_new w1 _)
  have HB2 := Lib.hid (bt HB1.out hb2)
  have HR2 := Lib.hid (gone hb2 HR1.out)
  rw [Hw2.out]
  clear Hw2 hb2 HB1 HR1
  go_wp2_with (first
    | (refine wpList_load_row rfl 23 _ rfl w1.heap.size rfl 23 _ _ _ HF2.out Tryd.underlying23 rfl (by kernel_rfl) ?_)
    | (refine wpList_load_row rfl 51 _ rfl w.heap.size rfl 51 _ _ _ HR2.out Tryd.underlying51 rfl (by kernel_rfl) ?_))
  (with_reducible refine (HNx.out _ HB2.out).mono ?_)
  rintro e w3 ⟨rfl, hb3⟩
  obtain ⟨np, nc, ns⟩ := nh
  have HB3 := Lib.hid (bt HB2.out hb3)
  have HR3 := Lib.hid (gone hb3 HR2.out)
  clear hb3 HB2 HR2 HF2 HNx HU HTb HOx HK hn8
  go_upto_region 5 with fail
  obtain ⟨w4, Hw4⟩ : ∃ w4, Hid (w3.alloc (.cells #[.int .i64 np, .string nc, .string ns] 23) = w4) := ⟨_, Lib.hid rfl⟩
  have hb4 : Below w3.heap.size w3 w4 := by rw [← Hw4.out]; exact ba w3 _
  have HN4 : Hid (w4.heap[w3.heap.size]? = some (.cells #[.int .i64 np, .string nc, .string ns] 23 (0, 0))) := Lib.hid (by rw [← Hw4.out]; exact heap_alloc_new w3 _)
  have HB4 := Lib.hid (bt HB3.out hb4)
  have HR4 := Lib.hid (gone hb4 HR3.out)
  have HZ3 := Lib.hid HB3.out.size
  rw [Hw4.out]
  clear Hw4 hb4 HB3 HR3
  obtain ⟨vr, vh, Q, hraw, hQR, -⟩ := HLg.out.raw
  have HFb := Lib.hid hraw.fb
  have HFh := Lib.hid hraw.fh
  have HW4 := Lib.hid (hraw.below HB4.out)
  have HQl : Hid (Q.length = R.length) := Lib.hid (by rw [← hQR]; simp)
  have HQR := Lib.hid hQR
  obtain ⟨⟨ra, rcap, rfl⟩, ⟨ha, hcap, rfl⟩⟩ := hraw.forms
  have hbw : b < w.heap.size := lt_of_block hraw.blk
  have hww4 : w.heap.size < w4.heap.size := lt_of_block HR4.out
  clear hraw hQR HLg
  have HQ1 := Lib.hid HW4.out.cells1
  have hQ2 : Q.length ≤ 20000 := by have := HRl.out; have := HQl.out; omega
  go_upto_region 7 with fail
  go_cut [] (fun wx => ∃ (g cap : Nat) (v : Value), Hid (LgRaw wx (fun k => F k ∨ w.heap.size ≤ k) b (.slice (some ⟨g, 0, none⟩) (Q.length + 1) cap) (.slice ha H.length hcap) (Q ++ [(⟨p, L⟩, v)]) H) ∧ Hid (Kept F w wx) ∧ Hid (wx.heap[w3.heap.size]? = some (.cells #[.int .i64 np, .string nc, .string ns] 23 (0, 0))))
  case first =>
    have c4 : w4.cell? ⟨b, 0, none⟩ = some (.slice ra Q.length rcap) := cellOf (j := 0) HW4.out.blk rfl
    have r0 := cellOf (j := 0) HR4.out rfl
    have r1 := cellOf (j := 1) HR4.out rfl
    go_region_law (first
      | (go_simp; refine (HCl.out _ (bt HB4.out (below_drew1 _))).mono ?_; rintro e w5 ⟨v, rfl, ho5, hb5⟩; obtain ⟨va, vcap, rfl, -⟩ := ownsRow_form ho5; have HB45 := Lib.hid (bt (below_drew1 w4) hb5); have HO5 := Lib.hid ho5; have c5 : w5.cell? ⟨b, 0, none⟩ = some (.slice ra Q.length rcap) := cellOf (j := 0) (gone HB45.out HW4.out.blk) rfl; have hb5z : b < w5.heap.size := lt_of_block (gone HB45.out HW4.out.blk); have hb5n : ¬ b = w5.heap.size := Nat.ne_of_lt hb5z; have q0 := cellOf (j := 0) (gone HB45.out HR4.out) rfl; have q1 := cellOf (j := 1) (gone HB45.out HR4.out) rfl; clear ho5 hb5)
      | (refine step_append_rec (by rfl) (.tmp 34) (.tmp 37) (by rfl) _ Q (⟨p, L⟩, .slice va L.length vcap) rfl (by rfl) (HW4.out.below (bt HB45.out (ba w5 _))).oq HQ1.out _ _ (by rfl) (heap_alloc_new w5 _) hQ2 _ rfl ?_; intro g cap w7 ho7 hg7 hgg hlt7; have HA := Lib.hid (addRec5 HW4.out HB4.out HB45.out HO5.out (Nat.le_of_lt hww4) ho7 hg7 hgg); have c7 := cellOf (j := 0) HA.out.2.2.2.2 rfl; have f7 := freeOf HA.out.2.2.2.2 0; clear ho7 hg7 hgg hlt7))
    all_goals
      go_wp2_with fail
      go_meet
      exact ⟨g, cap, _, Lib.hid HA.out.1, Lib.hid HA.out.2.1, Lib.hid (HA.out.2.2.1 _ _ _ _ HN4.out (by decide) (by decide))⟩
  case rest =>
    obtain ⟨g, cap, v, HL7, HK7, HN7⟩ := hcut
    have c8 : wc.cell? ⟨b, 1, none⟩ = some (.slice ha H.length hcap) := cellOf (j := 1) HL7.out.blk rfl
    have n0 := cellOf (j := 0) HN7.out rfl
    have n1 := cellOf (j := 1) HN7.out rfl
    have n2 := cellOf (j := 2) HN7.out rfl
    have hbz : b < wc.heap.size := lt_of_block HL7.out.blk
    have hbn : ¬ b = wc.heap.size := Nat.ne_of_lt hbz
    have hz7 : w.heap.size ≤ wc.heap.size := HK7.out.size
    have od : ∀ o, (wc.alloc o).drew.cell? ⟨b, 1, none⟩ = some (.slice ha H.length hcap) := fun o => ((bt (ba wc o) (below_drew1 _)).cell (p := ⟨b, 1, none⟩) hbz).trans c8
    have od' : (wc.alloc (.cells #[.int .i64 np, .string nc, .string ns] 23)).drew.cell? ⟨b, 1, none⟩ = some (.slice ha H.length hcap) := od _
    have hH2 : H.length ≤ 20000 := by have := HRl.out; have := HHl.out; omega
    go_upto_region 8 with fail
    go_region_law (refine step_append_head (by rfl) (.tmp 45) (.tmp 47) (by rfl) _ H ⟨np, nc, ns⟩ rfl (HL7.out.below (bt (below_drew1 wc) (ba _ _))).oh _ _ (by rfl) (heap_alloc_new _ _) hH2 _ rfl ?_; intro g2 cap2 w9 ho9 hg9 hgg9 hlt9; have HA := Lib.hid (LgRaw.addHead (HL7.out.below (bt (below_drew1 wc) (ba _ _))) HFb.out HFh.out (HK7.out.then (bt (below_drew1 wc) (ba _ _))) ho9 hg9 (hgg9.imp id (fun e => by rw [e]; simp; omega))); have c9 := cellOf (j := 1) HA.out.2.2 rfl; have f9 := freeOf HA.out.2.2 1; clear ho9 hg9 hgg9 hlt9)
    all_goals
      go_wp2_with fail
      go_ret
      exact HPost.out _ (HA.out.1.at (by rw [List.map_append, HQR.out]; rfl) HSn.out) HA.out.2.1
end Go.Proofs.YtpapfegbodolgaaDoor
