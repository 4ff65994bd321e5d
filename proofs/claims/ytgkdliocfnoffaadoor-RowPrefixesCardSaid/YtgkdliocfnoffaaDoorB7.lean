/- WALKS: RowPrefixes. -/
import Derived.Test.YtgkdliocfnoffaaDoorB6
import Derived.Test.YtgkdliocfnoffaaDoorWPick
set_option linter.unusedVariables false
set_option linter.unusedSimpArgs false
namespace Go.Proofs.YtgkdliocfnoffaaDoor
open Go.RowKit Go.Sort

theorem dec_code {s : ByteArray} {c : Int} (W : World) (h : (decRow s).2 = c) (hs : s.size ≤ maxLen) (hE : Errs W) : Calls Tryd.prog 15 #[.string s] W fun e w' => ∃ t k a b d : Int, e = .returned (.tuple #[.agg #[.int .i64 t, .int .i64 k, .int .i64 a, .int .i64 b, .int .i64 d], .int .i64 c]) ∧ Below W.heap.size W w' := by
  refine (decode_e s W hs hE).mono ?_
  rintro e w' ⟨he, hb⟩
  exact ⟨_, _, _, _, _, by rw [he, decRowV, h], hb⟩
theorem decR_code {s : ByteArray} {c : Int} (W : World) (h : (decRec s).2 = c) (hs : s.size ≤ maxLen) (hE : Errs W) : Calls Tryd.prog 31 #[.string s] W fun e w' => ∃ (p : Int) (a : Option Addr) (n m : Nat), e = .returned (.tuple #[.agg #[.int .i64 p, .slice a n m], .int .i64 c]) ∧ Below W.heap.size W w' := by
  refine (decodeR_e s W hs hE (show decRec s = ((decRec s).1, c) by rw [← h])).mono ?_
  rintro e w' ⟨v, he, hv, hb⟩
  obtain ⟨a, n, m, rfl, _⟩ := hv.is
  exact ⟨_, a, n, m, he, hb⟩
theorem pk_range {c n : Int} (h : 1 ≤ n) : 0 ≤ pk c n ∧ pk c n < n := ⟨Int.emod_nonneg _ (by omega), Int.emod_lt_of_pos _ (by omega)⟩

/-- A row and a record as a law's parameters lie. -/
structure RX (W w : World) (r : MRow) (p : Int) (u : Value) : Prop where
  r : RwAt w W.heap.size r
  c0 : w.cell? ⟨W.heap.size + 1, 0, none⟩ = some (.int .i64 p)
  c1 : w.cell? ⟨W.heap.size + 1, 1, none⟩ = some u
  b : Below W.heap.size W w
theorem RX.next {W w w' : World} {r : MRow} {p : Int} {u : Value} (h : RX W w r p u) (k : Below w.heap.size w w') : RX W w' r p u := by
  obtain ⟨x0, x1⟩ := two_below h.c0 h.c1 k
  exact ⟨h.r.below k, x0, x1, bt h.b k⟩
theorem RX.new (W : World) (r : MRow) (p : Int) (u : Value) : RX W ((W.alloc (.cells #[.int .i64 r.t, .int .i64 r.k, .int .i64 r.v.a, .int .i64 r.v.b, .int .i64 r.v.c] 24)).alloc (.cells #[.int .i64 p, u] 37)) r p u :=
  ⟨(RwAt.new W r).below (ba _ _), by simp [go_sem], by simp [go_sem], bt (ba _ _) (ba _ _)⟩

/-- What a valid row's encoding does. -/
structure EncF (s m : ByteArray) (dec : ByteArray → Int) (c : Int) : Prop where
  pos : 1 ≤ s.size
  le : s.size ≤ 1000
  cut : ∀ k, k < s.size → dec (s.extract 0 k) = 10
  long : dec (s ++ m) = c
theorem app_nil {s m : ByteArray} (h : m.size = 0) : s ++ m = s := by
  apply bytes_ext
  have : m.data.toList = [] := List.eq_nil_of_length_eq_zero (by rw [bsz, h])
  simp [ByteArray.toList_data_append, this]
theorem app_list' (s m : ByteArray) : (s ++ m).data.toList = s.data.toList ++ m.data.toList := by simp [ByteArray.toList_data_append]
theorem encF_row {r : MRow} (h : VRow r) (m : ByteArray) : EncF (encRowS r) m (fun s => (decRow s).2) (if m.size = 0 then 0 else 10) := by
  have h1 := encStr_size (tokRow r)
  rw [show (tokRow r).length = 5 from rfl] at h1
  have h2 := encs_pos (l := tokRow r) (by simp [tokRow])
  refine ⟨by rw [encRowS, encStr_len]; exact h2, by rw [encRowS]; omega, fun k hk => ?_, ?_⟩
  · show (decRow _).2 = 10
    rw [dec_cut_row h hk (by rw [take0_list])]
  · show (decRow _).2 = _
    by_cases hm : m.size = 0
    · rw [app_nil hm, decRow_enc h, if_pos hm]
    · rw [dec_long_row h (more := m.data.toList) (fun e => hm (by rw [← bsz, e]; rfl)) (app_list' _ _), if_neg hm]
theorem encF_rec {p : Int} {L : List MCh} (h : VRec p L) (m : ByteArray) : EncF (encRecS p L) m (fun s => (decRec s).2) (if m.size = 0 then 0 else 10) := by
  have h1 := encStr_size (tokRec ⟨p, L⟩)
  have h2 := encs_pos (l := tokRec ⟨p, L⟩) (by simp [tokRec])
  have h3 := tokChs_len L
  have h4 := h.2.1.2
  have h5 : (tokRec ⟨p, L⟩).length = 2 + (tokChs L).length := by simp [tokRec]; omega
  refine ⟨by rw [encRecS, encStr_len]; exact h2, by rw [encRecS]; omega, fun k hk => ?_, ?_⟩
  · show (decRec _).2 = 10
    rw [dec_cut_rec h hk (by rw [take0_list])]
  · show (decRec _).2 = _
    by_cases hm : m.size = 0
    · rw [app_nil hm, decRec_enc h, if_pos hm]
    · rw [dec_long_rec h (more := m.data.toList) (fun e => hm (by rw [← bsz, e]; rfl)) (app_list' _ _), if_neg hm]
theorem empty_is {m : ByteArray} (h : m.size = 0) : m = ⟨#[]⟩ := bytes_ext (List.eq_nil_of_length_eq_zero (by rw [bsz, h]))
theorem empty_t {m : ByteArray} (h : m.size = 0) : (m.toList == (⟨#[]⟩ : ByteArray).toList) = true := str_eq (empty_is h)
theorem empty_f {m : ByteArray} (h : m.size ≠ 0) : (m.toList == (⟨#[]⟩ : ByteArray).toList) = false := str_ne (fun e => h (by rw [e]; rfl))
theorem empty_t' {m : ByteArray} (h : m.size = 0) : (m.toList == []) = true := by
  have := empty_t h
  rwa [show (⟨#[]⟩ : ByteArray).toList = [] by rw [ByteArray.toList_eq]] at this
theorem empty_f' {m : ByteArray} (h : m.size ≠ 0) : (m.toList == []) = false := by
  have := empty_f h
  rwa [show (⟨#[]⟩ : ByteArray).toList = [] by rw [ByteArray.toList_eq]] at this

set_option maxRecDepth 100000 in
set_option maxHeartbeats 4000000 in
theorem prefixes_ooe (rt rk ra rb rc p n : Int) (u : Value) (L : List MCh) (more m : ByteArray) (hmm : more.extract 0 (min (more.size : Int) 20).toNat = m) (hms : m.size ≤ 20) (hn1 : -9223372036854775808 ≤ n) (hn2 : n ≤ 9223372036854775807) (W : World) (hE : Errs W) (hu : ChI W u L)
    (hr : VRow ⟨rt, rk, ⟨ra, rb, rc⟩⟩) (hx : VRec p (L.take 10)) (hm0 : m.size = 0) : Calls Tryd.prog 8 #[rowV ⟨rt, rk, ⟨ra, rb, rc⟩⟩, .agg #[.int .i64 p, u], .int .i64 n, .string more] W fun e w' => e = .returned (.bool true) ∧ Below W.heap.size W w' := by
  have HG : Hid (∀ w', Below W.heap.size W w' → Errs w') := Lib.hid (fun w' h => hE.below h)
  have HU := Lib.hid hu
  have hus : ∃ a n c, u = .slice a n c := by obtain ⟨a, n, c, e, _⟩ := hu; exact ⟨a, n, c, e⟩
  obtain ⟨ua, un, uc, rfl⟩ := hus
  have HR := Lib.hid hr
  have HX := Lib.hid hx
  have hm1 := empty_t hm0
  have hm2 := empty_t' hm0
  have HMS := Lib.hid hms
  have HF : Hid (EncF (encRowS ⟨rt, rk, ⟨ra, rb, rc⟩⟩) m (fun s => (decRow s).2) 0) := Lib.hid (by have := encF_row hr m; rwa [if_pos hm0] at this)
  have HK : Hid (EncF (encRecS p (L.take 10)) m (fun s => (decRec s).2) 0) := Lib.hid (by have := encF_rec hx m; rwa [if_pos hm0] at this)
  clear hE hu hr hx hm0 hms
  go_enter Tryd.func8, Tryd.ntmps8
  have HR0 := Lib.hid (RX.new W ⟨rt, rk, ⟨ra, rb, rc⟩⟩ p (.slice ua un uc))
  go_wp2_with fail
  (with_reducible refine (sane_any _ (HG.out _ HR0.out.b)).mono ?_)
  rintro e w1 ⟨rfl, hb1⟩
  have HR1 := Lib.hid (HR0.out.next hb1)
  clear hb1 HR0
  obtain ⟨⟨r0, r1, r2, r3, r4⟩, c0, c1, _⟩ := HR1.out
  go_wp2_with fail
  (with_reducible refine (enc_ok ⟨rt, rk, ⟨ra, rb, rc⟩⟩ _ HR.out).mono ?_)
  rintro e w2 ⟨rfl, hb2⟩
  generalize encRowS ⟨rt, rk, ⟨ra, rb, rc⟩⟩ = s at *
  have hs1 := HF.out.pos
  have hsl := HF.out.le
  have hsn : s.size ≠ 0 := by omega
  have hse := empty_f hsn
  have hse' := empty_f' hsn
  clear hsn
  have HR2 := Lib.hid (HR1.out.next hb2)
  clear hb2 HR1 r0 r1 r2 r3 r4 c0 c1
  obtain ⟨_, c0, c1, _⟩ := HR2.out
  go_wp2_with fail
  (with_reducible refine (cut_any p _ L _ (HU.out.below HR2.out.b)).mono ?_)
  rintro e w3 ⟨u1, rfl, hc1, hb3⟩
  have HR3 := Lib.hid (HR2.out.next hb3)
  have HC3 := Lib.hid hc1.chs
  clear hb3 hc1 HR2 c0 c1
  go_wp2_with fail
  (with_reducible refine (recS_ok p _ _ _ HX.out HC3.out).mono ?_)
  rintro e w4 ⟨rfl, hb4⟩
  generalize encRecS p (L.take 10) = t at *
  have ht1 := HK.out.pos
  have htl := HK.out.le
  have htn : t.size ≠ 0 := by omega
  have hte := empty_f htn
  have hte' := empty_f' htn
  clear htn
  have HR4 := Lib.hid (HR3.out.next hb4)
  clear hb4 HR3 HC3
  go_wp2_with fail
  have hk := pk_range (c := n) (n := (s.size : Int)) (by omega)
  (with_reducible refine (pick_any n (s.size : Int) _ hn1 hn2 (by omega) (by omega)).mono ?_)
  rintro e w5 ⟨rfl, rfl⟩
  obtain ⟨k, HKK⟩ : ∃ k : Nat, Hid (pk n (s.size : Int) = (k : Int)) := ⟨(pk n (s.size : Int)).toNat, Lib.hid (by omega)⟩
  rw [HKK.out] at hk ⊢
  have hk2 : k < s.size := by omega
  have hns : ¬ 9223372036854775807 < s.size + m.size := by have := HMS.out; omega
  go_wp2_with fail
  (with_reducible refine (dec_code _ (HF.out.cut k hk2) (by unfold maxLen; rw [ByteArray.size_extract]; omega) (HG.out _ HR4.out.b)).mono ?_)
  rintro e w6 ⟨y0, y1, y2, y3, y4, rfl, hb6⟩
  have HR6 := Lib.hid (HR4.out.next (bt hb6 (ba w6 (.cells #[.int .i64 y0, .int .i64 y1, .int .i64 y2, .int .i64 y3, .int .i64 y4] 24))))
  clear hb6 HR4
  go_wp2_with fail
  (with_reducible refine (dec_code _ HF.out.long (by unfold maxLen; rw [ByteArray.size_append]; have := HMS.out; omega) (HG.out _ HR6.out.b)).mono ?_)
  rintro e w7 ⟨z0, z1, z2, z3, z4, rfl, hb7⟩
  have HR7 := Lib.hid (HR6.out.next (bt hb7 (ba w7 (.cells #[.int .i64 z0, .int .i64 z1, .int .i64 z2, .int .i64 z3, .int .i64 z4] 24))))
  clear hb7 HR6 hk hk2 hns
  go_wp2_with fail
  have hj := pk_range (c := n) (n := (t.size : Int)) (by omega)
  (with_reducible refine (pick_any n (t.size : Int) _ hn1 hn2 (by omega) (by omega)).mono ?_)
  rintro e w8 ⟨rfl, rfl⟩
  obtain ⟨j, HJJ⟩ : ∃ k : Nat, Hid (pk n (t.size : Int) = (k : Int)) := ⟨(pk n (t.size : Int)).toNat, Lib.hid (by omega)⟩
  rw [HJJ.out] at hj ⊢
  have hj2 : j < t.size := by omega
  have hnt : ¬ 9223372036854775807 < t.size + m.size := by have := HMS.out; omega
  go_wp2_with fail
  (with_reducible refine (decR_code _ (HK.out.cut j hj2) (by unfold maxLen; rw [ByteArray.size_extract]; omega) (HG.out _ HR7.out.b)).mono ?_)
  rintro e w9 ⟨xp, xa, xn, xm, rfl, hb9⟩
  have HR9 := Lib.hid (HR7.out.next (bt hb9 (ba w9 (.cells #[.int .i64 xp, .slice xa xn xm] 37))))
  clear hb9 HR7
  go_wp2_with fail
  (with_reducible refine (decR_code _ HK.out.long (by unfold maxLen; rw [ByteArray.size_append]; have := HMS.out; omega) (HG.out _ HR9.out.b)).mono ?_)
  rintro e wa ⟨ap, aa, an, am, rfl, hba⟩
  have HRa := Lib.hid (HR9.out.next (bt hba (ba wa (.cells #[.int .i64 ap, .slice aa an am] 37))))
  clear hba HR9 hj hj2 hnt
  go_wp2_with fail
  go_ret
  exact ⟨rfl, HRa.out.b⟩

set_option maxRecDepth 100000 in
set_option maxHeartbeats 4000000 in
theorem prefixes_oon (rt rk ra rb rc p n : Int) (u : Value) (L : List MCh) (more m : ByteArray) (hmm : more.extract 0 (min (more.size : Int) 20).toNat = m) (hms : m.size ≤ 20) (hn1 : -9223372036854775808 ≤ n) (hn2 : n ≤ 9223372036854775807) (W : World) (hE : Errs W) (hu : ChI W u L)
    (hr : VRow ⟨rt, rk, ⟨ra, rb, rc⟩⟩) (hx : VRec p (L.take 10)) (hm0 : m.size ≠ 0) : Calls Tryd.prog 8 #[rowV ⟨rt, rk, ⟨ra, rb, rc⟩⟩, .agg #[.int .i64 p, u], .int .i64 n, .string more] W fun e w' => e = .returned (.bool true) ∧ Below W.heap.size W w' := by
  have HG : Hid (∀ w', Below W.heap.size W w' → Errs w') := Lib.hid (fun w' h => hE.below h)
  have HU := Lib.hid hu
  have hus : ∃ a n c, u = .slice a n c := by obtain ⟨a, n, c, e, _⟩ := hu; exact ⟨a, n, c, e⟩
  obtain ⟨ua, un, uc, rfl⟩ := hus
  have HR := Lib.hid hr
  have HX := Lib.hid hx
  have hm1 := empty_f hm0
  have hm2 := empty_f' hm0
  have HMS := Lib.hid hms
  have HF : Hid (EncF (encRowS ⟨rt, rk, ⟨ra, rb, rc⟩⟩) m (fun s => (decRow s).2) 10) := Lib.hid (by have := encF_row hr m; rwa [if_neg hm0] at this)
  have HK : Hid (EncF (encRecS p (L.take 10)) m (fun s => (decRec s).2) 10) := Lib.hid (by have := encF_rec hx m; rwa [if_neg hm0] at this)
  clear hE hu hr hx hm0 hms
  go_enter Tryd.func8, Tryd.ntmps8
  have HR0 := Lib.hid (RX.new W ⟨rt, rk, ⟨ra, rb, rc⟩⟩ p (.slice ua un uc))
  go_wp2_with fail
  (with_reducible refine (sane_any _ (HG.out _ HR0.out.b)).mono ?_)
  rintro e w1 ⟨rfl, hb1⟩
  have HR1 := Lib.hid (HR0.out.next hb1)
  clear hb1 HR0
  obtain ⟨⟨r0, r1, r2, r3, r4⟩, c0, c1, _⟩ := HR1.out
  go_wp2_with fail
  (with_reducible refine (enc_ok ⟨rt, rk, ⟨ra, rb, rc⟩⟩ _ HR.out).mono ?_)
  rintro e w2 ⟨rfl, hb2⟩
  generalize encRowS ⟨rt, rk, ⟨ra, rb, rc⟩⟩ = s at *
  have hs1 := HF.out.pos
  have hsl := HF.out.le
  have hsn : s.size ≠ 0 := by omega
  have hse := empty_f hsn
  have hse' := empty_f' hsn
  clear hsn
  have HR2 := Lib.hid (HR1.out.next hb2)
  clear hb2 HR1 r0 r1 r2 r3 r4 c0 c1
  obtain ⟨_, c0, c1, _⟩ := HR2.out
  go_wp2_with fail
  (with_reducible refine (cut_any p _ L _ (HU.out.below HR2.out.b)).mono ?_)
  rintro e w3 ⟨u1, rfl, hc1, hb3⟩
  have HR3 := Lib.hid (HR2.out.next hb3)
  have HC3 := Lib.hid hc1.chs
  clear hb3 hc1 HR2 c0 c1
  go_wp2_with fail
  (with_reducible refine (recS_ok p _ _ _ HX.out HC3.out).mono ?_)
  rintro e w4 ⟨rfl, hb4⟩
  generalize encRecS p (L.take 10) = t at *
  have ht1 := HK.out.pos
  have htl := HK.out.le
  have htn : t.size ≠ 0 := by omega
  have hte := empty_f htn
  have hte' := empty_f' htn
  clear htn
  have HR4 := Lib.hid (HR3.out.next hb4)
  clear hb4 HR3 HC3
  go_wp2_with fail
  have hk := pk_range (c := n) (n := (s.size : Int)) (by omega)
  (with_reducible refine (pick_any n (s.size : Int) _ hn1 hn2 (by omega) (by omega)).mono ?_)
  rintro e w5 ⟨rfl, rfl⟩
  obtain ⟨k, HKK⟩ : ∃ k : Nat, Hid (pk n (s.size : Int) = (k : Int)) := ⟨(pk n (s.size : Int)).toNat, Lib.hid (by omega)⟩
  rw [HKK.out] at hk ⊢
  have hk2 : k < s.size := by omega
  have hns : ¬ 9223372036854775807 < s.size + m.size := by have := HMS.out; omega
  go_wp2_with fail
  (with_reducible refine (dec_code _ (HF.out.cut k hk2) (by unfold maxLen; rw [ByteArray.size_extract]; omega) (HG.out _ HR4.out.b)).mono ?_)
  rintro e w6 ⟨y0, y1, y2, y3, y4, rfl, hb6⟩
  have HR6 := Lib.hid (HR4.out.next (bt hb6 (ba w6 (.cells #[.int .i64 y0, .int .i64 y1, .int .i64 y2, .int .i64 y3, .int .i64 y4] 24))))
  clear hb6 HR4
  go_wp2_with fail
  (with_reducible refine (dec_code _ HF.out.long (by unfold maxLen; rw [ByteArray.size_append]; have := HMS.out; omega) (HG.out _ HR6.out.b)).mono ?_)
  rintro e w7 ⟨z0, z1, z2, z3, z4, rfl, hb7⟩
  have HR7 := Lib.hid (HR6.out.next (bt hb7 (ba w7 (.cells #[.int .i64 z0, .int .i64 z1, .int .i64 z2, .int .i64 z3, .int .i64 z4] 24))))
  clear hb7 HR6 hk hk2 hns
  go_wp2_with fail
  have hj := pk_range (c := n) (n := (t.size : Int)) (by omega)
  (with_reducible refine (pick_any n (t.size : Int) _ hn1 hn2 (by omega) (by omega)).mono ?_)
  rintro e w8 ⟨rfl, rfl⟩
  obtain ⟨j, HJJ⟩ : ∃ k : Nat, Hid (pk n (t.size : Int) = (k : Int)) := ⟨(pk n (t.size : Int)).toNat, Lib.hid (by omega)⟩
  rw [HJJ.out] at hj ⊢
  have hj2 : j < t.size := by omega
  have hnt : ¬ 9223372036854775807 < t.size + m.size := by have := HMS.out; omega
  go_wp2_with fail
  (with_reducible refine (decR_code _ (HK.out.cut j hj2) (by unfold maxLen; rw [ByteArray.size_extract]; omega) (HG.out _ HR7.out.b)).mono ?_)
  rintro e w9 ⟨xp, xa, xn, xm, rfl, hb9⟩
  have HR9 := Lib.hid (HR7.out.next (bt hb9 (ba w9 (.cells #[.int .i64 xp, .slice xa xn xm] 37))))
  clear hb9 HR7
  go_wp2_with fail
  (with_reducible refine (decR_code _ HK.out.long (by unfold maxLen; rw [ByteArray.size_append]; have := HMS.out; omega) (HG.out _ HR9.out.b)).mono ?_)
  rintro e wa ⟨ap, aa, an, am, rfl, hba⟩
  have HRa := Lib.hid (HR9.out.next (bt hba (ba wa (.cells #[.int .i64 ap, .slice aa an am] 37))))
  clear hba HR9 hj hj2 hnt
  go_wp2_with fail
  go_ret
  exact ⟨rfl, HRa.out.b⟩

set_option maxRecDepth 100000 in
set_option maxHeartbeats 4000000 in
theorem prefixes_obe (rt rk ra rb rc p n : Int) (u : Value) (L : List MCh) (more m : ByteArray) (hmm : more.extract 0 (min (more.size : Int) 20).toNat = m) (hms : m.size ≤ 20) (hn1 : -9223372036854775808 ≤ n) (hn2 : n ≤ 9223372036854775807) (W : World) (hE : Errs W) (hu : ChI W u L)
    (hr : VRow ⟨rt, rk, ⟨ra, rb, rc⟩⟩) (hx : ¬ VRec p (L.take 10)) (hm0 : m.size = 0) : Calls Tryd.prog 8 #[rowV ⟨rt, rk, ⟨ra, rb, rc⟩⟩, .agg #[.int .i64 p, u], .int .i64 n, .string more] W fun e w' => e = .returned (.bool true) ∧ Below W.heap.size W w' := by
  have HG : Hid (∀ w', Below W.heap.size W w' → Errs w') := Lib.hid (fun w' h => hE.below h)
  have HU := Lib.hid hu
  have hus : ∃ a n c, u = .slice a n c := by obtain ⟨a, n, c, e, _⟩ := hu; exact ⟨a, n, c, e⟩
  obtain ⟨ua, un, uc, rfl⟩ := hus
  have HR := Lib.hid hr
  have HX := Lib.hid hx
  have hm1 := empty_t hm0
  have hm2 := empty_t' hm0
  have HMS := Lib.hid hms
  have HF : Hid (EncF (encRowS ⟨rt, rk, ⟨ra, rb, rc⟩⟩) m (fun s => (decRow s).2) 0) := Lib.hid (by have := encF_row hr m; rwa [if_pos hm0] at this)
  clear hE hu hr hx hm0 hms
  go_enter Tryd.func8, Tryd.ntmps8
  have HR0 := Lib.hid (RX.new W ⟨rt, rk, ⟨ra, rb, rc⟩⟩ p (.slice ua un uc))
  go_wp2_with fail
  (with_reducible refine (sane_any _ (HG.out _ HR0.out.b)).mono ?_)
  rintro e w1 ⟨rfl, hb1⟩
  have HR1 := Lib.hid (HR0.out.next hb1)
  clear hb1 HR0
  obtain ⟨⟨r0, r1, r2, r3, r4⟩, c0, c1, _⟩ := HR1.out
  go_wp2_with fail
  (with_reducible refine (enc_ok ⟨rt, rk, ⟨ra, rb, rc⟩⟩ _ HR.out).mono ?_)
  rintro e w2 ⟨rfl, hb2⟩
  generalize encRowS ⟨rt, rk, ⟨ra, rb, rc⟩⟩ = s at *
  have hs1 := HF.out.pos
  have hsl := HF.out.le
  have hsn : s.size ≠ 0 := by omega
  have hse := empty_f hsn
  have hse' := empty_f' hsn
  clear hsn
  have HR2 := Lib.hid (HR1.out.next hb2)
  clear hb2 HR1 r0 r1 r2 r3 r4 c0 c1
  obtain ⟨_, c0, c1, _⟩ := HR2.out
  go_wp2_with fail
  (with_reducible refine (cut_any p _ L _ (HU.out.below HR2.out.b)).mono ?_)
  rintro e w3 ⟨u1, rfl, hc1, hb3⟩
  have HR3 := Lib.hid (HR2.out.next hb3)
  have HC3 := Lib.hid hc1.chs
  clear hb3 hc1 HR2 c0 c1
  go_wp2_with fail
  (with_reducible refine (recS_bad p _ _ _ HX.out HC3.out).mono ?_)
  rintro e w4 ⟨rfl, hb4⟩
  have HR4 := Lib.hid (HR3.out.next hb4)
  clear hb4 HR3 HC3
  go_wp2_with fail
  have hk := pk_range (c := n) (n := (s.size : Int)) (by omega)
  (with_reducible refine (pick_any n (s.size : Int) _ hn1 hn2 (by omega) (by omega)).mono ?_)
  rintro e w5 ⟨rfl, rfl⟩
  obtain ⟨k, HKK⟩ : ∃ k : Nat, Hid (pk n (s.size : Int) = (k : Int)) := ⟨(pk n (s.size : Int)).toNat, Lib.hid (by omega)⟩
  rw [HKK.out] at hk ⊢
  have hk2 : k < s.size := by omega
  have hns : ¬ 9223372036854775807 < s.size + m.size := by have := HMS.out; omega
  go_wp2_with fail
  (with_reducible refine (dec_code _ (HF.out.cut k hk2) (by unfold maxLen; rw [ByteArray.size_extract]; omega) (HG.out _ HR4.out.b)).mono ?_)
  rintro e w6 ⟨y0, y1, y2, y3, y4, rfl, hb6⟩
  have HR6 := Lib.hid (HR4.out.next (bt hb6 (ba w6 (.cells #[.int .i64 y0, .int .i64 y1, .int .i64 y2, .int .i64 y3, .int .i64 y4] 24))))
  clear hb6 HR4
  go_wp2_with fail
  (with_reducible refine (dec_code _ HF.out.long (by unfold maxLen; rw [ByteArray.size_append]; have := HMS.out; omega) (HG.out _ HR6.out.b)).mono ?_)
  rintro e w7 ⟨z0, z1, z2, z3, z4, rfl, hb7⟩
  have HR7 := Lib.hid (HR6.out.next (bt hb7 (ba w7 (.cells #[.int .i64 z0, .int .i64 z1, .int .i64 z2, .int .i64 z3, .int .i64 z4] 24))))
  clear hb7 HR6 hk hk2 hns
  go_wp2_with fail
  go_ret
  exact ⟨rfl, HR7.out.b⟩

set_option maxRecDepth 100000 in
set_option maxHeartbeats 4000000 in
theorem prefixes_obn (rt rk ra rb rc p n : Int) (u : Value) (L : List MCh) (more m : ByteArray) (hmm : more.extract 0 (min (more.size : Int) 20).toNat = m) (hms : m.size ≤ 20) (hn1 : -9223372036854775808 ≤ n) (hn2 : n ≤ 9223372036854775807) (W : World) (hE : Errs W) (hu : ChI W u L)
    (hr : VRow ⟨rt, rk, ⟨ra, rb, rc⟩⟩) (hx : ¬ VRec p (L.take 10)) (hm0 : m.size ≠ 0) : Calls Tryd.prog 8 #[rowV ⟨rt, rk, ⟨ra, rb, rc⟩⟩, .agg #[.int .i64 p, u], .int .i64 n, .string more] W fun e w' => e = .returned (.bool true) ∧ Below W.heap.size W w' := by
  have HG : Hid (∀ w', Below W.heap.size W w' → Errs w') := Lib.hid (fun w' h => hE.below h)
  have HU := Lib.hid hu
  have hus : ∃ a n c, u = .slice a n c := by obtain ⟨a, n, c, e, _⟩ := hu; exact ⟨a, n, c, e⟩
  obtain ⟨ua, un, uc, rfl⟩ := hus
  have HR := Lib.hid hr
  have HX := Lib.hid hx
  have hm1 := empty_f hm0
  have hm2 := empty_f' hm0
  have HMS := Lib.hid hms
  have HF : Hid (EncF (encRowS ⟨rt, rk, ⟨ra, rb, rc⟩⟩) m (fun s => (decRow s).2) 10) := Lib.hid (by have := encF_row hr m; rwa [if_neg hm0] at this)
  clear hE hu hr hx hm0 hms
  go_enter Tryd.func8, Tryd.ntmps8
  have HR0 := Lib.hid (RX.new W ⟨rt, rk, ⟨ra, rb, rc⟩⟩ p (.slice ua un uc))
  go_wp2_with fail
  (with_reducible refine (sane_any _ (HG.out _ HR0.out.b)).mono ?_)
  rintro e w1 ⟨rfl, hb1⟩
  have HR1 := Lib.hid (HR0.out.next hb1)
  clear hb1 HR0
  obtain ⟨⟨r0, r1, r2, r3, r4⟩, c0, c1, _⟩ := HR1.out
  go_wp2_with fail
  (with_reducible refine (enc_ok ⟨rt, rk, ⟨ra, rb, rc⟩⟩ _ HR.out).mono ?_)
  rintro e w2 ⟨rfl, hb2⟩
  generalize encRowS ⟨rt, rk, ⟨ra, rb, rc⟩⟩ = s at *
  have hs1 := HF.out.pos
  have hsl := HF.out.le
  have hsn : s.size ≠ 0 := by omega
  have hse := empty_f hsn
  have hse' := empty_f' hsn
  clear hsn
  have HR2 := Lib.hid (HR1.out.next hb2)
  clear hb2 HR1 r0 r1 r2 r3 r4 c0 c1
  obtain ⟨_, c0, c1, _⟩ := HR2.out
  go_wp2_with fail
  (with_reducible refine (cut_any p _ L _ (HU.out.below HR2.out.b)).mono ?_)
  rintro e w3 ⟨u1, rfl, hc1, hb3⟩
  have HR3 := Lib.hid (HR2.out.next hb3)
  have HC3 := Lib.hid hc1.chs
  clear hb3 hc1 HR2 c0 c1
  go_wp2_with fail
  (with_reducible refine (recS_bad p _ _ _ HX.out HC3.out).mono ?_)
  rintro e w4 ⟨rfl, hb4⟩
  have HR4 := Lib.hid (HR3.out.next hb4)
  clear hb4 HR3 HC3
  go_wp2_with fail
  have hk := pk_range (c := n) (n := (s.size : Int)) (by omega)
  (with_reducible refine (pick_any n (s.size : Int) _ hn1 hn2 (by omega) (by omega)).mono ?_)
  rintro e w5 ⟨rfl, rfl⟩
  obtain ⟨k, HKK⟩ : ∃ k : Nat, Hid (pk n (s.size : Int) = (k : Int)) := ⟨(pk n (s.size : Int)).toNat, Lib.hid (by omega)⟩
  rw [HKK.out] at hk ⊢
  have hk2 : k < s.size := by omega
  have hns : ¬ 9223372036854775807 < s.size + m.size := by have := HMS.out; omega
  go_wp2_with fail
  (with_reducible refine (dec_code _ (HF.out.cut k hk2) (by unfold maxLen; rw [ByteArray.size_extract]; omega) (HG.out _ HR4.out.b)).mono ?_)
  rintro e w6 ⟨y0, y1, y2, y3, y4, rfl, hb6⟩
  have HR6 := Lib.hid (HR4.out.next (bt hb6 (ba w6 (.cells #[.int .i64 y0, .int .i64 y1, .int .i64 y2, .int .i64 y3, .int .i64 y4] 24))))
  clear hb6 HR4
  go_wp2_with fail
  (with_reducible refine (dec_code _ HF.out.long (by unfold maxLen; rw [ByteArray.size_append]; have := HMS.out; omega) (HG.out _ HR6.out.b)).mono ?_)
  rintro e w7 ⟨z0, z1, z2, z3, z4, rfl, hb7⟩
  have HR7 := Lib.hid (HR6.out.next (bt hb7 (ba w7 (.cells #[.int .i64 z0, .int .i64 z1, .int .i64 z2, .int .i64 z3, .int .i64 z4] 24))))
  clear hb7 HR6 hk hk2 hns
  go_wp2_with fail
  go_ret
  exact ⟨rfl, HR7.out.b⟩

set_option maxRecDepth 100000 in
set_option maxHeartbeats 4000000 in
theorem prefixes_boe (rt rk ra rb rc p n : Int) (u : Value) (L : List MCh) (more m : ByteArray) (hmm : more.extract 0 (min (more.size : Int) 20).toNat = m) (hms : m.size ≤ 20) (hn1 : -9223372036854775808 ≤ n) (hn2 : n ≤ 9223372036854775807) (W : World) (hE : Errs W) (hu : ChI W u L)
    (hr : ¬ VRow ⟨rt, rk, ⟨ra, rb, rc⟩⟩) (hx : VRec p (L.take 10)) (hm0 : m.size = 0) : Calls Tryd.prog 8 #[rowV ⟨rt, rk, ⟨ra, rb, rc⟩⟩, .agg #[.int .i64 p, u], .int .i64 n, .string more] W fun e w' => e = .returned (.bool true) ∧ Below W.heap.size W w' := by
  have HG : Hid (∀ w', Below W.heap.size W w' → Errs w') := Lib.hid (fun w' h => hE.below h)
  have HU := Lib.hid hu
  have hus : ∃ a n c, u = .slice a n c := by obtain ⟨a, n, c, e, _⟩ := hu; exact ⟨a, n, c, e⟩
  obtain ⟨ua, un, uc, rfl⟩ := hus
  have HR := Lib.hid hr
  have HX := Lib.hid hx
  have hm1 := empty_t hm0
  have hm2 := empty_t' hm0
  have HMS := Lib.hid hms
  have HK : Hid (EncF (encRecS p (L.take 10)) m (fun s => (decRec s).2) 0) := Lib.hid (by have := encF_rec hx m; rwa [if_pos hm0] at this)
  clear hE hu hr hx hm0 hms
  go_enter Tryd.func8, Tryd.ntmps8
  have HR0 := Lib.hid (RX.new W ⟨rt, rk, ⟨ra, rb, rc⟩⟩ p (.slice ua un uc))
  go_wp2_with fail
  (with_reducible refine (sane_any _ (HG.out _ HR0.out.b)).mono ?_)
  rintro e w1 ⟨rfl, hb1⟩
  have HR1 := Lib.hid (HR0.out.next hb1)
  clear hb1 HR0
  obtain ⟨⟨r0, r1, r2, r3, r4⟩, c0, c1, _⟩ := HR1.out
  go_wp2_with fail
  (with_reducible refine (enc_bad ⟨rt, rk, ⟨ra, rb, rc⟩⟩ _ HR.out).mono ?_)
  rintro e w2 ⟨rfl, hb2⟩
  have HR2 := Lib.hid (HR1.out.next hb2)
  clear hb2 HR1 r0 r1 r2 r3 r4 c0 c1
  obtain ⟨_, c0, c1, _⟩ := HR2.out
  go_wp2_with fail
  (with_reducible refine (cut_any p _ L _ (HU.out.below HR2.out.b)).mono ?_)
  rintro e w3 ⟨u1, rfl, hc1, hb3⟩
  have HR3 := Lib.hid (HR2.out.next hb3)
  have HC3 := Lib.hid hc1.chs
  clear hb3 hc1 HR2 c0 c1
  go_wp2_with fail
  (with_reducible refine (recS_ok p _ _ _ HX.out HC3.out).mono ?_)
  rintro e w4 ⟨rfl, hb4⟩
  generalize encRecS p (L.take 10) = t at *
  have ht1 := HK.out.pos
  have htl := HK.out.le
  have htn : t.size ≠ 0 := by omega
  have hte := empty_f htn
  have hte' := empty_f' htn
  clear htn
  have HR4 := Lib.hid (HR3.out.next hb4)
  clear hb4 HR3 HC3
  go_wp2_with fail
  have hj := pk_range (c := n) (n := (t.size : Int)) (by omega)
  (with_reducible refine (pick_any n (t.size : Int) _ hn1 hn2 (by omega) (by omega)).mono ?_)
  rintro e w8 ⟨rfl, rfl⟩
  obtain ⟨j, HJJ⟩ : ∃ k : Nat, Hid (pk n (t.size : Int) = (k : Int)) := ⟨(pk n (t.size : Int)).toNat, Lib.hid (by omega)⟩
  rw [HJJ.out] at hj ⊢
  have hj2 : j < t.size := by omega
  have hnt : ¬ 9223372036854775807 < t.size + m.size := by have := HMS.out; omega
  go_wp2_with fail
  (with_reducible refine (decR_code _ (HK.out.cut j hj2) (by unfold maxLen; rw [ByteArray.size_extract]; omega) (HG.out _ HR4.out.b)).mono ?_)
  rintro e w9 ⟨xp, xa, xn, xm, rfl, hb9⟩
  have HR9 := Lib.hid (HR4.out.next (bt hb9 (ba w9 (.cells #[.int .i64 xp, .slice xa xn xm] 37))))
  clear hb9 HR4
  go_wp2_with fail
  (with_reducible refine (decR_code _ HK.out.long (by unfold maxLen; rw [ByteArray.size_append]; have := HMS.out; omega) (HG.out _ HR9.out.b)).mono ?_)
  rintro e wa ⟨ap, aa, an, am, rfl, hba⟩
  have HRa := Lib.hid (HR9.out.next (bt hba (ba wa (.cells #[.int .i64 ap, .slice aa an am] 37))))
  clear hba HR9 hj hj2 hnt
  go_wp2_with fail
  go_ret
  exact ⟨rfl, HRa.out.b⟩

set_option maxRecDepth 100000 in
set_option maxHeartbeats 4000000 in
theorem prefixes_bon (rt rk ra rb rc p n : Int) (u : Value) (L : List MCh) (more m : ByteArray) (hmm : more.extract 0 (min (more.size : Int) 20).toNat = m) (hms : m.size ≤ 20) (hn1 : -9223372036854775808 ≤ n) (hn2 : n ≤ 9223372036854775807) (W : World) (hE : Errs W) (hu : ChI W u L)
    (hr : ¬ VRow ⟨rt, rk, ⟨ra, rb, rc⟩⟩) (hx : VRec p (L.take 10)) (hm0 : m.size ≠ 0) : Calls Tryd.prog 8 #[rowV ⟨rt, rk, ⟨ra, rb, rc⟩⟩, .agg #[.int .i64 p, u], .int .i64 n, .string more] W fun e w' => e = .returned (.bool true) ∧ Below W.heap.size W w' := by
  have HG : Hid (∀ w', Below W.heap.size W w' → Errs w') := Lib.hid (fun w' h => hE.below h)
  have HU := Lib.hid hu
  have hus : ∃ a n c, u = .slice a n c := by obtain ⟨a, n, c, e, _⟩ := hu; exact ⟨a, n, c, e⟩
  obtain ⟨ua, un, uc, rfl⟩ := hus
  have HR := Lib.hid hr
  have HX := Lib.hid hx
  have hm1 := empty_f hm0
  have hm2 := empty_f' hm0
  have HMS := Lib.hid hms
  have HK : Hid (EncF (encRecS p (L.take 10)) m (fun s => (decRec s).2) 10) := Lib.hid (by have := encF_rec hx m; rwa [if_neg hm0] at this)
  clear hE hu hr hx hm0 hms
  go_enter Tryd.func8, Tryd.ntmps8
  have HR0 := Lib.hid (RX.new W ⟨rt, rk, ⟨ra, rb, rc⟩⟩ p (.slice ua un uc))
  go_wp2_with fail
  (with_reducible refine (sane_any _ (HG.out _ HR0.out.b)).mono ?_)
  rintro e w1 ⟨rfl, hb1⟩
  have HR1 := Lib.hid (HR0.out.next hb1)
  clear hb1 HR0
  obtain ⟨⟨r0, r1, r2, r3, r4⟩, c0, c1, _⟩ := HR1.out
  go_wp2_with fail
  (with_reducible refine (enc_bad ⟨rt, rk, ⟨ra, rb, rc⟩⟩ _ HR.out).mono ?_)
  rintro e w2 ⟨rfl, hb2⟩
  have HR2 := Lib.hid (HR1.out.next hb2)
  clear hb2 HR1 r0 r1 r2 r3 r4 c0 c1
  obtain ⟨_, c0, c1, _⟩ := HR2.out
  go_wp2_with fail
  (with_reducible refine (cut_any p _ L _ (HU.out.below HR2.out.b)).mono ?_)
  rintro e w3 ⟨u1, rfl, hc1, hb3⟩
  have HR3 := Lib.hid (HR2.out.next hb3)
  have HC3 := Lib.hid hc1.chs
  clear hb3 hc1 HR2 c0 c1
  go_wp2_with fail
  (with_reducible refine (recS_ok p _ _ _ HX.out HC3.out).mono ?_)
  rintro e w4 ⟨rfl, hb4⟩
  generalize encRecS p (L.take 10) = t at *
  have ht1 := HK.out.pos
  have htl := HK.out.le
  have htn : t.size ≠ 0 := by omega
  have hte := empty_f htn
  have hte' := empty_f' htn
  clear htn
  have HR4 := Lib.hid (HR3.out.next hb4)
  clear hb4 HR3 HC3
  go_wp2_with fail
  have hj := pk_range (c := n) (n := (t.size : Int)) (by omega)
  (with_reducible refine (pick_any n (t.size : Int) _ hn1 hn2 (by omega) (by omega)).mono ?_)
  rintro e w8 ⟨rfl, rfl⟩
  obtain ⟨j, HJJ⟩ : ∃ k : Nat, Hid (pk n (t.size : Int) = (k : Int)) := ⟨(pk n (t.size : Int)).toNat, Lib.hid (by omega)⟩
  rw [HJJ.out] at hj ⊢
  have hj2 : j < t.size := by omega
  have hnt : ¬ 9223372036854775807 < t.size + m.size := by have := HMS.out; omega
  go_wp2_with fail
  (with_reducible refine (decR_code _ (HK.out.cut j hj2) (by unfold maxLen; rw [ByteArray.size_extract]; omega) (HG.out _ HR4.out.b)).mono ?_)
  rintro e w9 ⟨xp, xa, xn, xm, rfl, hb9⟩
  have HR9 := Lib.hid (HR4.out.next (bt hb9 (ba w9 (.cells #[.int .i64 xp, .slice xa xn xm] 37))))
  clear hb9 HR4
  go_wp2_with fail
  (with_reducible refine (decR_code _ HK.out.long (by unfold maxLen; rw [ByteArray.size_append]; have := HMS.out; omega) (HG.out _ HR9.out.b)).mono ?_)
  rintro e wa ⟨ap, aa, an, am, rfl, hba⟩
  have HRa := Lib.hid (HR9.out.next (bt hba (ba wa (.cells #[.int .i64 ap, .slice aa an am] 37))))
  clear hba HR9 hj hj2 hnt
  go_wp2_with fail
  go_ret
  exact ⟨rfl, HRa.out.b⟩

set_option maxRecDepth 100000 in
set_option maxHeartbeats 4000000 in
theorem prefixes_bbe (rt rk ra rb rc p n : Int) (u : Value) (L : List MCh) (more m : ByteArray) (hmm : more.extract 0 (min (more.size : Int) 20).toNat = m) (hms : m.size ≤ 20) (hn1 : -9223372036854775808 ≤ n) (hn2 : n ≤ 9223372036854775807) (W : World) (hE : Errs W) (hu : ChI W u L)
    (hr : ¬ VRow ⟨rt, rk, ⟨ra, rb, rc⟩⟩) (hx : ¬ VRec p (L.take 10)) (hm0 : m.size = 0) : Calls Tryd.prog 8 #[rowV ⟨rt, rk, ⟨ra, rb, rc⟩⟩, .agg #[.int .i64 p, u], .int .i64 n, .string more] W fun e w' => e = .returned (.bool true) ∧ Below W.heap.size W w' := by
  have HG : Hid (∀ w', Below W.heap.size W w' → Errs w') := Lib.hid (fun w' h => hE.below h)
  have HU := Lib.hid hu
  have hus : ∃ a n c, u = .slice a n c := by obtain ⟨a, n, c, e, _⟩ := hu; exact ⟨a, n, c, e⟩
  obtain ⟨ua, un, uc, rfl⟩ := hus
  have HR := Lib.hid hr
  have HX := Lib.hid hx
  have hm1 := empty_t hm0
  have hm2 := empty_t' hm0
  have HMS := Lib.hid hms
  clear hE hu hr hx hm0 hms
  go_enter Tryd.func8, Tryd.ntmps8
  have HR0 := Lib.hid (RX.new W ⟨rt, rk, ⟨ra, rb, rc⟩⟩ p (.slice ua un uc))
  go_wp2_with fail
  (with_reducible refine (sane_any _ (HG.out _ HR0.out.b)).mono ?_)
  rintro e w1 ⟨rfl, hb1⟩
  have HR1 := Lib.hid (HR0.out.next hb1)
  clear hb1 HR0
  obtain ⟨⟨r0, r1, r2, r3, r4⟩, c0, c1, _⟩ := HR1.out
  go_wp2_with fail
  (with_reducible refine (enc_bad ⟨rt, rk, ⟨ra, rb, rc⟩⟩ _ HR.out).mono ?_)
  rintro e w2 ⟨rfl, hb2⟩
  have HR2 := Lib.hid (HR1.out.next hb2)
  clear hb2 HR1 r0 r1 r2 r3 r4 c0 c1
  obtain ⟨_, c0, c1, _⟩ := HR2.out
  go_wp2_with fail
  (with_reducible refine (cut_any p _ L _ (HU.out.below HR2.out.b)).mono ?_)
  rintro e w3 ⟨u1, rfl, hc1, hb3⟩
  have HR3 := Lib.hid (HR2.out.next hb3)
  have HC3 := Lib.hid hc1.chs
  clear hb3 hc1 HR2 c0 c1
  go_wp2_with fail
  (with_reducible refine (recS_bad p _ _ _ HX.out HC3.out).mono ?_)
  rintro e w4 ⟨rfl, hb4⟩
  have HR4 := Lib.hid (HR3.out.next hb4)
  clear hb4 HR3 HC3
  go_wp2_with fail
  go_ret
  exact ⟨rfl, HR4.out.b⟩

set_option maxRecDepth 100000 in
set_option maxHeartbeats 4000000 in
theorem prefixes_bbn (rt rk ra rb rc p n : Int) (u : Value) (L : List MCh) (more m : ByteArray) (hmm : more.extract 0 (min (more.size : Int) 20).toNat = m) (hms : m.size ≤ 20) (hn1 : -9223372036854775808 ≤ n) (hn2 : n ≤ 9223372036854775807) (W : World) (hE : Errs W) (hu : ChI W u L)
    (hr : ¬ VRow ⟨rt, rk, ⟨ra, rb, rc⟩⟩) (hx : ¬ VRec p (L.take 10)) (hm0 : m.size ≠ 0) : Calls Tryd.prog 8 #[rowV ⟨rt, rk, ⟨ra, rb, rc⟩⟩, .agg #[.int .i64 p, u], .int .i64 n, .string more] W fun e w' => e = .returned (.bool true) ∧ Below W.heap.size W w' := by
  have HG : Hid (∀ w', Below W.heap.size W w' → Errs w') := Lib.hid (fun w' h => hE.below h)
  have HU := Lib.hid hu
  have hus : ∃ a n c, u = .slice a n c := by obtain ⟨a, n, c, e, _⟩ := hu; exact ⟨a, n, c, e⟩
  obtain ⟨ua, un, uc, rfl⟩ := hus
  have HR := Lib.hid hr
  have HX := Lib.hid hx
  have hm1 := empty_f hm0
  have hm2 := empty_f' hm0
  have HMS := Lib.hid hms
  clear hE hu hr hx hm0 hms
  go_enter Tryd.func8, Tryd.ntmps8
  have HR0 := Lib.hid (RX.new W ⟨rt, rk, ⟨ra, rb, rc⟩⟩ p (.slice ua un uc))
  go_wp2_with fail
  (with_reducible refine (sane_any _ (HG.out _ HR0.out.b)).mono ?_)
  rintro e w1 ⟨rfl, hb1⟩
  have HR1 := Lib.hid (HR0.out.next hb1)
  clear hb1 HR0
  obtain ⟨⟨r0, r1, r2, r3, r4⟩, c0, c1, _⟩ := HR1.out
  go_wp2_with fail
  (with_reducible refine (enc_bad ⟨rt, rk, ⟨ra, rb, rc⟩⟩ _ HR.out).mono ?_)
  rintro e w2 ⟨rfl, hb2⟩
  have HR2 := Lib.hid (HR1.out.next hb2)
  clear hb2 HR1 r0 r1 r2 r3 r4 c0 c1
  obtain ⟨_, c0, c1, _⟩ := HR2.out
  go_wp2_with fail
  (with_reducible refine (cut_any p _ L _ (HU.out.below HR2.out.b)).mono ?_)
  rintro e w3 ⟨u1, rfl, hc1, hb3⟩
  have HR3 := Lib.hid (HR2.out.next hb3)
  have HC3 := Lib.hid hc1.chs
  clear hb3 hc1 HR2 c0 c1
  go_wp2_with fail
  (with_reducible refine (recS_bad p _ _ _ HX.out HC3.out).mono ?_)
  rintro e w4 ⟨rfl, hb4⟩
  have HR4 := Lib.hid (HR3.out.next hb4)
  clear hb4 HR3 HC3
  go_wp2_with fail
  go_ret
  exact ⟨rfl, HR4.out.b⟩

theorem prefixes_walk (r : MRow) (p n : Int) (u : Value) (L : List MCh) (more : ByteArray) (hn1 : -9223372036854775808 ≤ n) (hn2 : n ≤ 9223372036854775807) (W : World) (hE : Errs W) (hu : ChI W u L) : Calls Tryd.prog 8 #[rowV r, .agg #[.int .i64 p, u], .int .i64 n, .string more] W fun e w' => e = .returned (.bool true) ∧ Below W.heap.size W w' := by
  have hms := cut_size more 20
  rw [show ((20 : Nat) : Int) = 20 from rfl] at hms
  obtain ⟨rt, rk, ⟨ra, rb, rc⟩⟩ := r
  by_cases hr : VRow ⟨rt, rk, ⟨ra, rb, rc⟩⟩ <;> by_cases hx : VRec p (L.take 10) <;> by_cases hm0 : (more.extract 0 (min (more.size : Int) 20).toNat).size = 0
  · exact prefixes_ooe rt rk ra rb rc p n u L more _ rfl hms hn1 hn2 W hE hu hr hx hm0
  · exact prefixes_oon rt rk ra rb rc p n u L more _ rfl hms hn1 hn2 W hE hu hr hx hm0
  · exact prefixes_obe rt rk ra rb rc p n u L more _ rfl hms hn1 hn2 W hE hu hr hx hm0
  · exact prefixes_obn rt rk ra rb rc p n u L more _ rfl hms hn1 hn2 W hE hu hr hx hm0
  · exact prefixes_boe rt rk ra rb rc p n u L more _ rfl hms hn1 hn2 W hE hu hr hx hm0
  · exact prefixes_bon rt rk ra rb rc p n u L more _ rfl hms hn1 hn2 W hE hu hr hx hm0
  · exact prefixes_bbe rt rk ra rb rc p n u L more _ rfl hms hn1 hn2 W hE hu hr hx hm0
  · exact prefixes_bbn rt rk ra rb rc p n u L more _ rfl hms hn1 hn2 W hE hu hr hx hm0
end Go.Proofs.YtgkdliocfnoffaaDoor
