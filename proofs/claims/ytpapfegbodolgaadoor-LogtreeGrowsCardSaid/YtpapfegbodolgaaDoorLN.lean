/- WALKS: Next. -/
import Derived.Test.YtpapfegbodolgaaDoorLB
set_option linter.unusedVariables false
set_option linter.unusedSimpArgs false
namespace Go.Proofs.YtpapfegbodolgaaDoor
open Go.RowKit Go.Sort

theorem encRecS_size {p : Int} {L : List MCh} (h : VRec p L) : (encRecS p L).size ≤ 1000 := by
  have h1 := encStr_size (tokRec ⟨p, L⟩)
  have h2 := tokChs_len L
  have h3 : (tokRec ⟨p, L⟩).length = 2 + (tokChs L).length := by simp [tokRec]; omega
  have h4 := h.2.1.2
  unfold encRecS
  omega

set_option maxRecDepth 100000 in
set_option maxHeartbeats 4000000 in
theorem next_rec (h : MHead) (p : Int) (u : Value) (L : List MCh) (st : ByteArray) (w : World) (hv : ChS w u L) (hk : ¬ VRec p L) :
    Calls Tryd.prog 48 #[headV h, .agg #[.int .i64 p, u], .string st] w fun e w' => e = .returned (.tuple #[headV hdZ, .int .i64 90]) ∧ Below w.heap.size w w' := by
  obtain ⟨ua, un, uc, rfl, -⟩ := id hv
  have HV := Lib.hid hv
  obtain ⟨hp, hc, hs⟩ := h
  have HK := Lib.hid hk
  clear hk hv
  unfold headV
  go_enter Tryd.func48, Tryd.ntmps48
  go_upto_region 1 with fail
  obtain ⟨w0, Hw0⟩ : ∃ w0, Hid (((w.alloc (.cells #[.int .i64 hp, .string hc, .string hs] 23)).alloc (.cells #[.int .i64 p, .slice ua un uc] 51)).alloc (.cells #[.int .i64 0, .string ⟨#[]⟩, .string ⟨#[]⟩] 23) = w0) := ⟨_, Lib.hid rfl⟩
  obtain ⟨hB0, hH0, hR0, hZ0⟩ := lay3 w (.cells #[.int .i64 hp, .string hc, .string hs] 23) (.cells #[.int .i64 p, .slice ua un uc] 51) (.cells #[.int .i64 0, .string ⟨#[]⟩, .string ⟨#[]⟩] 23)
  rw [Hw0.out] at hB0 hH0 hR0 hZ0 ⊢
  clear Hw0
  have HB0 := Lib.hid hB0
  have HH0 := Lib.hid hH0
  have HR0 := Lib.hid hR0
  have HZ0 := Lib.hid hZ0
  clear hB0 hH0 hR0 hZ0
  go_wp2_with (refine wpList_load_row rfl 51 _ rfl (w.heap.size + 1) rfl 51 _ _ _ HR0.out Tryd.underlying51 rfl (by kernel_rfl) ?_)
  (with_reducible refine (encodeRecord_bad p _ L _ (HV.out.below HB0.out) HK.out).mono ?_)
  rintro e w1 ⟨rfl, hb1⟩
  have HB1 := Lib.hid (bt HB0.out hb1)
  have HH1 := Lib.hid (gone hb1 HH0.out)
  have HR1 := Lib.hid (gone hb1 HR0.out)
  have HZ1 := Lib.hid (gone hb1 HZ0.out)
  clear hb1 HB0 HH0 HR0 HZ0
  go_wp2_with (refine wpList_store_row rfl 23 _ _ rfl (w.heap.size + 1 + 1) rfl 23 _ _ rfl HZ1.out (by kernel_rfl) (by rfl) (head_one _ _ _) ?_)
  refine bodyPost_ret (v := .tuple #[headV hdZ, .int .i64 90]) (results_cell_row_tmp rfl _ _ (w.heap.size + 1 + 1) 23 _ (0, 0) _ rfl (setRow_heap _ _ _ _ _ _ HZ1.out) Tryd.underlying23 rfl (by kernel_rfl) rfl) rfl ⟨rfl, belowRow HB1.out (by omega) _⟩

set_option maxRecDepth 100000 in
set_option maxHeartbeats 4000000 in
theorem next_head (h : MHead) (p : Int) (u : Value) (L : List MCh) (st : ByteArray) (w : World) (hv : ChS w u L) (hk : VRec p L) (hh : ¬ Hok h) (hc1 : h.c.size ≤ maxLen) (hs1 : h.s.size ≤ maxLen) :
    Calls Tryd.prog 48 #[headV h, .agg #[.int .i64 p, u], .string st] w fun e w' => e = .returned (.tuple #[headV hdZ, .int .i64 90]) ∧ Below w.heap.size w w' := by
  obtain ⟨ua, un, uc, rfl, -⟩ := id hv
  have HV := Lib.hid hv
  obtain ⟨hp, hc, hs⟩ := h
  have HK := Lib.hid hk
  have HO := Lib.hid hh
  have HC := Lib.hid hc1
  have HS := Lib.hid hs1
  clear hk hv hh hc1 hs1
  unfold headV
  go_enter Tryd.func48, Tryd.ntmps48
  go_upto_region 1 with fail
  obtain ⟨w0, Hw0⟩ : ∃ w0, Hid (((w.alloc (.cells #[.int .i64 hp, .string hc, .string hs] 23)).alloc (.cells #[.int .i64 p, .slice ua un uc] 51)).alloc (.cells #[.int .i64 0, .string ⟨#[]⟩, .string ⟨#[]⟩] 23) = w0) := ⟨_, Lib.hid rfl⟩
  obtain ⟨hB0, hH0, hR0, hZ0⟩ := lay3 w (.cells #[.int .i64 hp, .string hc, .string hs] 23) (.cells #[.int .i64 p, .slice ua un uc] 51) (.cells #[.int .i64 0, .string ⟨#[]⟩, .string ⟨#[]⟩] 23)
  rw [Hw0.out] at hB0 hH0 hR0 hZ0 ⊢
  clear Hw0
  have HB0 := Lib.hid hB0
  have HH0 := Lib.hid hH0
  have HR0 := Lib.hid hR0
  have HZ0 := Lib.hid hZ0
  clear hB0 hH0 hR0 hZ0
  go_wp2_with (refine wpList_load_row rfl 51 _ rfl (w.heap.size + 1) rfl 51 _ _ _ HR0.out Tryd.underlying51 rfl (by kernel_rfl) ?_)
  (with_reducible refine (encodeRecord_ok p _ L _ (HV.out.below HB0.out) HK.out).mono ?_)
  rintro e w1 ⟨rfl, hb1⟩
  have HB1 := Lib.hid (bt HB0.out hb1)
  have HH1 := Lib.hid (gone hb1 HH0.out)
  have HR1 := Lib.hid (gone hb1 HR0.out)
  have HZ1 := Lib.hid (gone hb1 HZ0.out)
  clear hb1 HB0 HH0 HR0 HZ0
  go_wp2_with (refine wpList_load_rowW (by rfl) 23 _ rfl w.heap.size rfl 23 _ _ _ HH1.out Tryd.underlying23 rfl (by kernel_rfl) ?_)
  (with_reducible refine (hvalid_f ⟨hp, hc, hs⟩ _ HC.out HS.out HO.out).mono ?_)
  rintro e w2 ⟨rfl, hb2⟩
  have HB2 := Lib.hid (bt HB1.out hb2)
  have HH2 := Lib.hid (gone hb2 HH1.out)
  have HR2 := Lib.hid (gone hb2 HR1.out)
  have HZ2 := Lib.hid (gone hb2 HZ1.out)
  clear hb2 HB1 HH1 HR1 HZ1
  go_wp2_with (refine wpList_store_row rfl 23 _ _ rfl (w.heap.size + 1 + 1) rfl 23 _ _ rfl HZ2.out (by kernel_rfl) (by rfl) (head_one _ _ _) ?_)
  refine bodyPost_ret (v := .tuple #[headV hdZ, .int .i64 90]) (results_cell_row_tmp rfl _ _ (w.heap.size + 1 + 1) 23 _ (0, 0) _ rfl (setRow_heap _ _ _ _ _ _ HZ2.out) Tryd.underlying23 rfl (by kernel_rfl) rfl) rfl ⟨rfl, belowRow HB2.out (by omega) _⟩

set_option maxRecDepth 100000 in
set_option maxHeartbeats 4000000 in
theorem next_pos (h : MHead) (p : Int) (u : Value) (L : List MCh) (st : ByteArray) (w : World) (hv : ChS w u L) (hk : VRec p L) (hh : Hok h) (hpp : ¬ p = h.p + 1) :
    Calls Tryd.prog 48 #[headV h, .agg #[.int .i64 p, u], .string st] w fun e w' => e = .returned (.tuple #[headV hdZ, .int .i64 90]) ∧ Below w.heap.size w w' := by
  obtain ⟨ua, un, uc, rfl, -⟩ := id hv
  have HV := Lib.hid hv
  obtain ⟨hp, hc, hs⟩ := h
  have HK := Lib.hid hk
  have HO := Lib.hid hh
  have g1 : 0 ≤ hp := hh.1.1
  have g2 : hp ≤ 10000 := hh.1.2
  have hne : (p != hp + 1) = true := by simpa using hpp
  clear hk hv hh hpp
  unfold headV
  go_enter Tryd.func48, Tryd.ntmps48
  go_upto_region 1 with fail
  obtain ⟨w0, Hw0⟩ : ∃ w0, Hid (((w.alloc (.cells #[.int .i64 hp, .string hc, .string hs] 23)).alloc (.cells #[.int .i64 p, .slice ua un uc] 51)).alloc (.cells #[.int .i64 0, .string ⟨#[]⟩, .string ⟨#[]⟩] 23) = w0) := ⟨_, Lib.hid rfl⟩
  obtain ⟨hB0, hH0, hR0, hZ0⟩ := lay3 w (.cells #[.int .i64 hp, .string hc, .string hs] 23) (.cells #[.int .i64 p, .slice ua un uc] 51) (.cells #[.int .i64 0, .string ⟨#[]⟩, .string ⟨#[]⟩] 23)
  rw [Hw0.out] at hB0 hH0 hR0 hZ0 ⊢
  clear Hw0
  have HB0 := Lib.hid hB0
  have HH0 := Lib.hid hH0
  have HR0 := Lib.hid hR0
  have HZ0 := Lib.hid hZ0
  clear hB0 hH0 hR0 hZ0
  go_wp2_with (refine wpList_load_row rfl 51 _ rfl (w.heap.size + 1) rfl 51 _ _ _ HR0.out Tryd.underlying51 rfl (by kernel_rfl) ?_)
  (with_reducible refine (encodeRecord_ok p _ L _ (HV.out.below HB0.out) HK.out).mono ?_)
  rintro e w1 ⟨rfl, hb1⟩
  have HB1 := Lib.hid (bt HB0.out hb1)
  have HH1 := Lib.hid (gone hb1 HH0.out)
  have HR1 := Lib.hid (gone hb1 HR0.out)
  have HZ1 := Lib.hid (gone hb1 HZ0.out)
  clear hb1 HB0 HH0 HR0 HZ0
  go_wp2_with (refine wpList_load_rowW (by rfl) 23 _ rfl w.heap.size rfl 23 _ _ _ HH1.out Tryd.underlying23 rfl (by kernel_rfl) ?_)
  (with_reducible refine (hvalid_t ⟨hp, hc, hs⟩ _ HO.out).mono ?_)
  rintro e w2 ⟨rfl, hb2⟩
  have HB2 := Lib.hid (bt HB1.out hb2)
  have HH2 := Lib.hid (gone hb2 HH1.out)
  have HR2 := Lib.hid (gone hb2 HR1.out)
  have HZ2 := Lib.hid (gone hb2 HZ1.out)
  clear hb2 HB1 HH1 HR1 HZ1
  have c0 := cellOf (j := 0) HH2.out rfl
  have r0 := cellOf (j := 0) HR2.out rfl
  go_wp2_with (refine wpList_store_row rfl 23 _ _ rfl (w.heap.size + 1 + 1) rfl 23 _ _ rfl HZ2.out (by kernel_rfl) (by rfl) (head_one _ _ _) ?_)
  refine bodyPost_ret (v := .tuple #[headV hdZ, .int .i64 90]) (results_cell_row_tmp rfl _ _ (w.heap.size + 1 + 1) 23 _ (0, 0) _ rfl (setRow_heap _ _ _ _ _ _ HZ2.out) Tryd.underlying23 rfl (by kernel_rfl) rfl) rfl ⟨rfl, belowRow HB2.out (by omega) _⟩

set_option maxRecDepth 100000 in
set_option maxHeartbeats 4000000 in
theorem next_state (h : MHead) (p : Int) (u : Value) (L : List MCh) (st : ByteArray) (w : World) (hv : ChS w u L) (hk : VRec p L) (hh : Hok h) (hpp : p = h.p + 1) (hst : ¬ st.size = 32) (hst2 : st.size ≤ maxLen) :
    Calls Tryd.prog 48 #[headV h, .agg #[.int .i64 p, u], .string st] w fun e w' => e = .returned (.tuple #[headV hdZ, .int .i64 90]) ∧ Below w.heap.size w w' := by
  obtain ⟨ua, un, uc, rfl, -⟩ := id hv
  have HV := Lib.hid hv
  obtain ⟨hp, hc, hs⟩ := h
  have HK := Lib.hid hk
  have HO := Lib.hid hh
  have HT := Lib.hid hst
  have HT2 := Lib.hid hst2
  have g1 : 0 ≤ hp := hh.1.1
  have g2 : hp ≤ 10000 := hh.1.2
  have hne : (p != hp + 1) = false := by simpa using hpp
  clear hk hv hh hpp hst hst2
  unfold headV
  go_enter Tryd.func48, Tryd.ntmps48
  go_upto_region 1 with fail
  obtain ⟨w0, Hw0⟩ : ∃ w0, Hid (((w.alloc (.cells #[.int .i64 hp, .string hc, .string hs] 23)).alloc (.cells #[.int .i64 p, .slice ua un uc] 51)).alloc (.cells #[.int .i64 0, .string ⟨#[]⟩, .string ⟨#[]⟩] 23) = w0) := ⟨_, Lib.hid rfl⟩
  obtain ⟨hB0, hH0, hR0, hZ0⟩ := lay3 w (.cells #[.int .i64 hp, .string hc, .string hs] 23) (.cells #[.int .i64 p, .slice ua un uc] 51) (.cells #[.int .i64 0, .string ⟨#[]⟩, .string ⟨#[]⟩] 23)
  rw [Hw0.out] at hB0 hH0 hR0 hZ0 ⊢
  clear Hw0
  have HB0 := Lib.hid hB0
  have HH0 := Lib.hid hH0
  have HR0 := Lib.hid hR0
  have HZ0 := Lib.hid hZ0
  clear hB0 hH0 hR0 hZ0
  go_wp2_with (refine wpList_load_row rfl 51 _ rfl (w.heap.size + 1) rfl 51 _ _ _ HR0.out Tryd.underlying51 rfl (by kernel_rfl) ?_)
  (with_reducible refine (encodeRecord_ok p _ L _ (HV.out.below HB0.out) HK.out).mono ?_)
  rintro e w1 ⟨rfl, hb1⟩
  have HB1 := Lib.hid (bt HB0.out hb1)
  have HH1 := Lib.hid (gone hb1 HH0.out)
  have HR1 := Lib.hid (gone hb1 HR0.out)
  have HZ1 := Lib.hid (gone hb1 HZ0.out)
  clear hb1 HB0 HH0 HR0 HZ0
  go_wp2_with (refine wpList_load_rowW (by rfl) 23 _ rfl w.heap.size rfl 23 _ _ _ HH1.out Tryd.underlying23 rfl (by kernel_rfl) ?_)
  (with_reducible refine (hvalid_t ⟨hp, hc, hs⟩ _ HO.out).mono ?_)
  rintro e w2 ⟨rfl, hb2⟩
  have HB2 := Lib.hid (bt HB1.out hb2)
  have HH2 := Lib.hid (gone hb2 HH1.out)
  have HR2 := Lib.hid (gone hb2 HR1.out)
  have HZ2 := Lib.hid (gone hb2 HZ1.out)
  clear hb2 HB1 HH1 HR1 HZ1
  have c0 := cellOf (j := 0) HH2.out rfl
  have r0 := cellOf (j := 0) HR2.out rfl
  go_wp2_with fail
  (with_reducible refine (isDigest_f st _ HT2.out HT.out).mono ?_)
  rintro e wx ⟨rfl, rfl⟩
  go_wp2_with (refine wpList_store_row rfl 23 _ _ rfl (w.heap.size + 1 + 1) rfl 23 _ _ rfl HZ2.out (by kernel_rfl) (by rfl) (head_one _ _ _) ?_)
  refine bodyPost_ret (v := .tuple #[headV hdZ, .int .i64 90]) (results_cell_row_tmp rfl _ _ (w.heap.size + 1 + 1) 23 _ (0, 0) _ rfl (setRow_heap _ _ _ _ _ _ HZ2.out) Tryd.underlying23 rfl (by kernel_rfl) rfl) rfl ⟨rfl, belowRow HB2.out (by omega) _⟩

set_option maxRecDepth 100000 in
set_option maxHeartbeats 4000000 in
theorem next_ok (h : MHead) (p : Int) (u : Value) (L : List MCh) (st : ByteArray) (w : World) (hv : ChS w u L) (hT : Tab w) (k : NxOk h p L st) :
    Calls Tryd.prog 48 #[headV h, .agg #[.int .i64 p, u], .string st] w fun e w' => e = .returned (.tuple #[headV (nxH h p L st), .int .i64 0]) ∧ Below w.heap.size w w' := by
  obtain ⟨ua, un, uc, rfl, -⟩ := id hv
  have HV := Lib.hid hv
  obtain ⟨hp, hc, hs⟩ := h
  have HK := Lib.hid k.1
  have HO := Lib.hid k.2.1
  have HTb := Lib.hid hT
  have HS32 := Lib.hid k.2.2.2
  have HC32 := Lib.hid k.2.1.2.1
  have g1 : 0 ≤ hp := k.2.1.1.1
  have g2 : hp ≤ 10000 := k.2.1.1.2
  have hne : (p != hp + 1) = false := by have := k.2.2.1; simpa using this
  obtain ⟨dc, Hdc⟩ : ∃ dc, Hid (dg.chain hc (encRecS p L) = dc) := ⟨_, Lib.hid rfl⟩
  have HE : Hid (headV (nxH ⟨hp, hc, hs⟩ p L st) = .agg #[.int .i64 p, .string dc, .string st]) := Lib.hid (by rw [← Hdc.out]; rfl)
  rw [HE.out]
  clear k hv hT HE
  unfold headV
  go_enter Tryd.func48, Tryd.ntmps48
  go_upto_region 1 with fail
  obtain ⟨w0, Hw0⟩ : ∃ w0, Hid (((w.alloc (.cells #[.int .i64 hp, .string hc, .string hs] 23)).alloc (.cells #[.int .i64 p, .slice ua un uc] 51)).alloc (.cells #[.int .i64 0, .string ⟨#[]⟩, .string ⟨#[]⟩] 23) = w0) := ⟨_, Lib.hid rfl⟩
  obtain ⟨hB0, hH0, hR0, hZ0⟩ := lay3 w (.cells #[.int .i64 hp, .string hc, .string hs] 23) (.cells #[.int .i64 p, .slice ua un uc] 51) (.cells #[.int .i64 0, .string ⟨#[]⟩, .string ⟨#[]⟩] 23)
  rw [Hw0.out] at hB0 hH0 hR0 hZ0 ⊢
  clear Hw0
  have HB0 := Lib.hid hB0
  have HH0 := Lib.hid hH0
  have HR0 := Lib.hid hR0
  have HZ0 := Lib.hid hZ0
  clear hB0 hH0 hR0 hZ0
  go_wp2_with (refine wpList_load_row rfl 51 _ rfl (w.heap.size + 1) rfl 51 _ _ _ HR0.out Tryd.underlying51 rfl (by kernel_rfl) ?_)
  (with_reducible refine (encodeRecord_ok p _ L _ (HV.out.below HB0.out) HK.out).mono ?_)
  rintro e w1 ⟨rfl, hb1⟩
  have HB1 := Lib.hid (bt HB0.out hb1)
  have HH1 := Lib.hid (gone hb1 HH0.out)
  have HR1 := Lib.hid (gone hb1 HR0.out)
  have HZ1 := Lib.hid (gone hb1 HZ0.out)
  clear hb1 HB0 HH0 HR0 HZ0
  go_wp2_with (refine wpList_load_rowW (by rfl) 23 _ rfl w.heap.size rfl 23 _ _ _ HH1.out Tryd.underlying23 rfl (by kernel_rfl) ?_)
  (with_reducible refine (hvalid_t ⟨hp, hc, hs⟩ _ HO.out).mono ?_)
  rintro e w2 ⟨rfl, hb2⟩
  have HB2 := Lib.hid (bt HB1.out hb2)
  have HH2 := Lib.hid (gone hb2 HH1.out)
  have HR2 := Lib.hid (gone hb2 HR1.out)
  have HZ2 := Lib.hid (gone hb2 HZ1.out)
  clear hb2 HB1 HH1 HR1 HZ1
  have c0 := cellOf (j := 0) HH2.out rfl
  have r0 := cellOf (j := 0) HR2.out rfl
  go_wp2_with fail
  (with_reducible refine (isDigest_t st _ HS32.out).mono ?_)
  rintro e wx ⟨rfl, rfl⟩
  have HCh : Hid (∀ W', Below w2.heap.size w2 W' → Calls Tryd.prog 70 #[.string hc, .string (encRecS p L)] W' fun e w' => e = .returned (.string (dg.chain hc (encRecS p L))) ∧ Below W'.heap.size W' w') := Lib.hid (fun W' hb => chain_c _ _ _ (by have := HC32.out; change hc.size = 32 at this; omega) (by have := encRecS_size HK.out; omega) (HTb.out.below (bt HB2.out hb)))
  have HCl : Hid (∀ W', Calls Tryd.prog 36 #[.string st] W' fun e w' => e = .returned (.string st) ∧ Below W'.heap.size W' w') := Lib.hid (fun W' => clone_s _ _ (by have := HS32.out; omega))
  rw [Hdc.out] at HCh
  clear Hdc HK HO HTb HS32 HC32 c0 r0
  go_upto_region 4 with fail
  have gp : ∀ w0, BW w2 w0 → ∀ d os, (grow (redrawn w0 d) os).cell? ⟨w.heap.size + 1, 0, none⟩ = some (.int .i64 p) := fun w0 h d os => cellOf (j := 0) (gone (bt h (below_regrown w0 d os)) HR2.out) rfl
  have gc : ∀ w0, BW w2 w0 → ∀ d os, (grow (redrawn w0 d) os).cell? ⟨w.heap.size, 1, none⟩ = some (.string hc) := fun w0 h d os => cellOf (j := 1) (gone (bt h (below_regrown w0 d os)) HH2.out) rfl
  refine wp_region_calm 9 99 [0, 1, 2, 3, 4, 5, 6, 7, 8] (by kernel_rfl) (by kernel_rfl) (by intro oz h; simp at h) (by intro oz h; simp at h) (by rfl) ?_
  simp only [List.take_succ_cons, List.take_zero]
  iterate 5
    apply wpCalm_want
    · rfl
    · exact bc_refl
    · exact ⟨_, Below.refl _ _⟩
    · intro w00 hC0 K hK
      go_big_quiet_op
      exact hK
  apply wpCalm_want
  · rfl
  · exact bc_refl
  · exact ⟨_, Below.refl _ _⟩
  · intro w00 hC0 K hK
    go_big_quiet_op
    apply Exists.intro
    refine ⟨fun p => ?_, ?_⟩
    · exact Calls.regrown_of (HCh.out _ (bt hC0 (below_regrown _ _ _)))
    · exact hK
  apply wpCalm_want
  · rfl
  · exact bc_refl
  · exact ⟨_, Below.refl _ _⟩
  · intro w00 hC0 K hK
    go_big_quiet_op
    exact hK
  apply wpCalm_want
  · rfl
  · exact bc_refl
  · exact ⟨_, Below.refl _ _⟩
  · intro w00 hC0 K hK
    go_big_quiet_op
    apply Exists.intro
    refine ⟨fun p => ?_, ?_⟩
    · exact Calls.regrown_of (HCl.out _)
    · exact hK
  apply wpCalm_want
  · rfl
  · exact bc_refl
  · exact ⟨_, Below.refl _ _⟩
  · intro w00 hC0 K hK
    go_big_quiet_op
    exact hK
  refine wpCalm_nil ?_
  intro w3 hbq
  try simp only [List.drop_succ_cons, List.drop_zero]
  have HB3 := Lib.hid (bt HB2.out hbq)
  have HZ3 := Lib.hid (gone hbq HZ2.out)
  clear gp gc hbq
  try go_frame
  go_wp2_with (refine wpList_store_row rfl 23 _ _ rfl (w.heap.size + 1 + 1) rfl 23 _ _ rfl HZ3.out (by kernel_rfl) (by rfl) (head_one _ _ _) ?_)
  refine bodyPost_ret (v := .tuple #[.agg #[.int .i64 p, .string dc, .string st], .int .i64 0]) (results_cell_row_tmp rfl _ _ (w.heap.size + 1 + 1) 23 _ (0, 0) _ rfl (setRow_heap _ _ _ _ _ _ HZ3.out) Tryd.underlying23 rfl (by kernel_rfl) rfl) rfl ⟨rfl, belowRow HB3.out (by omega) _⟩

/-- What Next returns. -/
def nextOut (h : MHead) (p : Int) (L : List MCh) (st : ByteArray) : Value := if NxOk h p L st then .tuple #[headV (nxH h p L st), .int .i64 0] else .tuple #[headV hdZ, .int .i64 90]
theorem next_any (h : MHead) (p : Int) (u : Value) (L : List MCh) (st : ByteArray) (w : World) (hv : ChS w u L) (hT : Tab w) (hc : h.c.size ≤ maxLen) (hs : h.s.size ≤ maxLen) (hst : st.size ≤ maxLen) :
    Calls Tryd.prog 48 #[headV h, .agg #[.int .i64 p, u], .string st] w fun e w' => e = .returned (nextOut h p L st) ∧ Below w.heap.size w w' := by
  unfold nextOut
  by_cases k : NxOk h p L st
  · rw [if_pos k]; exact next_ok h p u L st w hv hT k
  · rw [if_neg k]
    by_cases k1 : VRec p L
    · by_cases k2 : Hok h
      · by_cases k3 : p = h.p + 1
        · exact next_state h p u L st w hv k1 k2 k3 (fun k4 => k ⟨k1, k2, k3, k4⟩) hst
        · exact next_pos h p u L st w hv k1 k2 k3
      · exact next_head h p u L st w hv k1 k2 hc hs
    · exact next_rec h p u L st w hv k1
end Go.Proofs.YtpapfegbodolgaaDoor
