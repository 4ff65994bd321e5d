/- WALKS: Decode. -/
import Derived.Test.YtpapfegbodolgaaDoorLN
import Derived.Test.YtpapfegbodolgaaDoorP1
set_option linter.unusedVariables false
set_option linter.unusedSimpArgs false
namespace Go.Proofs.YtpapfegbodolgaaDoor
open Go.RowKit Go.Sort

theorem int0_none (s : ByteArray) (w : World) (hs : s.size ≤ maxLen) (h : decInt s.data.toList = none) :
    Calls Tryd.prog 35 #[.string s, .int .i64 0] w fun e w' => e = .returned (.tuple #[.int .i64 0, .int .i64 0, .int .i64 10]) ∧ w = w' := (int_none s 0 w hs (Nat.zero_le _) (by simpa using h)).mono fun e w' hw => ⟨hw.1, hw.2.symm⟩
theorem int0_some (s : ByteArray) (w : World) (hs : s.size ≤ maxLen) {n : Int} {m : Nat} (h : decInt s.data.toList = some (n, m)) :
    Calls Tryd.prog 35 #[.string s, .int .i64 0] w fun e w' => e = .returned (.tuple #[.int .i64 n, .int .i64 (m : Int), .int .i64 0]) ∧ w = w' := by
  have := int_some s 0 w hs (Nat.zero_le _) (n := n) (m := m) (by simpa using h)
  rw [Nat.zero_add] at this
  exact this.mono fun e w' hw => ⟨hw.1, hw.2.symm⟩

/-- The head that a string is read as. -/
def rdH (s : ByteArray) (n : Int) (m : Nat) : MHead := ⟨n, s.extract m (m + 32), s.extract (m + 32) s.size⟩
def decH (s : ByteArray) : MHead × Int :=
  match decInt s.data.toList with
  | none => (hdZ, 10)
  | some (n, m) => if s.size = m + 64 then (if Hok (rdH s n m) then (rdH s n m, 0) else (hdZ, 90)) else (hdZ, 10)
def decOut (s : ByteArray) : Value := .tuple #[headV (decH s).1, .int .i64 (decH s).2]

set_option maxRecDepth 100000 in
set_option maxHeartbeats 4000000 in
theorem decode_none (s : ByteArray) (w : World) (hs : s.size ≤ maxLen) (h : decInt s.data.toList = none) :
    Calls Tryd.prog 9 #[.string s] w fun e w' => e = .returned (.tuple #[headV hdZ, .int .i64 10]) ∧ Below w.heap.size w w' := by
  have HI := Lib.hid (fun W => int0_none s W hs h)
  clear hs h
  go_enter Tryd.func9, Tryd.ntmps9
  go_upto_region 1 with fail
  obtain ⟨w0, Hw0⟩ : ∃ w0, Hid (w.alloc (.cells #[.int .i64 0, .string ⟨#[]⟩, .string ⟨#[]⟩] 23) = w0) := ⟨_, Lib.hid rfl⟩
  have HB0 : Hid (Below w.heap.size w w0) := Lib.hid (by rw [← Hw0.out]; exact ba w _)
  have HZ0 : Hid (w0.heap[w.heap.size]? = some (.cells #[.int .i64 0, .string ⟨#[]⟩, .string ⟨#[]⟩] 23 (0, 0))) := Lib.hid (by rw [← Hw0.out]; exact heap_alloc_new w _)
  rw [Hw0.out]
  clear Hw0
  go_wp2_with fail
  (with_reducible refine (HI.out _).mono ?_)
  rintro e wx ⟨rfl, rfl⟩
  go_wp2_with (refine wpList_store_row rfl 23 _ _ rfl w.heap.size rfl 23 _ _ rfl HZ0.out (by kernel_rfl) (by rfl) (head_one _ _ _) ?_)
  refine bodyPost_ret (v := .tuple #[headV hdZ, .int .i64 10]) (results_cell_row_tmp rfl _ _ w.heap.size 23 _ (0, 0) _ rfl (setRow_heap _ _ _ _ _ _ HZ0.out) Tryd.underlying23 rfl (by kernel_rfl) rfl) rfl ⟨rfl, belowRow HB0.out (by omega) _⟩

set_option maxRecDepth 100000 in
set_option maxHeartbeats 4000000 in
theorem decode_len (s : ByteArray) (w : World) (hs : s.size ≤ maxLen) {n : Int} {m : Nat} (h : decInt s.data.toList = some (n, m)) (hm : m ≤ s.size) (hne : ¬ s.size = m + 64) :
    Calls Tryd.prog 9 #[.string s] w fun e w' => e = .returned (.tuple #[headV hdZ, .int .i64 10]) ∧ Below w.heap.size w w' := by
  have HI := Lib.hid (fun W => int0_some s W hs h)
  have d1 : ((s.size : Int) - (m : Int) != 64) = true := by simp; omega
  unfold maxLen at hs
  clear h hne
  go_enter Tryd.func9, Tryd.ntmps9
  go_upto_region 1 with fail
  obtain ⟨w0, Hw0⟩ : ∃ w0, Hid (w.alloc (.cells #[.int .i64 0, .string ⟨#[]⟩, .string ⟨#[]⟩] 23) = w0) := ⟨_, Lib.hid rfl⟩
  have HB0 : Hid (Below w.heap.size w w0) := Lib.hid (by rw [← Hw0.out]; exact ba w _)
  have HZ0 : Hid (w0.heap[w.heap.size]? = some (.cells #[.int .i64 0, .string ⟨#[]⟩, .string ⟨#[]⟩] 23 (0, 0))) := Lib.hid (by rw [← Hw0.out]; exact heap_alloc_new w _)
  rw [Hw0.out]
  clear Hw0
  go_wp2_with fail
  (with_reducible refine (HI.out _).mono ?_)
  rintro e wx ⟨rfl, rfl⟩
  go_wp2_with (refine wpList_store_row rfl 23 _ _ rfl w.heap.size rfl 23 _ _ rfl HZ0.out (by kernel_rfl) (by rfl) (head_one _ _ _) ?_)
  refine bodyPost_ret (v := .tuple #[headV hdZ, .int .i64 10]) (results_cell_row_tmp rfl _ _ w.heap.size 23 _ (0, 0) _ rfl (setRow_heap _ _ _ _ _ _ HZ0.out) Tryd.underlying23 rfl (by kernel_rfl) rfl) rfl ⟨rfl, belowRow HB0.out (by omega) _⟩

set_option maxRecDepth 100000 in
set_option maxHeartbeats 4000000 in
theorem decode_bad (s : ByteArray) (w : World) (hs : s.size ≤ maxLen) {n : Int} {m : Nat} (h : decInt s.data.toList = some (n, m)) (hm : m ≤ 100) (hsz : s.size = m + 64) (hk : ¬ Hok (rdH s n m)) :
    Calls Tryd.prog 9 #[.string s] w fun e w' => e = .returned (.tuple #[headV hdZ, .int .i64 90]) ∧ Below w.heap.size w w' := by
  have HI := Lib.hid (fun W => int0_some s W hs h)
  have d1 : ((s.size : Int) - (m : Int) != 64) = false := by simp; omega
  have hs73 : s.size ≤ 200 := by omega
  have hm0 : m ≤ 100 := by omega
  obtain ⟨m2, HM2⟩ : ∃ m2 : Nat, Hid (m + 32 = m2) := ⟨_, Lib.hid rfl⟩
  have hm1 : m ≤ m2 := by have := HM2.out; omega
  have hm2 : m2 ≤ s.size := by have := HM2.out; omega
  have hsum : (m : Int) + 32 = (m2 : Int) := by have := HM2.out; omega
  have HSum := Lib.hid hsum
  obtain ⟨x, HX⟩ : ∃ x, Hid (s.extract m m2 = x) := ⟨_, Lib.hid rfl⟩
  obtain ⟨y, HY⟩ : ∃ y, Hid (s.extract m2 s.size = y) := ⟨_, Lib.hid rfl⟩
  have HR : Hid (rdH s n m = ⟨n, x, y⟩) := Lib.hid (by unfold rdH; rw [HM2.out, HX.out, HY.out])
  rw [HR.out] at hk
  have HK := Lib.hid hk
  have hx : x.size ≤ 200 := by rw [← HX.out, ByteArray.size_extract]; omega
  have hy : y.size ≤ 200 := by rw [← HY.out, ByteArray.size_extract]; omega
  have HCx : Hid (∀ W', Calls Tryd.prog 36 #[.string x] W' fun e w' => e = .returned (.string x) ∧ Below W'.heap.size W' w') := Lib.hid (fun W' => clone_s _ _ (by omega))
  have HCy : Hid (∀ W', Calls Tryd.prog 36 #[.string y] W' fun e w' => e = .returned (.string y) ∧ Below W'.heap.size W' w') := Lib.hid (fun W' => clone_s _ _ (by omega))
  clear h hsz hs hsum hk HR
  go_enter Tryd.func9, Tryd.ntmps9
  go_upto_region 1 with fail
  obtain ⟨w0, Hw0⟩ : ∃ w0, Hid (w.alloc (.cells #[.int .i64 0, .string ⟨#[]⟩, .string ⟨#[]⟩] 23) = w0) := ⟨_, Lib.hid rfl⟩
  have HB0 : Hid (Below w.heap.size w w0) := Lib.hid (by rw [← Hw0.out]; exact ba w _)
  have HZ0 : Hid (w0.heap[w.heap.size]? = some (.cells #[.int .i64 0, .string ⟨#[]⟩, .string ⟨#[]⟩] 23 (0, 0))) := Lib.hid (by rw [← Hw0.out]; exact heap_alloc_new w _)
  rw [Hw0.out]
  clear Hw0
  go_wp2_with fail
  (with_reducible refine (HI.out _).mono ?_)
  rintro e wx ⟨rfl, rfl⟩
  go_upto_region 5 with fail
  rw [HSum.out]
  clear HI d1
  refine wp_region_calm1 12 99 11 [0, 1, 2, 3, 4, 5, 6, 7, 8, 9, 10] (obj := .cells #[.int .i64 0, .string ⟨#[]⟩, .string ⟨#[]⟩] 23 (0, 0)) (by kernel_rfl) (by kernel_rfl) (by intro oz h; simp at h) (by intro oz h; simp at h) (by rfl) (by rfl) (fun a w => by kernel_rfl) ?_
  simp only [List.take_succ_cons, List.take_zero, List.eraseIdx_cons_succ, List.eraseIdx_cons_zero]
  iterate 4
    apply wpCalm_want
    · rfl
    · exact bc_refl
    · exact ⟨_, Below.refl _ _⟩
    · intro w00 hC0 K hK
      go_big_quiet_op
      exact hK
  apply wpCalm_want
  · rfl
  · exact bc_refl
  · exact ⟨_, Below.refl _ _⟩
  · intro w00 hC0 K hK
    go_big_quiet_op
    exact hK
  rw [HX.out]
  apply wpCalm_want
  · rfl
  · exact bc_refl
  · exact ⟨_, Below.refl _ _⟩
  · intro w00 hC0 K hK
    go_big_quiet_op
    apply Exists.intro
    refine ⟨fun p => ?_, ?_⟩
    · exact Calls.regrown_of (HCx.out _)
    · exact hK
  iterate 2
    apply wpCalm_want
    · rfl
    · exact bc_refl
    · exact ⟨_, Below.refl _ _⟩
    · intro w00 hC0 K hK
      go_big_quiet_op
      exact hK
  apply wpCalm_want
  · rfl
  · exact bc_refl
  · exact ⟨_, Below.refl _ _⟩
  · intro w00 hC0 K hK
    go_big_quiet_op
    exact hK
  rw [HY.out]
  apply wpCalm_want
  · rfl
  · exact bc_refl
  · exact ⟨_, Below.refl _ _⟩
  · intro w00 hC0 K hK
    go_big_quiet_op
    apply Exists.intro
    refine ⟨fun p => ?_, ?_⟩
    · exact Calls.regrown_of (HCy.out _)
    · exact hK
  apply wpCalm_want
  · rfl
  · exact bc_refl
  · exact ⟨_, Below.refl _ _⟩
  · intro w00 hC0 K hK
    go_big_quiet_op
    exact hK
  refine wpCalm_nil ?_
  intro yb wc hbc hyb hblk
  try simp only [List.drop_succ_cons, List.drop_zero]
  try go_frame
  refine wpList_store_row rfl 23 _ _ rfl yb rfl 23 _ _ rfl hblk (by kernel_rfl) (by rfl) (head_one _ _ _) ?_
  try go_frame
  have hz0 : w.heap.size < w0.heap.size := lt_of_block HZ0.out
  have HB1 : Hid (Below w0.heap.size w0 (wc.setRow yb #[.int .i64 n, .string x, .string y])) := Lib.hid (belowRow hbc hyb _)
  have HF1 : Hid ((wc.setRow yb #[.int .i64 n, .string x, .string y]).heap[yb]? = some (.cells #[.int .i64 n, .string x, .string y] 23 (0, 0))) := Lib.hid (setRow_heap _ _ _ _ _ _ hblk)
  generalize wc.setRow yb #[.int .i64 n, .string x, .string y] = w1 at HB1 HF1 ⊢
  have HZ1 := Lib.hid (gone HB1.out HZ0.out)
  have HB2 := Lib.hid (bt HB0.out HB1.out)
  clear hbc hblk HZ0 HB0 HB1
  go_wp2_with (refine wpList_load_row rfl 23 _ rfl yb rfl 23 _ _ _ HF1.out Tryd.underlying23 rfl (by kernel_rfl) ?_)
  (with_reducible refine (hvalid_f ⟨n, x, y⟩ _ (show x.size ≤ maxLen by unfold maxLen; omega) (show y.size ≤ maxLen by unfold maxLen; omega) HK.out).mono ?_)
  rintro e w2 ⟨rfl, hb2⟩
  have HZ3 := Lib.hid (gone hb2 HZ1.out)
  have HB3 := Lib.hid (bt HB2.out hb2)
  clear hb2
  go_wp2_with (refine wpList_store_row rfl 23 _ _ rfl w.heap.size rfl 23 _ _ rfl HZ3.out (by kernel_rfl) (by rfl) (head_one _ _ _) ?_)
  refine bodyPost_ret (v := .tuple #[headV hdZ, .int .i64 90]) (results_cell_row_tmp rfl _ _ w.heap.size 23 _ (0, 0) _ rfl (setRow_heap _ _ _ _ _ _ HZ3.out) Tryd.underlying23 rfl (by kernel_rfl) rfl) rfl ⟨rfl, belowRow HB3.out (by omega) _⟩

set_option maxRecDepth 100000 in
set_option maxHeartbeats 4000000 in
theorem decode_ok (s : ByteArray) (w : World) (hs : s.size ≤ maxLen) {n : Int} {m : Nat} (h : decInt s.data.toList = some (n, m)) (hm : m ≤ 100) (hsz : s.size = m + 64) (hk : Hok (rdH s n m)) :
    Calls Tryd.prog 9 #[.string s] w fun e w' => e = .returned (.tuple #[headV (rdH s n m), .int .i64 0]) ∧ Below w.heap.size w w' := by
  have HI := Lib.hid (fun W => int0_some s W hs h)
  have d1 : ((s.size : Int) - (m : Int) != 64) = false := by simp; omega
  have hs73 : s.size ≤ 200 := by omega
  have hm0 : m ≤ 100 := by omega
  obtain ⟨m2, HM2⟩ : ∃ m2 : Nat, Hid (m + 32 = m2) := ⟨_, Lib.hid rfl⟩
  have hm1 : m ≤ m2 := by have := HM2.out; omega
  have hm2 : m2 ≤ s.size := by have := HM2.out; omega
  have hsum : (m : Int) + 32 = (m2 : Int) := by have := HM2.out; omega
  have HSum := Lib.hid hsum
  obtain ⟨x, HX⟩ : ∃ x, Hid (s.extract m m2 = x) := ⟨_, Lib.hid rfl⟩
  obtain ⟨y, HY⟩ : ∃ y, Hid (s.extract m2 s.size = y) := ⟨_, Lib.hid rfl⟩
  have HR : Hid (rdH s n m = ⟨n, x, y⟩) := Lib.hid (by unfold rdH; rw [HM2.out, HX.out, HY.out])
  rw [HR.out] at hk ⊢
  have HK := Lib.hid hk
  have hx : x.size ≤ 200 := by rw [← HX.out, ByteArray.size_extract]; omega
  have hy : y.size ≤ 200 := by rw [← HY.out, ByteArray.size_extract]; omega
  have HCx : Hid (∀ W', Calls Tryd.prog 36 #[.string x] W' fun e w' => e = .returned (.string x) ∧ Below W'.heap.size W' w') := Lib.hid (fun W' => clone_s _ _ (by omega))
  have HCy : Hid (∀ W', Calls Tryd.prog 36 #[.string y] W' fun e w' => e = .returned (.string y) ∧ Below W'.heap.size W' w') := Lib.hid (fun W' => clone_s _ _ (by omega))
  clear h hsz hs hsum hk HR
  go_enter Tryd.func9, Tryd.ntmps9
  go_upto_region 1 with fail
  obtain ⟨w0, Hw0⟩ : ∃ w0, Hid (w.alloc (.cells #[.int .i64 0, .string ⟨#[]⟩, .string ⟨#[]⟩] 23) = w0) := ⟨_, Lib.hid rfl⟩
  have HB0 : Hid (Below w.heap.size w w0) := Lib.hid (by rw [← Hw0.out]; exact ba w _)
  have HZ0 : Hid (w0.heap[w.heap.size]? = some (.cells #[.int .i64 0, .string ⟨#[]⟩, .string ⟨#[]⟩] 23 (0, 0))) := Lib.hid (by rw [← Hw0.out]; exact heap_alloc_new w _)
  rw [Hw0.out]
  clear Hw0
  go_wp2_with fail
  (with_reducible refine (HI.out _).mono ?_)
  rintro e wx ⟨rfl, rfl⟩
  go_upto_region 5 with fail
  rw [HSum.out]
  clear HI d1
  refine wp_region_calm1 12 99 11 [0, 1, 2, 3, 4, 5, 6, 7, 8, 9, 10] (obj := .cells #[.int .i64 0, .string ⟨#[]⟩, .string ⟨#[]⟩] 23 (0, 0)) (by kernel_rfl) (by kernel_rfl) (by intro oz h; simp at h) (by intro oz h; simp at h) (by rfl) (by rfl) (fun a w => by kernel_rfl) ?_
  simp only [List.take_succ_cons, List.take_zero, List.eraseIdx_cons_succ, List.eraseIdx_cons_zero]
  iterate 4
    apply wpCalm_want
    · rfl
    · exact bc_refl
    · exact ⟨_, Below.refl _ _⟩
    · intro w00 hC0 K hK
      go_big_quiet_op
      exact hK
  apply wpCalm_want
  · rfl
  · exact bc_refl
  · exact ⟨_, Below.refl _ _⟩
  · intro w00 hC0 K hK
    go_big_quiet_op
    exact hK
  rw [HX.out]
  apply wpCalm_want
  · rfl
  · exact bc_refl
  · exact ⟨_, Below.refl _ _⟩
  · intro w00 hC0 K hK
    go_big_quiet_op
    apply Exists.intro
    refine ⟨fun p => ?_, ?_⟩
    · exact Calls.regrown_of (HCx.out _)
    · exact hK
  iterate 2
    apply wpCalm_want
    · rfl
    · exact bc_refl
    · exact ⟨_, Below.refl _ _⟩
    · intro w00 hC0 K hK
      go_big_quiet_op
      exact hK
  apply wpCalm_want
  · rfl
  · exact bc_refl
  · exact ⟨_, Below.refl _ _⟩
  · intro w00 hC0 K hK
    go_big_quiet_op
    exact hK
  rw [HY.out]
  apply wpCalm_want
  · rfl
  · exact bc_refl
  · exact ⟨_, Below.refl _ _⟩
  · intro w00 hC0 K hK
    go_big_quiet_op
    apply Exists.intro
    refine ⟨fun p => ?_, ?_⟩
    · exact Calls.regrown_of (HCy.out _)
    · exact hK
  apply wpCalm_want
  · rfl
  · exact bc_refl
  · exact ⟨_, Below.refl _ _⟩
  · intro w00 hC0 K hK
    go_big_quiet_op
    exact hK
  refine wpCalm_nil ?_
  intro yb wc hbc hyb hblk
  try simp only [List.drop_succ_cons, List.drop_zero]
  try go_frame
  refine wpList_store_row rfl 23 _ _ rfl yb rfl 23 _ _ rfl hblk (by kernel_rfl) (by rfl) (head_one _ _ _) ?_
  try go_frame
  have hz0 : w.heap.size < w0.heap.size := lt_of_block HZ0.out
  have HB1 : Hid (Below w0.heap.size w0 (wc.setRow yb #[.int .i64 n, .string x, .string y])) := Lib.hid (belowRow hbc hyb _)
  have HF1 : Hid ((wc.setRow yb #[.int .i64 n, .string x, .string y]).heap[yb]? = some (.cells #[.int .i64 n, .string x, .string y] 23 (0, 0))) := Lib.hid (setRow_heap _ _ _ _ _ _ hblk)
  generalize wc.setRow yb #[.int .i64 n, .string x, .string y] = w1 at HB1 HF1 ⊢
  have HZ1 := Lib.hid (gone HB1.out HZ0.out)
  have HB2 := Lib.hid (bt HB0.out HB1.out)
  clear hbc hblk HZ0 HB0 HB1
  go_wp2_with (refine wpList_load_row rfl 23 _ rfl yb rfl 23 _ _ _ HF1.out Tryd.underlying23 rfl (by kernel_rfl) ?_)
  (with_reducible refine (hvalid_t ⟨n, x, y⟩ _ HK.out).mono ?_)
  rintro e w2 ⟨rfl, hb2⟩
  have HZ3 := Lib.hid (gone hb2 HZ1.out)
  have HF3 := Lib.hid (gone hb2 HF1.out)
  have HB3 := Lib.hid (bt HB2.out hb2)
  clear hb2 HF1 HZ1
  go_wp2_with (first | (refine wpList_load_row rfl 23 _ rfl yb rfl 23 _ _ _ HF3.out Tryd.underlying23 rfl (by kernel_rfl) ?_) | (refine wpList_store_row rfl 23 _ _ rfl w.heap.size rfl 23 _ _ rfl HZ3.out (by kernel_rfl) (by rfl) (head_one _ _ _) ?_))
  refine bodyPost_ret (v := .tuple #[.agg #[.int .i64 n, .string x, .string y], .int .i64 0]) (results_cell_row_tmp rfl _ _ w.heap.size 23 _ (0, 0) _ rfl (setRow_heap _ _ _ _ _ _ HZ3.out) Tryd.underlying23 rfl (by kernel_rfl) rfl) rfl ⟨rfl, belowRow HB3.out (by omega) _⟩

theorem decodeH_any (s : ByteArray) (w : World) (hs : s.size ≤ maxLen) : Calls Tryd.prog 9 #[.string s] w fun e w' => e = .returned (decOut s) ∧ Below w.heap.size w w' := by
  unfold decOut decH
  cases h : decInt s.data.toList with
  | none => exact decode_none s w hs h
  | some p =>
    obtain ⟨n, m⟩ := p
    obtain ⟨e1, e2, e3, e4, e5, e6⟩ := decInt_sound h
    have hm : m ≤ s.size := by have : s.data.toList.length = s.size := by simp; 
                               omega
    simp only
    by_cases hsz : s.size = m + 64
    · rw [if_pos hsz]
      have hm1 : m ≤ 100 := by
        have := encs_len [n]
        simp [encs] at this
        omega
      by_cases hk : Hok (rdH s n m)
      · rw [if_pos hk]; exact decode_ok s w hs h hm1 hsz hk
      · rw [if_neg hk]; exact decode_bad s w hs h hm1 hsz hk
    · rw [if_neg hsz]; exact decode_len s w hs h hm hsz
end Go.Proofs.YtpapfegbodolgaaDoor
