/- WALKS: Verify. -/
import Derived.Test.YtpapfegbodolgaaDoorLQ
set_option linter.unusedVariables false
set_option linter.unusedSimpArgs false
namespace Go.Proofs.YtpapfegbodolgaaDoor
open Go.RowKit Go.Sort

/-- What Verify answers. -/
def verH (root : ByteArray) (n : Int) (h : MHead) (P : List ByteArray) : Bool := if 0 ≤ n ∧ n ≤ 10000 ∧ Hok h ∧ h.p ≤ n then dg.verify root (n + 1) h.p (encH h) P else false
set_option maxRecDepth 100000 in
set_option maxHeartbeats 4000000 in
theorem verify_num (root : ByteArray) (n : Int) (h : MHead) (v : Value) (w : World) (hn : n < 0 ∨ 10000 < n) :
    Calls Tryd.prog 15 #[.string root, .int .i64 n, headV h, v] w fun e w' => e = .returned (.bool false) ∧ Below w.heap.size w w' := by
  rcases hn with hn | hn
  · have d1 : decide (n < 0) = true := decide_eq_true hn
    clear hn
    obtain ⟨hp, hc, hs⟩ := h
    unfold headV
    go_enter Tryd.func15, Tryd.ntmps15
    go_upto_region 1 with fail
    obtain ⟨w0, Hw0⟩ : ∃ w0, Hid (w.alloc (.cells #[.int .i64 hp, .string hc, .string hs] 23) = w0) := ⟨_, Lib.hid rfl⟩
    have HB0 : Hid (Below w.heap.size w w0) := Lib.hid (by rw [← Hw0.out]; exact ba w _)
    have HH0 : Hid (w0.heap[w.heap.size]? = some (.cells #[.int .i64 hp, .string hc, .string hs] 23 (0, 0))) := Lib.hid (by rw [← Hw0.out]; exact heap_alloc_new w _)
    rw [Hw0.out]
    clear Hw0
    go_wp2_with fail
    go_ret
    exact ⟨rfl, HB0.out⟩
  · have d1 : decide (n < 0) = false := decide_eq_false (by omega)
    have d2 : decide (10000 < n) = true := decide_eq_true hn
    clear hn
    obtain ⟨hp, hc, hs⟩ := h
    unfold headV
    go_enter Tryd.func15, Tryd.ntmps15
    go_upto_region 1 with fail
    obtain ⟨w0, Hw0⟩ : ∃ w0, Hid (w.alloc (.cells #[.int .i64 hp, .string hc, .string hs] 23) = w0) := ⟨_, Lib.hid rfl⟩
    have HB0 : Hid (Below w.heap.size w w0) := Lib.hid (by rw [← Hw0.out]; exact ba w _)
    have HH0 : Hid (w0.heap[w.heap.size]? = some (.cells #[.int .i64 hp, .string hc, .string hs] 23 (0, 0))) := Lib.hid (by rw [← Hw0.out]; exact heap_alloc_new w _)
    rw [Hw0.out]
    clear Hw0
    go_wp2_with fail
    go_ret
    exact ⟨rfl, HB0.out⟩

set_option maxRecDepth 100000 in
set_option maxHeartbeats 4000000 in
theorem verify_head (root : ByteArray) (n : Int) (h : MHead) (v : Value) (w : World) (hn0 : 0 ≤ n) (hn1 : n ≤ 10000) (hk : ¬ Hok h) (hc1 : h.c.size ≤ maxLen) (hs1 : h.s.size ≤ maxLen) :
    Calls Tryd.prog 15 #[.string root, .int .i64 n, headV h, v] w fun e w' => e = .returned (.bool false) ∧ Below w.heap.size w w' := by
  have d1 : decide (n < 0) = false := decide_eq_false (by omega)
  have d2 : decide (10000 < n) = false := decide_eq_false (by omega)
  obtain ⟨hp, hc, hs⟩ := h
  have HK := Lib.hid hk
  have HC := Lib.hid hc1
  have HS := Lib.hid hs1
  clear hk hc1 hs1 hn0 hn1
  unfold headV
  go_enter Tryd.func15, Tryd.ntmps15
  go_upto_region 1 with fail
  obtain ⟨w0, Hw0⟩ : ∃ w0, Hid (w.alloc (.cells #[.int .i64 hp, .string hc, .string hs] 23) = w0) := ⟨_, Lib.hid rfl⟩
  have HB0 : Hid (Below w.heap.size w w0) := Lib.hid (by rw [← Hw0.out]; exact ba w _)
  have HH0 : Hid (w0.heap[w.heap.size]? = some (.cells #[.int .i64 hp, .string hc, .string hs] 23 (0, 0))) := Lib.hid (by rw [← Hw0.out]; exact heap_alloc_new w _)
  rw [Hw0.out]
  clear Hw0
  go_wp2_with (refine wpList_load_rowW (by rfl) 23 _ rfl w.heap.size rfl 23 _ _ _ HH0.out Tryd.underlying23 rfl (by kernel_rfl) ?_)
  (with_reducible refine (hvalid_f ⟨hp, hc, hs⟩ _ HC.out HS.out HK.out).mono ?_)
  rintro e w1 ⟨rfl, hb1⟩
  have HB1 := Lib.hid (bt HB0.out hb1)
  clear hb1
  go_wp2_with fail
  go_ret
  exact ⟨rfl, HB1.out⟩

set_option maxRecDepth 100000 in
set_option maxHeartbeats 4000000 in
theorem verify_far (root : ByteArray) (n : Int) (h : MHead) (v : Value) (w : World) (hn0 : 0 ≤ n) (hn1 : n ≤ 10000) (hk : Hok h) (hp : n < h.p) :
    Calls Tryd.prog 15 #[.string root, .int .i64 n, headV h, v] w fun e w' => e = .returned (.bool false) ∧ Below w.heap.size w w' := by
  have d1 : decide (n < 0) = false := decide_eq_false (by omega)
  have d2 : decide (10000 < n) = false := decide_eq_false (by omega)
  have hfar := hp
  clear hp
  obtain ⟨hp, hc, hs⟩ := h
  have HK := Lib.hid hk
  have HK2 := Lib.hid hk
  have g1 : 0 ≤ hp := hk.1.1
  have g2 : hp ≤ 10000 := hk.1.2
  clear hk
  have d3 : decide (n < hp) = true := decide_eq_true hfar
  clear hfar hn0 hn1 g1 g2 HK2
  unfold headV
  go_enter Tryd.func15, Tryd.ntmps15
  go_upto_region 1 with fail
  obtain ⟨w0, Hw0⟩ : ∃ w0, Hid (w.alloc (.cells #[.int .i64 hp, .string hc, .string hs] 23) = w0) := ⟨_, Lib.hid rfl⟩
  have HB0 : Hid (Below w.heap.size w w0) := Lib.hid (by rw [← Hw0.out]; exact ba w _)
  have HH0 : Hid (w0.heap[w.heap.size]? = some (.cells #[.int .i64 hp, .string hc, .string hs] 23 (0, 0))) := Lib.hid (by rw [← Hw0.out]; exact heap_alloc_new w _)
  rw [Hw0.out]
  clear Hw0
  go_wp2_with (refine wpList_load_rowW (by rfl) 23 _ rfl w.heap.size rfl 23 _ _ _ HH0.out Tryd.underlying23 rfl (by kernel_rfl) ?_)
  (with_reducible refine (hvalid_t ⟨hp, hc, hs⟩ _ HK.out).mono ?_)
  rintro e w1 ⟨rfl, hb1⟩
  have HB1 := Lib.hid (bt HB0.out hb1)
  have HH1 := Lib.hid (gone hb1 HH0.out)
  clear hb1 HB0 HH0
  have c0 := cellOf (j := 0) HH1.out rfl
  go_wp2_with fail
  go_ret
  exact ⟨rfl, HB1.out⟩

set_option maxRecDepth 100000 in
set_option maxHeartbeats 4000000 in
theorem verify_ok (root : ByteArray) (n : Int) (h : MHead) (v : Value) (P : List ByteArray) (w : World) (hn0 : 0 ≤ n) (hn1 : n ≤ 10000) (hk : Hok h) (hp : h.p ≤ n) (hS : Strs w v P)
    (hver : ∀ W, Below w.heap.size w W → Calls Tryd.prog 39 #[.string root, .int .i64 (n + 1), .int .i64 h.p, .string (encH h), v] W fun e w' => e = .returned (.bool (dg.verify root (n + 1) h.p (encH h) P)) ∧ Below W.heap.size W w') :
    Calls Tryd.prog 15 #[.string root, .int .i64 n, headV h, v] w fun e w' => e = .returned (.bool (dg.verify root (n + 1) h.p (encH h) P)) ∧ Below w.heap.size w w' := by
  have d1 : decide (n < 0) = false := decide_eq_false (by omega)
  have d2 : decide (10000 < n) = false := decide_eq_false (by omega)
  have hfar := hp
  clear hp
  obtain ⟨va, vn, vc, rfl, -⟩ := id hS
  have HV := Lib.hid hver
  clear hver hS
  obtain ⟨hp, hc, hs⟩ := h
  have HK := Lib.hid hk
  have HK2 := Lib.hid hk
  have g1 : 0 ≤ hp := hk.1.1
  have g2 : hp ≤ 10000 := hk.1.2
  clear hk
  have d3 : decide (n < hp) = false := decide_eq_false (Int.not_lt.2 hfar)
  have k9 : n + 1 ≤ 10001 := by omega
  clear hfar
  simp only at HV
  obtain ⟨eh, Heh⟩ : ∃ eh, Hid (encH ⟨hp, hc, hs⟩ = eh) := ⟨_, Lib.hid rfl⟩
  obtain ⟨r, Hr⟩ : ∃ r, Hid (dg.verify root (n + 1) hp eh P = r) := ⟨_, Lib.hid rfl⟩
  simp only [Heh.out] at HV ⊢
  rw [Hr.out] at HV ⊢
  have HE : Hid (∀ W', Calls Tryd.prog 34 #[.agg #[.int .i64 hp, .string hc, .string hs]] W' fun e w' => e = .returned (.string eh) ∧ Below W'.heap.size W' w') := Lib.hid (fun W' => by rw [← Heh.out]; exact encode_c ⟨hp, hc, hs⟩ W' HK2.out)
  clear Heh Hr HK2
  unfold headV
  go_enter Tryd.func15, Tryd.ntmps15
  go_upto_region 1 with fail
  obtain ⟨w0, Hw0⟩ : ∃ w0, Hid (w.alloc (.cells #[.int .i64 hp, .string hc, .string hs] 23) = w0) := ⟨_, Lib.hid rfl⟩
  have HB0 : Hid (Below w.heap.size w w0) := Lib.hid (by rw [← Hw0.out]; exact ba w _)
  have HH0 : Hid (w0.heap[w.heap.size]? = some (.cells #[.int .i64 hp, .string hc, .string hs] 23 (0, 0))) := Lib.hid (by rw [← Hw0.out]; exact heap_alloc_new w _)
  rw [Hw0.out]
  clear Hw0
  go_wp2_with (refine wpList_load_rowW (by rfl) 23 _ rfl w.heap.size rfl 23 _ _ _ HH0.out Tryd.underlying23 rfl (by kernel_rfl) ?_)
  (with_reducible refine (hvalid_t ⟨hp, hc, hs⟩ _ HK.out).mono ?_)
  rintro e w1 ⟨rfl, hb1⟩
  have HB1 := Lib.hid (bt HB0.out hb1)
  have HH1 := Lib.hid (gone hb1 HH0.out)
  clear hb1 HB0 HH0
  have c0 := cellOf (j := 0) HH1.out rfl
  go_upto_region 3 with fail
  have gh : ∀ w0, BW w1 w0 → ∀ w2, BC w0 w2 → w2.heap[w.heap.size]? = some (.cells #[.int .i64 hp, .string hc, .string hs] 23 (0, 0)) := fun w0 h w2 k => gone (bt h (bc_below k)) HH1.out
  have gp : ∀ w0, BW w1 w0 → ∀ d os, (grow (redrawn w0 d) os).cell? ⟨w.heap.size, 0, none⟩ = some (.int .i64 hp) := fun w0 h d os => cellOf (j := 0) (gone (bt h (below_regrown w0 d os)) HH1.out) rfl
  refine wp_region_calm 9 99 [0, 1, 2, 3, 4, 5, 6, 7, 8] (by kernel_rfl) (by kernel_rfl) (by intro oz h; simp at h) (by intro oz h; simp at h) (by rfl) ?_
  simp only [List.take_succ_cons, List.take_zero]
  iterate 5
    apply wpCalm_want
    · rfl
    · exact bc_refl
    · exact ⟨_, Below.refl _ _⟩
    · intro w00 hC0 K hK
      go_big_quiet_op
      exact hK
  apply wpCalm_want
  · rfl
  · exact bc_refl
  · exact ⟨_, Below.refl _ _⟩
  · intro w00 hC0 K hK
    refine quiet_load_row 23 _ rfl w.heap.size rfl 23 _ _ _ (gh _ hC0) Tryd.underlying23 rfl (by kernel_rfl) ?_
    exact hK
  go_frame
  apply wpCalm_want
  · rfl
  · exact bc_refl
  · exact ⟨_, Below.refl _ _⟩
  · intro w00 hC0 K hK
    go_big_quiet_op
    apply Exists.intro
    refine ⟨fun p => ?_, ?_⟩
    · exact Calls.regrown_of (HE.out _)
    · exact hK
  apply wpCalm_want
  · rfl
  · exact bc_refl
  · exact ⟨_, Below.refl _ _⟩
  · intro w00 hC0 K hK
    go_big_quiet_op
    exact hK
  apply wpCalm_want
  · rfl
  · exact bc_refl
  · exact ⟨_, Below.refl _ _⟩
  · intro w00 hC0 K hK
    go_big_quiet_op
    apply Exists.intro
    refine ⟨fun p => ?_, ?_⟩
    · exact Calls.regrown_of (HV.out _ (bt HB1.out (bt hC0 (below_regrown _ _ _))))
    · exact hK
  refine wpCalm_nil ?_
  intro w3 hbq
  try simp only [List.drop_succ_cons, List.drop_zero]
  have HB3 := Lib.hid (bt HB1.out hbq)
  clear gp gh hbq
  try go_frame
  go_wp2_with fail
  go_ret
  exact ⟨rfl, HB3.out⟩

theorem verifyH_any (root : ByteArray) (n : Int) (h : MHead) (v : Value) (P : List ByteArray) (w : World) (hT : Tab w) (hc : h.c.size ≤ maxLen) (hs : h.s.size ≤ maxLen) (hS : Strs w v P) (hsh : Short P) :
    Calls Tryd.prog 15 #[.string root, .int .i64 n, headV h, v] w fun e w' => e = .returned (.bool (verH root n h P)) ∧ Below w.heap.size w w' := by
  unfold verH
  by_cases h0 : 0 ≤ n
  · by_cases h1 : n ≤ 10000
    · by_cases h2 : Hok h
      · by_cases h3 : h.p ≤ n
        · rw [if_pos ⟨h0, h1, h2, h3⟩]
          refine verify_ok root n h v P w h0 h1 h2 h3 hS (fun W hW => ?_)
          have h5 := h2.1
          exact verify_c root (n + 1) h.p (encH h) v P W (by omega) (by omega) (by omega) (by omega) (by have := encH_size h2; omega) (hS.below hW) hsh (hT.below hW)
        · rw [if_neg (fun k => h3 k.2.2.2)]; exact verify_far root n h v w h0 h1 h2 (by omega)
      · rw [if_neg (fun k => h2 k.2.2.1)]; exact verify_head root n h v w h0 h1 h2 hc hs
    · rw [if_neg (fun k => h1 k.2.1)]; exact verify_num root n h v w (.inr (by omega))
  · rw [if_neg (fun k => h0 k.1)]; exact verify_num root n h v w (.inl (by omega))
end Go.Proofs.YtpapfegbodolgaaDoor
