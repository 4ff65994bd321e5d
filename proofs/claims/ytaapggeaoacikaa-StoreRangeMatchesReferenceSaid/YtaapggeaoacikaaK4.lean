/- WALKS: Apply. -/
import Derived.Test.YtaapggeaoacikaaS3
import Derived.WalkSpells
set_option linter.unusedVariables false
set_option linter.unusedSimpArgs false
namespace Go.Proofs.Ytaapggeaoacikaa
open Go.RowKit Go.Sort Go.ChangeMaps Go.MapKept

theorem vrC_t (p : Int) (v : Value) (L : List MCh) (w : World) (hv : ChS w v L) (h : VRec p L) : Calls Try.prog 34 #[.agg #[.int .i64 p, v]] w fun e w' => e = .returned (.bool true) ∧ Below w.heap.size w w' :=
  (validRecord_any p v L w hv).mono fun e w' hw => by rw [vrec, decide_eq_true h] at hw; exact hw
theorem vrC_f (p : Int) (v : Value) (L : List MCh) (w : World) (hv : ChS w v L) (h : ¬ VRec p L) : Calls Try.prog 34 #[.agg #[.int .i64 p, v]] w fun e w' => e = .returned (.bool false) ∧ Below w.heap.size w w' :=
  (validRecord_any p v L w hv).mono fun e w' hw => by rw [vrec, decide_eq_false h] at hw; exact hw
theorem fitC_ok {W : World} {b : Nat} {m : Option Nat} {L : List MRow} {p : Int} (h : StAt W b m L p) {pos : Int} {cs : List MCh} {v : Value} (hv : ChS W v cs) (hr : VRec pos cs) :
    Calls Try.prog 35 #[.pointer (some ⟨b, 0, none⟩), v] W fun e w' => e = .returned (.bool (fitB L cs)) ∧ Below W.heap.size W w' := by
  obtain ⟨a, n, cap, rfl, hn, hc1, hc2, hcell⟩ := hv
  obtain ⟨vb, vo, rfl, hb, hc⟩ := hcell (by rw [hn]; exact hr.2.1.1)
  exact fit_in h n cap cs hn (by rw [hn]; exact hr.2.1.2) (vrec_mem hr) vb vo hb hc
theorem fit_ct {W : World} {b : Nat} {m : Option Nat} {L : List MRow} {p : Int} (h : StAt W b m L p) {pos : Int} {cs : List MCh} {v : Value} (hv : ChS W v cs) (hr : VRec pos cs) (hf : Fits L cs ∧ cnt L.length cs ≤ 2000) :
    Calls Try.prog 35 #[.pointer (some ⟨b, 0, none⟩), v] W fun e w' => e = .returned (.bool true) ∧ Below W.heap.size W w' :=
  (fitC_ok h hv hr).mono fun e w' hw => by rw [fitB, decide_eq_true hf] at hw; exact hw
theorem fit_cf {W : World} {b : Nat} {m : Option Nat} {L : List MRow} {p : Int} (h : StAt W b m L p) {pos : Int} {cs : List MCh} {v : Value} (hv : ChS W v cs) (hr : VRec pos cs) (hf : ¬ (Fits L cs ∧ cnt L.length cs ≤ 2000)) :
    Calls Try.prog 35 #[.pointer (some ⟨b, 0, none⟩), v] W fun e w' => e = .returned (.bool false) ∧ Below W.heap.size W w' :=
  (fitC_ok h hv hr).mono fun e w' hw => by rw [fitB, decide_eq_false hf] at hw; exact hw

set_option maxRecDepth 100000 in
theorem apply_nil (pos : Int) (v : Value) (W : World) : Calls Try.prog 15 #[.pointer none, .agg #[.int .i64 pos, v]] W fun e w' => e = .returned (.int .i64 1) ∧ Below W.heap.size W w' := by
  go_enter Try.func15, Try.ntmps15
  go_wp2
  go_ret
  exact ⟨rfl, ba _ _⟩

set_option maxRecDepth 100000 in
set_option maxHeartbeats 4000000 in
theorem apply_bad {W : World} {b : Nat} {m : Option Nat} {L : List MRow} {p : Int} (h : StAt W b m L p) {pos : Int} {cs : List MCh} {v : Value} (hv : ChS W v cs) (ho : ¬ Okay L p pos cs) :
    Calls Try.prog 15 #[.pointer (some ⟨b, 0, none⟩), .agg #[.int .i64 pos, v]] W fun e w' => e = .returned (.int .i64 40) ∧ Below W.heap.size W w' := by
  have HS := Lib.hid h
  have HV := Lib.hid hv
  have hw1 : IntKind.i64.wrap (p + 1) = p + 1 := by rw [IntKind.wrap_i64]; have := h.pos; omega
  by_cases h1 : VRec pos cs
  · by_cases h2 : pos = p + 1
    · have h3 : ¬ (Fits L cs ∧ cnt L.length cs ≤ 2000) := fun h3 => ho ⟨h1, h2, h3⟩
      have H1 := Lib.hid h1
      have H3 := Lib.hid h3
      have d2 : (pos != p + 1) = false := by simp [h2]
      clear h hv ho h1 h2 h3
      go_enter Try.func15, Try.ntmps15
      go_wp2_with fail
      obtain ⟨wb, Hwb⟩ : ∃ wb, Hid (W.alloc (.cells #[.int .i64 pos, v] 32) = wb) := ⟨_, Lib.hid rfl⟩
      rw [Hwb.out]
      have Hrb : Hid (Below W.heap.size W wb) := Lib.hid (by rw [← Hwb.out]; exact ba _ _)
      have r0 : ∀ d os, (grow (redrawn wb d) os).cell? ⟨W.heap.size, 0, none⟩ = some (.int .i64 pos) := fun d os => cell_regrown (by rw [← Hwb.out]; simp [go_sem]) d os
      have r1 : ∀ d os, (grow (redrawn wb d) os).cell? ⟨W.heap.size, 1, none⟩ = some v := fun d os => cell_regrown (by rw [← Hwb.out]; simp [go_sem]) d os
      have s1 : ∀ d os, (grow (redrawn wb d) os).cell? ⟨b, 1, none⟩ = some (.int .i64 p) := fun d os => cell_regrown (HS.out.below Hrb.out).cells.2.1 d os
      have hvr : ∀ d os, Calls Try.prog 34 #[.agg #[.int .i64 pos, v]] (grow (redrawn wb d) os) fun e w'' => e = .returned (.bool true) ∧ ∃ p : Regrown, w'' = grow (redrawn wb p.d) p.os := fun d os => Calls.regrown_of (vrC_t _ _ _ _ (HV.out.below (bt Hrb.out (below_regrown wb d os))) H1.out)
      have hft : ∀ d os, Calls Try.prog 35 #[.pointer (some ⟨b, 0, none⟩), v] (grow (redrawn wb d) os) fun e w'' => e = .returned (.bool false) ∧ ∃ p : Regrown, w'' = grow (redrawn wb p.d) p.os := fun d os => Calls.regrown_of (fit_cf (HS.out.below (bt Hrb.out (below_regrown wb d os))) (HV.out.below (bt Hrb.out (below_regrown wb d os))) H1.out H3.out)
      refine wp_region_quiet_below (by kernel_rfl) (by kernel_rfl) ?_
      repeat (first | go_big_quiet_step (first | with_reducible exact hvr _ _ | with_reducible exact hft _ _) | quiet_step (first | with_reducible exact hvr _ _ | with_reducible exact hft _ _))
      refine wpQuiet_nil ?_
      intro _ hw'
      obtain ⟨⟨dq, osq⟩, hw''⟩ := hw'
      subst hw''
      have HBq := Lib.hid (bt Hrb.out (below_regrown wb dq osq))
      clear r0 r1 s1 hvr hft
      go_wp2_with fail
      go_ret
      exact ⟨rfl, HBq.out⟩
    · have H1 := Lib.hid h1
      have d2 : (pos != p + 1) = true := by simp [h2]
      clear h hv ho h1 h2
      go_enter Try.func15, Try.ntmps15
      go_wp2_with fail
      obtain ⟨wb, Hwb⟩ : ∃ wb, Hid (W.alloc (.cells #[.int .i64 pos, v] 32) = wb) := ⟨_, Lib.hid rfl⟩
      rw [Hwb.out]
      have Hrb : Hid (Below W.heap.size W wb) := Lib.hid (by rw [← Hwb.out]; exact ba _ _)
      have r0 : ∀ d os, (grow (redrawn wb d) os).cell? ⟨W.heap.size, 0, none⟩ = some (.int .i64 pos) := fun d os => cell_regrown (by rw [← Hwb.out]; simp [go_sem]) d os
      have r1 : ∀ d os, (grow (redrawn wb d) os).cell? ⟨W.heap.size, 1, none⟩ = some v := fun d os => cell_regrown (by rw [← Hwb.out]; simp [go_sem]) d os
      have s1 : ∀ d os, (grow (redrawn wb d) os).cell? ⟨b, 1, none⟩ = some (.int .i64 p) := fun d os => cell_regrown (HS.out.below Hrb.out).cells.2.1 d os
      have hvr : ∀ d os, Calls Try.prog 34 #[.agg #[.int .i64 pos, v]] (grow (redrawn wb d) os) fun e w'' => e = .returned (.bool true) ∧ ∃ p : Regrown, w'' = grow (redrawn wb p.d) p.os := fun d os => Calls.regrown_of (vrC_t _ _ _ _ (HV.out.below (bt Hrb.out (below_regrown wb d os))) H1.out)
      refine wp_region_quiet_below (by kernel_rfl) (by kernel_rfl) ?_
      repeat (first | go_big_quiet_step (with_reducible exact hvr _ _) | quiet_step (with_reducible exact hvr _ _))
      refine wpQuiet_nil ?_
      intro _ hw'
      obtain ⟨⟨dq, osq⟩, hw''⟩ := hw'
      subst hw''
      have HBq := Lib.hid (bt Hrb.out (below_regrown wb dq osq))
      clear r0 r1 s1 hvr
      go_wp2_with fail
      go_ret
      exact ⟨rfl, HBq.out⟩
  · have H1 := Lib.hid h1
    clear h hv ho h1 hw1
    go_enter Try.func15, Try.ntmps15
    go_wp2_with fail
    obtain ⟨wb, Hwb⟩ : ∃ wb, Hid (W.alloc (.cells #[.int .i64 pos, v] 32) = wb) := ⟨_, Lib.hid rfl⟩
    rw [Hwb.out]
    have Hrb : Hid (Below W.heap.size W wb) := Lib.hid (by rw [← Hwb.out]; exact ba _ _)
    have r0 : ∀ d os, (grow (redrawn wb d) os).cell? ⟨W.heap.size, 0, none⟩ = some (.int .i64 pos) := fun d os => cell_regrown (by rw [← Hwb.out]; simp [go_sem]) d os
    have r1 : ∀ d os, (grow (redrawn wb d) os).cell? ⟨W.heap.size, 1, none⟩ = some v := fun d os => cell_regrown (by rw [← Hwb.out]; simp [go_sem]) d os
    have hvr : ∀ d os, Calls Try.prog 34 #[.agg #[.int .i64 pos, v]] (grow (redrawn wb d) os) fun e w'' => e = .returned (.bool false) ∧ ∃ p : Regrown, w'' = grow (redrawn wb p.d) p.os := fun d os => Calls.regrown_of (vrC_f _ _ _ _ (HV.out.below (bt Hrb.out (below_regrown wb d os))) H1.out)
    refine wp_region_quiet_below (by kernel_rfl) (by kernel_rfl) ?_
    repeat (first | go_big_quiet_step (with_reducible exact hvr _ _) | quiet_step (with_reducible exact hvr _ _))
    refine wpQuiet_nil ?_
    intro _ hw'
    obtain ⟨⟨dq, osq⟩, hw''⟩ := hw'
    subst hw''
    have HBq := Lib.hid (bt Hrb.out (below_regrown wb dq osq))
    clear r0 r1 hvr
    go_wp2_with fail
    go_ret
    exact ⟨rfl, HBq.out⟩
end Go.Proofs.Ytaapggeaoacikaa
