/- WALKS: the reference: ValidRecord. -/
import Derived.Test.YtaapggeaoacikaaH1
set_option linter.unusedVariables false
set_option linter.unusedSimpArgs false
namespace Go.Proofs.Ytaapggeaoacikaa
open Go.RowKit Go.Sort
set_option maxRecDepth 100000 in
set_option maxHeartbeats 8000000 in
theorem refValidRecord_in (p : Int) (n cap : Nat) (L : List MCh) (w : World) (hn : n = L.length) (h1 : 1 ≤ p ∧ p ≤ 10000) (h2 : 1 ≤ n ∧ n ≤ 8) (b o : Nat) (hb : b < w.heap.size) (hc : ∀ i, i < n → ChAt w b (o + i * 10) (L.getD i chZ)) :
    Calls Try.prog 37 #[.agg #[.int .i64 p, .slice (some ⟨b, o, none⟩) n cap]] w fun e w' => e = .returned (.bool (vrec p L)) ∧ Below w.heap.size w w' := by
  have HN := Lib.hid hn
  have HC := Lib.hid hc
  have H1 := Lib.hid h1
  have H2 := Lib.hid h2
  have H2i : Hid ((1 : Int) ≤ (n : Int) ∧ (n : Int) ≤ 8) := Lib.hid (by omega)
  have hn8 : n ≤ 8 := h2.2
  clear hn hc h1 h2
  go_enter Try.func37, Try.ntmps37
  have HP0 := Lib.hid (⟨by simp [go_sem], by simp [go_sem]⟩ : (w.alloc (.cells #[.int .i64 p, .slice (some ⟨b, o, none⟩) n cap] 32)).cell? ⟨w.heap.size, 0, none⟩ = some (.int .i64 p) ∧ (w.alloc (.cells #[.int .i64 p, .slice (some ⟨b, o, none⟩) n cap] 32)).cell? ⟨w.heap.size, 1, none⟩ = some (.slice (some ⟨b, o, none⟩) n cap))
  go_wp2_with fail
  (with_reducible refine (within_t p _ _ _ H1.out).mono ?_)
  rintro e w1 ⟨rfl, rfl⟩
  go_wp2_with fail
  (with_reducible refine (within_t n _ _ _ H2i.out).mono ?_)
  rintro e w1 ⟨rfl, rfl⟩
  go_wp2_with fail
  go_loopw [3, 4, 5] (fun i _ _ wr => ∃ k : Nat, k ≤ n ∧ i = .int .i64 k ∧ Hid (Below (w.heap.size + 1) (w.alloc (.cells #[.int .i64 p, .slice (some ⟨b, o, none⟩) n cap] 32)) wr) ∧ Hid (∀ j, j < k → VGo L j)) (fun i _ _ _ => n - (intOf i).toNat)
  case atStart => exact ⟨0, by omega, rfl, Lib.hid (by simpa using Below.refl (w.alloc (.cells #[.int .i64 p, .slice (some ⟨b, o, none⟩) n cap] 32)).heap.size _), Lib.hid (fun j hj => by omega)⟩
  case round =>
    obtain ⟨k, hk, rfl, HB, HV⟩ := hrel
    have HB' : Hid (Below (w.alloc (.cells #[.int .i64 p, .slice (some ⟨b, o, none⟩) n cap] 32)).heap.size (w.alloc (.cells #[.int .i64 p, .slice (some ⟨b, o, none⟩) n cap] 32)) wr) := Lib.hid (by simpa using HB.out)
    have hsz : w.heap.size + 1 ≤ wr.heap.size := by have := HB'.out.size; simpa using this
    have Hw0 : Hid (Below w.heap.size w wr) := Lib.hid (bt (ba w _) HB'.out)
    have hr1 : wr.cell? ⟨w.heap.size, 1, none⟩ = some (.slice (some ⟨b, o, none⟩) n cap) := by rw [(bcell HB'.out).1 _ _ (by simp)]; exact HP0.out.2
    by_cases hlt : k < n
    · have HCk := (HC.out k hlt).below hb Hw0.out
      have HVk : Hid (VGo L k ↔ VCh (L.getD k chZ) ∧ (0 < k → Prec (L.getD (k - 1) chZ) (L.getD k chZ))) := Lib.hid Iff.rfl
      have HF : Hid (¬ VGo L k → ¬ VRec p L) := Lib.hid (fun h hh => h (hh.2.2 k (by rw [← HN.out]; exact hlt)))
      obtain ⟨c, HcE⟩ : ∃ c, Hid (L.getD k chZ = c) := ⟨_, Lib.hid rfl⟩
      rw [HcE.out] at HCk HVk
      obtain ⟨t, kk, had, ⟨oa, ob, oc⟩, has, ⟨na, nb, nc⟩⟩ := c
      obtain ⟨d0, d1, d2, d3, d4, d5, d6, d7, d8, d9⟩ := HCk.cells
      by_cases hv : VCh ⟨t, kk, had, ⟨oa, ob, oc⟩, has, ⟨na, nb, nc⟩⟩
      · have HVc := Lib.hid hv
        clear hv
        by_cases hk0 : 0 < k
        · obtain ⟨q, rfl⟩ : ∃ q, k = q + 1 := ⟨k - 1, by omega⟩
          have HCq := (HC.out q (by omega)).below hb Hw0.out
          obtain ⟨c', HcE'⟩ : ∃ c', Hid (L.getD q chZ = c') := ⟨_, Lib.hid rfl⟩
          rw [HcE'.out] at HCq
          rw [Nat.add_sub_cancel, HcE'.out] at HVk
          obtain ⟨t', kk', had', ⟨oa', ob', oc'⟩, has', ⟨na', nb', nc'⟩⟩ := c'
          by_cases hp : Prec ⟨t', kk', had', ⟨oa', ob', oc'⟩, has', ⟨na', nb', nc'⟩⟩ ⟨t, kk, had, ⟨oa, ob, oc⟩, has, ⟨na, nb, nc⟩⟩
          · have HNV : Hid (VGo L (q + 1)) := Lib.hid (HVk.out.2 ⟨HVc.out, fun _ => hp⟩)
            have HPt : Hid (t' < t ∨ t' = t ∧ kk' < kk) := Lib.hid hp
            clear hp hk0
            obtain ⟨b1, b2, b3, hd1, hd2, hd3, HX⟩ : ∃ b1 b2 b3, decide (t < t') = b1 ∧ (t' == t) = b2 ∧ decide (kk ≤ kk') = b3 ∧ Hid (b1 = false ∧ (b2 = false ∨ b3 = false)) := ⟨_, _, _, rfl, rfl, rfl, Lib.hid (by
              rcases HPt.out with h | ⟨h, h2⟩
              · exact ⟨decide_eq_false (by omega), .inl (by simp; omega)⟩
              · exact ⟨decide_eq_false (by omega), .inr (decide_eq_false (by omega))⟩)⟩
            obtain ⟨rfl, hb23⟩ := HX.out
            have hw1 : IntKind.i64.wrap ((q : Int) + 1 - 1) = (q : Int) := by rw [IntKind.wrap_i64]; omega
            go_wp2_with fail
            (with_reducible refine (refVC_t ⟨t, kk, had, ⟨oa, ob, oc⟩, has, ⟨na, nb, nc⟩⟩ _ HVc.out).mono ?_)
            rintro e w5 ⟨rfl, hb5⟩
            have HC5 := Lib.hid (ChAt.below (ChAt_new wr ⟨t, kk, had, ⟨oa, ob, oc⟩, has, ⟨na, nb, nc⟩⟩) (by simp) hb5)
            have hbk := bt (ba wr (.cells #[.int .i64 t, .int .i64 kk, .bool had, .int .i64 oa, .int .i64 ob, .int .i64 oc, .bool has, .int .i64 na, .int .i64 nb, .int .i64 nc] 57)) hb5
            have hr5 : w5.cell? ⟨w.heap.size, 1, none⟩ = some (.slice (some ⟨b, o, none⟩) n cap) := by rw [(bcell hbk).1 _ _ (by omega)]; exact hr1
            have HCq5 := HCq.below (Nat.lt_of_lt_of_le hb Hw0.out.size) hbk
            have hl5 : wr.heap.size < w5.heap.size := by have := hb5.size; simp only [World.size_alloc] at this; omega
            have HB7 : Hid (Below wr.heap.size wr (w5.alloc (.cells #[.int .i64 t', .int .i64 kk', .bool had', .int .i64 oa', .int .i64 ob', .int .i64 oc', .bool has', .int .i64 na', .int .i64 nb', .int .i64 nc'] 57))) := Lib.hid (bt hbk (ba _ _))
            have HBn : Hid (Below (w.heap.size + 1) (w.alloc (.cells #[.int .i64 p, .slice (some ⟨b, o, none⟩) n cap] 32)) (w5.alloc (.cells #[.int .i64 t', .int .i64 kk', .bool had', .int .i64 oa', .int .i64 ob', .int .i64 oc', .bool has', .int .i64 na', .int .i64 nb', .int .i64 nc'] 57))) := Lib.hid (HB.out.trans (HB7.out.mono hsz))
            clear hb5 hbk d0 d1 d2 d3 d4 d5 d6 d7 d8 d9 hr1
            obtain ⟨d0, d1, d2, d3, d4, d5, d6, d7, d8, d9⟩ := HC5.out.cells
            obtain ⟨e0, e1, e2, e3, e4, e5, e6, e7, e8, e9⟩ := HCq5.cells
            rcases hb23 with rfl | rfl
            · go_wp2_with fail
              exact ⟨⟨q + 1 + 1, by omega, by go_num, HBn, Lib.hid (fun j hj => by
                rcases Nat.lt_or_eq_of_le (Nat.le_of_lt_succ hj) with h | rfl
                · exact HV.out j h
                · exact HNV.out)⟩, by simp [intOf]; omega⟩
            · cases b2
              · go_wp2_with fail
                exact ⟨⟨q + 1 + 1, by omega, by go_num, HBn, Lib.hid (fun j hj => by
                  rcases Nat.lt_or_eq_of_le (Nat.le_of_lt_succ hj) with h | rfl
                  · exact HV.out j h
                  · exact HNV.out)⟩, by simp [intOf]; omega⟩
              · go_wp2_with fail
                exact ⟨⟨q + 1 + 1, by omega, by go_num, HBn, Lib.hid (fun j hj => by
                  rcases Nat.lt_or_eq_of_le (Nat.le_of_lt_succ hj) with h | rfl
                  · exact HV.out j h
                  · exact HNV.out)⟩, by simp [intOf]; omega⟩
          · have HPt : Hid (¬ (t' < t ∨ t' = t ∧ kk' < kk)) := Lib.hid hp
            have HNV : Hid (¬ VGo L (q + 1)) := Lib.hid (fun h => hp ((HVk.out.1 h).2 (by omega)))
            clear hp hk0
            obtain ⟨b1, b2, b3, hd1, hd2, hd3, HX⟩ : ∃ b1 b2 b3, decide (t < t') = b1 ∧ (t' == t) = b2 ∧ decide (kk ≤ kk') = b3 ∧ Hid (b1 = true ∨ (b1 = false ∧ b2 = true ∧ b3 = true)) := ⟨_, _, _, rfl, rfl, rfl, Lib.hid (by
              have h := HPt.out
              by_cases h1 : t < t'
              · exact .inl (decide_eq_true h1)
              · exact .inr ⟨decide_eq_false h1, by simp; omega, decide_eq_true (by omega)⟩)⟩
            have hw1 : IntKind.i64.wrap ((q : Int) + 1 - 1) = (q : Int) := by rw [IntKind.wrap_i64]; omega
            go_wp2_with fail
            (with_reducible refine (refVC_t ⟨t, kk, had, ⟨oa, ob, oc⟩, has, ⟨na, nb, nc⟩⟩ _ HVc.out).mono ?_)
            rintro e w5 ⟨rfl, hb5⟩
            have HC5 := Lib.hid (ChAt.below (ChAt_new wr ⟨t, kk, had, ⟨oa, ob, oc⟩, has, ⟨na, nb, nc⟩⟩) (by simp) hb5)
            have hbk := bt (ba wr (.cells #[.int .i64 t, .int .i64 kk, .bool had, .int .i64 oa, .int .i64 ob, .int .i64 oc, .bool has, .int .i64 na, .int .i64 nb, .int .i64 nc] 57)) hb5
            have hr5 : w5.cell? ⟨w.heap.size, 1, none⟩ = some (.slice (some ⟨b, o, none⟩) n cap) := by rw [(bcell hbk).1 _ _ (by omega)]; exact hr1
            have HCq5 := HCq.below (Nat.lt_of_lt_of_le hb Hw0.out.size) hbk
            have hl5 : wr.heap.size < w5.heap.size := by have := hb5.size; simp only [World.size_alloc] at this; omega
            have HB7 : Hid (Below wr.heap.size wr (w5.alloc (.cells #[.int .i64 t', .int .i64 kk', .bool had', .int .i64 oa', .int .i64 ob', .int .i64 oc', .bool has', .int .i64 na', .int .i64 nb', .int .i64 nc'] 57))) := Lib.hid (bt hbk (ba _ _))
            have HBn : Hid (Below (w.heap.size + 1) (w.alloc (.cells #[.int .i64 p, .slice (some ⟨b, o, none⟩) n cap] 32)) (w5.alloc (.cells #[.int .i64 t', .int .i64 kk', .bool had', .int .i64 oa', .int .i64 ob', .int .i64 oc', .bool has', .int .i64 na', .int .i64 nb', .int .i64 nc'] 57))) := Lib.hid (HB.out.trans (HB7.out.mono hsz))
            clear hb5 hbk d0 d1 d2 d3 d4 d5 d6 d7 d8 d9 hr1
            obtain ⟨d0, d1, d2, d3, d4, d5, d6, d7, d8, d9⟩ := HC5.out.cells
            obtain ⟨e0, e1, e2, e3, e4, e5, e6, e7, e8, e9⟩ := HCq5.cells
            rcases HX.out with rfl | ⟨rfl, rfl, rfl⟩
            · go_wp2_with fail
              go_ret
              exact ⟨vrec_f (HF.out HNV.out), bt Hw0.out HB7.out⟩
            · go_wp2_with fail
              go_ret
              exact ⟨vrec_f (HF.out HNV.out), bt Hw0.out HB7.out⟩
        · obtain rfl : k = 0 := by omega
          simp only [Nat.zero_mul, Nat.add_zero] at d0 d1 d2 d3 d4 d5 d6 d7 d8 d9
          have HNV : Hid (VGo L 0) := Lib.hid (HVk.out.2 ⟨HVc.out, fun h => by omega⟩)
          go_wp2_with fail
          (with_reducible refine (refVC_t ⟨t, kk, had, ⟨oa, ob, oc⟩, has, ⟨na, nb, nc⟩⟩ _ HVc.out).mono ?_)
          rintro e w5 ⟨rfl, hb5⟩
          have hbk := bt (ba wr (.cells #[.int .i64 t, .int .i64 kk, .bool had, .int .i64 oa, .int .i64 ob, .int .i64 oc, .bool has, .int .i64 na, .int .i64 nb, .int .i64 nc] 57)) hb5
          have HBn : Hid (Below (w.heap.size + 1) (w.alloc (.cells #[.int .i64 p, .slice (some ⟨b, o, none⟩) n cap] 32)) w5) := Lib.hid (HB.out.trans (hbk.mono hsz))
          go_wp2_with fail
          exact ⟨⟨0 + 1, by omega, by go_num, HBn, Lib.hid (fun j hj => by
            have e : j = 0 := (by omega)
            subst e
            exact HNV.out)⟩, by simp [intOf]; omega⟩
      · have HVc := Lib.hid hv
        have HNV : Hid (¬ VGo L k) := Lib.hid (fun h => HVc.out (HVk.out.1 h).1)
        clear hv
        go_wp2_with fail
        (with_reducible refine (refVC_f ⟨t, kk, had, ⟨oa, ob, oc⟩, has, ⟨na, nb, nc⟩⟩ _ HVc.out).mono ?_)
        rintro e w5 ⟨rfl, hb5⟩
        go_wp2_with fail
        go_ret
        exact ⟨vrec_f (HF.out HNV.out), bt Hw0.out (bt (ba wr (.cells #[.int .i64 t, .int .i64 kk, .bool had, .int .i64 oa, .int .i64 ob, .int .i64 oc, .bool has, .int .i64 na, .int .i64 nb, .int .i64 nc] 57)) hb5)⟩
    · obtain rfl : k = n := by omega
      have HR : Hid (VRec p L) := Lib.hid ⟨H1.out, by rw [← HN.out]; exact H2.out, fun j hj => HV.out j (by rw [HN.out]; exact hj)⟩
      go_wp2_with fail
      go_ret
      exact ⟨vrec_t HR.out, Hw0.out⟩
theorem refValidRecord_any (p : Int) (v : Value) (L : List MCh) (w : World) (hv : ChS w v L) :
    Calls Try.prog 37 #[.agg #[.int .i64 p, v]] w fun e w' => e = .returned (.bool (vrec p L)) ∧ Below w.heap.size w w' := by
  obtain ⟨a, n, cap, rfl, hn, hc1, hc2, hcell⟩ := hv
  by_cases h1 : 1 ≤ p ∧ p ≤ 10000
  · by_cases h2 : 1 ≤ n ∧ n ≤ 8
    · obtain ⟨b, o, rfl, hb, hc⟩ := hcell h2.1
      exact refValidRecord_in p n cap L w hn h1 h2 b o hb hc
    · have HR : Hid (¬ VRec p L) := Lib.hid (fun h => h2 (by rw [hn]; exact h.2.1))
      have H1 := Lib.hid h1
      have H2 : Hid (¬ ((1 : Int) ≤ (n : Int) ∧ (n : Int) ≤ 8)) := Lib.hid (by omega)
      clear h1 h2 hcell hn hc1 hc2
      go_enter Try.func37, Try.ntmps37
      go_wp2_with fail
      (with_reducible refine (within_t p _ _ _ H1.out).mono ?_)
      rintro e w1 ⟨rfl, rfl⟩
      go_wp2_with fail
      (with_reducible refine (within_f n _ _ _ H2.out).mono ?_)
      rintro e w1 ⟨rfl, rfl⟩
      go_wp2_with fail
      go_ret
      exact ⟨vrec_f HR.out, ba _ _⟩
  · have HR : Hid (¬ VRec p L) := Lib.hid (fun h => h1 h.1)
    have H1 := Lib.hid h1
    clear h1 hcell hn hc1 hc2
    go_enter Try.func37, Try.ntmps37
    go_wp2_with fail
    (with_reducible refine (within_f p _ _ _ H1.out).mono ?_)
    rintro e w1 ⟨rfl, rfl⟩
    go_wp2_with fail
    go_ret
    exact ⟨vrec_f HR.out, ba _ _⟩
end Go.Proofs.Ytaapggeaoacikaa
