/- WALKS: the reference's Parse. -/
import Derived.Test.YtmjcjgmmolmibaaDoorR7
import Derived.Deep.Cut
set_option linter.unusedVariables false
set_option linter.unusedSimpArgs false
namespace Go.Proofs.YtmjcjgmmolmibaaDoor
open Go.RowKit Go.Sort

theorem results_17 (w : World) (R : Nat) (cells : Array Value) (n : Int) (tmps : Array Value) (hR : w.heap[R]? = some (.cells cells 23 (0, 0))) (hs : cells.size = 7)
    (h2 : tmps.getD 2 undef = .pointer (some ⟨R, 0, none⟩)) (h3 : tmps.getD 3 undef = .int .i64 n) : (results Tryd.f17 tmps).run Tryd.prog w = .ok (.tuple #[.agg cells, .int .i64 n]) w := by
  have h2' : tmps[2]?.getD undef = .pointer (some ⟨R, 0, none⟩) := by simpa using h2
  have h3' : tmps[3]?.getD undef = .int .i64 n := by simpa using h3
  have hl := run_loadVar_row (P := Tryd.prog) w R 23 23 cells (0, 0) _ hR Tryd.underlying23 rfl (by rw [hs]; kernel_rfl)
  simp [results, Tryd.results17, h2', h3', asAddr, hl]

theorem line_str (L : List UInt8) (s : ByteArray) : L = s.data.toList ↔ bstr L = s := ⟨fun h => by rw [h, bstr_of], fun h => by rw [← h, bstr_list]⟩
theorem at_some {ws : List (List UInt8)} {j : Nat} (h : j < ws.length) : ws[j]? = some (at_ ws j) := by
  unfold at_; rw [List.getD_eq_getElem?_getD, List.getElem?_eq_getElem h]; rfl
theorem at_le {L : List UInt8} (j : Nat) : (at_ (spl L) j).length ≤ L.length := by
  by_cases h : j < (spl L).length
  · exact spl_len L _ (List.mem_iff_getElem?.2 ⟨j, at_some h⟩)
  · unfold at_; rw [List.getD_eq_getElem?_getD, List.getElem?_eq_none (by omega)]; simp
theorem kk_eq (ws : List (List UInt8)) (k : Nat) : (bstr (at_ ws 0) = bstr (wordOf k)) ↔ at_ ws 0 = wordOf k := ⟨bstr_inj, fun h => by rw [h]⟩

set_option maxRecDepth 100000 in
set_option maxHeartbeats 1000000 in
theorem rparse_any (s : ByteArray) (hs : s.size ≤ 1000) (W : World) : Calls Tryd.prog 17 #[.string s] W fun e w' => e = .returned (parseV s.data.toList) ∧ Below W.heap.size W w' := by
  have Hsl : Hid (s.data.toList.length = s.size) := Lib.hid (by rw [Array.length_toList]; rfl)
  obtain ⟨W1, HW1⟩ : ∃ W1, Hid (W.alloc (.cells qz 23) = W1) := ⟨_, Lib.hid rfl⟩
  have HR0 : Hid (W1.heap[W.heap.size]? = some (.cells qz 23 (0, 0))) := Lib.hid (by rw [← HW1.out]; exact heap_alloc_new W _)
  have HB0 : Hid (Below W.heap.size W W1) := Lib.hid (by rw [← HW1.out]; exact ba _ _)
  have hz0 : W.heap.size < W1.heap.size := lt_of_heap HR0.out
  by_cases hl : 100 < s.size
  · have hd : decide (100 < (s.size : Int)) = true := decide_eq_true (by omega)
    have HPn : Hid (parseV s.data.toList = .tuple #[qV MQ.zero, .int .i64 50]) := Lib.hid (by
      unfold parseV; rw [parse_long (by rw [Hsl.out]; exact hl)])
    clear hs hl
    go_enter Tryd.func17, Tryd.ntmps17
    go_upto_region 1 with fail
    rw [HW1.out]
    obtain ⟨⟨y0, y1, y2, y3, y4, y5, y6⟩, yf⟩ := zeros_of HR0.out
    go_wp2_with fail
    exact bodyPost_ret (v := .tuple #[.agg #[.int .i64 0, .int .i64 0, .int .i64 0, .int .i64 0, .int .i64 0, .int .i64 0, .int .i64 0], .int .i64 50]) (results_17 _ W.heap.size _ _ _ (set7_heap HR0.out _ _ _ _ _ _ _) rfl rfl rfl) rfl ⟨by rw [HPn.out]; rfl, set7_below HB0.out (Nat.le_refl _) _ _ _ _ _ _ _⟩
  · have hd : decide (100 < (s.size : Int)) = false := decide_eq_false (by omega)
    have HW := Lib.hid (rwords_any s (by omega) W1)
    have HS := Lib.hid hs
    clear hs hl
    go_enter Tryd.func17, Tryd.ntmps17
    go_upto_region 1 with fail
    rw [HW1.out]
    go_wp2_with fail
    (with_reducible refine HW.out.mono ?_)
    rintro e w1 ⟨v, rfl, ho, hb1⟩
    have hne : spl s.data.toList ≠ [] := spl_ne _
    have HSpl : Hid (∀ q, candQ (spl s.data.toList) = some q → parse s.data.toList = if validB q = true ∧ line q = s.data.toList then some q else none) := Lib.hid (fun q h => parse_cand h)
    have HSpn : Hid (candQ (spl s.data.toList) = none → parse s.data.toList = none) := Lib.hid parse_nocand
    have HRd : Hid (∀ j w, Calls Tryd.prog 33 #[.string (bstr (at_ (spl s.data.toList) j))] w fun e w' => e = .returned (.int .i64 (rdAt (spl s.data.toList) j)) ∧ RowKit.Below w.heap.size w w') := Lib.hid (fun j w => (rread_any (bstr (at_ (spl s.data.toList) j)) (by rw [bstr_size]; have := at_le (L := s.data.toList) j; have := Hsl.out; have := HS.out; omega) w).mono fun e w' ⟨h1, h2⟩ => ⟨by rw [h1, bstr_list]; rfl, by subst h2; exact Below.refl _ _⟩)
    obtain ⟨ws, Hws⟩ : ∃ ws, Hid (spl s.data.toList = ws) := ⟨_, Lib.hid rfl⟩
    rw [Hws.out] at ho hne HSpl HSpn HRd
    have hz1 : W.heap.size < w1.heap.size := Nat.lt_of_lt_of_le hz0 hb1.size
    have HP1 : Hid (PSt W w1.heap.size v ws MQ.zero (w1.alloc (.cells (qC MQ.zero) 23))) := Lib.hid (by
      have hq : W1.heap.size = W.heap.size + 1 := by rw [← HW1.out]; simp
      exact ⟨((bt hb1 (ba _ _)).block _ hz0).trans HR0.out, (by have := ho.below (ba w1 (.cells (qC MQ.zero) 23)); rwa [hq] at this), heap_alloc_new w1 _, bt (bt HB0.out hb1) (ba _ _), by omega, by omega⟩)
    obtain ⟨va, vn, vc, rfl⟩ := ho.form
    obtain ⟨g, rfl⟩ : ∃ g, va = some ⟨g, 0, none⟩ := by
      rcases ho.2 with ⟨_, h0⟩ | ⟨g, cap, cur, e, _⟩
      · exact absurd (List.length_eq_zero_iff.1 h0) hne
      · simp at e
        exact ⟨g, e.1⟩
    obtain ⟨e1, e2, e3, e4⟩ := ho.cells
    subst e1
    clear ho hb1 e3 e4 HW
    go_wp2_with fail
    obtain ⟨W2, HW2⟩ : ∃ W2, Hid (w1.alloc (.cells (qC MQ.zero) 23) = W2) := ⟨_, Lib.hid rfl⟩
    rw [HW2.out] at HP1
    rw [show w1.alloc (.cells #[.int .i64 0, .int .i64 0, .int .i64 0, .int .i64 0, .int .i64 0, .int .i64 0, .int .i64 0] 23) = W2 from HW2.out]
    obtain ⟨qb, Hqb⟩ : ∃ qb, Hid (w1.heap.size = qb) := ⟨_, Lib.hid rfl⟩
    rw [Hqb.out] at HP1 hz1 ⊢
    have hln : 0 < ws.length := List.length_pos_iff.2 hne
    have hw0 : ws[0]? = some (at_ ws 0) := by unfold at_; rw [List.getD_eq_getElem?_getD, List.getElem?_eq_getElem hln]; rfl
    have Hw0 := Lib.hid hw0
    have HKl := Lib.hid (kk_last (at_ ws 0))
    clear hw0 hne
    go_loopw [6] (fun i wr => ∃ k : Nat, 1 ≤ k ∧ k ≤ 8 ∧ i = .int .i64 k ∧ PSt W qb (.slice (some ⟨g, 0, none⟩) ws.length vc) ws ⟨kk (at_ ws 0) k, 0, 0, 0, 0, 0, 0⟩ wr) (fun i _ => 8 - (intOf i).toNat)
    case atStart => exact ⟨1, by decide, by decide, rfl, by rw [kk_one]; exact HP1.out⟩
    case round =>
      obtain ⟨k, hk1, hk8, rfl, hp⟩ := hrel
      have HP := Lib.hid hp
      clear hp
      by_cases hk : k ≤ 7
      · have hd7 : decide ((k : Int) ≤ 7) = true := decide_eq_true (by omega)
        have HWd := Lib.hid (fun w => rword_int (k : Int) (by omega) w)
        have HHit : Hid (at_ ws 0 = wordOf k → kk (at_ ws 0) (k + 1) = k) := Lib.hid (kk_hit ⟨hk1, hk⟩)
        have HMiss : Hid (at_ ws 0 ≠ wordOf k → kk (at_ ws 0) (k + 1) = kk (at_ ws 0) k) := Lib.hid (kk_miss hk1)
        have g0 : ∀ w0, BW wr w0 → ∀ d os, (grow (redrawn w0 d) os).cell? ⟨g, 0, none⟩ = some (.string (bstr (at_ ws 0))) := fun w0 h d os => (((HP.out.below h).below (below_regrown w0 d os)).o.cells).2.2.2 0 _ Hw0.out
        obtain ⟨vb, hvb⟩ : ∃ vb, ((bstr (at_ ws 0)).toList == (bstr (wordOf k)).toList) = vb := ⟨_, rfl⟩
        have HVb : Hid (if vb then at_ ws 0 = wordOf k else at_ ws 0 ≠ wordOf k) := Lib.hid (by
          cases vb with
          | true => exact bstr_inj (ext_list (by rw [← ByteArray.toList_eq, ← ByteArray.toList_eq]; exact beq_iff_eq.1 hvb))
          | false => exact fun e => by rw [e] at hvb; simp at hvb)
        have HK1 := Lib.hid hk1
        have HK7 := Lib.hid hk
        obtain ⟨T, HT⟩ : ∃ T, Hid (bstr (at_ ws 0) = T) := ⟨_, Lib.hid rfl⟩
        obtain ⟨U, HU⟩ : ∃ U, Hid (bstr (wordOf k) = U) := ⟨_, Lib.hid rfl⟩
        rw [HT.out, HU.out] at hvb
        simp only [HT.out] at g0
        rw [HU.out] at HWd
        clear hk1 hk8 hk
        go_wp2_with fail
        refine wp_region_calm 5 6 [0, 1, 2, 3, 4] (by kernel_rfl) (by kernel_rfl) (by intro oz h; simp at h) (by intro oz h; simp at h) (by rfl) ?_
        simp only [List.take_succ_cons, List.take_zero]
        iterate 4
          apply wpCalm_want
          · rfl
          · exact bc_refl
          · exact ⟨_, Below.refl _ _⟩
          · intro w0 hC0 K hK
            go_big_quiet_op
            exact hK
        apply wpCalm_want
        · rfl
        · exact bc_refl
        · exact ⟨_, Below.refl _ _⟩
        · intro w0 hC0 K hK
          go_big_quiet_op
          apply Exists.intro
          refine ⟨fun p => ?_, ?_⟩
          · exact Calls.regrown_of (HWd.out _)
          · exact hK
        refine wpCalm_nil ?_
        intro wc hbc
        simp only [List.drop_succ_cons, List.drop_zero]
        have HPc := Lib.hid (HP.out.below hbc)
        obtain ⟨⟨z0, z1, z2, z3, z4, z5, z6⟩, zf⟩ := HPc.out.qat
        clear g0 hbc z1 z2 z3 z4 z5 z6
        have hkm : (k : Int) + 1 ≤ 9223372036854775807 := by have := HK7.out; omega
        cases vb
        · go_wp2_with fail
          exact ⟨⟨k + 1, by omega, by have := HK7.out; omega, rfl, by rw [HMiss.out HVb.out]; exact HPc.out⟩, by have := HK7.out; simp only [intOf]; omega⟩
        · go_wp2_with fail
          exact ⟨⟨k + 1, by omega, by have := HK7.out; omega, rfl, by rw [HHit.out HVb.out]; exact HPc.out.set 0 _ ⟨k, 0, 0, 0, 0, 0, 0⟩ rfl⟩, by have := HK7.out; simp only [intOf]; omega⟩
      · have hke : k = 8 := by omega
        subst hke
        rw [HKl.out] at HP
        clear hk1 hk8 hk
        obtain ⟨⟨y0, y1, y2, y3, y4, y5, y6⟩, yf⟩ := HP.out.qat
        have hkr := kind_rg (at_ ws 0)
        obtain ⟨K, HKd⟩ : ∃ K, Hid (kindOf (at_ ws 0) = K) := ⟨_, Lib.hid rfl⟩
        rw [HKd.out] at HP hkr
        clear y0 y1 y2 y3 y4 y5 y6 yf
        · rcases (by omega : K = 0 ∨ K = 1 ∨ K = 2 ∨ K = 3 ∨ K = 4 ∨ K = 5 ∨ K = 6 ∨ K = 7) with rfl | rfl | rfl | rfl | rfl | rfl | rfl | rfl
          rotate_left 1
          · by_cases hn : ws.length = 3
            · have HLn := Lib.hid hn
              have HCd : Hid (candQ ws = some ⟨1, rdAt ws 1, 0, rdAt ws 2, rdAt ws 2, 0, 0⟩) := Lib.hid (by unfold candQ; rw [HKd.out, hn]; rfl)
              have hq : ((ws.length : Int) == 3) = true := by rw [hn]; rfl
              obtain ⟨T1, HT1⟩ : ∃ T, Hid (bstr (at_ ws 1) = T) := ⟨_, Lib.hid rfl⟩
              obtain ⟨n1, Hn1⟩ : ∃ n, Hid (rdAt ws 1 = n) := ⟨_, Lib.hid rfl⟩
              have HD1 := Lib.hid (HRd.out 1)
              rw [HT1.out, Hn1.out] at HD1
              rw [Hn1.out] at HCd
              have g1 : ∀ w0, BW wr w0 → ∀ d os, (grow (redrawn w0 d) os).cell? ⟨g, 1, none⟩ = some (.string T1) := fun w0 h d os => by rw [← HT1.out]; exact (((HP.out.below h).below (below_regrown w0 d os)).o.cells).2.2.2 1 _ (at_some (by have := HLn.out; omega))
              obtain ⟨T2, HT2⟩ : ∃ T, Hid (bstr (at_ ws 2) = T) := ⟨_, Lib.hid rfl⟩
              obtain ⟨n2, Hn2⟩ : ∃ n, Hid (rdAt ws 2 = n) := ⟨_, Lib.hid rfl⟩
              have HD2 := Lib.hid (HRd.out 2)
              rw [HT2.out, Hn2.out] at HD2
              rw [Hn2.out] at HCd
              have g2 : ∀ w0, BW wr w0 → ∀ d os, (grow (redrawn w0 d) os).cell? ⟨g, 2, none⟩ = some (.string T2) := fun w0 h d os => by rw [← HT2.out]; exact (((HP.out.below h).below (below_regrown w0 d os)).o.cells).2.2.2 2 _ (at_some (by have := HLn.out; omega))
              have hlt : 2 < ws.length := by omega
              obtain ⟨⟨y0, y1, y2, y3, y4, y5, y6⟩, yf⟩ := HP.out.qat
              clear hn y1 y2 y3 y4 y5 y6
              go_wp2_with fail
              refine wp_region_calm 13 19 [0, 1, 2, 3, 4, 5, 6, 7, 8, 9, 10, 11, 12] (by kernel_rfl) (by kernel_rfl) (by intro oz h; simp at h) (by intro oz h; simp at h) (by rfl) ?_
              simp only [List.take_succ_cons, List.take_zero]
              iterate 3
                apply wpCalm_want
                · rfl
                · exact bc_refl
                · exact ⟨_, Below.refl _ _⟩
                · intro w0 hC0 K hK
                  go_big_quiet_op
                  exact hK
              apply wpCalm_want
              · rfl
              · exact bc_refl
              · exact ⟨_, Below.refl _ _⟩
              · intro w0 hC0 K hK
                go_big_quiet_op
                apply Exists.intro
                refine ⟨fun p => ?_, ?_⟩
                · exact Calls.regrown_of (HD1.out _)
                · exact hK
              iterate 3
                apply wpCalm_want
                · rfl
                · exact bc_refl
                · exact ⟨_, Below.refl _ _⟩
                · intro w0 hC0 K hK
                  go_big_quiet_op
                  exact hK
              apply wpCalm_want
              · rfl
              · exact bc_refl
              · exact ⟨_, Below.refl _ _⟩
              · intro w0 hC0 K hK
                go_big_quiet_op
                apply Exists.intro
                refine ⟨fun p => ?_, ?_⟩
                · exact Calls.regrown_of (HD2.out _)
                · exact hK
              iterate 3
                apply wpCalm_want
                · rfl
                · exact bc_refl
                · exact ⟨_, Below.refl _ _⟩
                · intro w0 hC0 K hK
                  go_big_quiet_op
                  exact hK
              apply wpCalm_want
              · rfl
              · exact bc_refl
              · exact ⟨_, Below.refl _ _⟩
              · intro w0 hC0 K hK
                go_big_quiet_op
                apply Exists.intro
                refine ⟨fun p => ?_, ?_⟩
                · exact Calls.regrown_of (HD2.out _)
                · exact hK
              iterate 1
                apply wpCalm_want
                · rfl
                · exact bc_refl
                · exact ⟨_, Below.refl _ _⟩
                · intro w0 hC0 K hK
                  go_big_quiet_op
                  exact hK
              refine wpCalm_nil ?_
              intro wc hbc
              simp only [List.drop_succ_cons, List.drop_zero]
              have HPc := Lib.hid (HP.out.below hbc)
              obtain ⟨⟨z0, z1, z2, z3, z4, z5, z6⟩, zf⟩ := HPc.out.qat
              clear y0 yf g1 g2 hbc
              have HPs := Lib.hid (((HPc.out.set 1 (.int .i64 n1) ⟨1, n1, 0, 0, 0, 0, 0⟩ rfl).set 3 (.int .i64 n2) ⟨1, n1, 0, n2, 0, 0, 0⟩ rfl).set 4 (.int .i64 n2) ⟨1, n1, 0, n2, n2, 0, 0⟩ rfl)
              have HX := Lib.hid (HSpl.out _ HCd.out)
              have HVl := Lib.hid (fun w => rvalid_any ⟨1, n1, 0, n2, n2, 0, 0⟩ w)
              have HLi := Lib.hid (fun w hv => rline_any ⟨1, n1, 0, n2, n2, 0, 0⟩ hv w)
              obtain ⟨vv, Hvv⟩ : ∃ vv, Hid (validB ⟨1, n1, 0, n2, n2, 0, 0⟩ = vv) := ⟨_, Lib.hid rfl⟩
              obtain ⟨T, HT⟩ : ∃ T, Hid (bstr (line ⟨1, n1, 0, n2, n2, 0, 0⟩) = T) := ⟨_, Lib.hid rfl⟩
              have HTe : Hid (line ⟨1, n1, 0, n2, n2, 0, 0⟩ = s.data.toList ↔ T = s) := Lib.hid (by rw [← HT.out]; exact line_str _ _)
              rw [Hvv.out] at HVl HX HLi
              rw [HT.out] at HLi
              go_wp2_with fail
              refine (HVl.out _).mono ?_
              rintro e w2 ⟨rfl, hb2⟩
              have HP2 := Lib.hid (HPs.out.below hb2)
              clear hb2 z0 z1 z2 z3 z4 z5 z6 zf
              cases vv
              · have HPn : Hid (parseV s.data.toList = .tuple #[qV MQ.zero, .int .i64 50]) := Lib.hid (by unfold parseV; rw [HX.out, if_neg (by simp)])
                obtain ⟨⟨r0, r1, r2, r3, r4, r5, r6⟩, rf⟩ := zeros_of HP2.out.r
                go_wp2_with fail
                exact bodyPost_ret (v := .tuple #[.agg #[.int .i64 0, .int .i64 0, .int .i64 0, .int .i64 0, .int .i64 0, .int .i64 0, .int .i64 0], .int .i64 50]) (results_17 _ W.heap.size _ _ _ (set7_heap HP2.out.r _ _ _ _ _ _ _) rfl rfl rfl) rfl ⟨by rw [HPn.out]; rfl, set7_below HP2.out.b (Nat.le_refl _) _ _ _ _ _ _ _⟩
              · obtain ⟨⟨y0, y1, y2, y3, y4, y5, y6⟩, yf⟩ := HP2.out.qat
                go_wp2_with fail
                refine (HLi.out _ (by trivial)).mono ?_
                rintro e w3 ⟨rfl, hb3⟩
                have HP3 := Lib.hid (HP2.out.below hb3)
                clear hb3 y0 y1 y2 y3 y4 y5 y6 yf
                obtain ⟨⟨r0, r1, r2, r3, r4, r5, r6⟩, rf⟩ := zeros_of HP3.out.r
                by_cases hts : T = s
                · have HPn : Hid (parseV s.data.toList = .tuple #[qV ⟨1, n1, 0, n2, n2, 0, 0⟩, .int .i64 0]) := Lib.hid (by unfold parseV; rw [HX.out, if_pos ⟨by trivial, HTe.out.2 hts⟩])
                  have hse := str_eq hts
                  obtain ⟨⟨y0, y1, y2, y3, y4, y5, y6⟩, yf⟩ := HP3.out.qat
                  clear hts
                  go_wp2_with fail
                  exact bodyPost_ret (v := .tuple #[.agg #[.int .i64 1, .int .i64 n1, .int .i64 0, .int .i64 n2, .int .i64 n2, .int .i64 0, .int .i64 0], .int .i64 0]) (results_17 _ W.heap.size _ _ _ (set7_heap HP3.out.r _ _ _ _ _ _ _) rfl rfl rfl) rfl ⟨by rw [HPn.out], set7_below HP3.out.b (Nat.le_refl _) _ _ _ _ _ _ _⟩
                · have HPn : Hid (parseV s.data.toList = .tuple #[qV MQ.zero, .int .i64 50]) := Lib.hid (by unfold parseV; rw [HX.out, if_neg (by exact fun h => hts (HTe.out.1 h.2))])
                  have hse := str_ne hts
                  clear hts
                  go_wp2_with fail
                  exact bodyPost_ret (v := .tuple #[.agg #[.int .i64 0, .int .i64 0, .int .i64 0, .int .i64 0, .int .i64 0, .int .i64 0, .int .i64 0], .int .i64 50]) (results_17 _ W.heap.size _ _ _ (set7_heap HP3.out.r _ _ _ _ _ _ _) rfl rfl rfl) rfl ⟨by rw [HPn.out]; rfl, set7_below HP3.out.b (Nat.le_refl _) _ _ _ _ _ _ _⟩
            · have HPn : Hid (parseV s.data.toList = .tuple #[qV MQ.zero, .int .i64 50]) := Lib.hid (by
                unfold parseV
                rw [HSpn.out (by unfold candQ; rw [HKd.out]; simp [hn])])
              have hq : ((ws.length : Int) == 3) = false := by simp; omega
              obtain ⟨⟨y0, y1, y2, y3, y4, y5, y6⟩, yf⟩ := HP.out.qat
              obtain ⟨⟨r0, r1, r2, r3, r4, r5, r6⟩, rf⟩ := zeros_of HP.out.r
              clear y1 y2 y3 y4 y5 y6 hn
              go_wp2_with fail
              exact bodyPost_ret (v := .tuple #[.agg #[.int .i64 0, .int .i64 0, .int .i64 0, .int .i64 0, .int .i64 0, .int .i64 0, .int .i64 0], .int .i64 50]) (results_17 _ W.heap.size _ _ _ (set7_heap HP.out.r _ _ _ _ _ _ _) rfl rfl rfl) rfl ⟨by rw [HPn.out]; rfl, set7_below HP.out.b (Nat.le_refl _) _ _ _ _ _ _ _⟩
          · by_cases hn : ws.length = 5
            · have HLn := Lib.hid hn
              have HCd : Hid (candQ ws = some ⟨2, rdAt ws 1, rdAt ws 2, rdAt ws 3, rdAt ws 4, 0, 0⟩) := Lib.hid (by unfold candQ; rw [HKd.out, hn]; rfl)
              have hq : ((ws.length : Int) == 5) = true := by rw [hn]; rfl
              obtain ⟨T1, HT1⟩ : ∃ T, Hid (bstr (at_ ws 1) = T) := ⟨_, Lib.hid rfl⟩
              obtain ⟨n1, Hn1⟩ : ∃ n, Hid (rdAt ws 1 = n) := ⟨_, Lib.hid rfl⟩
              have HD1 := Lib.hid (HRd.out 1)
              rw [HT1.out, Hn1.out] at HD1
              rw [Hn1.out] at HCd
              have g1 : ∀ w0, BW wr w0 → ∀ d os, (grow (redrawn w0 d) os).cell? ⟨g, 1, none⟩ = some (.string T1) := fun w0 h d os => by rw [← HT1.out]; exact (((HP.out.below h).below (below_regrown w0 d os)).o.cells).2.2.2 1 _ (at_some (by have := HLn.out; omega))
              obtain ⟨T2, HT2⟩ : ∃ T, Hid (bstr (at_ ws 2) = T) := ⟨_, Lib.hid rfl⟩
              obtain ⟨n2, Hn2⟩ : ∃ n, Hid (rdAt ws 2 = n) := ⟨_, Lib.hid rfl⟩
              have HD2 := Lib.hid (HRd.out 2)
              rw [HT2.out, Hn2.out] at HD2
              rw [Hn2.out] at HCd
              have g2 : ∀ w0, BW wr w0 → ∀ d os, (grow (redrawn w0 d) os).cell? ⟨g, 2, none⟩ = some (.string T2) := fun w0 h d os => by rw [← HT2.out]; exact (((HP.out.below h).below (below_regrown w0 d os)).o.cells).2.2.2 2 _ (at_some (by have := HLn.out; omega))
              obtain ⟨T3, HT3⟩ : ∃ T, Hid (bstr (at_ ws 3) = T) := ⟨_, Lib.hid rfl⟩
              obtain ⟨n3, Hn3⟩ : ∃ n, Hid (rdAt ws 3 = n) := ⟨_, Lib.hid rfl⟩
              have HD3 := Lib.hid (HRd.out 3)
              rw [HT3.out, Hn3.out] at HD3
              rw [Hn3.out] at HCd
              have g3 : ∀ w0, BW wr w0 → ∀ d os, (grow (redrawn w0 d) os).cell? ⟨g, 3, none⟩ = some (.string T3) := fun w0 h d os => by rw [← HT3.out]; exact (((HP.out.below h).below (below_regrown w0 d os)).o.cells).2.2.2 3 _ (at_some (by have := HLn.out; omega))
              obtain ⟨T4, HT4⟩ : ∃ T, Hid (bstr (at_ ws 4) = T) := ⟨_, Lib.hid rfl⟩
              obtain ⟨n4, Hn4⟩ : ∃ n, Hid (rdAt ws 4 = n) := ⟨_, Lib.hid rfl⟩
              have HD4 := Lib.hid (HRd.out 4)
              rw [HT4.out, Hn4.out] at HD4
              rw [Hn4.out] at HCd
              have g4 : ∀ w0, BW wr w0 → ∀ d os, (grow (redrawn w0 d) os).cell? ⟨g, 4, none⟩ = some (.string T4) := fun w0 h d os => by rw [← HT4.out]; exact (((HP.out.below h).below (below_regrown w0 d os)).o.cells).2.2.2 4 _ (at_some (by have := HLn.out; omega))
              have hlt : 4 < ws.length := by omega
              obtain ⟨⟨y0, y1, y2, y3, y4, y5, y6⟩, yf⟩ := HP.out.qat
              clear hn y1 y2 y3 y4 y5 y6
              go_wp2_with fail
              refine wp_region_calm 17 25 [0, 1, 2, 3, 4, 5, 6, 7, 8, 9, 10, 11, 12, 13, 14, 15, 16] (by kernel_rfl) (by kernel_rfl) (by intro oz h; simp at h) (by intro oz h; simp at h) (by rfl) ?_
              simp only [List.take_succ_cons, List.take_zero]
              iterate 3
                apply wpCalm_want
                · rfl
                · exact bc_refl
                · exact ⟨_, Below.refl _ _⟩
                · intro w0 hC0 K hK
                  go_big_quiet_op
                  exact hK
              apply wpCalm_want
              · rfl
              · exact bc_refl
              · exact ⟨_, Below.refl _ _⟩
              · intro w0 hC0 K hK
                go_big_quiet_op
                apply Exists.intro
                refine ⟨fun p => ?_, ?_⟩
                · exact Calls.regrown_of (HD1.out _)
                · exact hK
              iterate 3
                apply wpCalm_want
                · rfl
                · exact bc_refl
                · exact ⟨_, Below.refl _ _⟩
                · intro w0 hC0 K hK
                  go_big_quiet_op
                  exact hK
              apply wpCalm_want
              · rfl
              · exact bc_refl
              · exact ⟨_, Below.refl _ _⟩
              · intro w0 hC0 K hK
                go_big_quiet_op
                apply Exists.intro
                refine ⟨fun p => ?_, ?_⟩
                · exact Calls.regrown_of (HD2.out _)
                · exact hK
              iterate 3
                apply wpCalm_want
                · rfl
                · exact bc_refl
                · exact ⟨_, Below.refl _ _⟩
                · intro w0 hC0 K hK
                  go_big_quiet_op
                  exact hK
              apply wpCalm_want
              · rfl
              · exact bc_refl
              · exact ⟨_, Below.refl _ _⟩
              · intro w0 hC0 K hK
                go_big_quiet_op
                apply Exists.intro
                refine ⟨fun p => ?_, ?_⟩
                · exact Calls.regrown_of (HD3.out _)
                · exact hK
              iterate 3
                apply wpCalm_want
                · rfl
                · exact bc_refl
                · exact ⟨_, Below.refl _ _⟩
                · intro w0 hC0 K hK
                  go_big_quiet_op
                  exact hK
              apply wpCalm_want
              · rfl
              · exact bc_refl
              · exact ⟨_, Below.refl _ _⟩
              · intro w0 hC0 K hK
                go_big_quiet_op
                apply Exists.intro
                refine ⟨fun p => ?_, ?_⟩
                · exact Calls.regrown_of (HD4.out _)
                · exact hK
              iterate 1
                apply wpCalm_want
                · rfl
                · exact bc_refl
                · exact ⟨_, Below.refl _ _⟩
                · intro w0 hC0 K hK
                  go_big_quiet_op
                  exact hK
              refine wpCalm_nil ?_
              intro wc hbc
              simp only [List.drop_succ_cons, List.drop_zero]
              have HPc := Lib.hid (HP.out.below hbc)
              obtain ⟨⟨z0, z1, z2, z3, z4, z5, z6⟩, zf⟩ := HPc.out.qat
              clear y0 yf g1 g2 g3 g4 hbc
              have HPs := Lib.hid ((((HPc.out.set 1 (.int .i64 n1) ⟨2, n1, 0, 0, 0, 0, 0⟩ rfl).set 2 (.int .i64 n2) ⟨2, n1, n2, 0, 0, 0, 0⟩ rfl).set 3 (.int .i64 n3) ⟨2, n1, n2, n3, 0, 0, 0⟩ rfl).set 4 (.int .i64 n4) ⟨2, n1, n2, n3, n4, 0, 0⟩ rfl)
              have HX := Lib.hid (HSpl.out _ HCd.out)
              have HVl := Lib.hid (fun w => rvalid_any ⟨2, n1, n2, n3, n4, 0, 0⟩ w)
              have HLi := Lib.hid (fun w hv => rline_any ⟨2, n1, n2, n3, n4, 0, 0⟩ hv w)
              obtain ⟨vv, Hvv⟩ : ∃ vv, Hid (validB ⟨2, n1, n2, n3, n4, 0, 0⟩ = vv) := ⟨_, Lib.hid rfl⟩
              obtain ⟨T, HT⟩ : ∃ T, Hid (bstr (line ⟨2, n1, n2, n3, n4, 0, 0⟩) = T) := ⟨_, Lib.hid rfl⟩
              have HTe : Hid (line ⟨2, n1, n2, n3, n4, 0, 0⟩ = s.data.toList ↔ T = s) := Lib.hid (by rw [← HT.out]; exact line_str _ _)
              rw [Hvv.out] at HVl HX HLi
              rw [HT.out] at HLi
              go_wp2_with fail
              refine (HVl.out _).mono ?_
              rintro e w2 ⟨rfl, hb2⟩
              have HP2 := Lib.hid (HPs.out.below hb2)
              clear hb2 z0 z1 z2 z3 z4 z5 z6 zf
              cases vv
              · have HPn : Hid (parseV s.data.toList = .tuple #[qV MQ.zero, .int .i64 50]) := Lib.hid (by unfold parseV; rw [HX.out, if_neg (by simp)])
                obtain ⟨⟨r0, r1, r2, r3, r4, r5, r6⟩, rf⟩ := zeros_of HP2.out.r
                go_wp2_with fail
                exact bodyPost_ret (v := .tuple #[.agg #[.int .i64 0, .int .i64 0, .int .i64 0, .int .i64 0, .int .i64 0, .int .i64 0, .int .i64 0], .int .i64 50]) (results_17 _ W.heap.size _ _ _ (set7_heap HP2.out.r _ _ _ _ _ _ _) rfl rfl rfl) rfl ⟨by rw [HPn.out]; rfl, set7_below HP2.out.b (Nat.le_refl _) _ _ _ _ _ _ _⟩
              · obtain ⟨⟨y0, y1, y2, y3, y4, y5, y6⟩, yf⟩ := HP2.out.qat
                go_wp2_with fail
                refine (HLi.out _ (by trivial)).mono ?_
                rintro e w3 ⟨rfl, hb3⟩
                have HP3 := Lib.hid (HP2.out.below hb3)
                clear hb3 y0 y1 y2 y3 y4 y5 y6 yf
                obtain ⟨⟨r0, r1, r2, r3, r4, r5, r6⟩, rf⟩ := zeros_of HP3.out.r
                by_cases hts : T = s
                · have HPn : Hid (parseV s.data.toList = .tuple #[qV ⟨2, n1, n2, n3, n4, 0, 0⟩, .int .i64 0]) := Lib.hid (by unfold parseV; rw [HX.out, if_pos ⟨by trivial, HTe.out.2 hts⟩])
                  have hse := str_eq hts
                  obtain ⟨⟨y0, y1, y2, y3, y4, y5, y6⟩, yf⟩ := HP3.out.qat
                  clear hts
                  go_wp2_with fail
                  exact bodyPost_ret (v := .tuple #[.agg #[.int .i64 2, .int .i64 n1, .int .i64 n2, .int .i64 n3, .int .i64 n4, .int .i64 0, .int .i64 0], .int .i64 0]) (results_17 _ W.heap.size _ _ _ (set7_heap HP3.out.r _ _ _ _ _ _ _) rfl rfl rfl) rfl ⟨by rw [HPn.out], set7_below HP3.out.b (Nat.le_refl _) _ _ _ _ _ _ _⟩
                · have HPn : Hid (parseV s.data.toList = .tuple #[qV MQ.zero, .int .i64 50]) := Lib.hid (by unfold parseV; rw [HX.out, if_neg (by exact fun h => hts (HTe.out.1 h.2))])
                  have hse := str_ne hts
                  clear hts
                  go_wp2_with fail
                  exact bodyPost_ret (v := .tuple #[.agg #[.int .i64 0, .int .i64 0, .int .i64 0, .int .i64 0, .int .i64 0, .int .i64 0, .int .i64 0], .int .i64 50]) (results_17 _ W.heap.size _ _ _ (set7_heap HP3.out.r _ _ _ _ _ _ _) rfl rfl rfl) rfl ⟨by rw [HPn.out]; rfl, set7_below HP3.out.b (Nat.le_refl _) _ _ _ _ _ _ _⟩
            · have HPn : Hid (parseV s.data.toList = .tuple #[qV MQ.zero, .int .i64 50]) := Lib.hid (by
                unfold parseV
                rw [HSpn.out (by unfold candQ; rw [HKd.out]; simp [hn])])
              have hq : ((ws.length : Int) == 5) = false := by simp; omega
              obtain ⟨⟨y0, y1, y2, y3, y4, y5, y6⟩, yf⟩ := HP.out.qat
              obtain ⟨⟨r0, r1, r2, r3, r4, r5, r6⟩, rf⟩ := zeros_of HP.out.r
              clear y1 y2 y3 y4 y5 y6 hn
              go_wp2_with fail
              exact bodyPost_ret (v := .tuple #[.agg #[.int .i64 0, .int .i64 0, .int .i64 0, .int .i64 0, .int .i64 0, .int .i64 0, .int .i64 0], .int .i64 50]) (results_17 _ W.heap.size _ _ _ (set7_heap HP.out.r _ _ _ _ _ _ _) rfl rfl rfl) rfl ⟨by rw [HPn.out]; rfl, set7_below HP.out.b (Nat.le_refl _) _ _ _ _ _ _ _⟩
          · by_cases hn : ws.length = 5
            · have HLn := Lib.hid hn
              have HCd : Hid (candQ ws = some ⟨3, rdAt ws 1, rdAt ws 2, rdAt ws 3, rdAt ws 4, 0, 0⟩) := Lib.hid (by unfold candQ; rw [HKd.out, hn]; rfl)
              have hq : ((ws.length : Int) == 5) = true := by rw [hn]; rfl
              obtain ⟨T1, HT1⟩ : ∃ T, Hid (bstr (at_ ws 1) = T) := ⟨_, Lib.hid rfl⟩
              obtain ⟨n1, Hn1⟩ : ∃ n, Hid (rdAt ws 1 = n) := ⟨_, Lib.hid rfl⟩
              have HD1 := Lib.hid (HRd.out 1)
              rw [HT1.out, Hn1.out] at HD1
              rw [Hn1.out] at HCd
              have g1 : ∀ w0, BW wr w0 → ∀ d os, (grow (redrawn w0 d) os).cell? ⟨g, 1, none⟩ = some (.string T1) := fun w0 h d os => by rw [← HT1.out]; exact (((HP.out.below h).below (below_regrown w0 d os)).o.cells).2.2.2 1 _ (at_some (by have := HLn.out; omega))
              obtain ⟨T2, HT2⟩ : ∃ T, Hid (bstr (at_ ws 2) = T) := ⟨_, Lib.hid rfl⟩
              obtain ⟨n2, Hn2⟩ : ∃ n, Hid (rdAt ws 2 = n) := ⟨_, Lib.hid rfl⟩
              have HD2 := Lib.hid (HRd.out 2)
              rw [HT2.out, Hn2.out] at HD2
              rw [Hn2.out] at HCd
              have g2 : ∀ w0, BW wr w0 → ∀ d os, (grow (redrawn w0 d) os).cell? ⟨g, 2, none⟩ = some (.string T2) := fun w0 h d os => by rw [← HT2.out]; exact (((HP.out.below h).below (below_regrown w0 d os)).o.cells).2.2.2 2 _ (at_some (by have := HLn.out; omega))
              obtain ⟨T3, HT3⟩ : ∃ T, Hid (bstr (at_ ws 3) = T) := ⟨_, Lib.hid rfl⟩
              obtain ⟨n3, Hn3⟩ : ∃ n, Hid (rdAt ws 3 = n) := ⟨_, Lib.hid rfl⟩
              have HD3 := Lib.hid (HRd.out 3)
              rw [HT3.out, Hn3.out] at HD3
              rw [Hn3.out] at HCd
              have g3 : ∀ w0, BW wr w0 → ∀ d os, (grow (redrawn w0 d) os).cell? ⟨g, 3, none⟩ = some (.string T3) := fun w0 h d os => by rw [← HT3.out]; exact (((HP.out.below h).below (below_regrown w0 d os)).o.cells).2.2.2 3 _ (at_some (by have := HLn.out; omega))
              obtain ⟨T4, HT4⟩ : ∃ T, Hid (bstr (at_ ws 4) = T) := ⟨_, Lib.hid rfl⟩
              obtain ⟨n4, Hn4⟩ : ∃ n, Hid (rdAt ws 4 = n) := ⟨_, Lib.hid rfl⟩
              have HD4 := Lib.hid (HRd.out 4)
              rw [HT4.out, Hn4.out] at HD4
              rw [Hn4.out] at HCd
              have g4 : ∀ w0, BW wr w0 → ∀ d os, (grow (redrawn w0 d) os).cell? ⟨g, 4, none⟩ = some (.string T4) := fun w0 h d os => by rw [← HT4.out]; exact (((HP.out.below h).below (below_regrown w0 d os)).o.cells).2.2.2 4 _ (at_some (by have := HLn.out; omega))
              have hlt : 4 < ws.length := by omega
              obtain ⟨⟨y0, y1, y2, y3, y4, y5, y6⟩, yf⟩ := HP.out.qat
              clear hn y1 y2 y3 y4 y5 y6
              go_wp2_with fail
              refine wp_region_calm 17 25 [0, 1, 2, 3, 4, 5, 6, 7, 8, 9, 10, 11, 12, 13, 14, 15, 16] (by kernel_rfl) (by kernel_rfl) (by intro oz h; simp at h) (by intro oz h; simp at h) (by rfl) ?_
              simp only [List.take_succ_cons, List.take_zero]
              iterate 3
                apply wpCalm_want
                · rfl
                · exact bc_refl
                · exact ⟨_, Below.refl _ _⟩
                · intro w0 hC0 K hK
                  go_big_quiet_op
                  exact hK
              apply wpCalm_want
              · rfl
              · exact bc_refl
              · exact ⟨_, Below.refl _ _⟩
              · intro w0 hC0 K hK
                go_big_quiet_op
                apply Exists.intro
                refine ⟨fun p => ?_, ?_⟩
                · exact Calls.regrown_of (HD1.out _)
                · exact hK
              iterate 3
                apply wpCalm_want
                · rfl
                · exact bc_refl
                · exact ⟨_, Below.refl _ _⟩
                · intro w0 hC0 K hK
                  go_big_quiet_op
                  exact hK
              apply wpCalm_want
              · rfl
              · exact bc_refl
              · exact ⟨_, Below.refl _ _⟩
              · intro w0 hC0 K hK
                go_big_quiet_op
                apply Exists.intro
                refine ⟨fun p => ?_, ?_⟩
                · exact Calls.regrown_of (HD2.out _)
                · exact hK
              iterate 3
                apply wpCalm_want
                · rfl
                · exact bc_refl
                · exact ⟨_, Below.refl _ _⟩
                · intro w0 hC0 K hK
                  go_big_quiet_op
                  exact hK
              apply wpCalm_want
              · rfl
              · exact bc_refl
              · exact ⟨_, Below.refl _ _⟩
              · intro w0 hC0 K hK
                go_big_quiet_op
                apply Exists.intro
                refine ⟨fun p => ?_, ?_⟩
                · exact Calls.regrown_of (HD3.out _)
                · exact hK
              iterate 3
                apply wpCalm_want
                · rfl
                · exact bc_refl
                · exact ⟨_, Below.refl _ _⟩
                · intro w0 hC0 K hK
                  go_big_quiet_op
                  exact hK
              apply wpCalm_want
              · rfl
              · exact bc_refl
              · exact ⟨_, Below.refl _ _⟩
              · intro w0 hC0 K hK
                go_big_quiet_op
                apply Exists.intro
                refine ⟨fun p => ?_, ?_⟩
                · exact Calls.regrown_of (HD4.out _)
                · exact hK
              iterate 1
                apply wpCalm_want
                · rfl
                · exact bc_refl
                · exact ⟨_, Below.refl _ _⟩
                · intro w0 hC0 K hK
                  go_big_quiet_op
                  exact hK
              refine wpCalm_nil ?_
              intro wc hbc
              simp only [List.drop_succ_cons, List.drop_zero]
              have HPc := Lib.hid (HP.out.below hbc)
              obtain ⟨⟨z0, z1, z2, z3, z4, z5, z6⟩, zf⟩ := HPc.out.qat
              clear y0 yf g1 g2 g3 g4 hbc
              have HPs := Lib.hid ((((HPc.out.set 1 (.int .i64 n1) ⟨3, n1, 0, 0, 0, 0, 0⟩ rfl).set 2 (.int .i64 n2) ⟨3, n1, n2, 0, 0, 0, 0⟩ rfl).set 3 (.int .i64 n3) ⟨3, n1, n2, n3, 0, 0, 0⟩ rfl).set 4 (.int .i64 n4) ⟨3, n1, n2, n3, n4, 0, 0⟩ rfl)
              have HX := Lib.hid (HSpl.out _ HCd.out)
              have HVl := Lib.hid (fun w => rvalid_any ⟨3, n1, n2, n3, n4, 0, 0⟩ w)
              have HLi := Lib.hid (fun w hv => rline_any ⟨3, n1, n2, n3, n4, 0, 0⟩ hv w)
              obtain ⟨vv, Hvv⟩ : ∃ vv, Hid (validB ⟨3, n1, n2, n3, n4, 0, 0⟩ = vv) := ⟨_, Lib.hid rfl⟩
              obtain ⟨T, HT⟩ : ∃ T, Hid (bstr (line ⟨3, n1, n2, n3, n4, 0, 0⟩) = T) := ⟨_, Lib.hid rfl⟩
              have HTe : Hid (line ⟨3, n1, n2, n3, n4, 0, 0⟩ = s.data.toList ↔ T = s) := Lib.hid (by rw [← HT.out]; exact line_str _ _)
              rw [Hvv.out] at HVl HX HLi
              rw [HT.out] at HLi
              go_wp2_with fail
              refine (HVl.out _).mono ?_
              rintro e w2 ⟨rfl, hb2⟩
              have HP2 := Lib.hid (HPs.out.below hb2)
              clear hb2 z0 z1 z2 z3 z4 z5 z6 zf
              cases vv
              · have HPn : Hid (parseV s.data.toList = .tuple #[qV MQ.zero, .int .i64 50]) := Lib.hid (by unfold parseV; rw [HX.out, if_neg (by simp)])
                obtain ⟨⟨r0, r1, r2, r3, r4, r5, r6⟩, rf⟩ := zeros_of HP2.out.r
                go_wp2_with fail
                exact bodyPost_ret (v := .tuple #[.agg #[.int .i64 0, .int .i64 0, .int .i64 0, .int .i64 0, .int .i64 0, .int .i64 0, .int .i64 0], .int .i64 50]) (results_17 _ W.heap.size _ _ _ (set7_heap HP2.out.r _ _ _ _ _ _ _) rfl rfl rfl) rfl ⟨by rw [HPn.out]; rfl, set7_below HP2.out.b (Nat.le_refl _) _ _ _ _ _ _ _⟩
              · obtain ⟨⟨y0, y1, y2, y3, y4, y5, y6⟩, yf⟩ := HP2.out.qat
                go_wp2_with fail
                refine (HLi.out _ (by trivial)).mono ?_
                rintro e w3 ⟨rfl, hb3⟩
                have HP3 := Lib.hid (HP2.out.below hb3)
                clear hb3 y0 y1 y2 y3 y4 y5 y6 yf
                obtain ⟨⟨r0, r1, r2, r3, r4, r5, r6⟩, rf⟩ := zeros_of HP3.out.r
                by_cases hts : T = s
                · have HPn : Hid (parseV s.data.toList = .tuple #[qV ⟨3, n1, n2, n3, n4, 0, 0⟩, .int .i64 0]) := Lib.hid (by unfold parseV; rw [HX.out, if_pos ⟨by trivial, HTe.out.2 hts⟩])
                  have hse := str_eq hts
                  obtain ⟨⟨y0, y1, y2, y3, y4, y5, y6⟩, yf⟩ := HP3.out.qat
                  clear hts
                  go_wp2_with fail
                  exact bodyPost_ret (v := .tuple #[.agg #[.int .i64 3, .int .i64 n1, .int .i64 n2, .int .i64 n3, .int .i64 n4, .int .i64 0, .int .i64 0], .int .i64 0]) (results_17 _ W.heap.size _ _ _ (set7_heap HP3.out.r _ _ _ _ _ _ _) rfl rfl rfl) rfl ⟨by rw [HPn.out], set7_below HP3.out.b (Nat.le_refl _) _ _ _ _ _ _ _⟩
                · have HPn : Hid (parseV s.data.toList = .tuple #[qV MQ.zero, .int .i64 50]) := Lib.hid (by unfold parseV; rw [HX.out, if_neg (by exact fun h => hts (HTe.out.1 h.2))])
                  have hse := str_ne hts
                  clear hts
                  go_wp2_with fail
                  exact bodyPost_ret (v := .tuple #[.agg #[.int .i64 0, .int .i64 0, .int .i64 0, .int .i64 0, .int .i64 0, .int .i64 0, .int .i64 0], .int .i64 50]) (results_17 _ W.heap.size _ _ _ (set7_heap HP3.out.r _ _ _ _ _ _ _) rfl rfl rfl) rfl ⟨by rw [HPn.out]; rfl, set7_below HP3.out.b (Nat.le_refl _) _ _ _ _ _ _ _⟩
            · have HPn : Hid (parseV s.data.toList = .tuple #[qV MQ.zero, .int .i64 50]) := Lib.hid (by
                unfold parseV
                rw [HSpn.out (by unfold candQ; rw [HKd.out]; simp [hn])])
              have hq : ((ws.length : Int) == 5) = false := by simp; omega
              obtain ⟨⟨y0, y1, y2, y3, y4, y5, y6⟩, yf⟩ := HP.out.qat
              obtain ⟨⟨r0, r1, r2, r3, r4, r5, r6⟩, rf⟩ := zeros_of HP.out.r
              clear y1 y2 y3 y4 y5 y6 hn
              go_wp2_with fail
              exact bodyPost_ret (v := .tuple #[.agg #[.int .i64 0, .int .i64 0, .int .i64 0, .int .i64 0, .int .i64 0, .int .i64 0, .int .i64 0], .int .i64 50]) (results_17 _ W.heap.size _ _ _ (set7_heap HP.out.r _ _ _ _ _ _ _) rfl rfl rfl) rfl ⟨by rw [HPn.out]; rfl, set7_below HP.out.b (Nat.le_refl _) _ _ _ _ _ _ _⟩
          · by_cases hn : ws.length = 7
            · have HLn := Lib.hid hn
              have HCd : Hid (candQ ws = some ⟨4, rdAt ws 3, rdAt ws 4, rdAt ws 5, rdAt ws 6, rdAt ws 1, 0⟩) := Lib.hid (by unfold candQ; rw [HKd.out, hn]; rfl)
              have hq : ((ws.length : Int) == 7) = true := by rw [hn]; rfl
              obtain ⟨T1, HT1⟩ : ∃ T, Hid (bstr (at_ ws 1) = T) := ⟨_, Lib.hid rfl⟩
              obtain ⟨n1, Hn1⟩ : ∃ n, Hid (rdAt ws 1 = n) := ⟨_, Lib.hid rfl⟩
              have HD1 := Lib.hid (HRd.out 1)
              rw [HT1.out, Hn1.out] at HD1
              rw [Hn1.out] at HCd
              have g1 : ∀ w0, BW wr w0 → ∀ d os, (grow (redrawn w0 d) os).cell? ⟨g, 1, none⟩ = some (.string T1) := fun w0 h d os => by rw [← HT1.out]; exact (((HP.out.below h).below (below_regrown w0 d os)).o.cells).2.2.2 1 _ (at_some (by have := HLn.out; omega))
              obtain ⟨T3, HT3⟩ : ∃ T, Hid (bstr (at_ ws 3) = T) := ⟨_, Lib.hid rfl⟩
              obtain ⟨n3, Hn3⟩ : ∃ n, Hid (rdAt ws 3 = n) := ⟨_, Lib.hid rfl⟩
              have HD3 := Lib.hid (HRd.out 3)
              rw [HT3.out, Hn3.out] at HD3
              rw [Hn3.out] at HCd
              have g3 : ∀ w0, BW wr w0 → ∀ d os, (grow (redrawn w0 d) os).cell? ⟨g, 3, none⟩ = some (.string T3) := fun w0 h d os => by rw [← HT3.out]; exact (((HP.out.below h).below (below_regrown w0 d os)).o.cells).2.2.2 3 _ (at_some (by have := HLn.out; omega))
              obtain ⟨T4, HT4⟩ : ∃ T, Hid (bstr (at_ ws 4) = T) := ⟨_, Lib.hid rfl⟩
              obtain ⟨n4, Hn4⟩ : ∃ n, Hid (rdAt ws 4 = n) := ⟨_, Lib.hid rfl⟩
              have HD4 := Lib.hid (HRd.out 4)
              rw [HT4.out, Hn4.out] at HD4
              rw [Hn4.out] at HCd
              have g4 : ∀ w0, BW wr w0 → ∀ d os, (grow (redrawn w0 d) os).cell? ⟨g, 4, none⟩ = some (.string T4) := fun w0 h d os => by rw [← HT4.out]; exact (((HP.out.below h).below (below_regrown w0 d os)).o.cells).2.2.2 4 _ (at_some (by have := HLn.out; omega))
              obtain ⟨T5, HT5⟩ : ∃ T, Hid (bstr (at_ ws 5) = T) := ⟨_, Lib.hid rfl⟩
              obtain ⟨n5, Hn5⟩ : ∃ n, Hid (rdAt ws 5 = n) := ⟨_, Lib.hid rfl⟩
              have HD5 := Lib.hid (HRd.out 5)
              rw [HT5.out, Hn5.out] at HD5
              rw [Hn5.out] at HCd
              have g5 : ∀ w0, BW wr w0 → ∀ d os, (grow (redrawn w0 d) os).cell? ⟨g, 5, none⟩ = some (.string T5) := fun w0 h d os => by rw [← HT5.out]; exact (((HP.out.below h).below (below_regrown w0 d os)).o.cells).2.2.2 5 _ (at_some (by have := HLn.out; omega))
              obtain ⟨T6, HT6⟩ : ∃ T, Hid (bstr (at_ ws 6) = T) := ⟨_, Lib.hid rfl⟩
              obtain ⟨n6, Hn6⟩ : ∃ n, Hid (rdAt ws 6 = n) := ⟨_, Lib.hid rfl⟩
              have HD6 := Lib.hid (HRd.out 6)
              rw [HT6.out, Hn6.out] at HD6
              rw [Hn6.out] at HCd
              have g6 : ∀ w0, BW wr w0 → ∀ d os, (grow (redrawn w0 d) os).cell? ⟨g, 6, none⟩ = some (.string T6) := fun w0 h d os => by rw [← HT6.out]; exact (((HP.out.below h).below (below_regrown w0 d os)).o.cells).2.2.2 6 _ (at_some (by have := HLn.out; omega))
              have hlt : 6 < ws.length := by omega
              obtain ⟨⟨y0, y1, y2, y3, y4, y5, y6⟩, yf⟩ := HP.out.qat
              clear hn y1 y2 y3 y4 y5 y6
              go_wp2_with fail
              refine wp_region_calm 21 31 [0, 1, 2, 3, 4, 5, 6, 7, 8, 9, 10, 11, 12, 13, 14, 15, 16, 17, 18, 19, 20] (by kernel_rfl) (by kernel_rfl) (by intro oz h; simp at h) (by intro oz h; simp at h) (by rfl) ?_
              simp only [List.take_succ_cons, List.take_zero]
              iterate 3
                apply wpCalm_want
                · rfl
                · exact bc_refl
                · exact ⟨_, Below.refl _ _⟩
                · intro w0 hC0 K hK
                  go_big_quiet_op
                  exact hK
              apply wpCalm_want
              · rfl
              · exact bc_refl
              · exact ⟨_, Below.refl _ _⟩
              · intro w0 hC0 K hK
                go_big_quiet_op
                apply Exists.intro
                refine ⟨fun p => ?_, ?_⟩
                · exact Calls.regrown_of (HD1.out _)
                · exact hK
              iterate 3
                apply wpCalm_want
                · rfl
                · exact bc_refl
                · exact ⟨_, Below.refl _ _⟩
                · intro w0 hC0 K hK
                  go_big_quiet_op
                  exact hK
              apply wpCalm_want
              · rfl
              · exact bc_refl
              · exact ⟨_, Below.refl _ _⟩
              · intro w0 hC0 K hK
                go_big_quiet_op
                apply Exists.intro
                refine ⟨fun p => ?_, ?_⟩
                · exact Calls.regrown_of (HD3.out _)
                · exact hK
              iterate 3
                apply wpCalm_want
                · rfl
                · exact bc_refl
                · exact ⟨_, Below.refl _ _⟩
                · intro w0 hC0 K hK
                  go_big_quiet_op
                  exact hK
              apply wpCalm_want
              · rfl
              · exact bc_refl
              · exact ⟨_, Below.refl _ _⟩
              · intro w0 hC0 K hK
                go_big_quiet_op
                apply Exists.intro
                refine ⟨fun p => ?_, ?_⟩
                · exact Calls.regrown_of (HD4.out _)
                · exact hK
              iterate 3
                apply wpCalm_want
                · rfl
                · exact bc_refl
                · exact ⟨_, Below.refl _ _⟩
                · intro w0 hC0 K hK
                  go_big_quiet_op
                  exact hK
              apply wpCalm_want
              · rfl
              · exact bc_refl
              · exact ⟨_, Below.refl _ _⟩
              · intro w0 hC0 K hK
                go_big_quiet_op
                apply Exists.intro
                refine ⟨fun p => ?_, ?_⟩
                · exact Calls.regrown_of (HD5.out _)
                · exact hK
              iterate 3
                apply wpCalm_want
                · rfl
                · exact bc_refl
                · exact ⟨_, Below.refl _ _⟩
                · intro w0 hC0 K hK
                  go_big_quiet_op
                  exact hK
              apply wpCalm_want
              · rfl
              · exact bc_refl
              · exact ⟨_, Below.refl _ _⟩
              · intro w0 hC0 K hK
                go_big_quiet_op
                apply Exists.intro
                refine ⟨fun p => ?_, ?_⟩
                · exact Calls.regrown_of (HD6.out _)
                · exact hK
              iterate 1
                apply wpCalm_want
                · rfl
                · exact bc_refl
                · exact ⟨_, Below.refl _ _⟩
                · intro w0 hC0 K hK
                  go_big_quiet_op
                  exact hK
              refine wpCalm_nil ?_
              intro wc hbc
              simp only [List.drop_succ_cons, List.drop_zero]
              have HPc := Lib.hid (HP.out.below hbc)
              obtain ⟨⟨z0, z1, z2, z3, z4, z5, z6⟩, zf⟩ := HPc.out.qat
              clear y0 yf g1 g3 g4 g5 g6 hbc
              have HPs := Lib.hid (((((HPc.out.set 5 (.int .i64 n1) ⟨4, 0, 0, 0, 0, n1, 0⟩ rfl).set 1 (.int .i64 n3) ⟨4, n3, 0, 0, 0, n1, 0⟩ rfl).set 2 (.int .i64 n4) ⟨4, n3, n4, 0, 0, n1, 0⟩ rfl).set 3 (.int .i64 n5) ⟨4, n3, n4, n5, 0, n1, 0⟩ rfl).set 4 (.int .i64 n6) ⟨4, n3, n4, n5, n6, n1, 0⟩ rfl)
              have HX := Lib.hid (HSpl.out _ HCd.out)
              have HVl := Lib.hid (fun w => rvalid_any ⟨4, n3, n4, n5, n6, n1, 0⟩ w)
              have HLi := Lib.hid (fun w hv => rline_any ⟨4, n3, n4, n5, n6, n1, 0⟩ hv w)
              obtain ⟨vv, Hvv⟩ : ∃ vv, Hid (validB ⟨4, n3, n4, n5, n6, n1, 0⟩ = vv) := ⟨_, Lib.hid rfl⟩
              obtain ⟨T, HT⟩ : ∃ T, Hid (bstr (line ⟨4, n3, n4, n5, n6, n1, 0⟩) = T) := ⟨_, Lib.hid rfl⟩
              have HTe : Hid (line ⟨4, n3, n4, n5, n6, n1, 0⟩ = s.data.toList ↔ T = s) := Lib.hid (by rw [← HT.out]; exact line_str _ _)
              rw [Hvv.out] at HVl HX HLi
              rw [HT.out] at HLi
              go_wp2_with fail
              refine (HVl.out _).mono ?_
              rintro e w2 ⟨rfl, hb2⟩
              have HP2 := Lib.hid (HPs.out.below hb2)
              clear hb2 z0 z1 z2 z3 z4 z5 z6 zf
              cases vv
              · have HPn : Hid (parseV s.data.toList = .tuple #[qV MQ.zero, .int .i64 50]) := Lib.hid (by unfold parseV; rw [HX.out, if_neg (by simp)])
                obtain ⟨⟨r0, r1, r2, r3, r4, r5, r6⟩, rf⟩ := zeros_of HP2.out.r
                go_wp2_with fail
                exact bodyPost_ret (v := .tuple #[.agg #[.int .i64 0, .int .i64 0, .int .i64 0, .int .i64 0, .int .i64 0, .int .i64 0, .int .i64 0], .int .i64 50]) (results_17 _ W.heap.size _ _ _ (set7_heap HP2.out.r _ _ _ _ _ _ _) rfl rfl rfl) rfl ⟨by rw [HPn.out]; rfl, set7_below HP2.out.b (Nat.le_refl _) _ _ _ _ _ _ _⟩
              · obtain ⟨⟨y0, y1, y2, y3, y4, y5, y6⟩, yf⟩ := HP2.out.qat
                go_wp2_with fail
                refine (HLi.out _ (by trivial)).mono ?_
                rintro e w3 ⟨rfl, hb3⟩
                have HP3 := Lib.hid (HP2.out.below hb3)
                clear hb3 y0 y1 y2 y3 y4 y5 y6 yf
                obtain ⟨⟨r0, r1, r2, r3, r4, r5, r6⟩, rf⟩ := zeros_of HP3.out.r
                by_cases hts : T = s
                · have HPn : Hid (parseV s.data.toList = .tuple #[qV ⟨4, n3, n4, n5, n6, n1, 0⟩, .int .i64 0]) := Lib.hid (by unfold parseV; rw [HX.out, if_pos ⟨by trivial, HTe.out.2 hts⟩])
                  have hse := str_eq hts
                  obtain ⟨⟨y0, y1, y2, y3, y4, y5, y6⟩, yf⟩ := HP3.out.qat
                  clear hts
                  go_wp2_with fail
                  exact bodyPost_ret (v := .tuple #[.agg #[.int .i64 4, .int .i64 n3, .int .i64 n4, .int .i64 n5, .int .i64 n6, .int .i64 n1, .int .i64 0], .int .i64 0]) (results_17 _ W.heap.size _ _ _ (set7_heap HP3.out.r _ _ _ _ _ _ _) rfl rfl rfl) rfl ⟨by rw [HPn.out], set7_below HP3.out.b (Nat.le_refl _) _ _ _ _ _ _ _⟩
                · have HPn : Hid (parseV s.data.toList = .tuple #[qV MQ.zero, .int .i64 50]) := Lib.hid (by unfold parseV; rw [HX.out, if_neg (by exact fun h => hts (HTe.out.1 h.2))])
                  have hse := str_ne hts
                  clear hts
                  go_wp2_with fail
                  exact bodyPost_ret (v := .tuple #[.agg #[.int .i64 0, .int .i64 0, .int .i64 0, .int .i64 0, .int .i64 0, .int .i64 0, .int .i64 0], .int .i64 50]) (results_17 _ W.heap.size _ _ _ (set7_heap HP3.out.r _ _ _ _ _ _ _) rfl rfl rfl) rfl ⟨by rw [HPn.out]; rfl, set7_below HP3.out.b (Nat.le_refl _) _ _ _ _ _ _ _⟩
            · have HPn : Hid (parseV s.data.toList = .tuple #[qV MQ.zero, .int .i64 50]) := Lib.hid (by
                unfold parseV
                rw [HSpn.out (by unfold candQ; rw [HKd.out]; simp [hn])])
              have hq : ((ws.length : Int) == 7) = false := by simp; omega
              obtain ⟨⟨y0, y1, y2, y3, y4, y5, y6⟩, yf⟩ := HP.out.qat
              obtain ⟨⟨r0, r1, r2, r3, r4, r5, r6⟩, rf⟩ := zeros_of HP.out.r
              clear y1 y2 y3 y4 y5 y6 hn
              go_wp2_with fail
              exact bodyPost_ret (v := .tuple #[.agg #[.int .i64 0, .int .i64 0, .int .i64 0, .int .i64 0, .int .i64 0, .int .i64 0, .int .i64 0], .int .i64 50]) (results_17 _ W.heap.size _ _ _ (set7_heap HP.out.r _ _ _ _ _ _ _) rfl rfl rfl) rfl ⟨by rw [HPn.out]; rfl, set7_below HP.out.b (Nat.le_refl _) _ _ _ _ _ _ _⟩
          · by_cases hn : ws.length = 7
            · have HLn := Lib.hid hn
              have HCd : Hid (candQ ws = some ⟨5, rdAt ws 3, rdAt ws 4, rdAt ws 5, rdAt ws 6, rdAt ws 1, 0⟩) := Lib.hid (by unfold candQ; rw [HKd.out, hn]; rfl)
              have hq : ((ws.length : Int) == 7) = true := by rw [hn]; rfl
              obtain ⟨T1, HT1⟩ : ∃ T, Hid (bstr (at_ ws 1) = T) := ⟨_, Lib.hid rfl⟩
              obtain ⟨n1, Hn1⟩ : ∃ n, Hid (rdAt ws 1 = n) := ⟨_, Lib.hid rfl⟩
              have HD1 := Lib.hid (HRd.out 1)
              rw [HT1.out, Hn1.out] at HD1
              rw [Hn1.out] at HCd
              have g1 : ∀ w0, BW wr w0 → ∀ d os, (grow (redrawn w0 d) os).cell? ⟨g, 1, none⟩ = some (.string T1) := fun w0 h d os => by rw [← HT1.out]; exact (((HP.out.below h).below (below_regrown w0 d os)).o.cells).2.2.2 1 _ (at_some (by have := HLn.out; omega))
              obtain ⟨T3, HT3⟩ : ∃ T, Hid (bstr (at_ ws 3) = T) := ⟨_, Lib.hid rfl⟩
              obtain ⟨n3, Hn3⟩ : ∃ n, Hid (rdAt ws 3 = n) := ⟨_, Lib.hid rfl⟩
              have HD3 := Lib.hid (HRd.out 3)
              rw [HT3.out, Hn3.out] at HD3
              rw [Hn3.out] at HCd
              have g3 : ∀ w0, BW wr w0 → ∀ d os, (grow (redrawn w0 d) os).cell? ⟨g, 3, none⟩ = some (.string T3) := fun w0 h d os => by rw [← HT3.out]; exact (((HP.out.below h).below (below_regrown w0 d os)).o.cells).2.2.2 3 _ (at_some (by have := HLn.out; omega))
              obtain ⟨T4, HT4⟩ : ∃ T, Hid (bstr (at_ ws 4) = T) := ⟨_, Lib.hid rfl⟩
              obtain ⟨n4, Hn4⟩ : ∃ n, Hid (rdAt ws 4 = n) := ⟨_, Lib.hid rfl⟩
              have HD4 := Lib.hid (HRd.out 4)
              rw [HT4.out, Hn4.out] at HD4
              rw [Hn4.out] at HCd
              have g4 : ∀ w0, BW wr w0 → ∀ d os, (grow (redrawn w0 d) os).cell? ⟨g, 4, none⟩ = some (.string T4) := fun w0 h d os => by rw [← HT4.out]; exact (((HP.out.below h).below (below_regrown w0 d os)).o.cells).2.2.2 4 _ (at_some (by have := HLn.out; omega))
              obtain ⟨T5, HT5⟩ : ∃ T, Hid (bstr (at_ ws 5) = T) := ⟨_, Lib.hid rfl⟩
              obtain ⟨n5, Hn5⟩ : ∃ n, Hid (rdAt ws 5 = n) := ⟨_, Lib.hid rfl⟩
              have HD5 := Lib.hid (HRd.out 5)
              rw [HT5.out, Hn5.out] at HD5
              rw [Hn5.out] at HCd
              have g5 : ∀ w0, BW wr w0 → ∀ d os, (grow (redrawn w0 d) os).cell? ⟨g, 5, none⟩ = some (.string T5) := fun w0 h d os => by rw [← HT5.out]; exact (((HP.out.below h).below (below_regrown w0 d os)).o.cells).2.2.2 5 _ (at_some (by have := HLn.out; omega))
              obtain ⟨T6, HT6⟩ : ∃ T, Hid (bstr (at_ ws 6) = T) := ⟨_, Lib.hid rfl⟩
              obtain ⟨n6, Hn6⟩ : ∃ n, Hid (rdAt ws 6 = n) := ⟨_, Lib.hid rfl⟩
              have HD6 := Lib.hid (HRd.out 6)
              rw [HT6.out, Hn6.out] at HD6
              rw [Hn6.out] at HCd
              have g6 : ∀ w0, BW wr w0 → ∀ d os, (grow (redrawn w0 d) os).cell? ⟨g, 6, none⟩ = some (.string T6) := fun w0 h d os => by rw [← HT6.out]; exact (((HP.out.below h).below (below_regrown w0 d os)).o.cells).2.2.2 6 _ (at_some (by have := HLn.out; omega))
              have hlt : 6 < ws.length := by omega
              obtain ⟨⟨y0, y1, y2, y3, y4, y5, y6⟩, yf⟩ := HP.out.qat
              clear hn y1 y2 y3 y4 y5 y6
              go_wp2_with fail
              refine wp_region_calm 21 31 [0, 1, 2, 3, 4, 5, 6, 7, 8, 9, 10, 11, 12, 13, 14, 15, 16, 17, 18, 19, 20] (by kernel_rfl) (by kernel_rfl) (by intro oz h; simp at h) (by intro oz h; simp at h) (by rfl) ?_
              simp only [List.take_succ_cons, List.take_zero]
              iterate 3
                apply wpCalm_want
                · rfl
                · exact bc_refl
                · exact ⟨_, Below.refl _ _⟩
                · intro w0 hC0 K hK
                  go_big_quiet_op
                  exact hK
              apply wpCalm_want
              · rfl
              · exact bc_refl
              · exact ⟨_, Below.refl _ _⟩
              · intro w0 hC0 K hK
                go_big_quiet_op
                apply Exists.intro
                refine ⟨fun p => ?_, ?_⟩
                · exact Calls.regrown_of (HD1.out _)
                · exact hK
              iterate 3
                apply wpCalm_want
                · rfl
                · exact bc_refl
                · exact ⟨_, Below.refl _ _⟩
                · intro w0 hC0 K hK
                  go_big_quiet_op
                  exact hK
              apply wpCalm_want
              · rfl
              · exact bc_refl
              · exact ⟨_, Below.refl _ _⟩
              · intro w0 hC0 K hK
                go_big_quiet_op
                apply Exists.intro
                refine ⟨fun p => ?_, ?_⟩
                · exact Calls.regrown_of (HD3.out _)
                · exact hK
              iterate 3
                apply wpCalm_want
                · rfl
                · exact bc_refl
                · exact ⟨_, Below.refl _ _⟩
                · intro w0 hC0 K hK
                  go_big_quiet_op
                  exact hK
              apply wpCalm_want
              · rfl
              · exact bc_refl
              · exact ⟨_, Below.refl _ _⟩
              · intro w0 hC0 K hK
                go_big_quiet_op
                apply Exists.intro
                refine ⟨fun p => ?_, ?_⟩
                · exact Calls.regrown_of (HD4.out _)
                · exact hK
              iterate 3
                apply wpCalm_want
                · rfl
                · exact bc_refl
                · exact ⟨_, Below.refl _ _⟩
                · intro w0 hC0 K hK
                  go_big_quiet_op
                  exact hK
              apply wpCalm_want
              · rfl
              · exact bc_refl
              · exact ⟨_, Below.refl _ _⟩
              · intro w0 hC0 K hK
                go_big_quiet_op
                apply Exists.intro
                refine ⟨fun p => ?_, ?_⟩
                · exact Calls.regrown_of (HD5.out _)
                · exact hK
              iterate 3
                apply wpCalm_want
                · rfl
                · exact bc_refl
                · exact ⟨_, Below.refl _ _⟩
                · intro w0 hC0 K hK
                  go_big_quiet_op
                  exact hK
              apply wpCalm_want
              · rfl
              · exact bc_refl
              · exact ⟨_, Below.refl _ _⟩
              · intro w0 hC0 K hK
                go_big_quiet_op
                apply Exists.intro
                refine ⟨fun p => ?_, ?_⟩
                · exact Calls.regrown_of (HD6.out _)
                · exact hK
              iterate 1
                apply wpCalm_want
                · rfl
                · exact bc_refl
                · exact ⟨_, Below.refl _ _⟩
                · intro w0 hC0 K hK
                  go_big_quiet_op
                  exact hK
              refine wpCalm_nil ?_
              intro wc hbc
              simp only [List.drop_succ_cons, List.drop_zero]
              have HPc := Lib.hid (HP.out.below hbc)
              obtain ⟨⟨z0, z1, z2, z3, z4, z5, z6⟩, zf⟩ := HPc.out.qat
              clear y0 yf g1 g3 g4 g5 g6 hbc
              have HPs := Lib.hid (((((HPc.out.set 5 (.int .i64 n1) ⟨5, 0, 0, 0, 0, n1, 0⟩ rfl).set 1 (.int .i64 n3) ⟨5, n3, 0, 0, 0, n1, 0⟩ rfl).set 2 (.int .i64 n4) ⟨5, n3, n4, 0, 0, n1, 0⟩ rfl).set 3 (.int .i64 n5) ⟨5, n3, n4, n5, 0, n1, 0⟩ rfl).set 4 (.int .i64 n6) ⟨5, n3, n4, n5, n6, n1, 0⟩ rfl)
              have HX := Lib.hid (HSpl.out _ HCd.out)
              have HVl := Lib.hid (fun w => rvalid_any ⟨5, n3, n4, n5, n6, n1, 0⟩ w)
              have HLi := Lib.hid (fun w hv => rline_any ⟨5, n3, n4, n5, n6, n1, 0⟩ hv w)
              obtain ⟨vv, Hvv⟩ : ∃ vv, Hid (validB ⟨5, n3, n4, n5, n6, n1, 0⟩ = vv) := ⟨_, Lib.hid rfl⟩
              obtain ⟨T, HT⟩ : ∃ T, Hid (bstr (line ⟨5, n3, n4, n5, n6, n1, 0⟩) = T) := ⟨_, Lib.hid rfl⟩
              have HTe : Hid (line ⟨5, n3, n4, n5, n6, n1, 0⟩ = s.data.toList ↔ T = s) := Lib.hid (by rw [← HT.out]; exact line_str _ _)
              rw [Hvv.out] at HVl HX HLi
              rw [HT.out] at HLi
              go_wp2_with fail
              refine (HVl.out _).mono ?_
              rintro e w2 ⟨rfl, hb2⟩
              have HP2 := Lib.hid (HPs.out.below hb2)
              clear hb2 z0 z1 z2 z3 z4 z5 z6 zf
              cases vv
              · have HPn : Hid (parseV s.data.toList = .tuple #[qV MQ.zero, .int .i64 50]) := Lib.hid (by unfold parseV; rw [HX.out, if_neg (by simp)])
                obtain ⟨⟨r0, r1, r2, r3, r4, r5, r6⟩, rf⟩ := zeros_of HP2.out.r
                go_wp2_with fail
                exact bodyPost_ret (v := .tuple #[.agg #[.int .i64 0, .int .i64 0, .int .i64 0, .int .i64 0, .int .i64 0, .int .i64 0, .int .i64 0], .int .i64 50]) (results_17 _ W.heap.size _ _ _ (set7_heap HP2.out.r _ _ _ _ _ _ _) rfl rfl rfl) rfl ⟨by rw [HPn.out]; rfl, set7_below HP2.out.b (Nat.le_refl _) _ _ _ _ _ _ _⟩
              · obtain ⟨⟨y0, y1, y2, y3, y4, y5, y6⟩, yf⟩ := HP2.out.qat
                go_wp2_with fail
                refine (HLi.out _ (by trivial)).mono ?_
                rintro e w3 ⟨rfl, hb3⟩
                have HP3 := Lib.hid (HP2.out.below hb3)
                clear hb3 y0 y1 y2 y3 y4 y5 y6 yf
                obtain ⟨⟨r0, r1, r2, r3, r4, r5, r6⟩, rf⟩ := zeros_of HP3.out.r
                by_cases hts : T = s
                · have HPn : Hid (parseV s.data.toList = .tuple #[qV ⟨5, n3, n4, n5, n6, n1, 0⟩, .int .i64 0]) := Lib.hid (by unfold parseV; rw [HX.out, if_pos ⟨by trivial, HTe.out.2 hts⟩])
                  have hse := str_eq hts
                  obtain ⟨⟨y0, y1, y2, y3, y4, y5, y6⟩, yf⟩ := HP3.out.qat
                  clear hts
                  go_wp2_with fail
                  exact bodyPost_ret (v := .tuple #[.agg #[.int .i64 5, .int .i64 n3, .int .i64 n4, .int .i64 n5, .int .i64 n6, .int .i64 n1, .int .i64 0], .int .i64 0]) (results_17 _ W.heap.size _ _ _ (set7_heap HP3.out.r _ _ _ _ _ _ _) rfl rfl rfl) rfl ⟨by rw [HPn.out], set7_below HP3.out.b (Nat.le_refl _) _ _ _ _ _ _ _⟩
                · have HPn : Hid (parseV s.data.toList = .tuple #[qV MQ.zero, .int .i64 50]) := Lib.hid (by unfold parseV; rw [HX.out, if_neg (by exact fun h => hts (HTe.out.1 h.2))])
                  have hse := str_ne hts
                  clear hts
                  go_wp2_with fail
                  exact bodyPost_ret (v := .tuple #[.agg #[.int .i64 0, .int .i64 0, .int .i64 0, .int .i64 0, .int .i64 0, .int .i64 0, .int .i64 0], .int .i64 50]) (results_17 _ W.heap.size _ _ _ (set7_heap HP3.out.r _ _ _ _ _ _ _) rfl rfl rfl) rfl ⟨by rw [HPn.out]; rfl, set7_below HP3.out.b (Nat.le_refl _) _ _ _ _ _ _ _⟩
            · have HPn : Hid (parseV s.data.toList = .tuple #[qV MQ.zero, .int .i64 50]) := Lib.hid (by
                unfold parseV
                rw [HSpn.out (by unfold candQ; rw [HKd.out]; simp [hn])])
              have hq : ((ws.length : Int) == 7) = false := by simp; omega
              obtain ⟨⟨y0, y1, y2, y3, y4, y5, y6⟩, yf⟩ := HP.out.qat
              obtain ⟨⟨r0, r1, r2, r3, r4, r5, r6⟩, rf⟩ := zeros_of HP.out.r
              clear y1 y2 y3 y4 y5 y6 hn
              go_wp2_with fail
              exact bodyPost_ret (v := .tuple #[.agg #[.int .i64 0, .int .i64 0, .int .i64 0, .int .i64 0, .int .i64 0, .int .i64 0, .int .i64 0], .int .i64 50]) (results_17 _ W.heap.size _ _ _ (set7_heap HP.out.r _ _ _ _ _ _ _) rfl rfl rfl) rfl ⟨by rw [HPn.out]; rfl, set7_below HP.out.b (Nat.le_refl _) _ _ _ _ _ _ _⟩
          · by_cases hn : ws.length = 7
            · have HLn := Lib.hid hn
              have HCd : Hid (candQ ws = some ⟨6, rdAt ws 3, rdAt ws 4, rdAt ws 5, rdAt ws 6, rdAt ws 1, 0⟩) := Lib.hid (by unfold candQ; rw [HKd.out, hn]; rfl)
              have hq : ((ws.length : Int) == 7) = true := by rw [hn]; rfl
              obtain ⟨T1, HT1⟩ : ∃ T, Hid (bstr (at_ ws 1) = T) := ⟨_, Lib.hid rfl⟩
              obtain ⟨n1, Hn1⟩ : ∃ n, Hid (rdAt ws 1 = n) := ⟨_, Lib.hid rfl⟩
              have HD1 := Lib.hid (HRd.out 1)
              rw [HT1.out, Hn1.out] at HD1
              rw [Hn1.out] at HCd
              have g1 : ∀ w0, BW wr w0 → ∀ d os, (grow (redrawn w0 d) os).cell? ⟨g, 1, none⟩ = some (.string T1) := fun w0 h d os => by rw [← HT1.out]; exact (((HP.out.below h).below (below_regrown w0 d os)).o.cells).2.2.2 1 _ (at_some (by have := HLn.out; omega))
              obtain ⟨T3, HT3⟩ : ∃ T, Hid (bstr (at_ ws 3) = T) := ⟨_, Lib.hid rfl⟩
              obtain ⟨n3, Hn3⟩ : ∃ n, Hid (rdAt ws 3 = n) := ⟨_, Lib.hid rfl⟩
              have HD3 := Lib.hid (HRd.out 3)
              rw [HT3.out, Hn3.out] at HD3
              rw [Hn3.out] at HCd
              have g3 : ∀ w0, BW wr w0 → ∀ d os, (grow (redrawn w0 d) os).cell? ⟨g, 3, none⟩ = some (.string T3) := fun w0 h d os => by rw [← HT3.out]; exact (((HP.out.below h).below (below_regrown w0 d os)).o.cells).2.2.2 3 _ (at_some (by have := HLn.out; omega))
              obtain ⟨T4, HT4⟩ : ∃ T, Hid (bstr (at_ ws 4) = T) := ⟨_, Lib.hid rfl⟩
              obtain ⟨n4, Hn4⟩ : ∃ n, Hid (rdAt ws 4 = n) := ⟨_, Lib.hid rfl⟩
              have HD4 := Lib.hid (HRd.out 4)
              rw [HT4.out, Hn4.out] at HD4
              rw [Hn4.out] at HCd
              have g4 : ∀ w0, BW wr w0 → ∀ d os, (grow (redrawn w0 d) os).cell? ⟨g, 4, none⟩ = some (.string T4) := fun w0 h d os => by rw [← HT4.out]; exact (((HP.out.below h).below (below_regrown w0 d os)).o.cells).2.2.2 4 _ (at_some (by have := HLn.out; omega))
              obtain ⟨T5, HT5⟩ : ∃ T, Hid (bstr (at_ ws 5) = T) := ⟨_, Lib.hid rfl⟩
              obtain ⟨n5, Hn5⟩ : ∃ n, Hid (rdAt ws 5 = n) := ⟨_, Lib.hid rfl⟩
              have HD5 := Lib.hid (HRd.out 5)
              rw [HT5.out, Hn5.out] at HD5
              rw [Hn5.out] at HCd
              have g5 : ∀ w0, BW wr w0 → ∀ d os, (grow (redrawn w0 d) os).cell? ⟨g, 5, none⟩ = some (.string T5) := fun w0 h d os => by rw [← HT5.out]; exact (((HP.out.below h).below (below_regrown w0 d os)).o.cells).2.2.2 5 _ (at_some (by have := HLn.out; omega))
              obtain ⟨T6, HT6⟩ : ∃ T, Hid (bstr (at_ ws 6) = T) := ⟨_, Lib.hid rfl⟩
              obtain ⟨n6, Hn6⟩ : ∃ n, Hid (rdAt ws 6 = n) := ⟨_, Lib.hid rfl⟩
              have HD6 := Lib.hid (HRd.out 6)
              rw [HT6.out, Hn6.out] at HD6
              rw [Hn6.out] at HCd
              have g6 : ∀ w0, BW wr w0 → ∀ d os, (grow (redrawn w0 d) os).cell? ⟨g, 6, none⟩ = some (.string T6) := fun w0 h d os => by rw [← HT6.out]; exact (((HP.out.below h).below (below_regrown w0 d os)).o.cells).2.2.2 6 _ (at_some (by have := HLn.out; omega))
              have hlt : 6 < ws.length := by omega
              obtain ⟨⟨y0, y1, y2, y3, y4, y5, y6⟩, yf⟩ := HP.out.qat
              clear hn y1 y2 y3 y4 y5 y6
              go_wp2_with fail
              refine wp_region_calm 21 31 [0, 1, 2, 3, 4, 5, 6, 7, 8, 9, 10, 11, 12, 13, 14, 15, 16, 17, 18, 19, 20] (by kernel_rfl) (by kernel_rfl) (by intro oz h; simp at h) (by intro oz h; simp at h) (by rfl) ?_
              simp only [List.take_succ_cons, List.take_zero]
              iterate 3
                apply wpCalm_want
                · rfl
                · exact bc_refl
                · exact ⟨_, Below.refl _ _⟩
                · intro w0 hC0 K hK
                  go_big_quiet_op
                  exact hK
              apply wpCalm_want
              · rfl
              · exact bc_refl
              · exact ⟨_, Below.refl _ _⟩
              · intro w0 hC0 K hK
                go_big_quiet_op
                apply Exists.intro
                refine ⟨fun p => ?_, ?_⟩
                · exact Calls.regrown_of (HD1.out _)
                · exact hK
              iterate 3
                apply wpCalm_want
                · rfl
                · exact bc_refl
                · exact ⟨_, Below.refl _ _⟩
                · intro w0 hC0 K hK
                  go_big_quiet_op
                  exact hK
              apply wpCalm_want
              · rfl
              · exact bc_refl
              · exact ⟨_, Below.refl _ _⟩
              · intro w0 hC0 K hK
                go_big_quiet_op
                apply Exists.intro
                refine ⟨fun p => ?_, ?_⟩
                · exact Calls.regrown_of (HD3.out _)
                · exact hK
              iterate 3
                apply wpCalm_want
                · rfl
                · exact bc_refl
                · exact ⟨_, Below.refl _ _⟩
                · intro w0 hC0 K hK
                  go_big_quiet_op
                  exact hK
              apply wpCalm_want
              · rfl
              · exact bc_refl
              · exact ⟨_, Below.refl _ _⟩
              · intro w0 hC0 K hK
                go_big_quiet_op
                apply Exists.intro
                refine ⟨fun p => ?_, ?_⟩
                · exact Calls.regrown_of (HD4.out _)
                · exact hK
              iterate 3
                apply wpCalm_want
                · rfl
                · exact bc_refl
                · exact ⟨_, Below.refl _ _⟩
                · intro w0 hC0 K hK
                  go_big_quiet_op
                  exact hK
              apply wpCalm_want
              · rfl
              · exact bc_refl
              · exact ⟨_, Below.refl _ _⟩
              · intro w0 hC0 K hK
                go_big_quiet_op
                apply Exists.intro
                refine ⟨fun p => ?_, ?_⟩
                · exact Calls.regrown_of (HD5.out _)
                · exact hK
              iterate 3
                apply wpCalm_want
                · rfl
                · exact bc_refl
                · exact ⟨_, Below.refl _ _⟩
                · intro w0 hC0 K hK
                  go_big_quiet_op
                  exact hK
              apply wpCalm_want
              · rfl
              · exact bc_refl
              · exact ⟨_, Below.refl _ _⟩
              · intro w0 hC0 K hK
                go_big_quiet_op
                apply Exists.intro
                refine ⟨fun p => ?_, ?_⟩
                · exact Calls.regrown_of (HD6.out _)
                · exact hK
              iterate 1
                apply wpCalm_want
                · rfl
                · exact bc_refl
                · exact ⟨_, Below.refl _ _⟩
                · intro w0 hC0 K hK
                  go_big_quiet_op
                  exact hK
              refine wpCalm_nil ?_
              intro wc hbc
              simp only [List.drop_succ_cons, List.drop_zero]
              have HPc := Lib.hid (HP.out.below hbc)
              obtain ⟨⟨z0, z1, z2, z3, z4, z5, z6⟩, zf⟩ := HPc.out.qat
              clear y0 yf g1 g3 g4 g5 g6 hbc
              have HPs := Lib.hid (((((HPc.out.set 5 (.int .i64 n1) ⟨6, 0, 0, 0, 0, n1, 0⟩ rfl).set 1 (.int .i64 n3) ⟨6, n3, 0, 0, 0, n1, 0⟩ rfl).set 2 (.int .i64 n4) ⟨6, n3, n4, 0, 0, n1, 0⟩ rfl).set 3 (.int .i64 n5) ⟨6, n3, n4, n5, 0, n1, 0⟩ rfl).set 4 (.int .i64 n6) ⟨6, n3, n4, n5, n6, n1, 0⟩ rfl)
              have HX := Lib.hid (HSpl.out _ HCd.out)
              have HVl := Lib.hid (fun w => rvalid_any ⟨6, n3, n4, n5, n6, n1, 0⟩ w)
              have HLi := Lib.hid (fun w hv => rline_any ⟨6, n3, n4, n5, n6, n1, 0⟩ hv w)
              obtain ⟨vv, Hvv⟩ : ∃ vv, Hid (validB ⟨6, n3, n4, n5, n6, n1, 0⟩ = vv) := ⟨_, Lib.hid rfl⟩
              obtain ⟨T, HT⟩ : ∃ T, Hid (bstr (line ⟨6, n3, n4, n5, n6, n1, 0⟩) = T) := ⟨_, Lib.hid rfl⟩
              have HTe : Hid (line ⟨6, n3, n4, n5, n6, n1, 0⟩ = s.data.toList ↔ T = s) := Lib.hid (by rw [← HT.out]; exact line_str _ _)
              rw [Hvv.out] at HVl HX HLi
              rw [HT.out] at HLi
              go_wp2_with fail
              refine (HVl.out _).mono ?_
              rintro e w2 ⟨rfl, hb2⟩
              have HP2 := Lib.hid (HPs.out.below hb2)
              clear hb2 z0 z1 z2 z3 z4 z5 z6 zf
              cases vv
              · have HPn : Hid (parseV s.data.toList = .tuple #[qV MQ.zero, .int .i64 50]) := Lib.hid (by unfold parseV; rw [HX.out, if_neg (by simp)])
                obtain ⟨⟨r0, r1, r2, r3, r4, r5, r6⟩, rf⟩ := zeros_of HP2.out.r
                go_wp2_with fail
                exact bodyPost_ret (v := .tuple #[.agg #[.int .i64 0, .int .i64 0, .int .i64 0, .int .i64 0, .int .i64 0, .int .i64 0, .int .i64 0], .int .i64 50]) (results_17 _ W.heap.size _ _ _ (set7_heap HP2.out.r _ _ _ _ _ _ _) rfl rfl rfl) rfl ⟨by rw [HPn.out]; rfl, set7_below HP2.out.b (Nat.le_refl _) _ _ _ _ _ _ _⟩
              · obtain ⟨⟨y0, y1, y2, y3, y4, y5, y6⟩, yf⟩ := HP2.out.qat
                go_wp2_with fail
                refine (HLi.out _ (by trivial)).mono ?_
                rintro e w3 ⟨rfl, hb3⟩
                have HP3 := Lib.hid (HP2.out.below hb3)
                clear hb3 y0 y1 y2 y3 y4 y5 y6 yf
                obtain ⟨⟨r0, r1, r2, r3, r4, r5, r6⟩, rf⟩ := zeros_of HP3.out.r
                by_cases hts : T = s
                · have HPn : Hid (parseV s.data.toList = .tuple #[qV ⟨6, n3, n4, n5, n6, n1, 0⟩, .int .i64 0]) := Lib.hid (by unfold parseV; rw [HX.out, if_pos ⟨by trivial, HTe.out.2 hts⟩])
                  have hse := str_eq hts
                  obtain ⟨⟨y0, y1, y2, y3, y4, y5, y6⟩, yf⟩ := HP3.out.qat
                  clear hts
                  go_wp2_with fail
                  exact bodyPost_ret (v := .tuple #[.agg #[.int .i64 6, .int .i64 n3, .int .i64 n4, .int .i64 n5, .int .i64 n6, .int .i64 n1, .int .i64 0], .int .i64 0]) (results_17 _ W.heap.size _ _ _ (set7_heap HP3.out.r _ _ _ _ _ _ _) rfl rfl rfl) rfl ⟨by rw [HPn.out], set7_below HP3.out.b (Nat.le_refl _) _ _ _ _ _ _ _⟩
                · have HPn : Hid (parseV s.data.toList = .tuple #[qV MQ.zero, .int .i64 50]) := Lib.hid (by unfold parseV; rw [HX.out, if_neg (by exact fun h => hts (HTe.out.1 h.2))])
                  have hse := str_ne hts
                  clear hts
                  go_wp2_with fail
                  exact bodyPost_ret (v := .tuple #[.agg #[.int .i64 0, .int .i64 0, .int .i64 0, .int .i64 0, .int .i64 0, .int .i64 0, .int .i64 0], .int .i64 50]) (results_17 _ W.heap.size _ _ _ (set7_heap HP3.out.r _ _ _ _ _ _ _) rfl rfl rfl) rfl ⟨by rw [HPn.out]; rfl, set7_below HP3.out.b (Nat.le_refl _) _ _ _ _ _ _ _⟩
            · have HPn : Hid (parseV s.data.toList = .tuple #[qV MQ.zero, .int .i64 50]) := Lib.hid (by
                unfold parseV
                rw [HSpn.out (by unfold candQ; rw [HKd.out]; simp [hn])])
              have hq : ((ws.length : Int) == 7) = false := by simp; omega
              obtain ⟨⟨y0, y1, y2, y3, y4, y5, y6⟩, yf⟩ := HP.out.qat
              obtain ⟨⟨r0, r1, r2, r3, r4, r5, r6⟩, rf⟩ := zeros_of HP.out.r
              clear y1 y2 y3 y4 y5 y6 hn
              go_wp2_with fail
              exact bodyPost_ret (v := .tuple #[.agg #[.int .i64 0, .int .i64 0, .int .i64 0, .int .i64 0, .int .i64 0, .int .i64 0, .int .i64 0], .int .i64 50]) (results_17 _ W.heap.size _ _ _ (set7_heap HP.out.r _ _ _ _ _ _ _) rfl rfl rfl) rfl ⟨by rw [HPn.out]; rfl, set7_below HP.out.b (Nat.le_refl _) _ _ _ _ _ _ _⟩
          · by_cases hn : ws.length = 9
            · have HLn := Lib.hid hn
              have HCd : Hid (candQ ws = some ⟨7, rdAt ws 5, rdAt ws 6, rdAt ws 7, rdAt ws 8, rdAt ws 1, rdAt ws 3⟩) := Lib.hid (by unfold candQ; rw [HKd.out, hn]; rfl)
              have hq : ((ws.length : Int) == 9) = true := by rw [hn]; rfl
              obtain ⟨T1, HT1⟩ : ∃ T, Hid (bstr (at_ ws 1) = T) := ⟨_, Lib.hid rfl⟩
              obtain ⟨n1, Hn1⟩ : ∃ n, Hid (rdAt ws 1 = n) := ⟨_, Lib.hid rfl⟩
              have HD1 := Lib.hid (HRd.out 1)
              rw [HT1.out, Hn1.out] at HD1
              rw [Hn1.out] at HCd
              have g1 : ∀ w0, BW wr w0 → ∀ d os, (grow (redrawn w0 d) os).cell? ⟨g, 1, none⟩ = some (.string T1) := fun w0 h d os => by rw [← HT1.out]; exact (((HP.out.below h).below (below_regrown w0 d os)).o.cells).2.2.2 1 _ (at_some (by have := HLn.out; omega))
              obtain ⟨T3, HT3⟩ : ∃ T, Hid (bstr (at_ ws 3) = T) := ⟨_, Lib.hid rfl⟩
              obtain ⟨n3, Hn3⟩ : ∃ n, Hid (rdAt ws 3 = n) := ⟨_, Lib.hid rfl⟩
              have HD3 := Lib.hid (HRd.out 3)
              rw [HT3.out, Hn3.out] at HD3
              rw [Hn3.out] at HCd
              have g3 : ∀ w0, BW wr w0 → ∀ d os, (grow (redrawn w0 d) os).cell? ⟨g, 3, none⟩ = some (.string T3) := fun w0 h d os => by rw [← HT3.out]; exact (((HP.out.below h).below (below_regrown w0 d os)).o.cells).2.2.2 3 _ (at_some (by have := HLn.out; omega))
              obtain ⟨T5, HT5⟩ : ∃ T, Hid (bstr (at_ ws 5) = T) := ⟨_, Lib.hid rfl⟩
              obtain ⟨n5, Hn5⟩ : ∃ n, Hid (rdAt ws 5 = n) := ⟨_, Lib.hid rfl⟩
              have HD5 := Lib.hid (HRd.out 5)
              rw [HT5.out, Hn5.out] at HD5
              rw [Hn5.out] at HCd
              have g5 : ∀ w0, BW wr w0 → ∀ d os, (grow (redrawn w0 d) os).cell? ⟨g, 5, none⟩ = some (.string T5) := fun w0 h d os => by rw [← HT5.out]; exact (((HP.out.below h).below (below_regrown w0 d os)).o.cells).2.2.2 5 _ (at_some (by have := HLn.out; omega))
              obtain ⟨T6, HT6⟩ : ∃ T, Hid (bstr (at_ ws 6) = T) := ⟨_, Lib.hid rfl⟩
              obtain ⟨n6, Hn6⟩ : ∃ n, Hid (rdAt ws 6 = n) := ⟨_, Lib.hid rfl⟩
              have HD6 := Lib.hid (HRd.out 6)
              rw [HT6.out, Hn6.out] at HD6
              rw [Hn6.out] at HCd
              have g6 : ∀ w0, BW wr w0 → ∀ d os, (grow (redrawn w0 d) os).cell? ⟨g, 6, none⟩ = some (.string T6) := fun w0 h d os => by rw [← HT6.out]; exact (((HP.out.below h).below (below_regrown w0 d os)).o.cells).2.2.2 6 _ (at_some (by have := HLn.out; omega))
              obtain ⟨T7, HT7⟩ : ∃ T, Hid (bstr (at_ ws 7) = T) := ⟨_, Lib.hid rfl⟩
              obtain ⟨n7, Hn7⟩ : ∃ n, Hid (rdAt ws 7 = n) := ⟨_, Lib.hid rfl⟩
              have HD7 := Lib.hid (HRd.out 7)
              rw [HT7.out, Hn7.out] at HD7
              rw [Hn7.out] at HCd
              have g7 : ∀ w0, BW wr w0 → ∀ d os, (grow (redrawn w0 d) os).cell? ⟨g, 7, none⟩ = some (.string T7) := fun w0 h d os => by rw [← HT7.out]; exact (((HP.out.below h).below (below_regrown w0 d os)).o.cells).2.2.2 7 _ (at_some (by have := HLn.out; omega))
              obtain ⟨T8, HT8⟩ : ∃ T, Hid (bstr (at_ ws 8) = T) := ⟨_, Lib.hid rfl⟩
              obtain ⟨n8, Hn8⟩ : ∃ n, Hid (rdAt ws 8 = n) := ⟨_, Lib.hid rfl⟩
              have HD8 := Lib.hid (HRd.out 8)
              rw [HT8.out, Hn8.out] at HD8
              rw [Hn8.out] at HCd
              have g8 : ∀ w0, BW wr w0 → ∀ d os, (grow (redrawn w0 d) os).cell? ⟨g, 8, none⟩ = some (.string T8) := fun w0 h d os => by rw [← HT8.out]; exact (((HP.out.below h).below (below_regrown w0 d os)).o.cells).2.2.2 8 _ (at_some (by have := HLn.out; omega))
              have hlt : 8 < ws.length := by omega
              obtain ⟨⟨y0, y1, y2, y3, y4, y5, y6⟩, yf⟩ := HP.out.qat
              clear hn y1 y2 y3 y4 y5 y6
              go_wp2_with fail
              refine wp_region_calm 25 37 [0, 1, 2, 3, 4, 5, 6, 7, 8, 9, 10, 11, 12, 13, 14, 15, 16, 17, 18, 19, 20, 21, 22, 23, 24] (by kernel_rfl) (by kernel_rfl) (by intro oz h; simp at h) (by intro oz h; simp at h) (by rfl) ?_
              simp only [List.take_succ_cons, List.take_zero]
              iterate 3
                apply wpCalm_want
                · rfl
                · exact bc_refl
                · exact ⟨_, Below.refl _ _⟩
                · intro w0 hC0 K hK
                  go_big_quiet_op
                  exact hK
              apply wpCalm_want
              · rfl
              · exact bc_refl
              · exact ⟨_, Below.refl _ _⟩
              · intro w0 hC0 K hK
                go_big_quiet_op
                apply Exists.intro
                refine ⟨fun p => ?_, ?_⟩
                · exact Calls.regrown_of (HD1.out _)
                · exact hK
              iterate 3
                apply wpCalm_want
                · rfl
                · exact bc_refl
                · exact ⟨_, Below.refl _ _⟩
                · intro w0 hC0 K hK
                  go_big_quiet_op
                  exact hK
              apply wpCalm_want
              · rfl
              · exact bc_refl
              · exact ⟨_, Below.refl _ _⟩
              · intro w0 hC0 K hK
                go_big_quiet_op
                apply Exists.intro
                refine ⟨fun p => ?_, ?_⟩
                · exact Calls.regrown_of (HD3.out _)
                · exact hK
              iterate 3
                apply wpCalm_want
                · rfl
                · exact bc_refl
                · exact ⟨_, Below.refl _ _⟩
                · intro w0 hC0 K hK
                  go_big_quiet_op
                  exact hK
              apply wpCalm_want
              · rfl
              · exact bc_refl
              · exact ⟨_, Below.refl _ _⟩
              · intro w0 hC0 K hK
                go_big_quiet_op
                apply Exists.intro
                refine ⟨fun p => ?_, ?_⟩
                · exact Calls.regrown_of (HD5.out _)
                · exact hK
              iterate 3
                apply wpCalm_want
                · rfl
                · exact bc_refl
                · exact ⟨_, Below.refl _ _⟩
                · intro w0 hC0 K hK
                  go_big_quiet_op
                  exact hK
              apply wpCalm_want
              · rfl
              · exact bc_refl
              · exact ⟨_, Below.refl _ _⟩
              · intro w0 hC0 K hK
                go_big_quiet_op
                apply Exists.intro
                refine ⟨fun p => ?_, ?_⟩
                · exact Calls.regrown_of (HD6.out _)
                · exact hK
              iterate 3
                apply wpCalm_want
                · rfl
                · exact bc_refl
                · exact ⟨_, Below.refl _ _⟩
                · intro w0 hC0 K hK
                  go_big_quiet_op
                  exact hK
              apply wpCalm_want
              · rfl
              · exact bc_refl
              · exact ⟨_, Below.refl _ _⟩
              · intro w0 hC0 K hK
                go_big_quiet_op
                apply Exists.intro
                refine ⟨fun p => ?_, ?_⟩
                · exact Calls.regrown_of (HD7.out _)
                · exact hK
              iterate 3
                apply wpCalm_want
                · rfl
                · exact bc_refl
                · exact ⟨_, Below.refl _ _⟩
                · intro w0 hC0 K hK
                  go_big_quiet_op
                  exact hK
              apply wpCalm_want
              · rfl
              · exact bc_refl
              · exact ⟨_, Below.refl _ _⟩
              · intro w0 hC0 K hK
                go_big_quiet_op
                apply Exists.intro
                refine ⟨fun p => ?_, ?_⟩
                · exact Calls.regrown_of (HD8.out _)
                · exact hK
              iterate 1
                apply wpCalm_want
                · rfl
                · exact bc_refl
                · exact ⟨_, Below.refl _ _⟩
                · intro w0 hC0 K hK
                  go_big_quiet_op
                  exact hK
              refine wpCalm_nil ?_
              intro wc hbc
              simp only [List.drop_succ_cons, List.drop_zero]
              have HPc := Lib.hid (HP.out.below hbc)
              obtain ⟨⟨z0, z1, z2, z3, z4, z5, z6⟩, zf⟩ := HPc.out.qat
              clear y0 yf g1 g3 g5 g6 g7 g8 hbc
              have HPs := Lib.hid ((((((HPc.out.set 5 (.int .i64 n1) ⟨7, 0, 0, 0, 0, n1, 0⟩ rfl).set 6 (.int .i64 n3) ⟨7, 0, 0, 0, 0, n1, n3⟩ rfl).set 1 (.int .i64 n5) ⟨7, n5, 0, 0, 0, n1, n3⟩ rfl).set 2 (.int .i64 n6) ⟨7, n5, n6, 0, 0, n1, n3⟩ rfl).set 3 (.int .i64 n7) ⟨7, n5, n6, n7, 0, n1, n3⟩ rfl).set 4 (.int .i64 n8) ⟨7, n5, n6, n7, n8, n1, n3⟩ rfl)
              have HX := Lib.hid (HSpl.out _ HCd.out)
              have HVl := Lib.hid (fun w => rvalid_any ⟨7, n5, n6, n7, n8, n1, n3⟩ w)
              have HLi := Lib.hid (fun w hv => rline_any ⟨7, n5, n6, n7, n8, n1, n3⟩ hv w)
              obtain ⟨vv, Hvv⟩ : ∃ vv, Hid (validB ⟨7, n5, n6, n7, n8, n1, n3⟩ = vv) := ⟨_, Lib.hid rfl⟩
              obtain ⟨T, HT⟩ : ∃ T, Hid (bstr (line ⟨7, n5, n6, n7, n8, n1, n3⟩) = T) := ⟨_, Lib.hid rfl⟩
              have HTe : Hid (line ⟨7, n5, n6, n7, n8, n1, n3⟩ = s.data.toList ↔ T = s) := Lib.hid (by rw [← HT.out]; exact line_str _ _)
              rw [Hvv.out] at HVl HX HLi
              rw [HT.out] at HLi
              go_wp2_with fail
              refine (HVl.out _).mono ?_
              rintro e w2 ⟨rfl, hb2⟩
              have HP2 := Lib.hid (HPs.out.below hb2)
              clear hb2 z0 z1 z2 z3 z4 z5 z6 zf
              cases vv
              · have HPn : Hid (parseV s.data.toList = .tuple #[qV MQ.zero, .int .i64 50]) := Lib.hid (by unfold parseV; rw [HX.out, if_neg (by simp)])
                obtain ⟨⟨r0, r1, r2, r3, r4, r5, r6⟩, rf⟩ := zeros_of HP2.out.r
                go_wp2_with fail
                exact bodyPost_ret (v := .tuple #[.agg #[.int .i64 0, .int .i64 0, .int .i64 0, .int .i64 0, .int .i64 0, .int .i64 0, .int .i64 0], .int .i64 50]) (results_17 _ W.heap.size _ _ _ (set7_heap HP2.out.r _ _ _ _ _ _ _) rfl rfl rfl) rfl ⟨by rw [HPn.out]; rfl, set7_below HP2.out.b (Nat.le_refl _) _ _ _ _ _ _ _⟩
              · obtain ⟨⟨y0, y1, y2, y3, y4, y5, y6⟩, yf⟩ := HP2.out.qat
                go_wp2_with fail
                refine (HLi.out _ (by trivial)).mono ?_
                rintro e w3 ⟨rfl, hb3⟩
                have HP3 := Lib.hid (HP2.out.below hb3)
                clear hb3 y0 y1 y2 y3 y4 y5 y6 yf
                obtain ⟨⟨r0, r1, r2, r3, r4, r5, r6⟩, rf⟩ := zeros_of HP3.out.r
                by_cases hts : T = s
                · have HPn : Hid (parseV s.data.toList = .tuple #[qV ⟨7, n5, n6, n7, n8, n1, n3⟩, .int .i64 0]) := Lib.hid (by unfold parseV; rw [HX.out, if_pos ⟨by trivial, HTe.out.2 hts⟩])
                  have hse := str_eq hts
                  obtain ⟨⟨y0, y1, y2, y3, y4, y5, y6⟩, yf⟩ := HP3.out.qat
                  clear hts
                  go_wp2_with fail
                  exact bodyPost_ret (v := .tuple #[.agg #[.int .i64 7, .int .i64 n5, .int .i64 n6, .int .i64 n7, .int .i64 n8, .int .i64 n1, .int .i64 n3], .int .i64 0]) (results_17 _ W.heap.size _ _ _ (set7_heap HP3.out.r _ _ _ _ _ _ _) rfl rfl rfl) rfl ⟨by rw [HPn.out], set7_below HP3.out.b (Nat.le_refl _) _ _ _ _ _ _ _⟩
                · have HPn : Hid (parseV s.data.toList = .tuple #[qV MQ.zero, .int .i64 50]) := Lib.hid (by unfold parseV; rw [HX.out, if_neg (by exact fun h => hts (HTe.out.1 h.2))])
                  have hse := str_ne hts
                  clear hts
                  go_wp2_with fail
                  exact bodyPost_ret (v := .tuple #[.agg #[.int .i64 0, .int .i64 0, .int .i64 0, .int .i64 0, .int .i64 0, .int .i64 0, .int .i64 0], .int .i64 50]) (results_17 _ W.heap.size _ _ _ (set7_heap HP3.out.r _ _ _ _ _ _ _) rfl rfl rfl) rfl ⟨by rw [HPn.out]; rfl, set7_below HP3.out.b (Nat.le_refl _) _ _ _ _ _ _ _⟩
            · have HPn : Hid (parseV s.data.toList = .tuple #[qV MQ.zero, .int .i64 50]) := Lib.hid (by
                unfold parseV
                rw [HSpn.out (by unfold candQ; rw [HKd.out]; simp [hn])])
              have hq : ((ws.length : Int) == 9) = false := by simp; omega
              obtain ⟨⟨y0, y1, y2, y3, y4, y5, y6⟩, yf⟩ := HP.out.qat
              obtain ⟨⟨r0, r1, r2, r3, r4, r5, r6⟩, rf⟩ := zeros_of HP.out.r
              clear y1 y2 y3 y4 y5 y6 hn
              go_wp2_with fail
              exact bodyPost_ret (v := .tuple #[.agg #[.int .i64 0, .int .i64 0, .int .i64 0, .int .i64 0, .int .i64 0, .int .i64 0, .int .i64 0], .int .i64 50]) (results_17 _ W.heap.size _ _ _ (set7_heap HP.out.r _ _ _ _ _ _ _) rfl rfl rfl) rfl ⟨by rw [HPn.out]; rfl, set7_below HP.out.b (Nat.le_refl _) _ _ _ _ _ _ _⟩
          have HPn : Hid (parseV s.data.toList = .tuple #[qV MQ.zero, .int .i64 50]) := Lib.hid (by
            unfold parseV
            rw [HSpn.out (by unfold candQ; rw [HKd.out]; simp)])
          obtain ⟨⟨y0, y1, y2, y3, y4, y5, y6⟩, yf⟩ := HP.out.qat
          obtain ⟨⟨r0, r1, r2, r3, r4, r5, r6⟩, rf⟩ := zeros_of HP.out.r
          clear y1 y2 y3 y4 y5 y6
          go_wp2_with fail
          exact bodyPost_ret (v := .tuple #[.agg #[.int .i64 0, .int .i64 0, .int .i64 0, .int .i64 0, .int .i64 0, .int .i64 0, .int .i64 0], .int .i64 50]) (results_17 _ W.heap.size _ _ _ (set7_heap HP.out.r _ _ _ _ _ _ _) rfl rfl rfl) rfl ⟨by rw [HPn.out]; rfl, set7_below HP.out.b (Nat.le_refl _) _ _ _ _ _ _ _⟩
end Go.Proofs.YtmjcjgmmolmibaaDoor
