/- WALKS: StoreRanges, given what Log does. -/
import Derived.Test.YtaapggeaoacikaaS8
import Derived.Test.YtaapggeaoacikaaV1
import Derived.Test.YtaapggeaoacikaaX5b
import Derived.Test.YtaapggeaoacikaaT7
import Derived.Deep.DeepCutAuto
import Derived.Deep.Cut
import Derived.Test.YtaapggeaoacikaaX9a
set_option linter.unusedVariables false
set_option linter.unusedSimpArgs false
namespace Go.Proofs.Ytaapggeaoacikaa
open Go.RowKit Go.Sort Go.ChangeMaps Go.MapKept

theorem own_rowX {w : World} {base : Nat} {v : Value} {M : List MRow} (h : OwnR w base v M) : RowX w v M := by
  obtain ⟨a, n, cap, rfl⟩ := own_form h
  rcases h.2 with ⟨e, h0⟩ | ⟨g, cap', cur, e, _⟩
  · exact .inl ⟨e, List.eq_nil_of_length_eq_zero h0⟩
  · simp at e
    obtain ⟨rfl, rfl, rfl⟩ := e
    obtain ⟨h1, h2, _⟩ := own_cells h
    exact .inr ⟨g, 0, _, _, rfl, rfl, fun i hi => by rw [Nat.zero_add]; exact h2 i hi⟩
theorem rowX_below {w w' : World} {u : Value} {N : List MRow} {base : Nat} (h : OwnR w base u N) (k : Below w.heap.size w w') : RowX w' u N := own_rowX (h.below k)

attribute [local irreducible] wpCalm in
set_option maxRecDepth 100000 in
set_option maxHeartbeats 16000000 in
theorem ranges_of (H : LogWalked) {W : World} {v : Value} {n : Nat} {ta co at' : Int} (h : XS W v n) (hb : I64 ta) (hc : I64 co) (hd : I64 at') : Calls Try.prog 8 #[v, .int .i64 ta, .int .i64 co, .int .i64 at'] W fun e w' => e = .returned (.bool true) ∧ Below W.heap.size W w' := by
  have HX := Lib.hid h
  have HL := Lib.hid H
  have HBt := Lib.hid hb
  have HBc := Lib.hid hc
  have HBa := Lib.hid hd
  clear h H hb hc hd
  go_enter Try.func8, Try.ntmps8
  go_wp2_with fail
  (with_reducible refine (sane_any W).mono ?_)
  rintro e w1 ⟨rfl, hb1⟩
  have HB1 := Lib.hid hb1
  have HX1 := Lib.hid (HX.out.below hb1)
  clear hb1
  go_wp2_with fail
  (with_reducible refine (lawLog_of HL.out HX1.out).mono ?_)
  rintro e w0 ⟨R, u, rfl, hrs, hch, hl30, hsm, hb0⟩
  have HRS := Lib.hid hrs
  have HCh := Lib.hid hch
  have HB0 := Lib.hid (bt HB1.out hb0)
  obtain ⟨ra, rn, rcap, rfl, hrn, hrest⟩ := hrs
  subst hrn
  clear hrest hch hsm hb0 HX1 HX
  go_wp2_with fail
  refine (at_any HRS.out HCh.out R.length (Nat.le_refl _)).mono ?_
  rintro e w2 ⟨b1, m1, rfl, hs1, ho1, hb2⟩
  obtain ⟨L, HLd⟩ : ∃ L, Hid (rowsOf (R.take R.length) = L) := ⟨_, Lib.hid rfl⟩
  rw [HLd.out] at hs1
  have HS2 := Lib.hid hs1
  have HB2 := Lib.hid (bt HB0.out hb2)
  have hL2 : L.length ≤ 2000 := hs1.good.2.2
  have HGood : Hid (Srt L ∧ ∀ r ∈ L, VRow r) := Lib.hid ⟨hs1.good.1, hs1.good.2.1⟩
  clear hs1 ho1 hb2 HRS HCh HLd
  have pr1 := pk_range ta (n := 4) (by omega)
  have pr2 := pk_range co (n := 4) (by omega)
  have pr3 := pk_range at' (n := 60) (by omega)
  obtain ⟨t, Ht⟩ : ∃ t, Hid (pk ta 4 = t) := ⟨_, Lib.hid rfl⟩
  obtain ⟨c, Hc⟩ : ∃ c, Hid (pk co 4 = c) := ⟨_, Lib.hid rfl⟩
  obtain ⟨q, Hq⟩ : ∃ q, Hid (pk at' 60 = q) := ⟨_, Lib.hid rfl⟩
  rw [Ht.out] at pr1
  rw [Hc.out] at pr2
  rw [Hq.out] at pr3
  have P1 : Hid (∀ w, Calls Try.prog 18 #[.int .i64 ta, .int .i64 4] w fun e w' => e = .returned (.int .i64 t) ∧ w = w') := Lib.hid (fun w => by rw [← Ht.out]; exact pick_any ta 4 w HBt.out (by omega) (by omega))
  have P2 : Hid (∀ w, Calls Try.prog 18 #[.int .i64 co, .int .i64 4] w fun e w' => e = .returned (.int .i64 c) ∧ w = w') := Lib.hid (fun w => by rw [← Hc.out]; exact pick_any co 4 w HBc.out (by omega) (by omega))
  have P3 : Hid (∀ w, Calls Try.prog 18 #[.int .i64 at', .int .i64 60] w fun e w' => e = .returned (.int .i64 q) ∧ w = w') := Lib.hid (fun w => by rw [← Hq.out]; exact pick_any at' 60 w HBa.out (by omega) (by omega))
  clear Ht Hc Hq
  go_wp2_with fail
  (with_reducible refine (P1.out _).mono ?_)
  rintro e wx ⟨rfl, rfl⟩
  go_wp2_with fail
  (with_reducible refine (P2.out _).mono ?_)
  rintro e wx ⟨rfl, rfl⟩
  go_wp2_with fail
  (with_reducible refine (P3.out _).mono ?_)
  rintro e wx ⟨rfl, rfl⟩
  clear P1 P2 P3
  obtain ⟨cut, Hcut⟩ : ∃ x, Hid (q - 30 = x) := ⟨_, Lib.hid rfl⟩
  have hcut : -30 ≤ cut ∧ cut ≤ 29 := by have := Hcut.out; omega
  go_wp2_with fail
  rw [Hcut.out]
  clear Hcut pr3
  refine (range_any HS2.out t c (-1000000000) cut (by omega) (by omega)).mono ?_
  rintro e w3 ⟨va, A, rfl, hoa, hsa, hb3⟩
  have HOa := Lib.hid hoa
  have HSa := Lib.hid hsa
  have HB3 := Lib.hid hb3
  clear hoa hsa hb3
  go_wp2_with fail
  refine (range_any (HS2.out.below HB3.out) t c (cut + 1) 1000000000 (by omega) (by omega)).mono ?_
  rintro e w4 ⟨vb, B, rfl, hob, hsb, hb4⟩
  have HOb := Lib.hid hob
  have HDiv := Lib.hid (div_of HGood.out.1 HGood.out.2 (t := t) (c := c) (cut := cut) (by omega) (by omega) (by omega) HSa.out hsb)
  have HB4 := Lib.hid (bt HB3.out hb4)
  have HOa4 := Lib.hid (HOa.out.below hb4)
  clear hob hsb hb4 HSa HOa
  have hAB : A.length + B.length ≤ 2000 := by
    rw [HDiv.out.len]
    exact Nat.le_trans (List.length_filter_le _ _) hL2
  have HXa := Lib.hid (fun w (k : Below w4.heap.size w4 w) => rowX_below HOa4.out k)
  have HXb := Lib.hid (fun w (k : Below w4.heap.size w4 w) => rowX_below HOb.out k)
  go_wp2_with (at_builtin; refine hold ?_)
  refine Lib.hid ?_
  refine wpList_append_rows rfl (.tmp 54) (.tmp 55) rfl w4.heap.size (.slice (some ⟨w4.heap.size, 0, none⟩) 0 0) va [] A rfl rfl ⟨rfl, .inr ⟨w4.heap.size, 0, #[], rfl, Nat.le_refl _, heap_alloc_new w4 _, Nat.le_refl _, by unfold maxLen; omega, rfl, rfl⟩⟩ (HXa.out _ (ba w4 _)) (by simp; omega) (ba w4 _).size ?_
  intro v5 w5 ho5 hg5
  have HO5 : Hid (OwnR w5 w4.heap.size v5 A) := Lib.hid (by simpa using ho5)
  have HB5 : Hid (Below w4.heap.size w4 w5) := Lib.hid ((ba w4 (.cells #[] 50)).grown hg5 (ba w4 _).size (fun k hk => by simp [Value.ownBlock] at hk; omega))
  clear ho5 hg5
  go_wp2_with (at_builtin; refine hold ?_)
  refine Lib.hid ?_
  refine wpList_append_rows rfl (.tmp 56) (.tmp 57) rfl w4.heap.size v5 vb A B rfl rfl HO5.out (HXb.out _ HB5.out) (by omega) HB5.out.size ?_
  intro v6 w6 ho6 hg6
  have HO6 := Lib.hid ho6
  have HB6 : Hid (Below w4.heap.size w4 w6) := Lib.hid (below_grow HB5.out HO5.out hg6)
  clear ho6 hg6 HO5 HB5 HXa HXb
  have HS6 := Lib.hid (HS2.out.below (bt HB4.out HB6.out))
  obtain ⟨ga, gn, gcap, rfl⟩ := own_form HO6.out
  obtain ⟨aa, an, acap, rfl⟩ := own_form HOa4.out
  have han : an = A.length := by
    obtain ⟨_, n', _, e, hn', _⟩ := HOa4.out.rowS
    simp at e
    omega
  subst han
  have hgn : gn = (A ++ B).length := by
    obtain ⟨_, n', _, e, hn', _⟩ := HO6.out.rowS
    simp at e
    omega
  subst hgn
  have hABl : (A ++ B).length ≤ 2000 := by rw [List.length_append]; exact hAB
  have hABl2 : A.length ≤ (A ++ B).length := by rw [List.length_append]; omega
  obtain ⟨AB, HAB⟩ : ∃ X, Hid (A ++ B = X) := ⟨_, Lib.hid rfl⟩
  rw [HAB.out] at HO6 hABl hABl2 ⊢
  go_wp2_with fail
  refine (rows_any HS6.out t).mono ?_
  rintro e w7 ⟨vr, M, rfl, hor, hsr, hb7⟩
  have hMe : M = L.filter (selT t) := sortOf_unique HGood.out.1 selT_t hsr (sortOf_filter HGood.out.1 t)
  have HR7 : Hid (RowS w7 vr (L.filter (selT t))) := Lib.hid (by rw [← hMe]; exact hor.rowS)
  have HB7 : Hid (Below w6.heap.size w6 w7) := Lib.hid hb7
  obtain ⟨ra', rn', rcap', rfl⟩ := own_form hor
  have hrn' : rn' = AB.length := by
    obtain ⟨_, n', _, e, hn', _⟩ := hor.rowS
    simp at e
    rw [e.2.1, hn', hMe, ← HDiv.out.len, ← HAB.out, List.length_append]
  subst hrn'
  clear hor hsr hb7 hMe
  have HCells : Hid (∀ wx, Below w7.heap.size w7 wx → ∀ g, ga = some ⟨g, 0, none⟩ → g < wx.heap.size ∧ ∀ i, i < AB.length → RwO wx g (i * 5) (AB.getD i rowZ)) := Lib.hid (fun wx hb g hg => by
    have ho := (HO6.out.below HB7.out).below hb
    rw [hg] at ho
    obtain ⟨_, h2, h3⟩ := own_cells ho
    exact ⟨h3, h2⟩)
  have HNn : Hid (1 ≤ AB.length → ∃ g, ga = some ⟨g, 0, none⟩) := Lib.hid (fun h1 => by
    rcases HO6.out.2 with ⟨_, h0⟩ | ⟨g', cap', cur, e, _⟩
    · omega
    · simp at e
      exact ⟨g', e.1⟩)
  have HV : Hid (∀ r w, Calls Try.prog 31 #[rowV r, .int .i64 c] w fun e w' => e = .returned (.int .i64 (vget r c)) ∧ Below w.heap.size w w') := Lib.hid (fun r w => by
    obtain ⟨rt, rk, ⟨ra, rb, rc⟩⟩ := r
    exact value_any rt rk ra rb rc c w (by omega) (by omega))
  go_wp2_with fail
  go_loopw [20] (fun s wx => ∃ i : Nat, i ≤ AB.length ∧ s = .int .i64 i ∧ Hid (Below w7.heap.size w7 wx)) (fun s _ => AB.length - (intOf s).toNat)
  case atStart => exact ⟨0, by omega, rfl, Lib.hid (Below.refl _ _)⟩
  case round =>
    obtain ⟨i, hi, rfl, HBi⟩ := hrel
    rename World => wi
    by_cases hlt : i < AB.length
    · obtain ⟨g, rfl⟩ := HNn.out (by omega)
      obtain ⟨hgi, hcs⟩ := HCells.out wi HBi.out g rfl
      have HRm := hcs i hlt
      obtain ⟨⟨rt, rk, ⟨ra, rb, rc⟩⟩, Hr⟩ : ∃ r, Hid (AB.getD i rowZ = r) := ⟨_, Lib.hid rfl⟩
      rw [Hr.out] at HRm
      obtain ⟨y0, y1, y2, y3, y4⟩ := HRm.cells
      simp only at y0 y1 y2 y3 y4
      have hii : (i : Int) < AB.length := by omega
      obtain ⟨z, Hz⟩ : ∃ z, Hid (vget ⟨rt, rk, ⟨ra, rb, rc⟩⟩ c = z) := ⟨_, Lib.hid rfl⟩
      have HV1 : Hid (∀ w, Calls Try.prog 31 #[rowV ⟨rt, rk, ⟨ra, rb, rc⟩⟩, .int .i64 c] w fun e w' => e = .returned (.int .i64 z) ∧ Below w.heap.size w w') := Lib.hid (fun w => by rw [← Hz.out]; exact HV.out _ w)
      clear HRm hcs
      go_wp2_with fail
      refine (HV1.out _).mono ?_
      rintro e wq ⟨rfl, hbq⟩
      have HBq := Lib.hid (bt HBi.out hbq)
      clear hbq y0 y1 y2 y3 y4
      have gx : (decide (z ≤ cut) == decide (i < A.length)) = true := by
        by_cases hia : i < A.length
        · have h1 := HDiv.out.small i hia
          rw [HAB.out, Hr.out, Hz.out] at h1
          rw [decide_eq_true hia, decide_eq_true h1]
          rfl
        · have h1 := HDiv.out.big i (by omega) (by rw [HAB.out]; exact hlt)
          rw [HAB.out, Hr.out, Hz.out] at h1
          rw [decide_eq_false hia, decide_eq_false (by omega)]
          rfl
      go_upto_region 21 with fail
      clear gx
      go_cut [124] (fun s wy => s = .bool false ∧ Hid (Below wq.heap.size wq wy))
      case first =>
        obtain ⟨hgq, HCq⟩ := HCells.out wq HBq.out g rfl
        have HCells' : Hid (∀ i, i < AB.length → RwO wq g (i * 5) (AB.getD i rowZ)) := Lib.hid HCq
        clear HCq
        by_cases hi0 : 0 < i
        · obtain ⟨x, rfl⟩ : ∃ x, i = x + 1 := ⟨i - 1, by omega⟩
          obtain ⟨⟨st, sk, ⟨sa', sb', sc'⟩⟩, Hs⟩ : ∃ r, Hid (AB.getD x rowZ = r) := ⟨_, Lib.hid rfl⟩
          have HPr := HCells'.out x (by omega)
          rw [Hs.out] at HPr
          have HCu := HCells'.out (x + 1) hlt
          rw [Hr.out] at HCu
          have HUp := Lib.hid ((HDiv.out.up x (by rw [HAB.out]; exact hlt)))
          rw [HAB.out, Hs.out, Hr.out] at HUp
          obtain ⟨zp, Hzp⟩ : ∃ zp, Hid (vget ⟨st, sk, ⟨sa', sb', sc'⟩⟩ c = zp) := ⟨_, Lib.hid rfl⟩
          rw [Hzp.out, Hz.out] at HUp
          have HV2 : Hid (∀ w, Calls Try.prog 31 #[rowV ⟨st, sk, ⟨sa', sb', sc'⟩⟩, .int .i64 c] w fun e w' => e = .returned (.int .i64 zp) ∧ Below w.heap.size w w') := Lib.hid (fun w => by rw [← Hzp.out]; exact HV.out _ w)
          have gr : ∀ (b o : Nat) (u : Value), b < wq.heap.size → wq.cell? ⟨b, o, none⟩ = some u → ∀ w0, BW wq w0 → ∀ d os, (grow (redrawn w0 d) os).cell? ⟨b, o, none⟩ = some u := fun b o u hb hc w0 h d os => by
            have k : Below wq.heap.size wq (grow (redrawn w0 d) os) := bt h (below_regrown w0 d os)
            rw [k.cell (p := ⟨b, o, none⟩) hb]
            exact hc
          obtain ⟨y0, y1, y2, y3, y4⟩ := HPr.cells
          simp only at y0 y1 y2 y3 y4
          obtain ⟨_, v1, _, _, _⟩ := HCu.cells
          simp only at v1
          have G0 := gr _ _ _ hgq y0
          have G1 := gr _ _ _ hgq y1
          have G2 := gr _ _ _ hgq y2
          have G3 := gr _ _ _ hgq y3
          have G4 := gr _ _ _ hgq y4
          have G5 := gr _ _ _ hgq v1
          have gg0 : decide ((0 : Int) < (x : Int) + 1) = true := decide_eq_true (by omega)
          have gw : IntKind.i64.wrap ((x : Int) + 1 - 1) = (x : Int) := by rw [IntKind.wrap_i64]; omega
          have hxi : (x : Int) < AB.length := by omega
          have hxi2 : (x : Int) + 1 < AB.length := by omega
          have glt : decide (z < zp) = false := decide_eq_false (by have := HUp.out; omega)
          clear gr HPr HCu y0 y1 y2 y3 y4 v1
          by_cases he : z = zp
          · have geq : (z == zp) = true := by simp [he]
            have gk : decide (rk ≤ sk) = false := decide_eq_false (by have := HUp.out; simp only at this; omega)
            clear he hi0
            refine wp_region_calm 37 38 [0, 1, 2, 3, 4, 5, 6, 7, 8, 9, 10, 11, 12, 13, 14, 15, 16, 17, 18, 19, 20, 21, 22, 23, 24, 25, 26, 27, 28, 29, 30, 31, 32, 33, 34, 35, 36] (by kernel_rfl) (by kernel_rfl) (by intro oz h; simp at h) (by intro oz h; simp at h) (by rfl) ?_
            simp only [List.take_succ_cons, List.take_zero]
            iterate 10
              apply wpCalm_want
              · rfl
              · exact bc_refl
              · exact ⟨_, Below.refl _ _⟩
              · intro w00 hC0 K hK
                go_big_quiet_op
                exact hK
            apply wpCalm_want
            · rfl
            · exact bc_refl
            · exact ⟨_, Below.refl _ _⟩
            · intro w00 hC0 K hK
              go_big_quiet_op
              apply Exists.intro
              refine ⟨fun p => ?_, ?_⟩
              · exact Calls.regrown_of (HV2.out _)
              · exact hK
            iterate 9
              apply wpCalm_want
              · rfl
              · exact bc_refl
              · exact ⟨_, Below.refl _ _⟩
              · intro w00 hC0 K hK
                go_big_quiet_op
                exact hK
            apply wpCalm_want
            · rfl
            · exact bc_refl
            · exact ⟨_, Below.refl _ _⟩
            · intro w00 hC0 K hK
              go_big_quiet_op
              apply Exists.intro
              refine ⟨fun p => ?_, ?_⟩
              · exact Calls.regrown_of (HV2.out _)
              · exact hK
            iterate 16
              apply wpCalm_want
              · rfl
              · exact bc_refl
              · exact ⟨_, Below.refl _ _⟩
              · intro w00 hC0 K hK
                go_big_quiet_op
                exact hK
            refine wpCalm_nil ?_
            intro wk hbk
            simp only [List.drop_succ_cons, List.drop_zero]
            have HBk := Lib.hid hbk
            clear hbk
            go_wp2_with fail
            go_meet
            exact ⟨rfl, HBk⟩
          · clear hi0
            refine wp_region_calm 37 38 [0, 1, 2, 3, 4, 5, 6, 7, 8, 9, 10, 11, 12, 13, 14, 15, 16, 17, 18, 19, 20, 21, 22, 23, 24, 25, 26, 27, 28, 29, 30, 31, 32, 33, 34, 35, 36] (by kernel_rfl) (by kernel_rfl) (by intro oz h; simp at h) (by intro oz h; simp at h) (by rfl) ?_
            simp only [List.take_succ_cons, List.take_zero]
            iterate 10
              apply wpCalm_want
              · rfl
              · exact bc_refl
              · exact ⟨_, Below.refl _ _⟩
              · intro w00 hC0 K hK
                go_big_quiet_op
                exact hK
            apply wpCalm_want
            · rfl
            · exact bc_refl
            · exact ⟨_, Below.refl _ _⟩
            · intro w00 hC0 K hK
              go_big_quiet_op
              apply Exists.intro
              refine ⟨fun p => ?_, ?_⟩
              · exact Calls.regrown_of (HV2.out _)
              · exact hK
            iterate 9
              apply wpCalm_want
              · rfl
              · exact bc_refl
              · exact ⟨_, Below.refl _ _⟩
              · intro w00 hC0 K hK
                go_big_quiet_op
                exact hK
            apply wpCalm_want
            · rfl
            · exact bc_refl
            · exact ⟨_, Below.refl _ _⟩
            · intro w00 hC0 K hK
              go_big_quiet_op
              apply Exists.intro
              refine ⟨fun p => ?_, ?_⟩
              · exact Calls.regrown_of (HV2.out _)
              · exact hK
            iterate 2
              apply wpCalm_want
              · rfl
              · exact bc_refl
              · exact ⟨_, Below.refl _ _⟩
              · intro w00 hC0 K hK
                go_big_quiet_op
                exact hK
            have geq : (z == zp) = false := beq_eq_false_iff_ne.2 he
            simp only [geq]
            clear geq
            refine wpCalm_skip (by rfl) ?_
            go_frame
            refine wpCalm_skip (by rfl) ?_
            go_frame
            refine wpCalm_skip (by rfl) ?_
            go_frame
            refine wpCalm_skip (by rfl) ?_
            go_frame
            refine wpCalm_skip (by rfl) ?_
            go_frame
            refine wpCalm_skip (by rfl) ?_
            go_frame
            refine wpCalm_skip (by rfl) ?_
            go_frame
            refine wpCalm_skip (by rfl) ?_
            go_frame
            refine wpCalm_skip (by rfl) ?_
            go_frame
            refine wpCalm_skip (by rfl) ?_
            go_frame
            refine wpCalm_skip (by rfl) ?_
            go_frame
            refine wpCalm_skip (by rfl) ?_
            go_frame
            iterate 2
              apply wpCalm_want
              · rfl
              · exact bc_refl
              · exact ⟨_, Below.refl _ _⟩
              · intro w00 hC0 K hK
                go_big_quiet_op
                exact hK
            refine wpCalm_nil ?_
            intro wk hbk
            simp only [List.drop_succ_cons, List.drop_zero]
            have HBk := Lib.hid hbk
            clear hbk
            go_wp2_with fail
            go_meet
            exact ⟨rfl, HBk⟩
        · obtain rfl : i = 0 := by omega
          clear hi0
          go_quiet (fail)
          have HBk := Lib.hid (below_drewN wq nq)
          go_wp2_with fail
          go_meet
          exact ⟨rfl, HBk⟩
      case rest =>
        obtain ⟨rfl, HBy⟩ := hcut
        rename World => wy
        have HBy2 := Lib.hid (bt HBq.out HBy.out)
        have HSy := Lib.hid ((HS6.out.below HB7.out).below HBy2.out)
        have HGt : Hid (look L t rk = some ⟨rt, rk, ⟨ra, rb, rc⟩⟩) := Lib.hid (by
          have := HDiv.out.get i (by rw [HAB.out]; exact hlt)
          rw [HAB.out, Hr.out] at this
          exact this)
        have HMem : Hid (1 ≤ rk ∧ rk ≤ 1000000) := Lib.hid (HGood.out.2 _ ((look_some HGood.out.1).1 HGt.out).1).2.1
        obtain ⟨hgy, HCy⟩ := HCells.out wy HBy2.out g rfl
        have HRm := HCy i hlt
        rw [Hr.out] at HRm
        obtain ⟨y0, y1, y2, y3, y4⟩ := HRm.cells
        simp only at y0 y1 y2 y3 y4
        have HGet := Lib.hid (get_any HSy.out (t := t) (k := rk) ⟨by omega, by omega⟩ ⟨by have := HMem.out; omega, by have := HMem.out; omega⟩)
        rw [HGt.out] at HGet
        simp only [Option.getD_some, Option.isSome_some] at HGet
        clear HRm HCy
        go_wp2_with fail
        (with_reducible refine HGet.out.mono ?_)
        rintro e wg ⟨rfl, hbg⟩
        have HBg := Lib.hid (bt HBy2.out hbg)
        obtain ⟨hgg, HCg⟩ := HCells.out wg HBg.out g rfl
        have HRm := HCg i hlt
        rw [Hr.out] at HRm
        clear y0 y1 y2 y3 y4
        obtain ⟨y0, y1, y2, y3, y4⟩ := HRm.cells
        simp only at y0 y1 y2 y3 y4
        have hgn : ¬ g = wg.heap.size := by omega
        have hq := fun w => neqRow_same rt rk ra rb rc w
        clear HRm HCg hbg
        unfold rowV
        go_wp2_with fail
        go_quiet (fail)
        have HBf := Lib.hid (bt HBg.out (bt (ba wg (.cells #[.int .i64 rt, .int .i64 rk, .int .i64 ra, .int .i64 rb, .int .i64 rc] 50)) (below_drewN _ nq)))
        go_wp2_with fail
        exact ⟨⟨i + 1, by omega, by go_num, HBf⟩, by simp [intOf]; omega⟩
    · obtain rfl : i = AB.length := by omega
      have HSi := Lib.hid ((HS6.out.below HB7.out).below HBi.out)
      have HRi := Lib.hid (HR7.out.below HBi.out)
      go_wp2_with fail
      refine (range_any HSi.out t 0 1 1000000 (by omega) (by omega)).mono ?_
      rintro e we ⟨vm, M2, rfl, hom, hsm, hbe⟩
      have hM2 := keys_all HGood.out.1 HGood.out.2 hsm
      subst hM2
      have HR2 := Lib.hid hom.rowS
      have HRe := Lib.hid (HRi.out.below hbe)
      have HBe := Lib.hid (bt HB2.out (bt HB4.out (bt HB6.out (bt HB7.out (bt HBi.out hbe)))))
      clear hom hsm hbe
      go_wp2_with fail
      refine (sameRows_any HR2.out HRe.out).mono ?_
      rintro e wf ⟨rfl, hbf⟩
      rw [decide_eq_true rfl]
      have HBff := Lib.hid (bt HBe.out hbf)
      clear hbf
      go_wp2_with fail
      go_ret
      exact ⟨rfl, HBff.out⟩
end Go.Proofs.Ytaapggeaoacikaa
