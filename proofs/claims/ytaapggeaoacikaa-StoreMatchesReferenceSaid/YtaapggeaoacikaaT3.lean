/- WALKS: StoreMatchesReference, given what Log does. -/
import Derived.Test.YtaapggeaoacikaaT3a
import Derived.Test.YtaapggeaoacikaaV1
import Derived.Deep.DeepCutAuto
import Derived.Deep.Cut
import Derived.Deep.RegionHeld3
set_option linter.unusedVariables false
set_option linter.unusedSimpArgs false
namespace Go.Proofs.Ytaapggeaoacikaa
open Go.RowKit Go.Sort Go.ChangeMaps Go.MapKept

theorem chS_take {w : World} {a : Option Addr} {n cap : Nat} {cs : List MCh} (h : ChS w (.slice a n cap) cs) (q : Nat) (hq : q ≤ n) : ChS w (.slice a q cap) (cs.take q) := by
  obtain ⟨a', n', cap', e, hn, h1, h2, h3⟩ := h
  simp at e
  obtain ⟨rfl, rfl, rfl⟩ := e
  refine ⟨a, q, cap, rfl, by simp; omega, by omega, h2, fun hh => ?_⟩
  obtain ⟨b, o, e1, hb, hc⟩ := h3 (by omega)
  refine ⟨b, o, e1, hb, fun i hi => ?_⟩
  have e : (cs.take q).getD i chZ = cs.getD i chZ := by
    rw [List.getD_eq_getElem?_getD, List.getD_eq_getElem?_getD, List.getElem?_take_of_lt hi]
  rw [e]
  exact hc i (by omega)

set_option maxRecDepth 100000 in
set_option maxHeartbeats 16000000 in
theorem storeMatches_of (H : LogWalked) {W : World} {v u : Value} {n : Nat} {RW : List MRec} (h : XS W v n) (hu : RecS W u RW) : Calls Try.prog 3 #[v, u] W fun e w' => e = .returned (.bool true) ∧ Below W.heap.size W w' := by
  have HX := Lib.hid h
  have HL := Lib.hid H
  have HU := Lib.hid hu
  obtain ⟨ua, un, ucap, rfl, hun, huc, hum, hucell⟩ := hu
  have HUn := Lib.hid hun
  clear h H hun hucell
  go_enter Try.func3, Try.ntmps3
  go_wp2_with fail
  (with_reducible refine (sane_any W).mono ?_)
  rintro e w1 ⟨rfl, hb1⟩
  have HB1 := Lib.hid hb1
  have HX1 := Lib.hid (HX.out.below hb1)
  clear hb1
  go_wp2_with fail
  (with_reducible refine (lawLog_of HL.out HX1.out).mono ?_)
  rintro e w0 ⟨R, lu, rfl, hrs, hch, hl30, hsm, hb0⟩
  have HRS := Lib.hid hrs
  have HB0 := Lib.hid (bt HB1.out hb0)
  have HU0 := Lib.hid (HU.out.below HB0.out)
  obtain ⟨ra, rn, rcap, rfl, hrn, hrc, hrm, hrest⟩ := hrs
  subst hrn
  clear hrest hch hsm hb0 HX1 HX HU HB1
  go_wp2_with fail
  (with_reducible refine (new_any w0).mono ?_)
  rintro e w2 ⟨rfl, hw2⟩
  have HS2 : Hid (StAt w2 w0.heap.size none [] 0) := Lib.hid (by rw [hw2]; exact stAt_new w0)
  have HB2 : Hid (Below w0.heap.size w0 w2) := Lib.hid (by rw [hw2]; exact ba w0 _)
  have hz2 : w2.heap.size = w0.heap.size + 1 := by rw [hw2]; simp
  clear hw2
  go_wp2_with fail
  (with_reducible refine (newR_any w2).mono ?_)
  rintro e w3 ⟨rfl, hw3⟩
  obtain ⟨b, Hb⟩ : ∃ b, Hid (w0.heap.size = b) := ⟨_, Lib.hid rfl⟩
  obtain ⟨b', Hb'⟩ : ∃ b', Hid (w2.heap.size = b') := ⟨_, Lib.hid rfl⟩
  have HM3 : Hid (Mix w0 w3 b none b' (.slice none 0 0) [] 0 [] 0) := Lib.hid (by
    rw [hw3, ← Hb.out, ← Hb'.out]
    refine ⟨HS2.out.below (ba w2 _), rfAt_new w2, fun i hf hr => ?_, ⟨fun i hf => ?_, fun i hr => ?_⟩, bt HB2.out (ba w2 _)⟩
    · rcases hf with e | e
      · rcases hr with e' | e'
        · omega
        · simp [Value.ownBlock] at e'
      · simp at e
    · rcases hf with e | e
      · omega
      · simp at e
    · rcases hr with e' | e'
      · omega
      · simp [Value.ownBlock] at e')
  rw [Hb.out, Hb'.out]
  clear hw3 hz2 HS2 HB2
  go_wp2_with fail
  go_loopw [9] (fun s wx => ∃ (k : Nat) (m : Option Nat) (v : Value) (L : List MRow) (p : Int), k ≤ 30 ∧ s = .int .i64 k ∧ Hid (Mix w0 wx b m b' v L p L p)) (fun s _ => 31 - (intOf s).toNat)
  case atStart => exact ⟨0, none, .slice none 0 0, [], 0, by omega, rfl, HM3⟩
  case round =>
    obtain ⟨k, m, v, L, p, hk, rfl, HM⟩ := hrel
    rename World => wk
    by_cases hkl : k < R.length
    · have hk31 : k + 1 ≤ 30 := by omega
      have Hk31 := Lib.hid hk31
      clear hk31 hk
      by_cases hkr : k < un ∧ k < 10
      · have hkr1 := hkr.1
        have hkr2 : (k : Int) < 10 := by omega
        clear hkr
        obtain ⟨_, _, _, eu, -, -, -, hcu⟩ := HU0.out
        simp at eu
        obtain ⟨rfl, rfl, rfl⟩ := eu
        obtain ⟨rb, ro, rfl, hrb, hru⟩ := hcu (by omega)
        have hRk := hru k (by omega)
        obtain ⟨⟨pos, cs⟩, Hr⟩ : ∃ r, Hid (RW.getD k recZ = r) := ⟨_, Lib.hid rfl⟩
        rw [Hr.out] at hRk
        obtain ⟨h0, sv, h1, hcs⟩ := hRk
        have HCS := Lib.hid hcs
        obtain ⟨ya, yn, ycap, rfl, hyn, hyc, hym, _⟩ := hcs
        have hsz := HM.out.2.2.2.2.size
        have c0 := (HM.out.2.2.2.2.cell (p := ⟨rb, ro + k * 2, none⟩) hrb).trans h0
        have c1 := (HM.out.2.2.2.2.cell (p := ⟨rb, ro + k * 2 + 1, none⟩) hrb).trans h1
        have hrbk : rb < wk.heap.size := by omega
        have hrbn : ¬ rb = wk.heap.size := by omega
        obtain ⟨q, hq1, hq2, hmin⟩ : ∃ q : Nat, q ≤ yn ∧ q ≤ 10 ∧ min (yn : Int) 10 = q := ⟨min yn 10, by omega, by omega, by omega⟩
        have hqc : q ≤ ycap := by omega
        have HCQ : Hid (ChS w0 (.slice ya q ycap) (cs.take q)) := Lib.hid (chS_take HCS.out q hq1)
        clear hcu hru h0 h1 hyn HCS Hr hsz
        go_upto_region 10 with fail
        generalize hw5 : wk.alloc (.cells #[.int .i64 pos, .slice ya yn ycap] 32) = w5
        have HQ5 := Lib.hid (QY.new HM.out #[.int .i64 pos, .slice ya yn ycap] 32)
        rw [hw5] at HQ5
        obtain ⟨yb, Hyb⟩ : ∃ yb, Hid (wk.heap.size = yb) := ⟨_, Lib.hid rfl⟩
        have hyb0 : w0.heap.size ≤ yb := by rw [← Hyb.out]; exact HM.out.2.2.2.2.size
        rw [Hyb.out] at HQ5 ⊢
        clear hw5 c0 c1 hrbk hrbn
        have e1 := HQ5.out.cells.2
        have f1 := HQ5.out.frozen 1
        go_upto_region 11 with fail
        generalize hw6 : w5.setCell ⟨yb, 1, none⟩ (.slice ya q ycap) = w6
        have HQ6 := Lib.hid (HQ5.out.set (j := 1) (x := .slice ya q ycap) hyb0 (two_setCell1 HQ5.out.blk))
        rw [hw6] at HQ6
        clear hw6 e1 f1 hmin hqc hq1 hq2
        obtain ⟨cc, L', p', hres⟩ := res_some L p pos (cs.take q)
        have HRes := Lib.hid hres
        have HQd := Lib.hid (HQ6.out.below (below_drew w6))
        have HA := Lib.hid (q15 HQd.out HCQ.out HRes.out)
        have HBc : Hid (∀ w', QY w0 b b' yb (.cells #[.int .i64 pos, .slice ya q ycap] 32 (0, 0)) L' p' L p w' → _) := Lib.hid (fun w' h => q16 (w := w') h HCQ.out HRes.out)
        have HCc : Hid (∀ w', QY w0 b b' yb (.cells #[.int .i64 pos, .slice ya q ycap] 32 (0, 0)) L' p' L' p' w' → _) := Lib.hid (fun w' h => q17 (w := w') h)
        clear hres
        go_region_held3 (fun w' => w'.cell? ⟨yb, 0, none⟩ = some (.int .i64 pos) ∧ w'.cell? ⟨yb, 1, none⟩ = some (.slice ya q ycap))
          (first | exact HQd.out.cells | exact hq7.out.cells | exact hq8.out.cells | exact hq9.out.cells)
          (first | (go_at_call 15; (with_reducible refine HA.out.mono ?_); rintro e w7 ⟨rfl, hq7'⟩; have hq7 := Lib.hid hq7'; clear hq7') | (go_at_call 16; (with_reducible refine (HBc.out _ hq7.out).mono ?_); rintro e w8 ⟨rfl, hq8'⟩; have hq8 := Lib.hid hq8'; clear hq8') | (go_at_call 17; (with_reducible refine (HCc.out _ hq8.out).mono ?_); rintro e w9 ⟨rfl, hq9'⟩; have hq9 := Lib.hid hq9'; clear hq9'))
        obtain ⟨m4, v4, hM4, _, _, _⟩ := hq9.out
        have HM4 := Lib.hid hM4
        have hp4 := hM4.2.1.pos
        have x1 := hM4.2.1.cells.2.1
        have y0 := hq9.out.cells.1
        have g0 := hq9.out.frozen 0
        have hwr : IntKind.i64.wrap (p' + 1) = p' + 1 := by rw [IntKind.wrap_i64]; omega
        clear hM4 hq7 hq8 HA HBc HCc HQd HQ6 HQ5
        go_upto_region 14 with fail
        generalize hw10 : w9.setCell ⟨yb, 0, none⟩ (.int .i64 (p' + 1)) = w10
        have HQ10 := Lib.hid (hq9.out.set (j := 0) (x := .int .i64 (p' + 1)) hyb0 (two_setCell0 hq9.out.blk))
        rw [hw10] at HQ10
        clear hw10 x1 y0 g0 hwr hq9 hp4 HM4
        obtain ⟨c2, L2, p2, hres2⟩ := res_some L' p' (p' + 1) (cs.take q)
        have HRes2 := Lib.hid hres2
        have HQe := Lib.hid (HQ10.out.below (below_drew w10))
        have HA := Lib.hid (q15 HQe.out HCQ.out HRes2.out)
        have HBc : Hid (∀ w', QY w0 b b' yb (.cells #[.int .i64 (p' + 1), .slice ya q ycap] 32 (0, 0)) L2 p2 L' p' w' → _) := Lib.hid (fun w' h => q16 (w := w') h HCQ.out HRes2.out)
        have HCc : Hid (∀ w', QY w0 b b' yb (.cells #[.int .i64 (p' + 1), .slice ya q ycap] 32 (0, 0)) L2 p2 L2 p2 w' → _) := Lib.hid (fun w' h => q17 (w := w') h)
        clear hres2
        go_region_held3 (fun w' => w'.cell? ⟨yb, 0, none⟩ = some (.int .i64 (p' + 1)) ∧ w'.cell? ⟨yb, 1, none⟩ = some (.slice ya q ycap))
          (first | exact HQe.out.cells | exact hq7.out.cells | exact hq8.out.cells | exact hq9.out.cells)
          (first | (go_at_call 15; (with_reducible refine HA.out.mono ?_); rintro e w11 ⟨rfl, hq7'⟩; have hq7 := Lib.hid hq7'; clear hq7') | (go_at_call 16; (with_reducible refine (HBc.out _ hq7.out).mono ?_); rintro e w12 ⟨rfl, hq8'⟩; have hq8 := Lib.hid hq8'; clear hq8') | (go_at_call 17; (with_reducible refine (HCc.out _ hq8.out).mono ?_); rintro e w13 ⟨rfl, hq9'⟩; have hq9 := Lib.hid hq9'; clear hq9'))
        obtain ⟨mf, vf, hMf, _, _, _⟩ := hq9.out
        have HMf := Lib.hid hMf
        clear hMf hq7 hq8 hq9 HA HBc HCc HQe HQ10
        obtain ⟨Lf, HLf⟩ : ∃ x, Hid (L2 = x) := ⟨_, Lib.hid rfl⟩
        obtain ⟨pf, Hpf⟩ : ∃ x, Hid (p2 = x) := ⟨_, Lib.hid rfl⟩
        rw [HLf.out, Hpf.out] at HMf
        obtain ⟨wf, Hwf⟩ : ∃ x, x = w13 := ⟨_, rfl⟩
        subst Hwf
        obtain ⟨_, ln, _, el, -, -, -, hcl⟩ := HRS.out
        simp at el
        obtain ⟨rfl, hnl, rfl⟩ := el
        obtain ⟨lb, lo, rfl, hlb, hrl⟩ := hcl (by omega)
        have hRl := hrl k (by omega)
        obtain ⟨⟨lpos, lcs⟩, Hlr⟩ : ∃ r, Hid (R.getD k recZ = r) := ⟨_, Lib.hid rfl⟩
        rw [Hlr.out] at hRl
        obtain ⟨l0, lsv, l1, hlcs⟩ := hRl
        have HLCS := Lib.hid hlcs
        obtain ⟨za, zn, zcap, rfl, -, -, -, -⟩ := hlcs
        have HKl : Hid (∀ w', Below w0.heap.size w0 w' → w'.cell? ⟨lb, lo + k * 2, none⟩ = some (.int .i64 lpos) ∧ w'.cell? ⟨lb, lo + k * 2 + 1, none⟩ = some (.slice za zn zcap)) := Lib.hid (fun w' h => ⟨(h.cell (p := ⟨lb, lo + k * 2, none⟩) hlb).trans l0, (h.cell (p := ⟨lb, lo + k * 2 + 1, none⟩) hlb).trans l1⟩)
        clear hcl hrl l0 l1 Hlr hnl
        go_upto_region 16 with fail
        have HQl : Hid (∃ o, QY w0 b b' lb o Lf pf Lf pf wf.drew) := Lib.hid (by
          have hsz := HMf.out.2.2.2.2.size
          have hlt : lb < wf.heap.size := by omega
          exact ⟨_, (show QY w0 b b' lb _ Lf pf Lf pf wf from ⟨mf, vf, HMf.out, Array.getElem?_eq_getElem hlt, fun hf => by have := HMf.out.2.2.2.1.1 _ hf; omega, fun hf => by have := HMf.out.2.2.2.1.2 _ hf; omega⟩).below (below_drew wf)⟩)
        obtain ⟨lobj, hQl⟩ := HQl.out
        have HQe := Lib.hid hQl
        obtain ⟨c3, L3, p3, hres3⟩ := res_some Lf pf lpos lcs
        have HRes3 := Lib.hid hres3
        have HA := Lib.hid (q15 HQe.out HLCS.out HRes3.out)
        have HBc : Hid (∀ w', QY w0 b b' lb lobj L3 p3 Lf pf w' → _) := Lib.hid (fun w' h => q16 (w := w') h HLCS.out HRes3.out)
        have HCc : Hid (∀ w', QY w0 b b' lb lobj L3 p3 L3 p3 w' → _) := Lib.hid (fun w' h => q17 (w := w') h)
        clear hres3 hQl HQl
        have i0 : (0 : Int) ≤ k := by omega
        have i1 : (k : Int) ≤ R.length := by omega
        have i2 : (k : Int) < R.length := by omega
        go_region_held3 (fun w' => w'.cell? ⟨lb, lo + k * 2, none⟩ = some (.int .i64 lpos) ∧ w'.cell? ⟨lb, lo + k * 2 + 1, none⟩ = some (.slice za zn zcap))
          (first | exact HKl.out _ HQe.out.old | exact HKl.out _ hq7.out.old | exact HKl.out _ hq8.out.old | exact HKl.out _ hq9.out.old)
          (first | (go_at_call 15; (with_reducible refine HA.out.mono ?_); rintro e w15 ⟨rfl, hq7'⟩; have hq7 := Lib.hid hq7'; clear hq7') | (go_at_call 16; (with_reducible refine (HBc.out _ hq7.out).mono ?_); rintro e w16 ⟨rfl, hq8'⟩; have hq8 := Lib.hid hq8'; clear hq8') | (go_at_call 17; (with_reducible refine (HCc.out _ hq8.out).mono ?_); rintro e w17 ⟨rfl, hq9'⟩; have hq9 := Lib.hid hq9'; clear hq9'))
        obtain ⟨mg, vg, hMg, _, _, _⟩ := hq9.out
        have HMg := Lib.hid hMg
        clear hMg hq7 hq8 hq9 HA HBc HCc HQe i0 i1 i2
        go_wp2_with fail
        exact ⟨⟨k + 1, mg, vg, L3, p3, Hk31.out, by go_num, HMg⟩, by simp [intOf]; omega⟩
      · by_cases hk1 : k < un
        · have hk2 : ¬ (k : Int) < 10 := by omega
          clear hkr
          obtain ⟨mf, Hm0⟩ : ∃ x, x = m := ⟨_, rfl⟩
          subst Hm0
          obtain ⟨vf, Hv0⟩ : ∃ x, x = v := ⟨_, rfl⟩
          subst Hv0
          obtain ⟨Lf, HL0⟩ : ∃ x, x = L := ⟨_, rfl⟩
          subst HL0
          obtain ⟨pf, Hp0⟩ : ∃ x, x = p := ⟨_, rfl⟩
          subst Hp0
          obtain ⟨wf, Hwf⟩ : ∃ x, x = wk := ⟨_, rfl⟩
          subst Hwf
          have HMf := HM
          obtain ⟨_, ln, _, el, -, -, -, hcl⟩ := HRS.out
          simp at el
          obtain ⟨rfl, hnl, rfl⟩ := el
          obtain ⟨lb, lo, rfl, hlb, hrl⟩ := hcl (by omega)
          have hRl := hrl k (by omega)
          obtain ⟨⟨lpos, lcs⟩, Hlr⟩ : ∃ r, Hid (R.getD k recZ = r) := ⟨_, Lib.hid rfl⟩
          rw [Hlr.out] at hRl
          obtain ⟨l0, lsv, l1, hlcs⟩ := hRl
          have HLCS := Lib.hid hlcs
          obtain ⟨za, zn, zcap, rfl, -, -, -, -⟩ := hlcs
          have HKl : Hid (∀ w', Below w0.heap.size w0 w' → w'.cell? ⟨lb, lo + k * 2, none⟩ = some (.int .i64 lpos) ∧ w'.cell? ⟨lb, lo + k * 2 + 1, none⟩ = some (.slice za zn zcap)) := Lib.hid (fun w' h => ⟨(h.cell (p := ⟨lb, lo + k * 2, none⟩) hlb).trans l0, (h.cell (p := ⟨lb, lo + k * 2 + 1, none⟩) hlb).trans l1⟩)
          clear hcl hrl l0 l1 Hlr hnl
          go_upto_region 16 with fail
          have HQl : Hid (∃ o, QY w0 b b' lb o Lf pf Lf pf wf.drew) := Lib.hid (by
            have hsz := HMf.out.2.2.2.2.size
            have hlt : lb < wf.heap.size := by omega
            exact ⟨_, (show QY w0 b b' lb _ Lf pf Lf pf wf from ⟨mf, vf, HMf.out, Array.getElem?_eq_getElem hlt, fun hf => by have := HMf.out.2.2.2.1.1 _ hf; omega, fun hf => by have := HMf.out.2.2.2.1.2 _ hf; omega⟩).below (below_drew wf)⟩)
          obtain ⟨lobj, hQl⟩ := HQl.out
          have HQe := Lib.hid hQl
          obtain ⟨c3, L3, p3, hres3⟩ := res_some Lf pf lpos lcs
          have HRes3 := Lib.hid hres3
          have HA := Lib.hid (q15 HQe.out HLCS.out HRes3.out)
          have HBc : Hid (∀ w', QY w0 b b' lb lobj L3 p3 Lf pf w' → _) := Lib.hid (fun w' h => q16 (w := w') h HLCS.out HRes3.out)
          have HCc : Hid (∀ w', QY w0 b b' lb lobj L3 p3 L3 p3 w' → _) := Lib.hid (fun w' h => q17 (w := w') h)
          clear hres3 hQl HQl
          have i0 : (0 : Int) ≤ k := by omega
          have i1 : (k : Int) ≤ R.length := by omega
          have i2 : (k : Int) < R.length := by omega
          go_region_held3 (fun w' => w'.cell? ⟨lb, lo + k * 2, none⟩ = some (.int .i64 lpos) ∧ w'.cell? ⟨lb, lo + k * 2 + 1, none⟩ = some (.slice za zn zcap))
            (first | exact HKl.out _ HQe.out.old | exact HKl.out _ hq7.out.old | exact HKl.out _ hq8.out.old | exact HKl.out _ hq9.out.old)
            (first | (go_at_call 15; (with_reducible refine HA.out.mono ?_); rintro e w15 ⟨rfl, hq7'⟩; have hq7 := Lib.hid hq7'; clear hq7') | (go_at_call 16; (with_reducible refine (HBc.out _ hq7.out).mono ?_); rintro e w16 ⟨rfl, hq8'⟩; have hq8 := Lib.hid hq8'; clear hq8') | (go_at_call 17; (with_reducible refine (HCc.out _ hq8.out).mono ?_); rintro e w17 ⟨rfl, hq9'⟩; have hq9 := Lib.hid hq9'; clear hq9'))
          obtain ⟨mg, vg, hMg, _, _, _⟩ := hq9.out
          have HMg := Lib.hid hMg
          clear hMg hq7 hq8 hq9 HA HBc HCc HQe i0 i1 i2
          go_wp2_with fail
          exact ⟨⟨k + 1, mg, vg, L3, p3, Hk31.out, by go_num, HMg⟩, by simp [intOf]; omega⟩
        · clear hkr
          obtain ⟨mf, Hm0⟩ : ∃ x, x = m := ⟨_, rfl⟩
          subst Hm0
          obtain ⟨vf, Hv0⟩ : ∃ x, x = v := ⟨_, rfl⟩
          subst Hv0
          obtain ⟨Lf, HL0⟩ : ∃ x, x = L := ⟨_, rfl⟩
          subst HL0
          obtain ⟨pf, Hp0⟩ : ∃ x, x = p := ⟨_, rfl⟩
          subst Hp0
          obtain ⟨wf, Hwf⟩ : ∃ x, x = wk := ⟨_, rfl⟩
          subst Hwf
          have HMf := HM
          obtain ⟨_, ln, _, el, -, -, -, hcl⟩ := HRS.out
          simp at el
          obtain ⟨rfl, hnl, rfl⟩ := el
          obtain ⟨lb, lo, rfl, hlb, hrl⟩ := hcl (by omega)
          have hRl := hrl k (by omega)
          obtain ⟨⟨lpos, lcs⟩, Hlr⟩ : ∃ r, Hid (R.getD k recZ = r) := ⟨_, Lib.hid rfl⟩
          rw [Hlr.out] at hRl
          obtain ⟨l0, lsv, l1, hlcs⟩ := hRl
          have HLCS := Lib.hid hlcs
          obtain ⟨za, zn, zcap, rfl, -, -, -, -⟩ := hlcs
          have HKl : Hid (∀ w', Below w0.heap.size w0 w' → w'.cell? ⟨lb, lo + k * 2, none⟩ = some (.int .i64 lpos) ∧ w'.cell? ⟨lb, lo + k * 2 + 1, none⟩ = some (.slice za zn zcap)) := Lib.hid (fun w' h => ⟨(h.cell (p := ⟨lb, lo + k * 2, none⟩) hlb).trans l0, (h.cell (p := ⟨lb, lo + k * 2 + 1, none⟩) hlb).trans l1⟩)
          clear hcl hrl l0 l1 Hlr hnl
          go_upto_region 16 with fail
          have HQl : Hid (∃ o, QY w0 b b' lb o Lf pf Lf pf wf.drew) := Lib.hid (by
            have hsz := HMf.out.2.2.2.2.size
            have hlt : lb < wf.heap.size := by omega
            exact ⟨_, (show QY w0 b b' lb _ Lf pf Lf pf wf from ⟨mf, vf, HMf.out, Array.getElem?_eq_getElem hlt, fun hf => by have := HMf.out.2.2.2.1.1 _ hf; omega, fun hf => by have := HMf.out.2.2.2.1.2 _ hf; omega⟩).below (below_drew wf)⟩)
          obtain ⟨lobj, hQl⟩ := HQl.out
          have HQe := Lib.hid hQl
          obtain ⟨c3, L3, p3, hres3⟩ := res_some Lf pf lpos lcs
          have HRes3 := Lib.hid hres3
          have HA := Lib.hid (q15 HQe.out HLCS.out HRes3.out)
          have HBc : Hid (∀ w', QY w0 b b' lb lobj L3 p3 Lf pf w' → _) := Lib.hid (fun w' h => q16 (w := w') h HLCS.out HRes3.out)
          have HCc : Hid (∀ w', QY w0 b b' lb lobj L3 p3 L3 p3 w' → _) := Lib.hid (fun w' h => q17 (w := w') h)
          clear hres3 hQl HQl
          have i0 : (0 : Int) ≤ k := by omega
          have i1 : (k : Int) ≤ R.length := by omega
          have i2 : (k : Int) < R.length := by omega
          go_region_held3 (fun w' => w'.cell? ⟨lb, lo + k * 2, none⟩ = some (.int .i64 lpos) ∧ w'.cell? ⟨lb, lo + k * 2 + 1, none⟩ = some (.slice za zn zcap))
            (first | exact HKl.out _ HQe.out.old | exact HKl.out _ hq7.out.old | exact HKl.out _ hq8.out.old | exact HKl.out _ hq9.out.old)
            (first | (go_at_call 15; (with_reducible refine HA.out.mono ?_); rintro e w15 ⟨rfl, hq7'⟩; have hq7 := Lib.hid hq7'; clear hq7') | (go_at_call 16; (with_reducible refine (HBc.out _ hq7.out).mono ?_); rintro e w16 ⟨rfl, hq8'⟩; have hq8 := Lib.hid hq8'; clear hq8') | (go_at_call 17; (with_reducible refine (HCc.out _ hq8.out).mono ?_); rintro e w17 ⟨rfl, hq9'⟩; have hq9 := Lib.hid hq9'; clear hq9'))
          obtain ⟨mg, vg, hMg, _, _, _⟩ := hq9.out
          have HMg := Lib.hid hMg
          clear hMg hq7 hq8 hq9 HA HBc HCc HQe i0 i1 i2
          go_wp2_with fail
          exact ⟨⟨k + 1, mg, vg, L3, p3, Hk31.out, by go_num, HMg⟩, by simp [intOf]; omega⟩
    · by_cases hkr : k < un ∧ k < 10
      · have hk31 : k + 1 ≤ 30 := by omega
        have Hk31 := Lib.hid hk31
        clear hk31 hk
        have hkr1 := hkr.1
        have hkr2 : (k : Int) < 10 := by omega
        clear hkr
        obtain ⟨_, _, _, eu, -, -, -, hcu⟩ := HU0.out
        simp at eu
        obtain ⟨rfl, rfl, rfl⟩ := eu
        obtain ⟨rb, ro, rfl, hrb, hru⟩ := hcu (by omega)
        have hRk := hru k (by omega)
        obtain ⟨⟨pos, cs⟩, Hr⟩ : ∃ r, Hid (RW.getD k recZ = r) := ⟨_, Lib.hid rfl⟩
        rw [Hr.out] at hRk
        obtain ⟨h0, sv, h1, hcs⟩ := hRk
        have HCS := Lib.hid hcs
        obtain ⟨ya, yn, ycap, rfl, hyn, hyc, hym, _⟩ := hcs
        have hsz := HM.out.2.2.2.2.size
        have c0 := (HM.out.2.2.2.2.cell (p := ⟨rb, ro + k * 2, none⟩) hrb).trans h0
        have c1 := (HM.out.2.2.2.2.cell (p := ⟨rb, ro + k * 2 + 1, none⟩) hrb).trans h1
        have hrbk : rb < wk.heap.size := by omega
        have hrbn : ¬ rb = wk.heap.size := by omega
        obtain ⟨q, hq1, hq2, hmin⟩ : ∃ q : Nat, q ≤ yn ∧ q ≤ 10 ∧ min (yn : Int) 10 = q := ⟨min yn 10, by omega, by omega, by omega⟩
        have hqc : q ≤ ycap := by omega
        have HCQ : Hid (ChS w0 (.slice ya q ycap) (cs.take q)) := Lib.hid (chS_take HCS.out q hq1)
        clear hcu hru h0 h1 hyn HCS Hr hsz
        go_upto_region 10 with fail
        generalize hw5 : wk.alloc (.cells #[.int .i64 pos, .slice ya yn ycap] 32) = w5
        have HQ5 := Lib.hid (QY.new HM.out #[.int .i64 pos, .slice ya yn ycap] 32)
        rw [hw5] at HQ5
        obtain ⟨yb, Hyb⟩ : ∃ yb, Hid (wk.heap.size = yb) := ⟨_, Lib.hid rfl⟩
        have hyb0 : w0.heap.size ≤ yb := by rw [← Hyb.out]; exact HM.out.2.2.2.2.size
        rw [Hyb.out] at HQ5 ⊢
        clear hw5 c0 c1 hrbk hrbn
        have e1 := HQ5.out.cells.2
        have f1 := HQ5.out.frozen 1
        go_upto_region 11 with fail
        generalize hw6 : w5.setCell ⟨yb, 1, none⟩ (.slice ya q ycap) = w6
        have HQ6 := Lib.hid (HQ5.out.set (j := 1) (x := .slice ya q ycap) hyb0 (two_setCell1 HQ5.out.blk))
        rw [hw6] at HQ6
        clear hw6 e1 f1 hmin hqc hq1 hq2
        obtain ⟨cc, L', p', hres⟩ := res_some L p pos (cs.take q)
        have HRes := Lib.hid hres
        have HQd := Lib.hid (HQ6.out.below (below_drew w6))
        have HA := Lib.hid (q15 HQd.out HCQ.out HRes.out)
        have HBc : Hid (∀ w', QY w0 b b' yb (.cells #[.int .i64 pos, .slice ya q ycap] 32 (0, 0)) L' p' L p w' → _) := Lib.hid (fun w' h => q16 (w := w') h HCQ.out HRes.out)
        have HCc : Hid (∀ w', QY w0 b b' yb (.cells #[.int .i64 pos, .slice ya q ycap] 32 (0, 0)) L' p' L' p' w' → _) := Lib.hid (fun w' h => q17 (w := w') h)
        clear hres
        go_region_held3 (fun w' => w'.cell? ⟨yb, 0, none⟩ = some (.int .i64 pos) ∧ w'.cell? ⟨yb, 1, none⟩ = some (.slice ya q ycap))
          (first | exact HQd.out.cells | exact hq7.out.cells | exact hq8.out.cells | exact hq9.out.cells)
          (first | (go_at_call 15; (with_reducible refine HA.out.mono ?_); rintro e w7 ⟨rfl, hq7'⟩; have hq7 := Lib.hid hq7'; clear hq7') | (go_at_call 16; (with_reducible refine (HBc.out _ hq7.out).mono ?_); rintro e w8 ⟨rfl, hq8'⟩; have hq8 := Lib.hid hq8'; clear hq8') | (go_at_call 17; (with_reducible refine (HCc.out _ hq8.out).mono ?_); rintro e w9 ⟨rfl, hq9'⟩; have hq9 := Lib.hid hq9'; clear hq9'))
        obtain ⟨m4, v4, hM4, _, _, _⟩ := hq9.out
        have HM4 := Lib.hid hM4
        have hp4 := hM4.2.1.pos
        have x1 := hM4.2.1.cells.2.1
        have y0 := hq9.out.cells.1
        have g0 := hq9.out.frozen 0
        have hwr : IntKind.i64.wrap (p' + 1) = p' + 1 := by rw [IntKind.wrap_i64]; omega
        clear hM4 hq7 hq8 HA HBc HCc HQd HQ6 HQ5
        go_upto_region 14 with fail
        generalize hw10 : w9.setCell ⟨yb, 0, none⟩ (.int .i64 (p' + 1)) = w10
        have HQ10 := Lib.hid (hq9.out.set (j := 0) (x := .int .i64 (p' + 1)) hyb0 (two_setCell0 hq9.out.blk))
        rw [hw10] at HQ10
        clear hw10 x1 y0 g0 hwr hq9 hp4 HM4
        obtain ⟨c2, L2, p2, hres2⟩ := res_some L' p' (p' + 1) (cs.take q)
        have HRes2 := Lib.hid hres2
        have HQe := Lib.hid (HQ10.out.below (below_drew w10))
        have HA := Lib.hid (q15 HQe.out HCQ.out HRes2.out)
        have HBc : Hid (∀ w', QY w0 b b' yb (.cells #[.int .i64 (p' + 1), .slice ya q ycap] 32 (0, 0)) L2 p2 L' p' w' → _) := Lib.hid (fun w' h => q16 (w := w') h HCQ.out HRes2.out)
        have HCc : Hid (∀ w', QY w0 b b' yb (.cells #[.int .i64 (p' + 1), .slice ya q ycap] 32 (0, 0)) L2 p2 L2 p2 w' → _) := Lib.hid (fun w' h => q17 (w := w') h)
        clear hres2
        go_region_held3 (fun w' => w'.cell? ⟨yb, 0, none⟩ = some (.int .i64 (p' + 1)) ∧ w'.cell? ⟨yb, 1, none⟩ = some (.slice ya q ycap))
          (first | exact HQe.out.cells | exact hq7.out.cells | exact hq8.out.cells | exact hq9.out.cells)
          (first | (go_at_call 15; (with_reducible refine HA.out.mono ?_); rintro e w11 ⟨rfl, hq7'⟩; have hq7 := Lib.hid hq7'; clear hq7') | (go_at_call 16; (with_reducible refine (HBc.out _ hq7.out).mono ?_); rintro e w12 ⟨rfl, hq8'⟩; have hq8 := Lib.hid hq8'; clear hq8') | (go_at_call 17; (with_reducible refine (HCc.out _ hq8.out).mono ?_); rintro e w13 ⟨rfl, hq9'⟩; have hq9 := Lib.hid hq9'; clear hq9'))
        obtain ⟨mf, vf, hMf, _, _, _⟩ := hq9.out
        have HMf := Lib.hid hMf
        clear hMf hq7 hq8 hq9 HA HBc HCc HQe HQ10
        obtain ⟨Lf, HLf⟩ : ∃ x, Hid (L2 = x) := ⟨_, Lib.hid rfl⟩
        obtain ⟨pf, Hpf⟩ : ∃ x, Hid (p2 = x) := ⟨_, Lib.hid rfl⟩
        rw [HLf.out, Hpf.out] at HMf
        obtain ⟨wf, Hwf⟩ : ∃ x, x = w13 := ⟨_, rfl⟩
        subst Hwf
        go_upto_region 16 with fail
        have HMd := Lib.hid (HMf.out.below (below_drewN wf 1))
        go_quiet (fail)
        have HMg := Lib.hid (HMf.out.below (below_drewN wf nq))
        go_wp2_with fail
        exact ⟨⟨k + 1, mf, vf, Lf, pf, Hk31.out, by go_num, HMg⟩, by simp [intOf]; omega⟩
      · have HBf := Lib.hid (bt HB0.out HM.out.2.2.2.2)
        by_cases hk1 : k < un
        · have hk2 : ¬ (k : Int) < 10 := by omega
          clear hkr
          go_wp2_with fail
          go_ret
          exact ⟨rfl, HBf.out⟩
        · clear hkr
          go_wp2_with fail
          go_ret
          exact ⟨rfl, HBf.out⟩
end Go.Proofs.Ytaapggeaoacikaa
