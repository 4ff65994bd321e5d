/- WALKS: RowDecodedAgain. -/
import Derived.Test.YtgkdliocfnoffaaDoorB1
set_option linter.unusedVariables false
namespace Go.Proofs.YtgkdliocfnoffaaDoor
open Go.RowKit Go.Sort

theorem recS_ok (p : Int) (v : Value) (L : List MCh) (W : World) (h : VRec p L) (hv : ChS W v L) : Calls Tryd.prog 29 #[.agg #[.int .i64 p, v]] W fun e w' => e = .returned (.tuple #[.string (encRecS p L), .int .i64 0]) ∧ Below W.heap.size W w' := encodeRecord_ok p v L W hv h
theorem ChS.is {W : World} {v : Value} {L : List MCh} (h : ChS W v L) : ∃ a n c, v = .slice a n c ∧ n = L.length := by obtain ⟨a, n, c, e, e2, _⟩ := h; exact ⟨a, n, c, e, e2⟩

set_option maxRecDepth 100000 in
set_option maxHeartbeats 4000000 in
theorem again_ok_ok (rt rk ra rb rc : Int) (p : Int) (L : List MCh) (s t : ByteArray) (ht : s.extract 0 (min (s.size : Int) 300).toNat = t) (hts : t.size ≤ 300) (W : World) (hE : Errs W) (hr : VRow ⟨rt, rk, ⟨ra, rb, rc⟩⟩) (hd : decRow t = (⟨rt, rk, ⟨ra, rb, rc⟩⟩, 0)) (hs : encRowS ⟨rt, rk, ⟨ra, rb, rc⟩⟩ = t) (hx : VRec p L) (hxd : decRec t = (⟨p, L⟩, 0)) (hxs : encRecS p L = t) : Calls Tryd.prog 7 #[.string s] W fun e w' => e = .returned (.bool true) ∧ Below W.heap.size W w' := by
  have HG : Hid (∀ w', Below W.heap.size W w' → Errs w') := Lib.hid (fun w' h => hE.below h)
  have HD := Lib.hid hd
  have HXD := Lib.hid hxd
  have HV := Lib.hid hr
  have HVX := Lib.hid hx
  have htm : t.size ≤ maxLen := by unfold maxLen; omega
  have heq := str_eq hs; have hne := str_eq' hs
  have hxq := str_eq hxs
  clear hE hd hxd hr hs hx hxs
  go_enter Tryd.func7, Tryd.ntmps7
  go_wp2_with fail
  (with_reducible refine (sane_any _ (HG.out _ (Below.refl _ _))).mono ?_)
  rintro e w1 ⟨rfl, hb1⟩
  have HB1 := Lib.hid hb1
  clear hb1
  go_wp2_with fail
  (with_reducible refine (dec_to _ HD.out htm (HG.out _ HB1.out)).mono ?_)
  rintro e w2 ⟨rfl, hb2⟩
  have HB2 := Lib.hid (bt (bt HB1.out hb2) (ba w2 (.cells #[.int .i64 rt, .int .i64 rk, .int .i64 ra, .int .i64 rb, .int .i64 rc] 24)))
  have HR2 := Lib.hid (RwAt.new w2 ⟨rt, rk, ⟨ra, rb, rc⟩⟩)
  clear hb2 HB1
  go_wp2_with fail
  (with_reducible refine (decodeR_e _ _ htm (HG.out _ HB2.out) HXD.out).mono ?_)
  rintro e w3 ⟨v, rfl, hv, hb3⟩
  obtain ⟨va, vn, vcp, rfl, hvn⟩ := hv.is
  clear hvn
  have HB3 := Lib.hid (bt (bt HB2.out hb3) (ba w3 (.cells #[.int .i64 p, .slice va vn vcp] 37)))
  have HR3 := Lib.hid ((HR2.out.below hb3).below (ba w3 (.cells #[.int .i64 p, .slice va vn vcp] 37)))
  have HV3 := Lib.hid (hv.below (ba w3 (.cells #[.int .i64 p, .slice va vn vcp] 37)))
  have x0 : (w3.alloc (.cells #[.int .i64 p, .slice va vn vcp] 37)).cell? ⟨w3.heap.size, 0, none⟩ = some (.int .i64 p) := by simp [go_sem]
  have x1 : (w3.alloc (.cells #[.int .i64 p, .slice va vn vcp] 37)).cell? ⟨w3.heap.size, 1, none⟩ = some (.slice va vn vcp) := by simp [go_sem]
  obtain ⟨d0, d1, d2, d3, d4⟩ := HR3.out
  clear hb3 HB2 HR2 hv
  go_wp2_with fail
  (with_reducible refine (enc_ok ⟨rt, rk, ⟨ra, rb, rc⟩⟩ _ HV.out).mono ?_)
  rintro e w4 ⟨rfl, hb4⟩
  have HB4 := Lib.hid (bt HB3.out hb4)
  have HV4 := Lib.hid (HV3.out.below hb4)
  obtain ⟨y0, y1⟩ := two_below x0 x1 hb4
  clear hb4 HB3 HV3 HR3 x0 x1 d0 d1 d2 d3 d4
  go_wp2_with fail
  (with_reducible refine (recS_ok _ _ _ _ HVX.out HV4.out).mono ?_)
  rintro e w5 ⟨rfl, hb5⟩
  have HB5 := Lib.hid (bt HB4.out hb5)
  go_wp2_with fail
  go_ret
  exact ⟨rfl, HB5.out⟩

set_option maxRecDepth 100000 in
set_option maxHeartbeats 4000000 in
theorem again_ok_10 (rt rk ra rb rc : Int) (s t : ByteArray) (ht : s.extract 0 (min (s.size : Int) 300).toNat = t) (hts : t.size ≤ 300) (W : World) (hE : Errs W) (hr : VRow ⟨rt, rk, ⟨ra, rb, rc⟩⟩) (hd : decRow t = (⟨rt, rk, ⟨ra, rb, rc⟩⟩, 0)) (hs : encRowS ⟨rt, rk, ⟨ra, rb, rc⟩⟩ = t) (hxd : decRec t = (⟨0, []⟩, 10)) : Calls Tryd.prog 7 #[.string s] W fun e w' => e = .returned (.bool true) ∧ Below W.heap.size W w' := by
  have HG : Hid (∀ w', Below W.heap.size W w' → Errs w') := Lib.hid (fun w' h => hE.below h)
  have HD := Lib.hid hd
  have HXD := Lib.hid hxd
  have HV := Lib.hid hr

  have htm : t.size ≤ maxLen := by unfold maxLen; omega
  have heq := str_eq hs; have hne := str_eq' hs

  clear hE hd hxd hr hs 
  go_enter Tryd.func7, Tryd.ntmps7
  go_wp2_with fail
  (with_reducible refine (sane_any _ (HG.out _ (Below.refl _ _))).mono ?_)
  rintro e w1 ⟨rfl, hb1⟩
  have HB1 := Lib.hid hb1
  clear hb1
  go_wp2_with fail
  (with_reducible refine (dec_to _ HD.out htm (HG.out _ HB1.out)).mono ?_)
  rintro e w2 ⟨rfl, hb2⟩
  have HB2 := Lib.hid (bt (bt HB1.out hb2) (ba w2 (.cells #[.int .i64 rt, .int .i64 rk, .int .i64 ra, .int .i64 rb, .int .i64 rc] 24)))
  have HR2 := Lib.hid (RwAt.new w2 ⟨rt, rk, ⟨ra, rb, rc⟩⟩)
  clear hb2 HB1
  go_wp2_with fail
  (with_reducible refine (decodeR_e _ _ htm (HG.out _ HB2.out) HXD.out).mono ?_)
  rintro e w3 ⟨v, rfl, hv, hb3⟩
  obtain ⟨va, vn, vcp, rfl, hvn⟩ := hv.is
  simp only [List.length_nil] at hvn; subst hvn
  have HB3 := Lib.hid (bt (bt HB2.out hb3) (ba w3 (.cells #[.int .i64 0, .slice va 0 vcp] 37)))
  have HR3 := Lib.hid ((HR2.out.below hb3).below (ba w3 (.cells #[.int .i64 0, .slice va 0 vcp] 37)))
  have HV3 := Lib.hid (hv.below (ba w3 (.cells #[.int .i64 0, .slice va 0 vcp] 37)))
  have x0 : (w3.alloc (.cells #[.int .i64 0, .slice va 0 vcp] 37)).cell? ⟨w3.heap.size, 0, none⟩ = some (.int .i64 0) := by simp [go_sem]
  have x1 : (w3.alloc (.cells #[.int .i64 0, .slice va 0 vcp] 37)).cell? ⟨w3.heap.size, 1, none⟩ = some (.slice va 0 vcp) := by simp [go_sem]
  obtain ⟨d0, d1, d2, d3, d4⟩ := HR3.out
  clear hb3 HB2 HR2 hv
  go_wp2_with fail
  (with_reducible refine (enc_ok ⟨rt, rk, ⟨ra, rb, rc⟩⟩ _ HV.out).mono ?_)
  rintro e w4 ⟨rfl, hb4⟩
  have HB4 := Lib.hid (bt HB3.out hb4)
  have HV4 := Lib.hid (HV3.out.below hb4)
  obtain ⟨y0, y1⟩ := two_below x0 x1 hb4
  clear hb4 HB3 HV3 HR3 x0 x1 d0 d1 d2 d3 d4
  go_wp2_with fail
  go_ret
  exact ⟨rfl, HB4.out⟩

set_option maxRecDepth 100000 in
set_option maxHeartbeats 4000000 in
theorem again_ok_30 (rt rk ra rb rc : Int) (s t : ByteArray) (ht : s.extract 0 (min (s.size : Int) 300).toNat = t) (hts : t.size ≤ 300) (W : World) (hE : Errs W) (hr : VRow ⟨rt, rk, ⟨ra, rb, rc⟩⟩) (hd : decRow t = (⟨rt, rk, ⟨ra, rb, rc⟩⟩, 0)) (hs : encRowS ⟨rt, rk, ⟨ra, rb, rc⟩⟩ = t) (hxd : decRec t = (⟨0, []⟩, 30)) : Calls Tryd.prog 7 #[.string s] W fun e w' => e = .returned (.bool true) ∧ Below W.heap.size W w' := by
  have HG : Hid (∀ w', Below W.heap.size W w' → Errs w') := Lib.hid (fun w' h => hE.below h)
  have HD := Lib.hid hd
  have HXD := Lib.hid hxd
  have HV := Lib.hid hr

  have htm : t.size ≤ maxLen := by unfold maxLen; omega
  have heq := str_eq hs; have hne := str_eq' hs

  clear hE hd hxd hr hs 
  go_enter Tryd.func7, Tryd.ntmps7
  go_wp2_with fail
  (with_reducible refine (sane_any _ (HG.out _ (Below.refl _ _))).mono ?_)
  rintro e w1 ⟨rfl, hb1⟩
  have HB1 := Lib.hid hb1
  clear hb1
  go_wp2_with fail
  (with_reducible refine (dec_to _ HD.out htm (HG.out _ HB1.out)).mono ?_)
  rintro e w2 ⟨rfl, hb2⟩
  have HB2 := Lib.hid (bt (bt HB1.out hb2) (ba w2 (.cells #[.int .i64 rt, .int .i64 rk, .int .i64 ra, .int .i64 rb, .int .i64 rc] 24)))
  have HR2 := Lib.hid (RwAt.new w2 ⟨rt, rk, ⟨ra, rb, rc⟩⟩)
  clear hb2 HB1
  go_wp2_with fail
  (with_reducible refine (decodeR_e _ _ htm (HG.out _ HB2.out) HXD.out).mono ?_)
  rintro e w3 ⟨v, rfl, hv, hb3⟩
  obtain ⟨va, vn, vcp, rfl, hvn⟩ := hv.is
  simp only [List.length_nil] at hvn; subst hvn
  have HB3 := Lib.hid (bt (bt HB2.out hb3) (ba w3 (.cells #[.int .i64 0, .slice va 0 vcp] 37)))
  have HR3 := Lib.hid ((HR2.out.below hb3).below (ba w3 (.cells #[.int .i64 0, .slice va 0 vcp] 37)))
  have HV3 := Lib.hid (hv.below (ba w3 (.cells #[.int .i64 0, .slice va 0 vcp] 37)))
  have x0 : (w3.alloc (.cells #[.int .i64 0, .slice va 0 vcp] 37)).cell? ⟨w3.heap.size, 0, none⟩ = some (.int .i64 0) := by simp [go_sem]
  have x1 : (w3.alloc (.cells #[.int .i64 0, .slice va 0 vcp] 37)).cell? ⟨w3.heap.size, 1, none⟩ = some (.slice va 0 vcp) := by simp [go_sem]
  obtain ⟨d0, d1, d2, d3, d4⟩ := HR3.out
  clear hb3 HB2 HR2 hv
  go_wp2_with fail
  (with_reducible refine (enc_ok ⟨rt, rk, ⟨ra, rb, rc⟩⟩ _ HV.out).mono ?_)
  rintro e w4 ⟨rfl, hb4⟩
  have HB4 := Lib.hid (bt HB3.out hb4)
  have HV4 := Lib.hid (HV3.out.below hb4)
  obtain ⟨y0, y1⟩ := two_below x0 x1 hb4
  clear hb4 HB3 HV3 HR3 x0 x1 d0 d1 d2 d3 d4
  go_wp2_with fail
  go_ret
  exact ⟨rfl, HB4.out⟩

set_option maxRecDepth 100000 in
set_option maxHeartbeats 4000000 in
theorem again_10_ok (p : Int) (L : List MCh) (s t : ByteArray) (ht : s.extract 0 (min (s.size : Int) 300).toNat = t) (hts : t.size ≤ 300) (W : World) (hE : Errs W) (hd : decRow t = (⟨0, 0, ⟨0, 0, 0⟩⟩, 10)) (hx : VRec p L) (hxd : decRec t = (⟨p, L⟩, 0)) (hxs : encRecS p L = t) : Calls Tryd.prog 7 #[.string s] W fun e w' => e = .returned (.bool true) ∧ Below W.heap.size W w' := by
  have HG : Hid (∀ w', Below W.heap.size W w' → Errs w') := Lib.hid (fun w' h => hE.below h)
  have HD := Lib.hid hd
  have HXD := Lib.hid hxd

  have HVX := Lib.hid hx
  have htm : t.size ≤ maxLen := by unfold maxLen; omega

  have hxq := str_eq hxs
  clear hE hd hxd  hx hxs
  go_enter Tryd.func7, Tryd.ntmps7
  go_wp2_with fail
  (with_reducible refine (sane_any _ (HG.out _ (Below.refl _ _))).mono ?_)
  rintro e w1 ⟨rfl, hb1⟩
  have HB1 := Lib.hid hb1
  clear hb1
  go_wp2_with fail
  (with_reducible refine (dec_to _ HD.out htm (HG.out _ HB1.out)).mono ?_)
  rintro e w2 ⟨rfl, hb2⟩
  have HB2 := Lib.hid (bt (bt HB1.out hb2) (ba w2 (.cells #[.int .i64 0, .int .i64 0, .int .i64 0, .int .i64 0, .int .i64 0] 24)))
  have HR2 := Lib.hid (RwAt.new w2 ⟨0, 0, ⟨0, 0, 0⟩⟩)
  clear hb2 HB1
  go_wp2_with fail
  (with_reducible refine (decodeR_e _ _ htm (HG.out _ HB2.out) HXD.out).mono ?_)
  rintro e w3 ⟨v, rfl, hv, hb3⟩
  obtain ⟨va, vn, vcp, rfl, hvn⟩ := hv.is
  clear hvn
  have HB3 := Lib.hid (bt (bt HB2.out hb3) (ba w3 (.cells #[.int .i64 p, .slice va vn vcp] 37)))
  have HR3 := Lib.hid ((HR2.out.below hb3).below (ba w3 (.cells #[.int .i64 p, .slice va vn vcp] 37)))
  have HV3 := Lib.hid (hv.below (ba w3 (.cells #[.int .i64 p, .slice va vn vcp] 37)))
  have x0 : (w3.alloc (.cells #[.int .i64 p, .slice va vn vcp] 37)).cell? ⟨w3.heap.size, 0, none⟩ = some (.int .i64 p) := by simp [go_sem]
  have x1 : (w3.alloc (.cells #[.int .i64 p, .slice va vn vcp] 37)).cell? ⟨w3.heap.size, 1, none⟩ = some (.slice va vn vcp) := by simp [go_sem]
  obtain ⟨d0, d1, d2, d3, d4⟩ := HR3.out
  clear hb3 HB2 HR2 hv
  have hq := fun w => neqRow 0 0 0 0 0 0 0 0 0 0 w
  rw [show rowE ⟨0, 0, ⟨0, 0, 0⟩⟩ ⟨0, 0, ⟨0, 0, 0⟩⟩ = true by simp [rowE]] at hq
  go_wp2_with fail
  (with_reducible refine (recS_ok _ _ _ _ HVX.out HV3.out).mono ?_)
  rintro e w5 ⟨rfl, hb5⟩
  have HB5 := Lib.hid (bt HB3.out hb5)
  go_wp2_with fail
  go_ret
  exact ⟨rfl, HB5.out⟩

set_option maxRecDepth 100000 in
set_option maxHeartbeats 4000000 in
theorem again_10_10 (s t : ByteArray) (ht : s.extract 0 (min (s.size : Int) 300).toNat = t) (hts : t.size ≤ 300) (W : World) (hE : Errs W) (hd : decRow t = (⟨0, 0, ⟨0, 0, 0⟩⟩, 10)) (hxd : decRec t = (⟨0, []⟩, 10)) : Calls Tryd.prog 7 #[.string s] W fun e w' => e = .returned (.bool true) ∧ Below W.heap.size W w' := by
  have HG : Hid (∀ w', Below W.heap.size W w' → Errs w') := Lib.hid (fun w' h => hE.below h)
  have HD := Lib.hid hd
  have HXD := Lib.hid hxd


  have htm : t.size ≤ maxLen := by unfold maxLen; omega


  clear hE hd hxd  
  go_enter Tryd.func7, Tryd.ntmps7
  go_wp2_with fail
  (with_reducible refine (sane_any _ (HG.out _ (Below.refl _ _))).mono ?_)
  rintro e w1 ⟨rfl, hb1⟩
  have HB1 := Lib.hid hb1
  clear hb1
  go_wp2_with fail
  (with_reducible refine (dec_to _ HD.out htm (HG.out _ HB1.out)).mono ?_)
  rintro e w2 ⟨rfl, hb2⟩
  have HB2 := Lib.hid (bt (bt HB1.out hb2) (ba w2 (.cells #[.int .i64 0, .int .i64 0, .int .i64 0, .int .i64 0, .int .i64 0] 24)))
  have HR2 := Lib.hid (RwAt.new w2 ⟨0, 0, ⟨0, 0, 0⟩⟩)
  clear hb2 HB1
  go_wp2_with fail
  (with_reducible refine (decodeR_e _ _ htm (HG.out _ HB2.out) HXD.out).mono ?_)
  rintro e w3 ⟨v, rfl, hv, hb3⟩
  obtain ⟨va, vn, vcp, rfl, hvn⟩ := hv.is
  simp only [List.length_nil] at hvn; subst hvn
  have HB3 := Lib.hid (bt (bt HB2.out hb3) (ba w3 (.cells #[.int .i64 0, .slice va 0 vcp] 37)))
  have HR3 := Lib.hid ((HR2.out.below hb3).below (ba w3 (.cells #[.int .i64 0, .slice va 0 vcp] 37)))
  have HV3 := Lib.hid (hv.below (ba w3 (.cells #[.int .i64 0, .slice va 0 vcp] 37)))
  have x0 : (w3.alloc (.cells #[.int .i64 0, .slice va 0 vcp] 37)).cell? ⟨w3.heap.size, 0, none⟩ = some (.int .i64 0) := by simp [go_sem]
  have x1 : (w3.alloc (.cells #[.int .i64 0, .slice va 0 vcp] 37)).cell? ⟨w3.heap.size, 1, none⟩ = some (.slice va 0 vcp) := by simp [go_sem]
  obtain ⟨d0, d1, d2, d3, d4⟩ := HR3.out
  clear hb3 HB2 HR2 hv
  have hq := fun w => neqRow 0 0 0 0 0 0 0 0 0 0 w
  rw [show rowE ⟨0, 0, ⟨0, 0, 0⟩⟩ ⟨0, 0, ⟨0, 0, 0⟩⟩ = true by simp [rowE]] at hq
  go_wp2_with fail
  go_ret
  exact ⟨rfl, HB3.out⟩

set_option maxRecDepth 100000 in
set_option maxHeartbeats 4000000 in
theorem again_10_30 (s t : ByteArray) (ht : s.extract 0 (min (s.size : Int) 300).toNat = t) (hts : t.size ≤ 300) (W : World) (hE : Errs W) (hd : decRow t = (⟨0, 0, ⟨0, 0, 0⟩⟩, 10)) (hxd : decRec t = (⟨0, []⟩, 30)) : Calls Tryd.prog 7 #[.string s] W fun e w' => e = .returned (.bool true) ∧ Below W.heap.size W w' := by
  have HG : Hid (∀ w', Below W.heap.size W w' → Errs w') := Lib.hid (fun w' h => hE.below h)
  have HD := Lib.hid hd
  have HXD := Lib.hid hxd


  have htm : t.size ≤ maxLen := by unfold maxLen; omega


  clear hE hd hxd  
  go_enter Tryd.func7, Tryd.ntmps7
  go_wp2_with fail
  (with_reducible refine (sane_any _ (HG.out _ (Below.refl _ _))).mono ?_)
  rintro e w1 ⟨rfl, hb1⟩
  have HB1 := Lib.hid hb1
  clear hb1
  go_wp2_with fail
  (with_reducible refine (dec_to _ HD.out htm (HG.out _ HB1.out)).mono ?_)
  rintro e w2 ⟨rfl, hb2⟩
  have HB2 := Lib.hid (bt (bt HB1.out hb2) (ba w2 (.cells #[.int .i64 0, .int .i64 0, .int .i64 0, .int .i64 0, .int .i64 0] 24)))
  have HR2 := Lib.hid (RwAt.new w2 ⟨0, 0, ⟨0, 0, 0⟩⟩)
  clear hb2 HB1
  go_wp2_with fail
  (with_reducible refine (decodeR_e _ _ htm (HG.out _ HB2.out) HXD.out).mono ?_)
  rintro e w3 ⟨v, rfl, hv, hb3⟩
  obtain ⟨va, vn, vcp, rfl, hvn⟩ := hv.is
  simp only [List.length_nil] at hvn; subst hvn
  have HB3 := Lib.hid (bt (bt HB2.out hb3) (ba w3 (.cells #[.int .i64 0, .slice va 0 vcp] 37)))
  have HR3 := Lib.hid ((HR2.out.below hb3).below (ba w3 (.cells #[.int .i64 0, .slice va 0 vcp] 37)))
  have HV3 := Lib.hid (hv.below (ba w3 (.cells #[.int .i64 0, .slice va 0 vcp] 37)))
  have x0 : (w3.alloc (.cells #[.int .i64 0, .slice va 0 vcp] 37)).cell? ⟨w3.heap.size, 0, none⟩ = some (.int .i64 0) := by simp [go_sem]
  have x1 : (w3.alloc (.cells #[.int .i64 0, .slice va 0 vcp] 37)).cell? ⟨w3.heap.size, 1, none⟩ = some (.slice va 0 vcp) := by simp [go_sem]
  obtain ⟨d0, d1, d2, d3, d4⟩ := HR3.out
  clear hb3 HB2 HR2 hv
  have hq := fun w => neqRow 0 0 0 0 0 0 0 0 0 0 w
  rw [show rowE ⟨0, 0, ⟨0, 0, 0⟩⟩ ⟨0, 0, ⟨0, 0, 0⟩⟩ = true by simp [rowE]] at hq
  go_wp2_with fail
  go_ret
  exact ⟨rfl, HB3.out⟩

set_option maxRecDepth 100000 in
set_option maxHeartbeats 4000000 in
theorem again_30_ok (p : Int) (L : List MCh) (s t : ByteArray) (ht : s.extract 0 (min (s.size : Int) 300).toNat = t) (hts : t.size ≤ 300) (W : World) (hE : Errs W) (hd : decRow t = (⟨0, 0, ⟨0, 0, 0⟩⟩, 30)) (hx : VRec p L) (hxd : decRec t = (⟨p, L⟩, 0)) (hxs : encRecS p L = t) : Calls Tryd.prog 7 #[.string s] W fun e w' => e = .returned (.bool true) ∧ Below W.heap.size W w' := by
  have HG : Hid (∀ w', Below W.heap.size W w' → Errs w') := Lib.hid (fun w' h => hE.below h)
  have HD := Lib.hid hd
  have HXD := Lib.hid hxd

  have HVX := Lib.hid hx
  have htm : t.size ≤ maxLen := by unfold maxLen; omega

  have hxq := str_eq hxs
  clear hE hd hxd  hx hxs
  go_enter Tryd.func7, Tryd.ntmps7
  go_wp2_with fail
  (with_reducible refine (sane_any _ (HG.out _ (Below.refl _ _))).mono ?_)
  rintro e w1 ⟨rfl, hb1⟩
  have HB1 := Lib.hid hb1
  clear hb1
  go_wp2_with fail
  (with_reducible refine (dec_to _ HD.out htm (HG.out _ HB1.out)).mono ?_)
  rintro e w2 ⟨rfl, hb2⟩
  have HB2 := Lib.hid (bt (bt HB1.out hb2) (ba w2 (.cells #[.int .i64 0, .int .i64 0, .int .i64 0, .int .i64 0, .int .i64 0] 24)))
  have HR2 := Lib.hid (RwAt.new w2 ⟨0, 0, ⟨0, 0, 0⟩⟩)
  clear hb2 HB1
  go_wp2_with fail
  (with_reducible refine (decodeR_e _ _ htm (HG.out _ HB2.out) HXD.out).mono ?_)
  rintro e w3 ⟨v, rfl, hv, hb3⟩
  obtain ⟨va, vn, vcp, rfl, hvn⟩ := hv.is
  clear hvn
  have HB3 := Lib.hid (bt (bt HB2.out hb3) (ba w3 (.cells #[.int .i64 p, .slice va vn vcp] 37)))
  have HR3 := Lib.hid ((HR2.out.below hb3).below (ba w3 (.cells #[.int .i64 p, .slice va vn vcp] 37)))
  have HV3 := Lib.hid (hv.below (ba w3 (.cells #[.int .i64 p, .slice va vn vcp] 37)))
  have x0 : (w3.alloc (.cells #[.int .i64 p, .slice va vn vcp] 37)).cell? ⟨w3.heap.size, 0, none⟩ = some (.int .i64 p) := by simp [go_sem]
  have x1 : (w3.alloc (.cells #[.int .i64 p, .slice va vn vcp] 37)).cell? ⟨w3.heap.size, 1, none⟩ = some (.slice va vn vcp) := by simp [go_sem]
  obtain ⟨d0, d1, d2, d3, d4⟩ := HR3.out
  clear hb3 HB2 HR2 hv
  have hq := fun w => neqRow 0 0 0 0 0 0 0 0 0 0 w
  rw [show rowE ⟨0, 0, ⟨0, 0, 0⟩⟩ ⟨0, 0, ⟨0, 0, 0⟩⟩ = true by simp [rowE]] at hq
  go_wp2_with fail
  (with_reducible refine (recS_ok _ _ _ _ HVX.out HV3.out).mono ?_)
  rintro e w5 ⟨rfl, hb5⟩
  have HB5 := Lib.hid (bt HB3.out hb5)
  go_wp2_with fail
  go_ret
  exact ⟨rfl, HB5.out⟩

set_option maxRecDepth 100000 in
set_option maxHeartbeats 4000000 in
theorem again_30_10 (s t : ByteArray) (ht : s.extract 0 (min (s.size : Int) 300).toNat = t) (hts : t.size ≤ 300) (W : World) (hE : Errs W) (hd : decRow t = (⟨0, 0, ⟨0, 0, 0⟩⟩, 30)) (hxd : decRec t = (⟨0, []⟩, 10)) : Calls Tryd.prog 7 #[.string s] W fun e w' => e = .returned (.bool true) ∧ Below W.heap.size W w' := by
  have HG : Hid (∀ w', Below W.heap.size W w' → Errs w') := Lib.hid (fun w' h => hE.below h)
  have HD := Lib.hid hd
  have HXD := Lib.hid hxd


  have htm : t.size ≤ maxLen := by unfold maxLen; omega


  clear hE hd hxd  
  go_enter Tryd.func7, Tryd.ntmps7
  go_wp2_with fail
  (with_reducible refine (sane_any _ (HG.out _ (Below.refl _ _))).mono ?_)
  rintro e w1 ⟨rfl, hb1⟩
  have HB1 := Lib.hid hb1
  clear hb1
  go_wp2_with fail
  (with_reducible refine (dec_to _ HD.out htm (HG.out _ HB1.out)).mono ?_)
  rintro e w2 ⟨rfl, hb2⟩
  have HB2 := Lib.hid (bt (bt HB1.out hb2) (ba w2 (.cells #[.int .i64 0, .int .i64 0, .int .i64 0, .int .i64 0, .int .i64 0] 24)))
  have HR2 := Lib.hid (RwAt.new w2 ⟨0, 0, ⟨0, 0, 0⟩⟩)
  clear hb2 HB1
  go_wp2_with fail
  (with_reducible refine (decodeR_e _ _ htm (HG.out _ HB2.out) HXD.out).mono ?_)
  rintro e w3 ⟨v, rfl, hv, hb3⟩
  obtain ⟨va, vn, vcp, rfl, hvn⟩ := hv.is
  simp only [List.length_nil] at hvn; subst hvn
  have HB3 := Lib.hid (bt (bt HB2.out hb3) (ba w3 (.cells #[.int .i64 0, .slice va 0 vcp] 37)))
  have HR3 := Lib.hid ((HR2.out.below hb3).below (ba w3 (.cells #[.int .i64 0, .slice va 0 vcp] 37)))
  have HV3 := Lib.hid (hv.below (ba w3 (.cells #[.int .i64 0, .slice va 0 vcp] 37)))
  have x0 : (w3.alloc (.cells #[.int .i64 0, .slice va 0 vcp] 37)).cell? ⟨w3.heap.size, 0, none⟩ = some (.int .i64 0) := by simp [go_sem]
  have x1 : (w3.alloc (.cells #[.int .i64 0, .slice va 0 vcp] 37)).cell? ⟨w3.heap.size, 1, none⟩ = some (.slice va 0 vcp) := by simp [go_sem]
  obtain ⟨d0, d1, d2, d3, d4⟩ := HR3.out
  clear hb3 HB2 HR2 hv
  have hq := fun w => neqRow 0 0 0 0 0 0 0 0 0 0 w
  rw [show rowE ⟨0, 0, ⟨0, 0, 0⟩⟩ ⟨0, 0, ⟨0, 0, 0⟩⟩ = true by simp [rowE]] at hq
  go_wp2_with fail
  go_ret
  exact ⟨rfl, HB3.out⟩

set_option maxRecDepth 100000 in
set_option maxHeartbeats 4000000 in
theorem again_30_30 (s t : ByteArray) (ht : s.extract 0 (min (s.size : Int) 300).toNat = t) (hts : t.size ≤ 300) (W : World) (hE : Errs W) (hd : decRow t = (⟨0, 0, ⟨0, 0, 0⟩⟩, 30)) (hxd : decRec t = (⟨0, []⟩, 30)) : Calls Tryd.prog 7 #[.string s] W fun e w' => e = .returned (.bool true) ∧ Below W.heap.size W w' := by
  have HG : Hid (∀ w', Below W.heap.size W w' → Errs w') := Lib.hid (fun w' h => hE.below h)
  have HD := Lib.hid hd
  have HXD := Lib.hid hxd


  have htm : t.size ≤ maxLen := by unfold maxLen; omega


  clear hE hd hxd  
  go_enter Tryd.func7, Tryd.ntmps7
  go_wp2_with fail
  (with_reducible refine (sane_any _ (HG.out _ (Below.refl _ _))).mono ?_)
  rintro e w1 ⟨rfl, hb1⟩
  have HB1 := Lib.hid hb1
  clear hb1
  go_wp2_with fail
  (with_reducible refine (dec_to _ HD.out htm (HG.out _ HB1.out)).mono ?_)
  rintro e w2 ⟨rfl, hb2⟩
  have HB2 := Lib.hid (bt (bt HB1.out hb2) (ba w2 (.cells #[.int .i64 0, .int .i64 0, .int .i64 0, .int .i64 0, .int .i64 0] 24)))
  have HR2 := Lib.hid (RwAt.new w2 ⟨0, 0, ⟨0, 0, 0⟩⟩)
  clear hb2 HB1
  go_wp2_with fail
  (with_reducible refine (decodeR_e _ _ htm (HG.out _ HB2.out) HXD.out).mono ?_)
  rintro e w3 ⟨v, rfl, hv, hb3⟩
  obtain ⟨va, vn, vcp, rfl, hvn⟩ := hv.is
  simp only [List.length_nil] at hvn; subst hvn
  have HB3 := Lib.hid (bt (bt HB2.out hb3) (ba w3 (.cells #[.int .i64 0, .slice va 0 vcp] 37)))
  have HR3 := Lib.hid ((HR2.out.below hb3).below (ba w3 (.cells #[.int .i64 0, .slice va 0 vcp] 37)))
  have HV3 := Lib.hid (hv.below (ba w3 (.cells #[.int .i64 0, .slice va 0 vcp] 37)))
  have x0 : (w3.alloc (.cells #[.int .i64 0, .slice va 0 vcp] 37)).cell? ⟨w3.heap.size, 0, none⟩ = some (.int .i64 0) := by simp [go_sem]
  have x1 : (w3.alloc (.cells #[.int .i64 0, .slice va 0 vcp] 37)).cell? ⟨w3.heap.size, 1, none⟩ = some (.slice va 0 vcp) := by simp [go_sem]
  obtain ⟨d0, d1, d2, d3, d4⟩ := HR3.out
  clear hb3 HB2 HR2 hv
  have hq := fun w => neqRow 0 0 0 0 0 0 0 0 0 0 w
  rw [show rowE ⟨0, 0, ⟨0, 0, 0⟩⟩ ⟨0, 0, ⟨0, 0, 0⟩⟩ = true by simp [rowE]] at hq
  go_wp2_with fail
  go_ret
  exact ⟨rfl, HB3.out⟩

theorem again_walk (s : ByteArray) (W : World) (hE : Errs W) : Calls Tryd.prog 7 #[.string s] W fun e w' => e = .returned (.bool true) ∧ Below W.heap.size W w' := by
  have hts := cut_size s 300
  rw [show ((300 : Nat) : Int) = 300 from rfl] at hts
  obtain ⟨t, ht⟩ : ∃ t, s.extract 0 (min (s.size : Int) 300).toNat = t := ⟨_, rfl⟩
  rw [ht] at hts
  obtain ⟨⟨r, c⟩, hd⟩ : ∃ q, decRow t = q := ⟨_, rfl⟩
  obtain ⟨⟨⟨p, L⟩, f⟩, hx⟩ : ∃ q, decRec t = q := ⟨_, rfl⟩
  have hzr : ∀ f', decRec t = (⟨p, L⟩, f') → f' ≠ 0 → decRec t = (⟨0, []⟩, f') := fun f' h h0 => by
    obtain ⟨e, _⟩ := decRec_no h h0
    rw [h, e]; rfl
  by_cases hc : c = 0
  · subst hc
    obtain ⟨hv, hs⟩ := decRow_sound hd
    obtain ⟨rt, rk, ⟨ra, rb, rc⟩⟩ := r
    by_cases hf : f = 0
    · subst hf
      obtain ⟨hvx, hxs⟩ := decRec_sound hx
      exact again_ok_ok _ _ _ _ _ _ _ s t ht hts W hE hv hd hs.symm hvx hx hxs.symm
    · rcases (decRec_no hx hf).2 with rfl | rfl
      · exact again_ok_10 _ _ _ _ _ s t ht hts W hE hv hd hs.symm (hzr _ hx (by decide))
      · exact again_ok_30 _ _ _ _ _ s t ht hts W hE hv hd hs.symm (hzr _ hx (by decide))
  · obtain ⟨rfl, hc2⟩ := decRow_no hd hc
    by_cases hf : f = 0
    · subst hf
      obtain ⟨hvx, hxs⟩ := decRec_sound hx
      rcases hc2 with rfl | rfl
      · exact again_10_ok _ _ s t ht hts W hE hd hvx hx hxs.symm
      · exact again_30_ok _ _ s t ht hts W hE hd hvx hx hxs.symm
    · rcases hc2 with rfl | rfl <;> rcases (decRec_no hx hf).2 with rfl | rfl
      · exact again_10_10 s t ht hts W hE hd (hzr _ hx (by decide))
      · exact again_10_30 s t ht hts W hE hd (hzr _ hx (by decide))
      · exact again_30_10 s t ht hts W hE hd (hzr _ hx (by decide))
      · exact again_30_30 s t ht hts W hE hd (hzr _ hx (by decide))
end Go.Proofs.YtgkdliocfnoffaaDoor
