/- WALKS: RowRecordRoundTrip. -/
import Derived.Test.YtgkdliocfnoffaaDoorB5
import Derived.Test.YtgkdliocfnoffaaDoorB2
set_option linter.unusedVariables false
set_option linter.unusedSimpArgs false
namespace Go.Proofs.YtgkdliocfnoffaaDoor
open Go.RowKit Go.Sort

theorem CutS.chs {w0 w : World} {v : Value} {L : List MCh} (h : CutS w0 w v L) : ChS w v L := by
  obtain ⟨g, n, c, e, h1, h2, h3, h4, h5, h6, h7⟩ := h
  exact ⟨_, n, c, e, h3, h4, (by unfold maxLen at h5; omega), fun _ => ⟨g, 0, rfl, h2, fun i hi => by rw [Nat.zero_add]; exact h7 i hi⟩⟩

/-- Two records as a law's parameters lie. -/
structure RR (W w : World) (p : Int) (u : Value) (q : Int) (v : Value) : Prop where
  c0 : w.cell? ⟨W.heap.size, 0, none⟩ = some (.int .i64 p)
  c1 : w.cell? ⟨W.heap.size, 1, none⟩ = some u
  d0 : w.cell? ⟨W.heap.size + 1, 0, none⟩ = some (.int .i64 q)
  d1 : w.cell? ⟨W.heap.size + 1, 1, none⟩ = some v
  f0 : w.frozen? ⟨W.heap.size, 0, none⟩ = false
  f1 : w.frozen? ⟨W.heap.size, 1, none⟩ = false
  g0 : w.frozen? ⟨W.heap.size + 1, 0, none⟩ = false
  g1 : w.frozen? ⟨W.heap.size + 1, 1, none⟩ = false
  b : Below W.heap.size W w
theorem RR.lt {W w : World} {p q : Int} {u v : Value} (h : RR W w p u q v) : W.heap.size + 1 < w.heap.size := World.block_lt_of_cell? w _ h.d0
theorem RR.new (W : World) (p q : Int) (u v : Value) : RR W ((W.alloc (.cells #[.int .i64 p, u] 37)).alloc (.cells #[.int .i64 q, v] 37)) p u q v :=
  ⟨by simp [go_sem], by simp [go_sem], by simp [go_sem], by simp [go_sem], by simp [go_sem], by simp [go_sem], by simp [go_sem], by simp [go_sem], bt (ba _ _) (ba _ _)⟩
theorem RR.next {W w w' : World} {p q : Int} {u v : Value} (h : RR W w p u q v) (k : Below w.heap.size w w') : RR W w' p u q v := by
  obtain ⟨hc, hf⟩ := bcell k
  have hl := h.lt
  exact ⟨by rw [hc _ _ (by omega)]; exact h.c0, by rw [hc _ _ (by omega)]; exact h.c1, by rw [hc _ _ hl]; exact h.d0, by rw [hc _ _ hl]; exact h.d1,
    by rw [hf _ _ (by omega)]; exact h.f0, by rw [hf _ _ (by omega)]; exact h.f1, by rw [hf _ _ hl]; exact h.g0, by rw [hf _ _ hl]; exact h.g1, bt h.b k⟩
theorem RR.set1 {W w : World} {p q : Int} {u v : Value} (h : RR W w p u q v) (u' : Value) {w' : World} (e : (w.setCell ⟨W.heap.size, 0, none⟩ (.int .i64 p)).setCell ⟨W.heap.size, 1, none⟩ u' = w') : RR W w' p u' q v := by
  subst e
  refine ⟨?_, ?_, ?_, ?_, ?_, ?_, ?_, ?_, below_setCell (below_setCell h.b (by simp) _) (by simp) _⟩
  · rw [World.cell?_setCell_other _ _ _ _ (by simp)]; exact World.cell?_setCell_same _ _ _ h.c0
  · exact World.cell?_setCell_same _ _ _ (u := u) (by rw [World.cell?_setCell_other _ _ _ _ (by simp)]; exact h.c1)
  · rw [World.cell?_setCell_other _ _ _ _ (by simp), World.cell?_setCell_other _ _ _ _ (by simp)]; exact h.d0
  · rw [World.cell?_setCell_other _ _ _ _ (by simp), World.cell?_setCell_other _ _ _ _ (by simp)]; exact h.d1
  all_goals (rw [World.frozen?_setCell, World.frozen?_setCell]; first | exact h.f0 | exact h.f1 | exact h.g0 | exact h.g1)
theorem RR.set2 {W w : World} {p q : Int} {u v : Value} (h : RR W w p u q v) (v' : Value) {w' : World} (e : (w.setCell ⟨W.heap.size + 1, 0, none⟩ (.int .i64 q)).setCell ⟨W.heap.size + 1, 1, none⟩ v' = w') : RR W w' p u q v' := by
  subst e
  refine ⟨?_, ?_, ?_, ?_, ?_, ?_, ?_, ?_, below_setCell (below_setCell h.b (by simp) _) (by simp) _⟩
  · rw [World.cell?_setCell_other _ _ _ _ (by simp), World.cell?_setCell_other _ _ _ _ (by simp)]; exact h.c0
  · rw [World.cell?_setCell_other _ _ _ _ (by simp), World.cell?_setCell_other _ _ _ _ (by simp)]; exact h.c1
  · rw [World.cell?_setCell_other _ _ _ _ (by simp)]; exact World.cell?_setCell_same _ _ _ h.d0
  · exact World.cell?_setCell_same _ _ _ (u := v) (by rw [World.cell?_setCell_other _ _ _ _ (by simp)]; exact h.d1)
  all_goals (rw [World.frozen?_setCell, World.frozen?_setCell]; first | exact h.f0 | exact h.f1 | exact h.g0 | exact h.g1)
/-- A fresh slice stands where an older block is written. -/
theorem CutS.set {W0 w0 w : World} {v : Value} {L : List MCh} (h : CutS w0 w v L) {k : Nat} (hk : k < w0.heap.size) (x : Value) (y : Value) {w' : World} (e : (w.setCell ⟨k, 0, none⟩ x).setCell ⟨k, 1, none⟩ y = w') : CutS w0 w' v L := by
  subst e
  obtain ⟨g, n, c, e, h1, h2, h3, h4, h5, h6, h7⟩ := h
  refine ⟨g, n, c, e, h1, by simpa [World.setCell] using h2, h3, h4, h5, h6, fun i hi j hj => ?_⟩
  rw [World.cell?_setCell_other _ _ _ _ (by simp <;> omega), World.cell?_setCell_other _ _ _ _ (by simp <;> omega)]
  exact h7 i hi j hj
theorem CutS.below {w0 w w' : World} {v : Value} {L : List MCh} (h : CutS w0 w v L) (k : Below w.heap.size w w') : CutS w0 w' v L := by
  obtain ⟨g, n, c, e, h1, h2, h3, h4, h5, h6, h7⟩ := h
  exact ⟨g, n, c, e, h1, Nat.lt_of_lt_of_le h2 k.size, h3, h4, h5, h6, fun i hi => (h7 i hi).below h2 k⟩
theorem ChI.set {W w : World} {v : Value} {L : List MCh} (h : ChI W v L) (hb : Below W.heap.size W w) : ChI w v L := h.below hb
theorem recS_bad (p : Int) (v : Value) (L : List MCh) (W : World) (h : ¬ VRec p L) (hv : ChS W v L) : Calls Tryd.prog 29 #[.agg #[.int .i64 p, v]] W fun e w' => e = .returned (.tuple #[.string ⟨#[]⟩, .int .i64 30]) ∧ Below W.heap.size W w' := encodeRecord_bad p v L W hv h
theorem recS_some (p : Int) (v : Value) (L : List MCh) (W : World) (hv : ChS W v L) : Calls Tryd.prog 29 #[.agg #[.int .i64 p, v]] W fun e w' => ∃ s c, e = .returned (.tuple #[.string s, .int .i64 c]) ∧ Below W.heap.size W w' := by
  by_cases h : VRec p L
  · exact (recS_ok p v L W h hv).mono fun e w' hw => ⟨_, _, hw⟩
  · exact (recS_bad p v L W h hv).mono fun e w' hw => ⟨_, _, hw⟩
theorem same_to (p q : Int) (v u : Value) (L M : List MCh) (w : World) (hv : ChS w v L) (hu : ChS w u M) {r : Bool} (hr : Hid (sameE p q L M = r)) : Calls Tryd.prog 36 #[.agg #[.int .i64 p, v], .agg #[.int .i64 q, u]] w fun e w' => e = .returned (.bool r) ∧ Below w.heap.size w w' := by
  have := same_any p q v u L M w hv hu
  rwa [hr.out] at this
theorem encRecS_le {p : Int} {L : List MCh} (h : VRec p L) : (encRecS p L).size ≤ maxLen := by
  have h1 := encStr_size (tokRec ⟨p, L⟩)
  have h2 := tokChs_len L
  have h3 := h.2.1.2
  have h4 : (tokRec ⟨p, L⟩).length = 2 + (tokChs L).length := by simp [tokRec]; omega
  rw [encRecS]; unfold maxLen; omega

set_option maxRecDepth 100000 in
set_option maxHeartbeats 4000000 in
theorem recTrip_A (p q : Int) (u v : Value) (L M : List MCh) (W : World) (hE : Errs W) (hu : ChI W u L) (hv : ChI W v M) (ha : ¬ VRec p (L.take 10)) : Calls Tryd.prog 6 #[.agg #[.int .i64 p, u], .agg #[.int .i64 q, v]] W fun e w' => e = .returned (.bool true) ∧ Below W.heap.size W w' := by
  have HA := Lib.hid ha
  clear ha
  have HG : Hid (∀ w', Below W.heap.size W w' → Errs w') := Lib.hid (fun w' h => hE.below h)
  have HU := Lib.hid hu
  have HV := Lib.hid hv
  have hus : ∃ a n c, u = .slice a n c := by obtain ⟨a, n, c, e, _⟩ := hu; exact ⟨a, n, c, e⟩
  have hvs : ∃ a n c, v = .slice a n c := by obtain ⟨a, n, c, e, _⟩ := hv; exact ⟨a, n, c, e⟩
  obtain ⟨ua, un, uc, rfl⟩ := hus
  obtain ⟨va, vn, vc', rfl⟩ := hvs
  clear hE hu hv
  go_enter Tryd.func6, Tryd.ntmps6
  have HR0 := Lib.hid (RR.new W p q (.slice ua un uc) (.slice va vn vc'))
  go_wp2_with fail
  (with_reducible refine (sane_any _ (HG.out _ HR0.out.b)).mono ?_)
  rintro e w1 ⟨rfl, hb1⟩
  have HR1 := Lib.hid (HR0.out.next hb1)
  clear hb1 HR0
  obtain ⟨c0, c1, d0, d1, f0, f1, g0, g1, _⟩ := HR1.out
  go_wp2_with fail
  (with_reducible refine (cut_any p _ L _ (HU.out.below HR1.out.b)).mono ?_)
  rintro e w2 ⟨u1, rfl, hc1, hb2⟩
  have HR2 := Lib.hid (HR1.out.next hb2)
  have HC2 := Lib.hid hc1
  have hlt1 := Lib.hid HR1.out.lt
  obtain ⟨ua1, un1, uc1, rfl⟩ : ∃ a n c, u1 = .slice a n c := by obtain ⟨g, n, c, e, _⟩ := hc1; exact ⟨_, n, c, e⟩
  clear hb2 hc1 HR1 HU c0 c1 d0 d1 f0 f1 g0 g1
  obtain ⟨c0, c1, d0, d1, f0, f1, g0, g1, _⟩ := HR2.out
  obtain ⟨w3, Hw3⟩ : ∃ w3, Hid ((w2.setCell ⟨W.heap.size, 0, none⟩ (.int .i64 p)).setCell ⟨W.heap.size, 1, none⟩ (.slice ua1 un1 uc1) = w3) := ⟨_, Lib.hid rfl⟩
  have HR3 := Lib.hid (HR2.out.set1 _ Hw3.out)
  have HC3 := Lib.hid (HC2.out.set (W0 := W) (by have := hlt1.out; omega) _ _ Hw3.out)
  clear HR2 HC2
  go_wp2_with fail
  rw [Hw3.out]
  (with_reducible refine (cut_any q _ M _ (HV.out.below HR3.out.b)).mono ?_)
  rintro e w4 ⟨u2, rfl, hc2, hb4⟩
  have HR4 := Lib.hid (HR3.out.next hb4)
  have HC4 := Lib.hid (HC3.out.below hb4)
  have HD4 := Lib.hid hc2
  have hlt3 := Lib.hid HR3.out.lt
  obtain ⟨ua2, un2, uc2, rfl⟩ : ∃ a n c, u2 = .slice a n c := by obtain ⟨g, n, c, e, _⟩ := hc2; exact ⟨_, n, c, e⟩
  clear hb4 hc2 HR3 HC3 HV c0 c1 d0 d1 f0 f1 g0 g1
  obtain ⟨c0, c1, d0, d1, f0, f1, g0, g1, _⟩ := HR4.out
  obtain ⟨w5, Hw5⟩ : ∃ w5, Hid ((w4.setCell ⟨W.heap.size + 1, 0, none⟩ (.int .i64 q)).setCell ⟨W.heap.size + 1, 1, none⟩ (.slice ua2 un2 uc2) = w5) := ⟨_, Lib.hid rfl⟩
  have HR5 := Lib.hid (HR4.out.set2 _ Hw5.out)
  have HC5 := Lib.hid ((HC4.out.set (W0 := W) hlt1.out _ _ Hw5.out).chs)
  have HD5 := Lib.hid ((HD4.out.set (W0 := W) hlt3.out _ _ Hw5.out).chs)
  generalize L.take 10 = A at *
  generalize M.take 10 = B at *
  go_wp2_with fail
  rw [Hw5.out]
  clear HR4 HC4 HD4 c0 c1 d0 d1 f0 f1 g0 g1 hlt1 hlt3 Hw3 Hw5
  obtain ⟨c0, c1, d0, d1, _⟩ := HR5.out
  go_wp2_with fail
  (with_reducible refine (recS_bad p _ A _ HA.out HC5.out).mono ?_)
  rintro e w6 ⟨rfl, hb6⟩
  have HR6 := Lib.hid (HR5.out.next hb6)
  have HC6 := Lib.hid (HC5.out.below hb6)
  have HD6 := Lib.hid (HD5.out.below hb6)
  clear hb6 HR5 HC5 HD5 c0 c1 d0 d1
  obtain ⟨c0, c1, d0, d1, _⟩ := HR6.out
  go_wp2_with fail
  (with_reducible refine (recS_some q _ B _ HD6.out).mono ?_)
  rintro e w7 ⟨t, f, rfl, hb7⟩
  have HR7 := Lib.hid (HR6.out.next hb7)
  have HC7 := Lib.hid (HC6.out.below hb7)
  have HD7 := Lib.hid (HD6.out.below hb7)
  clear hb7 HR6 HC6 HD6 c0 c1 d0 d1
  obtain ⟨c0, c1, d0, d1, _⟩ := HR7.out
  go_wp2_with fail
  (with_reducible refine (vrecC_f p _ A _ HC7.out HA.out).mono ?_)
  rintro e w8 ⟨rfl, hb8⟩
  have HR8 := Lib.hid (HR7.out.next hb8)
  have HC8 := Lib.hid (HC7.out.below hb8)
  have HD8 := Lib.hid (HD7.out.below hb8)
  clear hb8 HR7 HC7 HD7 c0 c1 d0 d1
  obtain ⟨c0, c1, d0, d1, _⟩ := HR8.out
  go_wp2_with fail
  go_ret
  exact ⟨rfl, HR8.out.b⟩

set_option maxRecDepth 100000 in
set_option maxHeartbeats 4000000 in
theorem recTrip_B1 (p q : Int) (u v : Value) (L M : List MCh) (W : World) (hE : Errs W) (hu : ChI W u L) (hv : ChI W v M) (ha : VRec p (L.take 10)) (hab : p = q ∧ L.take 10 = M.take 10) : Calls Tryd.prog 6 #[.agg #[.int .i64 p, u], .agg #[.int .i64 q, v]] W fun e w' => e = .returned (.bool true) ∧ Below W.heap.size W w' := by
  obtain ⟨rfl, hAB⟩ := hab
  have hs : ((encRecS p (L.take 10)).toList == (encRecS p (M.take 10)).toList) = true := str_eq (by rw [hAB])
  have HSB : Hid (sameE p p (L.take 10) (M.take 10) = true) := Lib.hid (by simp [sameE, hAB])
  have HB : Hid (VRec p (M.take 10)) := Lib.hid (by rw [← hAB]; exact ha)
  have HA := Lib.hid ha
  have HSA : Hid (sameE p p (L.take 10) (L.take 10) = true) := Lib.hid (by simp [sameE])
  clear ha hAB
  have HG : Hid (∀ w', Below W.heap.size W w' → Errs w') := Lib.hid (fun w' h => hE.below h)
  have HU := Lib.hid hu
  have HV := Lib.hid hv
  have hus : ∃ a n c, u = .slice a n c := by obtain ⟨a, n, c, e, _⟩ := hu; exact ⟨a, n, c, e⟩
  have hvs : ∃ a n c, v = .slice a n c := by obtain ⟨a, n, c, e, _⟩ := hv; exact ⟨a, n, c, e⟩
  obtain ⟨ua, un, uc, rfl⟩ := hus
  obtain ⟨va, vn, vc', rfl⟩ := hvs
  clear hE hu hv
  go_enter Tryd.func6, Tryd.ntmps6
  have HR0 := Lib.hid (RR.new W p p (.slice ua un uc) (.slice va vn vc'))
  go_wp2_with fail
  (with_reducible refine (sane_any _ (HG.out _ HR0.out.b)).mono ?_)
  rintro e w1 ⟨rfl, hb1⟩
  have HR1 := Lib.hid (HR0.out.next hb1)
  clear hb1 HR0
  obtain ⟨c0, c1, d0, d1, f0, f1, g0, g1, _⟩ := HR1.out
  go_wp2_with fail
  (with_reducible refine (cut_any p _ L _ (HU.out.below HR1.out.b)).mono ?_)
  rintro e w2 ⟨u1, rfl, hc1, hb2⟩
  have HR2 := Lib.hid (HR1.out.next hb2)
  have HC2 := Lib.hid hc1
  have hlt1 := Lib.hid HR1.out.lt
  obtain ⟨ua1, un1, uc1, rfl⟩ : ∃ a n c, u1 = .slice a n c := by obtain ⟨g, n, c, e, _⟩ := hc1; exact ⟨_, n, c, e⟩
  clear hb2 hc1 HR1 HU c0 c1 d0 d1 f0 f1 g0 g1
  obtain ⟨c0, c1, d0, d1, f0, f1, g0, g1, _⟩ := HR2.out
  obtain ⟨w3, Hw3⟩ : ∃ w3, Hid ((w2.setCell ⟨W.heap.size, 0, none⟩ (.int .i64 p)).setCell ⟨W.heap.size, 1, none⟩ (.slice ua1 un1 uc1) = w3) := ⟨_, Lib.hid rfl⟩
  have HR3 := Lib.hid (HR2.out.set1 _ Hw3.out)
  have HC3 := Lib.hid (HC2.out.set (W0 := W) (by have := hlt1.out; omega) _ _ Hw3.out)
  clear HR2 HC2
  go_wp2_with fail
  rw [Hw3.out]
  (with_reducible refine (cut_any p _ M _ (HV.out.below HR3.out.b)).mono ?_)
  rintro e w4 ⟨u2, rfl, hc2, hb4⟩
  have HR4 := Lib.hid (HR3.out.next hb4)
  have HC4 := Lib.hid (HC3.out.below hb4)
  have HD4 := Lib.hid hc2
  have hlt3 := Lib.hid HR3.out.lt
  obtain ⟨ua2, un2, uc2, rfl⟩ : ∃ a n c, u2 = .slice a n c := by obtain ⟨g, n, c, e, _⟩ := hc2; exact ⟨_, n, c, e⟩
  clear hb4 hc2 HR3 HC3 HV c0 c1 d0 d1 f0 f1 g0 g1
  obtain ⟨c0, c1, d0, d1, f0, f1, g0, g1, _⟩ := HR4.out
  obtain ⟨w5, Hw5⟩ : ∃ w5, Hid ((w4.setCell ⟨W.heap.size + 1, 0, none⟩ (.int .i64 p)).setCell ⟨W.heap.size + 1, 1, none⟩ (.slice ua2 un2 uc2) = w5) := ⟨_, Lib.hid rfl⟩
  have HR5 := Lib.hid (HR4.out.set2 _ Hw5.out)
  have HC5 := Lib.hid ((HC4.out.set (W0 := W) hlt1.out _ _ Hw5.out).chs)
  have HD5 := Lib.hid ((HD4.out.set (W0 := W) hlt3.out _ _ Hw5.out).chs)
  generalize L.take 10 = A at *
  generalize M.take 10 = B at *
  go_wp2_with fail
  rw [Hw5.out]
  clear HR4 HC4 HD4 c0 c1 d0 d1 f0 f1 g0 g1 hlt1 hlt3 Hw3 Hw5
  obtain ⟨c0, c1, d0, d1, _⟩ := HR5.out
  go_wp2_with fail
  (with_reducible refine (recS_ok p _ A _ HA.out HC5.out).mono ?_)
  rintro e w6 ⟨rfl, hb6⟩
  have HR6 := Lib.hid (HR5.out.next hb6)
  have HC6 := Lib.hid (HC5.out.below hb6)
  have HD6 := Lib.hid (HD5.out.below hb6)
  clear hb6 HR5 HC5 HD5 c0 c1 d0 d1
  obtain ⟨c0, c1, d0, d1, _⟩ := HR6.out
  go_wp2_with fail
  (with_reducible refine (recS_ok p _ B _ HB.out HD6.out).mono ?_)
  rintro e w7 ⟨rfl, hb7⟩
  have HR7 := Lib.hid (HR6.out.next hb7)
  have HC7 := Lib.hid (HC6.out.below hb7)
  have HD7 := Lib.hid (HD6.out.below hb7)
  clear hb7 HR6 HC6 HD6 c0 c1 d0 d1
  obtain ⟨c0, c1, d0, d1, _⟩ := HR7.out
  go_wp2_with fail
  (with_reducible refine (vrecC_t p _ A _ HC7.out HA.out).mono ?_)
  rintro e w8 ⟨rfl, hb8⟩
  have HR8 := Lib.hid (HR7.out.next hb8)
  have HC8 := Lib.hid (HC7.out.below hb8)
  have HD8 := Lib.hid (HD7.out.below hb8)
  clear hb8 HR7 HC7 HD7 c0 c1 d0 d1
  obtain ⟨c0, c1, d0, d1, _⟩ := HR8.out
  go_wp2_with fail
  (with_reducible refine (decodeR_e _ _ (encRecS_le HA.out) (HG.out _ HR8.out.b) (decRec_enc HA.out)).mono ?_)
  rintro e w9 ⟨x, rfl, hx, hb9⟩
  obtain ⟨xa, xn, xc, rfl⟩ : ∃ a n c, x = .slice a n c := by obtain ⟨a, n, c, e, _⟩ := hx; exact ⟨_, n, c, e⟩
  have hk9 := bt hb9 (ba w9 (.cells #[.int .i64 p, .slice xa xn xc] 37))
  have HX := Lib.hid (hx.below (ba w9 (.cells #[.int .i64 p, .slice xa xn xc] 37)))
  have x0 : (w9.alloc (.cells #[.int .i64 p, .slice xa xn xc] 37)).cell? ⟨w9.heap.size, 0, none⟩ = some (.int .i64 p) := by simp [go_sem]
  have x1 : (w9.alloc (.cells #[.int .i64 p, .slice xa xn xc] 37)).cell? ⟨w9.heap.size, 1, none⟩ = some (.slice xa xn xc) := by simp [go_sem]
  have HR9 := Lib.hid (HR8.out.next hk9)
  have HC9 := Lib.hid (HC8.out.below hk9)
  have HD9 := Lib.hid (HD8.out.below hk9)
  clear hb9 hk9 hx HR8 HC8 HD8 c0 c1 d0 d1
  obtain ⟨c0, c1, d0, d1, _⟩ := HR9.out
  go_wp2_with fail
  (with_reducible refine (same_to p p _ _ A A _ HC9.out HX.out HSA).mono ?_)
  rintro e w10 ⟨rfl, hb10⟩
  clear x0 x1 HX
  have HR10 := Lib.hid (HR9.out.next hb10)
  have HC10 := Lib.hid (HC9.out.below hb10)
  have HD10 := Lib.hid (HD9.out.below hb10)
  clear hb10 HR9 HC9 HD9 c0 c1 d0 d1
  obtain ⟨c0, c1, d0, d1, _⟩ := HR10.out
  go_wp2_with fail
  (with_reducible refine (same_to p p _ _ A B _ HC10.out HD10.out HSB).mono ?_)
  rintro e w11 ⟨rfl, hb11⟩
  have HR11 := Lib.hid (HR10.out.next hb11)
  have HC11 := Lib.hid (HC10.out.below hb11)
  have HD11 := Lib.hid (HD10.out.below hb11)
  clear hb11 HR10 HC10 HD10 c0 c1 d0 d1
  obtain ⟨c0, c1, d0, d1, _⟩ := HR11.out
  go_wp2_with fail
  go_ret
  exact ⟨rfl, HR11.out.b⟩

set_option maxRecDepth 100000 in
set_option maxHeartbeats 4000000 in
theorem recTrip_B2 (p q : Int) (u v : Value) (L M : List MCh) (W : World) (hE : Errs W) (hu : ChI W u L) (hv : ChI W v M) (ha : VRec p (L.take 10)) (hb : VRec q (M.take 10)) (hab : ¬ (p = q ∧ L.take 10 = M.take 10)) : Calls Tryd.prog 6 #[.agg #[.int .i64 p, u], .agg #[.int .i64 q, v]] W fun e w' => e = .returned (.bool true) ∧ Below W.heap.size W w' := by
  have hs : ((encRecS p (L.take 10)).toList == (encRecS q (M.take 10)).toList) = false := str_ne (fun h => hab (encRecS_inj ha hb h))
  have HSB : Hid (sameE p q (L.take 10) (M.take 10) = false) := Lib.hid (by simp only [sameE, hab, decide_false])
  have HB := Lib.hid hb
  have HA := Lib.hid ha
  have HSA : Hid (sameE p p (L.take 10) (L.take 10) = true) := Lib.hid (by simp [sameE])
  clear ha hb hab
  have HG : Hid (∀ w', Below W.heap.size W w' → Errs w') := Lib.hid (fun w' h => hE.below h)
  have HU := Lib.hid hu
  have HV := Lib.hid hv
  have hus : ∃ a n c, u = .slice a n c := by obtain ⟨a, n, c, e, _⟩ := hu; exact ⟨a, n, c, e⟩
  have hvs : ∃ a n c, v = .slice a n c := by obtain ⟨a, n, c, e, _⟩ := hv; exact ⟨a, n, c, e⟩
  obtain ⟨ua, un, uc, rfl⟩ := hus
  obtain ⟨va, vn, vc', rfl⟩ := hvs
  clear hE hu hv
  go_enter Tryd.func6, Tryd.ntmps6
  have HR0 := Lib.hid (RR.new W p q (.slice ua un uc) (.slice va vn vc'))
  go_wp2_with fail
  (with_reducible refine (sane_any _ (HG.out _ HR0.out.b)).mono ?_)
  rintro e w1 ⟨rfl, hb1⟩
  have HR1 := Lib.hid (HR0.out.next hb1)
  clear hb1 HR0
  obtain ⟨c0, c1, d0, d1, f0, f1, g0, g1, _⟩ := HR1.out
  go_wp2_with fail
  (with_reducible refine (cut_any p _ L _ (HU.out.below HR1.out.b)).mono ?_)
  rintro e w2 ⟨u1, rfl, hc1, hb2⟩
  have HR2 := Lib.hid (HR1.out.next hb2)
  have HC2 := Lib.hid hc1
  have hlt1 := Lib.hid HR1.out.lt
  obtain ⟨ua1, un1, uc1, rfl⟩ : ∃ a n c, u1 = .slice a n c := by obtain ⟨g, n, c, e, _⟩ := hc1; exact ⟨_, n, c, e⟩
  clear hb2 hc1 HR1 HU c0 c1 d0 d1 f0 f1 g0 g1
  obtain ⟨c0, c1, d0, d1, f0, f1, g0, g1, _⟩ := HR2.out
  obtain ⟨w3, Hw3⟩ : ∃ w3, Hid ((w2.setCell ⟨W.heap.size, 0, none⟩ (.int .i64 p)).setCell ⟨W.heap.size, 1, none⟩ (.slice ua1 un1 uc1) = w3) := ⟨_, Lib.hid rfl⟩
  have HR3 := Lib.hid (HR2.out.set1 _ Hw3.out)
  have HC3 := Lib.hid (HC2.out.set (W0 := W) (by have := hlt1.out; omega) _ _ Hw3.out)
  clear HR2 HC2
  go_wp2_with fail
  rw [Hw3.out]
  (with_reducible refine (cut_any q _ M _ (HV.out.below HR3.out.b)).mono ?_)
  rintro e w4 ⟨u2, rfl, hc2, hb4⟩
  have HR4 := Lib.hid (HR3.out.next hb4)
  have HC4 := Lib.hid (HC3.out.below hb4)
  have HD4 := Lib.hid hc2
  have hlt3 := Lib.hid HR3.out.lt
  obtain ⟨ua2, un2, uc2, rfl⟩ : ∃ a n c, u2 = .slice a n c := by obtain ⟨g, n, c, e, _⟩ := hc2; exact ⟨_, n, c, e⟩
  clear hb4 hc2 HR3 HC3 HV c0 c1 d0 d1 f0 f1 g0 g1
  obtain ⟨c0, c1, d0, d1, f0, f1, g0, g1, _⟩ := HR4.out
  obtain ⟨w5, Hw5⟩ : ∃ w5, Hid ((w4.setCell ⟨W.heap.size + 1, 0, none⟩ (.int .i64 q)).setCell ⟨W.heap.size + 1, 1, none⟩ (.slice ua2 un2 uc2) = w5) := ⟨_, Lib.hid rfl⟩
  have HR5 := Lib.hid (HR4.out.set2 _ Hw5.out)
  have HC5 := Lib.hid ((HC4.out.set (W0 := W) hlt1.out _ _ Hw5.out).chs)
  have HD5 := Lib.hid ((HD4.out.set (W0 := W) hlt3.out _ _ Hw5.out).chs)
  generalize L.take 10 = A at *
  generalize M.take 10 = B at *
  go_wp2_with fail
  rw [Hw5.out]
  clear HR4 HC4 HD4 c0 c1 d0 d1 f0 f1 g0 g1 hlt1 hlt3 Hw3 Hw5
  obtain ⟨c0, c1, d0, d1, _⟩ := HR5.out
  go_wp2_with fail
  (with_reducible refine (recS_ok p _ A _ HA.out HC5.out).mono ?_)
  rintro e w6 ⟨rfl, hb6⟩
  have HR6 := Lib.hid (HR5.out.next hb6)
  have HC6 := Lib.hid (HC5.out.below hb6)
  have HD6 := Lib.hid (HD5.out.below hb6)
  clear hb6 HR5 HC5 HD5 c0 c1 d0 d1
  obtain ⟨c0, c1, d0, d1, _⟩ := HR6.out
  go_wp2_with fail
  (with_reducible refine (recS_ok q _ B _ HB.out HD6.out).mono ?_)
  rintro e w7 ⟨rfl, hb7⟩
  have HR7 := Lib.hid (HR6.out.next hb7)
  have HC7 := Lib.hid (HC6.out.below hb7)
  have HD7 := Lib.hid (HD6.out.below hb7)
  clear hb7 HR6 HC6 HD6 c0 c1 d0 d1
  obtain ⟨c0, c1, d0, d1, _⟩ := HR7.out
  go_wp2_with fail
  (with_reducible refine (vrecC_t p _ A _ HC7.out HA.out).mono ?_)
  rintro e w8 ⟨rfl, hb8⟩
  have HR8 := Lib.hid (HR7.out.next hb8)
  have HC8 := Lib.hid (HC7.out.below hb8)
  have HD8 := Lib.hid (HD7.out.below hb8)
  clear hb8 HR7 HC7 HD7 c0 c1 d0 d1
  obtain ⟨c0, c1, d0, d1, _⟩ := HR8.out
  go_wp2_with fail
  (with_reducible refine (decodeR_e _ _ (encRecS_le HA.out) (HG.out _ HR8.out.b) (decRec_enc HA.out)).mono ?_)
  rintro e w9 ⟨x, rfl, hx, hb9⟩
  obtain ⟨xa, xn, xc, rfl⟩ : ∃ a n c, x = .slice a n c := by obtain ⟨a, n, c, e, _⟩ := hx; exact ⟨_, n, c, e⟩
  have hk9 := bt hb9 (ba w9 (.cells #[.int .i64 p, .slice xa xn xc] 37))
  have HX := Lib.hid (hx.below (ba w9 (.cells #[.int .i64 p, .slice xa xn xc] 37)))
  have x0 : (w9.alloc (.cells #[.int .i64 p, .slice xa xn xc] 37)).cell? ⟨w9.heap.size, 0, none⟩ = some (.int .i64 p) := by simp [go_sem]
  have x1 : (w9.alloc (.cells #[.int .i64 p, .slice xa xn xc] 37)).cell? ⟨w9.heap.size, 1, none⟩ = some (.slice xa xn xc) := by simp [go_sem]
  have HR9 := Lib.hid (HR8.out.next hk9)
  have HC9 := Lib.hid (HC8.out.below hk9)
  have HD9 := Lib.hid (HD8.out.below hk9)
  clear hb9 hk9 hx HR8 HC8 HD8 c0 c1 d0 d1
  obtain ⟨c0, c1, d0, d1, _⟩ := HR9.out
  go_wp2_with fail
  (with_reducible refine (same_to p p _ _ A A _ HC9.out HX.out HSA).mono ?_)
  rintro e w10 ⟨rfl, hb10⟩
  clear x0 x1 HX
  have HR10 := Lib.hid (HR9.out.next hb10)
  have HC10 := Lib.hid (HC9.out.below hb10)
  have HD10 := Lib.hid (HD9.out.below hb10)
  clear hb10 HR9 HC9 HD9 c0 c1 d0 d1
  obtain ⟨c0, c1, d0, d1, _⟩ := HR10.out
  go_wp2_with fail
  (with_reducible refine (same_to p q _ _ A B _ HC10.out HD10.out HSB).mono ?_)
  rintro e w11 ⟨rfl, hb11⟩
  have HR11 := Lib.hid (HR10.out.next hb11)
  have HC11 := Lib.hid (HC10.out.below hb11)
  have HD11 := Lib.hid (HD10.out.below hb11)
  clear hb11 HR10 HC10 HD10 c0 c1 d0 d1
  obtain ⟨c0, c1, d0, d1, _⟩ := HR11.out
  go_wp2_with fail
  go_ret
  exact ⟨rfl, HR11.out.b⟩

set_option maxRecDepth 100000 in
set_option maxHeartbeats 4000000 in
theorem recTrip_B3 (p q : Int) (u v : Value) (L M : List MCh) (W : World) (hE : Errs W) (hu : ChI W u L) (hv : ChI W v M) (ha : VRec p (L.take 10)) (hb : ¬ VRec q (M.take 10)) : Calls Tryd.prog 6 #[.agg #[.int .i64 p, u], .agg #[.int .i64 q, v]] W fun e w' => e = .returned (.bool true) ∧ Below W.heap.size W w' := by
  have HA := Lib.hid ha
  have HB := Lib.hid hb
  have HSA : Hid (sameE p p (L.take 10) (L.take 10) = true) := Lib.hid (by simp [sameE])
  clear ha hb
  have HG : Hid (∀ w', Below W.heap.size W w' → Errs w') := Lib.hid (fun w' h => hE.below h)
  have HU := Lib.hid hu
  have HV := Lib.hid hv
  have hus : ∃ a n c, u = .slice a n c := by obtain ⟨a, n, c, e, _⟩ := hu; exact ⟨a, n, c, e⟩
  have hvs : ∃ a n c, v = .slice a n c := by obtain ⟨a, n, c, e, _⟩ := hv; exact ⟨a, n, c, e⟩
  obtain ⟨ua, un, uc, rfl⟩ := hus
  obtain ⟨va, vn, vc', rfl⟩ := hvs
  clear hE hu hv
  go_enter Tryd.func6, Tryd.ntmps6
  have HR0 := Lib.hid (RR.new W p q (.slice ua un uc) (.slice va vn vc'))
  go_wp2_with fail
  (with_reducible refine (sane_any _ (HG.out _ HR0.out.b)).mono ?_)
  rintro e w1 ⟨rfl, hb1⟩
  have HR1 := Lib.hid (HR0.out.next hb1)
  clear hb1 HR0
  obtain ⟨c0, c1, d0, d1, f0, f1, g0, g1, _⟩ := HR1.out
  go_wp2_with fail
  (with_reducible refine (cut_any p _ L _ (HU.out.below HR1.out.b)).mono ?_)
  rintro e w2 ⟨u1, rfl, hc1, hb2⟩
  have HR2 := Lib.hid (HR1.out.next hb2)
  have HC2 := Lib.hid hc1
  have hlt1 := Lib.hid HR1.out.lt
  obtain ⟨ua1, un1, uc1, rfl⟩ : ∃ a n c, u1 = .slice a n c := by obtain ⟨g, n, c, e, _⟩ := hc1; exact ⟨_, n, c, e⟩
  clear hb2 hc1 HR1 HU c0 c1 d0 d1 f0 f1 g0 g1
  obtain ⟨c0, c1, d0, d1, f0, f1, g0, g1, _⟩ := HR2.out
  obtain ⟨w3, Hw3⟩ : ∃ w3, Hid ((w2.setCell ⟨W.heap.size, 0, none⟩ (.int .i64 p)).setCell ⟨W.heap.size, 1, none⟩ (.slice ua1 un1 uc1) = w3) := ⟨_, Lib.hid rfl⟩
  have HR3 := Lib.hid (HR2.out.set1 _ Hw3.out)
  have HC3 := Lib.hid (HC2.out.set (W0 := W) (by have := hlt1.out; omega) _ _ Hw3.out)
  clear HR2 HC2
  go_wp2_with fail
  rw [Hw3.out]
  (with_reducible refine (cut_any q _ M _ (HV.out.below HR3.out.b)).mono ?_)
  rintro e w4 ⟨u2, rfl, hc2, hb4⟩
  have HR4 := Lib.hid (HR3.out.next hb4)
  have HC4 := Lib.hid (HC3.out.below hb4)
  have HD4 := Lib.hid hc2
  have hlt3 := Lib.hid HR3.out.lt
  obtain ⟨ua2, un2, uc2, rfl⟩ : ∃ a n c, u2 = .slice a n c := by obtain ⟨g, n, c, e, _⟩ := hc2; exact ⟨_, n, c, e⟩
  clear hb4 hc2 HR3 HC3 HV c0 c1 d0 d1 f0 f1 g0 g1
  obtain ⟨c0, c1, d0, d1, f0, f1, g0, g1, _⟩ := HR4.out
  obtain ⟨w5, Hw5⟩ : ∃ w5, Hid ((w4.setCell ⟨W.heap.size + 1, 0, none⟩ (.int .i64 q)).setCell ⟨W.heap.size + 1, 1, none⟩ (.slice ua2 un2 uc2) = w5) := ⟨_, Lib.hid rfl⟩
  have HR5 := Lib.hid (HR4.out.set2 _ Hw5.out)
  have HC5 := Lib.hid ((HC4.out.set (W0 := W) hlt1.out _ _ Hw5.out).chs)
  have HD5 := Lib.hid ((HD4.out.set (W0 := W) hlt3.out _ _ Hw5.out).chs)
  generalize L.take 10 = A at *
  generalize M.take 10 = B at *
  go_wp2_with fail
  rw [Hw5.out]
  clear HR4 HC4 HD4 c0 c1 d0 d1 f0 f1 g0 g1 hlt1 hlt3 Hw3 Hw5
  obtain ⟨c0, c1, d0, d1, _⟩ := HR5.out
  go_wp2_with fail
  (with_reducible refine (recS_ok p _ A _ HA.out HC5.out).mono ?_)
  rintro e w6 ⟨rfl, hb6⟩
  have HR6 := Lib.hid (HR5.out.next hb6)
  have HC6 := Lib.hid (HC5.out.below hb6)
  have HD6 := Lib.hid (HD5.out.below hb6)
  clear hb6 HR5 HC5 HD5 c0 c1 d0 d1
  obtain ⟨c0, c1, d0, d1, _⟩ := HR6.out
  go_wp2_with fail
  (with_reducible refine (recS_bad q _ B _ HB.out HD6.out).mono ?_)
  rintro e w7 ⟨rfl, hb7⟩
  have HR7 := Lib.hid (HR6.out.next hb7)
  have HC7 := Lib.hid (HC6.out.below hb7)
  have HD7 := Lib.hid (HD6.out.below hb7)
  clear hb7 HR6 HC6 HD6 c0 c1 d0 d1
  obtain ⟨c0, c1, d0, d1, _⟩ := HR7.out
  go_wp2_with fail
  (with_reducible refine (vrecC_t p _ A _ HC7.out HA.out).mono ?_)
  rintro e w8 ⟨rfl, hb8⟩
  have HR8 := Lib.hid (HR7.out.next hb8)
  have HC8 := Lib.hid (HC7.out.below hb8)
  have HD8 := Lib.hid (HD7.out.below hb8)
  clear hb8 HR7 HC7 HD7 c0 c1 d0 d1
  obtain ⟨c0, c1, d0, d1, _⟩ := HR8.out
  go_wp2_with fail
  (with_reducible refine (decodeR_e _ _ (encRecS_le HA.out) (HG.out _ HR8.out.b) (decRec_enc HA.out)).mono ?_)
  rintro e w9 ⟨x, rfl, hx, hb9⟩
  obtain ⟨xa, xn, xc, rfl⟩ : ∃ a n c, x = .slice a n c := by obtain ⟨a, n, c, e, _⟩ := hx; exact ⟨_, n, c, e⟩
  have hk9 := bt hb9 (ba w9 (.cells #[.int .i64 p, .slice xa xn xc] 37))
  have HX := Lib.hid (hx.below (ba w9 (.cells #[.int .i64 p, .slice xa xn xc] 37)))
  have x0 : (w9.alloc (.cells #[.int .i64 p, .slice xa xn xc] 37)).cell? ⟨w9.heap.size, 0, none⟩ = some (.int .i64 p) := by simp [go_sem]
  have x1 : (w9.alloc (.cells #[.int .i64 p, .slice xa xn xc] 37)).cell? ⟨w9.heap.size, 1, none⟩ = some (.slice xa xn xc) := by simp [go_sem]
  have HR9 := Lib.hid (HR8.out.next hk9)
  have HC9 := Lib.hid (HC8.out.below hk9)
  have HD9 := Lib.hid (HD8.out.below hk9)
  clear hb9 hk9 hx HR8 HC8 HD8 c0 c1 d0 d1
  obtain ⟨c0, c1, d0, d1, _⟩ := HR9.out
  go_wp2_with fail
  (with_reducible refine (same_to p p _ _ A A _ HC9.out HX.out HSA).mono ?_)
  rintro e w10 ⟨rfl, hb10⟩
  clear x0 x1 HX
  have HR10 := Lib.hid (HR9.out.next hb10)
  have HC10 := Lib.hid (HC9.out.below hb10)
  have HD10 := Lib.hid (HD9.out.below hb10)
  clear hb10 HR9 HC9 HD9 c0 c1 d0 d1
  obtain ⟨c0, c1, d0, d1, _⟩ := HR10.out
  go_wp2_with fail
  go_ret
  exact ⟨rfl, HR10.out.b⟩

theorem recTrip_walk (p q : Int) (u v : Value) (L M : List MCh) (W : World) (hE : Errs W) (hu : ChI W u L) (hv : ChI W v M) : Calls Tryd.prog 6 #[.agg #[.int .i64 p, u], .agg #[.int .i64 q, v]] W fun e w' => e = .returned (.bool true) ∧ Below W.heap.size W w' := by
  by_cases ha : VRec p (L.take 10)
  · by_cases hab : p = q ∧ L.take 10 = M.take 10
    · exact recTrip_B1 p q u v L M W hE hu hv ha hab
    · by_cases hb : VRec q (M.take 10)
      · exact recTrip_B2 p q u v L M W hE hu hv ha hb hab
      · exact recTrip_B3 p q u v L M W hE hu hv ha hb
  · exact recTrip_A p q u v L M W hE hu hv ha
end Go.Proofs.YtgkdliocfnoffaaDoor
