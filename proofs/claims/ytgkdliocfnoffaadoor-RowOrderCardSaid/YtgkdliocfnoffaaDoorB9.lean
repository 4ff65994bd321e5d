/- WALKS: RowInverse. -/
import Derived.Test.YtgkdliocfnoffaaDoorB8
import Derived.Test.YtgkdliocfnoffaaDoorB3
import Derived.Deep.Cut
set_option linter.unusedVariables false
set_option linter.unusedSimpArgs false
namespace Go.Proofs.YtgkdliocfnoffaaDoor
open Go.RowKit Go.Sort

/-- A record that lies in a block of its own. -/
structure RecAt (w : World) (X : Nat) (p : Int) (u : Value) : Prop where
  c0 : w.cell? ⟨X, 0, none⟩ = some (.int .i64 p)
  c1 : w.cell? ⟨X, 1, none⟩ = some u
  f0 : w.frozen? ⟨X, 0, none⟩ = false
  f1 : w.frozen? ⟨X, 1, none⟩ = false
theorem RecAt.lt {w : World} {X : Nat} {p : Int} {u : Value} (h : RecAt w X p u) : X < w.heap.size := World.block_lt_of_cell? w _ h.c0
theorem RecAt.new (w : World) (p : Int) (u : Value) : RecAt (w.alloc (.cells #[.int .i64 p, u] 37)) w.heap.size p u := ⟨by simp [go_sem], by simp [go_sem], by simp [go_sem], by simp [go_sem]⟩
theorem RecAt.next {w w' : World} {X : Nat} {p : Int} {u : Value} (h : RecAt w X p u) (k : Below w.heap.size w w') : RecAt w' X p u := by
  obtain ⟨hc, hf⟩ := bcell k
  have hl := h.lt
  exact ⟨by rw [hc _ _ hl]; exact h.c0, by rw [hc _ _ hl]; exact h.c1, by rw [hf _ _ hl]; exact h.f0, by rw [hf _ _ hl]; exact h.f1⟩
theorem RecAt.set {w w' : World} {X : Nat} {p : Int} {u : Value} (h : RecAt w X p u) (q : Int) (u' : Value) (e : (w.setCell ⟨X, 0, none⟩ (.int .i64 q)).setCell ⟨X, 1, none⟩ u' = w') : RecAt w' X q u' := by
  subst e
  refine ⟨?_, ?_, ?_, ?_⟩
  · rw [World.cell?_setCell_other _ _ _ _ (by simp)]; exact World.cell?_setCell_same _ _ _ h.c0
  · exact World.cell?_setCell_same _ _ _ (u := u) (by rw [World.cell?_setCell_other _ _ _ _ (by simp)]; exact h.c1)
  all_goals (rw [World.frozen?_setCell, World.frozen?_setCell]; first | exact h.f0 | exact h.f1)
theorem RecAt.heapEq {w w' : World} {X : Nat} {p : Int} {u : Value} (h : RecAt w X p u) (e : w'.heap[X]? = w.heap[X]?) : RecAt w' X p u := by
  obtain ⟨c0, c1, f0, f1⟩ := h
  refine ⟨?_, ?_, ?_, ?_⟩
  · rw [← c0]; simp only [World.cell?, e]
  · rw [← c1]; simp only [World.cell?, e]
  · rw [← f0]; simp only [World.frozen?, e]
  · rw [← f1]; simp only [World.frozen?, e]
theorem RecAt.far10 {w : World} {X : Nat} {p : Int} {u : Value} (h : RecAt w X p u) {k : Nat} (hk : ¬ X = k) (o : Nat) (x : MCh) : RecAt (set10 w k o x) X p u := h.heapEq (far_set10 hk o x)
theorem ChAt.far10 {w : World} {b o : Nat} {c : MCh} (h : ChAt w b o c) {k : Nat} (hk : ¬ b = k) (q : Nat) (x : MCh) : ChAt (set10 w k q x) b o c := fun j hj => by
  rw [← h j hj]; simp only [World.cell?, far_set10 hk]
theorem below_set10 {W w : World} (h : Below W.heap.size W w) {k : Nat} (hk : W.heap.size ≤ k) (o : Nat) (x : MCh) : Below W.heap.size W (set10 w k o x) :=
  below_setCell (below_setCell (below_setCell (below_setCell (below_setCell (below_setCell (below_setCell (below_setCell (below_setCell (below_setCell h (by simpa using hk) _) (by simpa using hk) _) (by simpa using hk) _) (by simpa using hk) _) (by simpa using hk) _) (by simpa using hk) _) (by simpa using hk) _) (by simpa using hk) _) (by simpa using hk) _) (by simpa using hk) _

/-- The first k changes turned round. -/
def part (A : List MCh) (k : Nat) : List MCh := (List.range A.length).map fun i => if i < k then turn (A.getD i chZ) else A.getD i chZ
theorem part_len (A : List MCh) (k : Nat) : (part A k).length = A.length := by simp [part]
theorem part_get (A : List MCh) (k i : Nat) (hi : i < A.length) : (part A k).getD i chZ = if i < k then turn (A.getD i chZ) else A.getD i chZ := by
  simp [part, List.getD_eq_getElem?_getD, hi]
theorem ext_getD {A B : List MCh} (hl : A.length = B.length) (h : ∀ i, i < A.length → A.getD i chZ = B.getD i chZ) : A = B := by
  apply List.ext_getElem hl
  intro i h1 h2
  have := h i h1
  simpa [List.getD_eq_getElem?_getD, h1, h2] using this
theorem part_zero (A : List MCh) : part A 0 = A := ext_getD (part_len _ _) fun i hi => by
  rw [part_len] at hi; rw [part_get _ _ _ hi, if_neg (by omega)]
theorem part_all (A : List MCh) : part A A.length = A.map turn := ext_getD (by rw [part_len, List.length_map]) fun i hi => by
  rw [part_len] at hi; rw [part_get _ _ _ hi, if_pos hi, getD_map_turn]
theorem part_step (A : List MCh) (k : Nat) (hk : k < A.length) : (part A k).set k (turn (A.getD k chZ)) = part A (k + 1) := ext_getD (by rw [List.length_set, part_len, part_len]) fun i hi => by
  rw [List.length_set, part_len] at hi
  by_cases e : k = i
  · subst e
    rw [getD_set_same _ _ _ (by rwa [part_len]), part_get _ _ _ hi, if_pos (by omega)]
  · rw [getD_set_ne _ _ _ _ e, part_get _ _ _ hi, part_get _ _ _ hi]
    by_cases h : i < k
    · rw [if_pos h, if_pos (by omega)]
    · rw [if_neg h, if_neg (by omega)]

theorem vc_to (c : MCh) (w : World) {b : Bool} (h : Hid (vc c = b)) : Calls Tryd.prog 27 #[chV c] w fun e w' => e = .returned (.bool b) ∧ Below w.heap.size w w' :=
  (validChange_any c w).mono fun e w' hw => by rw [h.out] at hw; exact hw
theorem vc_turn (c : MCh) : vc (turn c) = vc c := by unfold vc; exact decide_eq_decide.2 (vch_turn c)
theorem bef_to (c : MCh) (r : MRow) (b : Bool) (h : Hid ((if c.had then (⟨c.t, c.k, c.o⟩ : MRow) else ⟨0, 0, V3.zero⟩) = r ∧ c.had = b)) (w : World) : Calls Tryd.prog 23 #[chV c] w fun e w' => e = .returned (.tuple #[rowV r, .bool b]) ∧ Below w.heap.size w w' :=
  (before_any c w).mono fun e w' hw => by rw [h.out.1, h.out.2] at hw; exact hw
theorem aft_to (c : MCh) (r : MRow) (b : Bool) (h : Hid ((if c.had then (⟨c.t, c.k, c.o⟩ : MRow) else ⟨0, 0, V3.zero⟩) = r ∧ c.had = b)) (w : World) : Calls Tryd.prog 24 #[chV (turn c)] w fun e w' => e = .returned (.tuple #[rowV r, .bool b]) ∧ Below w.heap.size w w' :=
  (after_any (turn c) w).mono fun e w' hw => by
    have h1 : (if (turn c).has then (⟨(turn c).t, (turn c).k, (turn c).n⟩ : MRow) else ⟨0, 0, V3.zero⟩) = r := h.out.1
    have h2 : (turn c).has = b := h.out.2
    rw [h1, h2] at hw
    exact hw
theorem vrec_to (p : Int) (v : Value) (L : List MCh) (w : World) {b : Bool} (h : Hid (vrec p L = b)) (hv : ChS w v L) : Calls Tryd.prog 33 #[.agg #[.int .i64 p, v]] w fun e w' => e = .returned (.bool b) ∧ Below w.heap.size w w' :=
  (validRecord_any p v L w hv).mono fun e w' hw => by rw [h.out] at hw; exact hw
theorem vrec_turn_b (p : Int) (L : List MCh) : vrec p (L.map turn) = vrec p L := by unfold vrec; exact decide_eq_decide.2 (vrec_turn p L)

set_option maxRecDepth 100000 in
set_option maxHeartbeats 8000000 in
theorem inverse_walk (p : Int) (u : Value) (L : List MCh) (W : World) (hE : Errs W) (hu : ChI W u L) : Calls Tryd.prog 11 #[.agg #[.int .i64 p, u]] W fun e w' => e = .returned (.bool true) ∧ Below W.heap.size W w' := by
  have HG : Hid (∀ w', Below W.heap.size W w' → Errs w') := Lib.hid (fun w' h => hE.below h)
  have HU := Lib.hid hu
  obtain ⟨ua, un, uc, rfl⟩ : ∃ a n c, u = .slice a n c := by obtain ⟨a, n, c, e, _⟩ := hu; exact ⟨a, n, c, e⟩
  clear hE hu
  go_enter Tryd.func11, Tryd.ntmps11
  have HX0 := Lib.hid (RecAt.new W p (.slice ua un uc))
  go_wp2_with fail
  (with_reducible refine (sane_any _ (HG.out _ (ba _ _))).mono ?_)
  rintro e w1 ⟨rfl, hb1⟩
  have HB1 := Lib.hid (bt (ba W (.cells #[.int .i64 p, .slice ua un uc] 37)) hb1)
  have HX1 := Lib.hid (HX0.out.next hb1)
  clear hb1 HX0
  obtain ⟨c0, c1, f0, f1⟩ := HX1.out
  go_wp2_with fail
  (with_reducible refine (cutO_any p _ L _ (HU.out.below HB1.out)).mono ?_)
  rintro e w2 ⟨u1, rfl, ho1, hb2⟩
  obtain ⟨g1, c1', rfl, hg1, hc1, ho1⟩ := ho1
  have hX1 := HX1.out.lt
  have HX2 := Lib.hid (HX1.out.next hb2)
  have HB2 := Lib.hid (bt HB1.out hb2)
  have HO2 := Lib.hid ho1
  have hgX : ¬ g1 = W.heap.size := by omega
  clear hb2 ho1 c0 c1 f0 f1 HX1 HB1 HU
  obtain ⟨A, HA⟩ : ∃ A, Hid (L.take 10 = A) := ⟨_, Lib.hid rfl⟩
  rw [HA.out] at HO2
  have HL10 : Hid (A.length ≤ 10) := Lib.hid (by rw [← HA.out, List.length_take]; omega)
  obtain ⟨n, HN⟩ : ∃ n, Hid (A.length = n) := ⟨_, Lib.hid rfl⟩
  rw [HA.out, HN.out]
  have hn10 : n ≤ 10 := by have := HL10.out; rw [HN.out] at this; exact this
  obtain ⟨c0, c1, f0, f1⟩ := HX2.out
  obtain ⟨w3, Hw3⟩ : ∃ w3, Hid ((w2.setCell ⟨W.heap.size, 0, none⟩ (.int .i64 p)).setCell ⟨W.heap.size, 1, none⟩ (.slice (some ⟨g1, 0, none⟩) n c1') = w3) := ⟨_, Lib.hid rfl⟩
  have HX3 := Lib.hid (HX2.out.set _ _ Hw3.out)
  have HO3 : Hid (OwnAt w3 g1 c1' A) := Lib.hid (by rw [← Hw3.out]; exact (HO2.out.far hgX _ _).far hgX _ _)
  have HB3 : Hid (Below W.heap.size W w3) := Lib.hid (by rw [← Hw3.out]; exact below_setCell (below_setCell HB2.out (by simp) _) (by simp) _)
  clear HX2 HO2 HB2 hX1
  go_wp2_with fail
  rw [Hw3.out]
  clear c0 c1 f0 f1 Hw3
  obtain ⟨c0, c1, f0, f1⟩ := HX3.out
  go_wp2_with fail
  (with_reducible refine (cutO_any p _ A _ (HO3.out.chi hc1 HN.out.symm)).mono ?_)
  rintro e w4 ⟨u2, rfl, ho2, hb4⟩
  obtain ⟨g2, c2', rfl, hg2, hc2, ho2⟩ := ho2
  rw [List.take_of_length_le HL10.out] at ho2 ⊢
  rw [HN.out]
  have hX3 := HX3.out.lt
  have hg1l := HO3.out.lt
  have HX4 := Lib.hid ((HX3.out.next hb4).next (ba w4 (.cells #[.int .i64 p, .slice (some ⟨g2, 0, none⟩) n c2'] 37)))
  have HB4 := Lib.hid (bt (bt HB3.out hb4) (ba w4 (.cells #[.int .i64 p, .slice (some ⟨g2, 0, none⟩) n c2'] 37)))
  have HO4 := Lib.hid ((HO3.out.below hb4).below (ba w4 (.cells #[.int .i64 p, .slice (some ⟨g2, 0, none⟩) n c2'] 37)))
  have HP4 := Lib.hid (ho2.below (ba w4 (.cells #[.int .i64 p, .slice (some ⟨g2, 0, none⟩) n c2'] 37)))
  have HY4 := Lib.hid (RecAt.new w4 p (.slice (some ⟨g2, 0, none⟩) n c2'))
  have hgY : ¬ w4.heap.size = g2 := by have := ho2.lt; omega
  have hg12 : ¬ g1 = g2 := by omega
  have hXg2 : ¬ W.heap.size = g2 := by omega
  have hXg2' : W.heap.size ≤ g2 := by omega
  clear hb4 ho2 c0 c1 f0 f1 HX3 HB3 HO3
  go_wp2_with fail
  generalize w4.alloc (.cells #[.int .i64 p, .slice (some ⟨g2, 0, none⟩) n c2'] 37) = w5 at HX4 HB4 HO4 HP4 HY4 ⊢
  obtain ⟨Y, HYe⟩ : ∃ Y, Hid (w4.heap.size = Y) := ⟨_, Lib.hid rfl⟩
  rw [HYe.out] at HY4 hgY
  try rw [HYe.out]
  rw [← part_zero A] at HP4
  go_loopw [5, 6, 7, 8, 9, 10, 11] (fun i _ _ _ _ _ _ wr => ∃ k : Nat, k ≤ n ∧ i = .int .i64 k ∧ Hid (RecAt wr W.heap.size p (.slice (some ⟨g1, 0, none⟩) n c1')) ∧ Hid (Below W.heap.size W wr) ∧ Hid (OwnAt wr g1 c1' A) ∧ Hid (OwnAt wr g2 c2' (part A k)) ∧ Hid (RecAt wr Y p (.slice (some ⟨g2, 0, none⟩) n c2'))) (fun i _ _ _ _ _ _ _ => n - (intOf i).toNat)
  case atStart => exact ⟨0, by omega, rfl, HX4, HB4, HO4, HP4, HY4⟩
  case round =>
    clear HX4 HB4 HO4 HP4 HY4
    obtain ⟨k, hk, rfl, HX, HB, HO, HP, HY⟩ := hrel
    obtain ⟨c0, c1, f0, f1⟩ := HX.out
    obtain ⟨y0, y1, yf0, yf1⟩ := HY.out
    by_cases hlt : k < n
    · have hkA : Hid (k < A.length) := Lib.hid (by rw [HN.out]; exact hlt)
      have HCk := HO.out.at k hkA.out
      have HDk := HP.out.at k (by rw [part_len]; exact hkA.out)
      have HPs := Lib.hid (part_step A k hkA.out)
      have HPl : Hid (k < (part A k).length) := Lib.hid (by rw [part_len]; exact hkA.out)
      obtain ⟨c, HcE⟩ : ∃ c, Hid (A.getD k chZ = c) := ⟨_, Lib.hid rfl⟩
      obtain ⟨dd, HdE⟩ : ∃ d, Hid ((part A k).getD k chZ = d) := ⟨_, Lib.hid rfl⟩
      rw [HcE.out] at HCk HPs
      rw [HdE.out] at HDk
      obtain ⟨r, h, HR⟩ : ∃ r h, Hid ((if c.had then (⟨c.t, c.k, c.o⟩ : MRow) else ⟨0, 0, V3.zero⟩) = r ∧ c.had = h) := ⟨_, _, Lib.hid ⟨rfl, rfl⟩⟩
      obtain ⟨v, HV⟩ : ∃ v, Hid (vc c = v) := ⟨_, Lib.hid rfl⟩
      have HVt : Hid (vc (turn c) = v) := Lib.hid (by rw [vc_turn]; exact HV.out)
      have hbef := Lib.hid (fun w => bef_to c r h HR w)
      have haft := Lib.hid (fun w => aft_to c r h HR w)
      have hvc := Lib.hid (fun w => vc_to c w HV)
      have hvt := Lib.hid (fun w => vc_to (turn c) w HVt)
      clear HV HVt HR HcE HdE
      obtain ⟨t, kk, had, ⟨oa, ob, oc⟩, has, ⟨na, nb, nc⟩⟩ := c
      obtain ⟨rt, rk, ⟨ra, rb, rc⟩⟩ := r
      have haft2 : Hid (∀ w, Calls Tryd.prog 24 #[chV ⟨t, kk, has, ⟨na, nb, nc⟩, had, ⟨oa, ob, oc⟩⟩] w fun e w' => e = .returned (.tuple #[rowV ⟨rt, rk, ⟨ra, rb, rc⟩⟩, .bool h]) ∧ Below w.heap.size w w') := Lib.hid haft.out
      have hvt2 : Hid (∀ w, Calls Tryd.prog 27 #[chV ⟨t, kk, has, ⟨na, nb, nc⟩, had, ⟨oa, ob, oc⟩⟩] w fun e w' => e = .returned (.bool v) ∧ Below w.heap.size w w') := Lib.hid hvt.out
      clear haft hvt
      obtain ⟨d0, d1, d2, d3, d4, d5, d6, d7, d8, d9⟩ := HCk.cells
      have hlX := HX.out.lt
      have hlY := HY.out.lt
      have hlg1 := HO.out.lt
      have hlg2 := HP.out.lt
      go_upto_region 9 with fail
      obtain ⟨wa, Hwa⟩ : ∃ wa, Hid (wr.alloc (.cells #[.int .i64 t, .int .i64 kk, .bool had, .int .i64 oa, .int .i64 ob, .int .i64 oc, .bool has, .int .i64 na, .int .i64 nb, .int .i64 nc] 42) = wa) := ⟨_, Lib.hid rfl⟩
      have Hza : Hid (wa.heap.size = wr.heap.size + 1) := Lib.hid (by rw [← Hwa.out]; simp)
      have hba : Below wr.heap.size wr wa := by rw [← Hwa.out]; exact ba _ _
      have HCa : Hid (ChAt wa wr.heap.size 0 ⟨t, kk, had, ⟨oa, ob, oc⟩, has, ⟨na, nb, nc⟩⟩) := Lib.hid (by rw [← Hwa.out]; exact ChAt_new wr ⟨t, kk, had, ⟨oa, ob, oc⟩, has, ⟨na, nb, nc⟩⟩)
      rw [Hwa.out]
      obtain ⟨wb, Hwb⟩ : ∃ wb, Hid (wa.alloc (.cells #[.int .i64 t, .int .i64 kk, .bool has, .int .i64 na, .int .i64 nb, .int .i64 nc, .bool had, .int .i64 oa, .int .i64 ob, .int .i64 oc] 42) = wb) := ⟨_, Lib.hid rfl⟩
      have hbb : Below wa.heap.size wa wb := by rw [← Hwb.out]; exact ba _ _
      have hzb : wb.heap.size = wr.heap.size + 2 := by rw [← Hwb.out, World.size_alloc, Hza.out]
      have HCb : Hid (ChAt wb wr.heap.size 0 ⟨t, kk, had, ⟨oa, ob, oc⟩, has, ⟨na, nb, nc⟩⟩) := Lib.hid (HCa.out.below (by rw [Hza.out]; omega) hbb)
      have HDb : Hid (ChAt wb (wr.heap.size + 1) 0 ⟨t, kk, has, ⟨na, nb, nc⟩, had, ⟨oa, ob, oc⟩⟩) := Lib.hid (by rw [← Hwb.out, ← Hza.out]; exact ChAt_new wa ⟨t, kk, has, ⟨na, nb, nc⟩, had, ⟨oa, ob, oc⟩⟩)
      have hb2 := bt hba hbb
      rw [Hwb.out]
      have HXb := Lib.hid (HX.out.next hb2)
      have HYb := Lib.hid (HY.out.next hb2)
      have HOb := Lib.hid (HO.out.below hb2)
      have HPb := Lib.hid (HP.out.below hb2)
      have HBb := Lib.hid (bt HB.out hb2)
      have HDDb := HDk.below hlg2 hb2
      clear hba hbb hb2 HX HY HO HP HB HDk HCk Hwa Hwb HCa c0 c1 f0 f1 y0 y1 yf0 yf1 d0 d1 d2 d3 d4 d5 d6 d7 d8 d9
      obtain ⟨y0, y1, _⟩ := HYb.out
      obtain ⟨d0, d1, d2, d3, d4, d5, d6, d7, d8, d9⟩ := HDb.out.cells
      obtain ⟨e0, e1, e2, e3, e4, e5, e6, e7, e8, e9⟩ := ChAt.cells HDDb
      have hfz := HPb.out.room
      go_upto_region 10 with fail
      obtain ⟨wc, Hwc⟩ : ∃ wc, Hid (((((((((((wb.setCell ⟨g2, k * 10, none⟩ (.int .i64 t)).setCell ⟨g2, k * 10 + 1, none⟩ (.int .i64 kk)).setCell ⟨g2, k * 10 + 2, none⟩ (.bool has)).setCell ⟨g2, k * 10 + 3, none⟩ (.int .i64 na)).setCell ⟨g2, k * 10 + 4, none⟩ (.int .i64 nb)).setCell ⟨g2, k * 10 + 5, none⟩ (.int .i64 nc)).setCell ⟨g2, k * 10 + 6, none⟩ (.bool had)).setCell ⟨g2, k * 10 + 7, none⟩ (.int .i64 oa)).setCell ⟨g2, k * 10 + 8, none⟩ (.int .i64 ob)).setCell ⟨g2, k * 10 + 9, none⟩ (.int .i64 oc)) = wc) := ⟨_, Lib.hid rfl⟩
      rw [Hwc.out]
      have hgr : ¬ wr.heap.size = g2 := by omega
      have hgr1 : ¬ wr.heap.size + 1 = g2 := by omega
      have hYg : ¬ Y = g2 := hgY
      have HCc : Hid (ChAt wc wr.heap.size 0 ⟨t, kk, had, ⟨oa, ob, oc⟩, has, ⟨na, nb, nc⟩⟩) := Lib.hid (by rw [← Hwc.out]; exact HCb.out.far10 hgr (k * 10) ⟨t, kk, has, ⟨na, nb, nc⟩, had, ⟨oa, ob, oc⟩⟩)
      have HDc : Hid (ChAt wc (wr.heap.size + 1) 0 ⟨t, kk, has, ⟨na, nb, nc⟩, had, ⟨oa, ob, oc⟩⟩) := Lib.hid (by rw [← Hwc.out]; exact HDb.out.far10 hgr1 (k * 10) ⟨t, kk, has, ⟨na, nb, nc⟩, had, ⟨oa, ob, oc⟩⟩)
      have HXc : Hid (RecAt wc W.heap.size p (.slice (some ⟨g1, 0, none⟩) n c1')) := Lib.hid (by rw [← Hwc.out]; exact HXb.out.far10 hXg2 (k * 10) ⟨t, kk, has, ⟨na, nb, nc⟩, had, ⟨oa, ob, oc⟩⟩)
      have HYc : Hid (RecAt wc Y p (.slice (some ⟨g2, 0, none⟩) n c2')) := Lib.hid (by rw [← Hwc.out]; exact HYb.out.far10 hYg (k * 10) ⟨t, kk, has, ⟨na, nb, nc⟩, had, ⟨oa, ob, oc⟩⟩)
      have HOc : Hid (OwnAt wc g1 c1' A) := Lib.hid (by rw [← Hwc.out]; exact HOb.out.far10 hg12 (k * 10) ⟨t, kk, has, ⟨na, nb, nc⟩, had, ⟨oa, ob, oc⟩⟩)
      have HPc : Hid (OwnAt wc g2 c2' (part A (k + 1))) := Lib.hid (by
        have := HPb.out.set k HPl.out (turn ⟨t, kk, had, ⟨oa, ob, oc⟩, has, ⟨na, nb, nc⟩⟩)
        rw [HPs.out] at this
        rw [← Hwc.out]; exact this)
      have HBc : Hid (Below W.heap.size W wc) := Lib.hid (by rw [← Hwc.out]; exact below_set10 HBb.out hXg2' (k * 10) ⟨t, kk, has, ⟨na, nb, nc⟩, had, ⟨oa, ob, oc⟩⟩)
      have hzc : wc.heap.size = wr.heap.size + 2 := by rw [← Hwc.out]; simpa [World.setCell] using hzb
      clear hgr hgr1 hYg HCb HDb HXb HYb HOb HPb HBb Hwc y0 y1 d0 d1 d2 d3 d4 d5 d6 d7 d8 d9 e0 e1 e2 e3 e4 e5 e6 e7 e8 e9 hfz HDDb HPs HPl hzb
      obtain ⟨d0, d1, d2, d3, d4, d5, d6, d7, d8, d9⟩ := HCc.out.cells
      go_wp2_with fail
      (with_reducible refine (hbef.out _).mono ?_)
      rintro e w6 ⟨rfl, hb6⟩
      have hk6 := bt hb6 (ba w6 (.cells #[.int .i64 rt, .int .i64 rk, .int .i64 ra, .int .i64 rb, .int .i64 rc] 24))
      have hl6 : wr.heap.size + 1 < w6.heap.size := by have := hb6.size; omega
      have HC6 := Lib.hid (HCc.out.below (by omega) hk6)
      have HD6 := Lib.hid (HDc.out.below (by omega) hk6)
      have HX6 := Lib.hid (HXc.out.next hk6)
      have HY6 := Lib.hid (HYc.out.next hk6)
      have HO6 := Lib.hid (HOc.out.below hk6)
      have HP6 := Lib.hid (HPc.out.below hk6)
      have HB6 := Lib.hid (bt HBc.out hk6)
      have HA6 := Lib.hid (RwAt.new w6 ⟨rt, rk, ⟨ra, rb, rc⟩⟩)
      clear hb6 hk6 HCc HDc HXc HYc HOc HPc HBc d0 d1 d2 d3 d4 d5 d6 d7 d8 d9
      obtain ⟨d0, d1, d2, d3, d4, d5, d6, d7, d8, d9⟩ := HD6.out.cells
      go_wp2_with fail
      (with_reducible refine (haft2.out _).mono ?_)
      rintro e w7 ⟨rfl, hb7⟩
      have hk7 := bt hb7 (ba w7 (.cells #[.int .i64 rt, .int .i64 rk, .int .i64 ra, .int .i64 rb, .int .i64 rc] 24))
      have HC7 := HC6.out.below (by simp; omega) hk7
      have HD7 := HD6.out.below (by simp; omega) hk7
      have HX7 := Lib.hid (HX6.out.next hk7)
      have HY7 := Lib.hid (HY6.out.next hk7)
      have HO7 := Lib.hid (HO6.out.below hk7)
      have HP7 := Lib.hid (HP6.out.below hk7)
      have HB7 := Lib.hid (bt HB6.out hk7)
      have HA7 := HA6.out.below hk7
      have HN7 := RwAt.new w7 ⟨rt, rk, ⟨ra, rb, rc⟩⟩
      clear hb7 hk7 HC6 HD6 HX6 HY6 HO6 HP6 HB6 HA6 d0 d1 d2 d3 d4 d5 d6 d7 d8 d9
      go_upto_region 12 with fail
      generalize hw8 : w7.alloc (.cells #[.int .i64 rt, .int .i64 rk, .int .i64 ra, .int .i64 rb, .int .i64 rc] 24) = w8 at HC7 HD7 HX7 HY7 HO7 HP7 HB7 HA7 HN7 ⊢
      clear hw8
      have hg := fun d os => ChAt_regrown HC7 d os
      have ht := fun d os => ChAt_regrown HD7 d os
      have g0 := fun d os => (ChAt.cells (hg d os)).1
      have g1' := fun d os => (ChAt.cells (hg d os)).2.1
      have g2' := fun d os => (ChAt.cells (hg d os)).2.2.1
      have g3 := fun d os => (ChAt.cells (hg d os)).2.2.2.1
      have g4 := fun d os => (ChAt.cells (hg d os)).2.2.2.2.1
      have g5 := fun d os => (ChAt.cells (hg d os)).2.2.2.2.2.1
      have g6 := fun d os => (ChAt.cells (hg d os)).2.2.2.2.2.2.1
      have g7 := fun d os => (ChAt.cells (hg d os)).2.2.2.2.2.2.2.1
      have g8 := fun d os => (ChAt.cells (hg d os)).2.2.2.2.2.2.2.2.1
      have g9 := fun d os => (ChAt.cells (hg d os)).2.2.2.2.2.2.2.2.2
      have t0 := fun d os => (ChAt.cells (ht d os)).1
      have t1 := fun d os => (ChAt.cells (ht d os)).2.1
      have t2 := fun d os => (ChAt.cells (ht d os)).2.2.1
      have t3 := fun d os => (ChAt.cells (ht d os)).2.2.2.1
      have t4 := fun d os => (ChAt.cells (ht d os)).2.2.2.2.1
      have t5 := fun d os => (ChAt.cells (ht d os)).2.2.2.2.2.1
      have t6 := fun d os => (ChAt.cells (ht d os)).2.2.2.2.2.2.1
      have t7 := fun d os => (ChAt.cells (ht d os)).2.2.2.2.2.2.2.1
      have t8 := fun d os => (ChAt.cells (ht d os)).2.2.2.2.2.2.2.2.1
      have t9 := fun d os => (ChAt.cells (ht d os)).2.2.2.2.2.2.2.2.2
      simp only [Nat.zero_add] at g0 g1' g2' g3 g4 g5 g6 g7 g8 g9 t0 t1 t2 t3 t4 t5 t6 t7 t8 t9
      clear hg ht HC7 HD7
      have aa0 := fun d os => cell_regrown HA7.c0 d os
      have aa1 := fun d os => cell_regrown HA7.c1 d os
      have aa2 := fun d os => cell_regrown HA7.c2 d os
      have aa3 := fun d os => cell_regrown HA7.c3 d os
      have aa4 := fun d os => cell_regrown HA7.c4 d os
      have nn0 := fun d os => cell_regrown HN7.c0 d os
      have nn1 := fun d os => cell_regrown HN7.c1 d os
      have nn2 := fun d os => cell_regrown HN7.c2 d os
      have nn3 := fun d os => cell_regrown HN7.c3 d os
      have nn4 := fun d os => cell_regrown HN7.c4 d os
      clear HA7 HN7
      have hv1 : ∀ d os, Calls Tryd.prog 27 #[chV ⟨t, kk, had, ⟨oa, ob, oc⟩, has, ⟨na, nb, nc⟩⟩] (grow (redrawn w8 d) os) fun e w'' => e = .returned (.bool v) ∧ ∃ p : Regrown, w'' = grow (redrawn w8 p.d) p.os := fun d os => Calls.regrown_of (hvc.out _)
      have hv2 : ∀ d os, Calls Tryd.prog 27 #[chV ⟨t, kk, has, ⟨na, nb, nc⟩, had, ⟨oa, ob, oc⟩⟩] (grow (redrawn w8 d) os) fun e w'' => e = .returned (.bool v) ∧ ∃ p : Regrown, w'' = grow (redrawn w8 p.d) p.os := fun d os => Calls.regrown_of (hvt2.out _)
      have hq := fun w => neqRow rt rk ra rb rc rt rk ra rb rc w
      rw [show rowE ⟨rt, rk, ⟨ra, rb, rc⟩⟩ ⟨rt, rk, ⟨ra, rb, rc⟩⟩ = true by simp [rowE]] at hq
      have hvv : (v != v) = false := by simp
      have hhh : (h != h) = false := by simp
      refine wp_region_quiet_below (by kernel_rfl) (by kernel_rfl) ?_
      repeat (first | go_big_quiet_step (first | with_reducible exact hv1 _ _ | with_reducible exact hv2 _ _) | quiet_step (first | with_reducible exact hv1 _ _ | with_reducible exact hv2 _ _))
      refine wpQuiet_nil ?_
      intro _ hw'
      obtain ⟨⟨dq, osq⟩, hw''⟩ := hw'
      subst hw''
      have hbq := below_regrown w8 dq osq
      have HX8 := Lib.hid (HX7.out.next hbq)
      have HY8 := Lib.hid (HY7.out.next hbq)
      have HO8 := Lib.hid (HO7.out.below hbq)
      have HP8 := Lib.hid (HP7.out.below hbq)
      have HB8 := Lib.hid (bt HB7.out hbq)
      clear hq g0 g1' g2' g3 g4 g5 g6 g7 g8 g9 t0 t1 t2 t3 t4 t5 t6 t7 t8 t9 aa0 aa1 aa2 aa3 aa4 nn0 nn1 nn2 nn3 nn4 hv1 hv2
      go_wp2_with fail
      exact ⟨⟨k + 1, by omega, by go_num, HX8, HB8, HO8, HP8, HY8⟩, by simp [intOf]; omega⟩
    · obtain rfl : k = n := by omega
      obtain ⟨b, Hb⟩ : ∃ b, Hid (vrec p A = b) := ⟨_, Lib.hid rfl⟩
      have Hb2 : Hid (vrec p (part A k) = b) := Lib.hid (by rw [← HN.out, part_all, vrec_turn_b]; exact Hb.out)
      have HPL : Hid (k = (part A k).length) := Lib.hid (by rw [part_len, HN.out])
      have hbb : (b == b) = true := by simp
      go_upto_region 14 with fail
      have x0 := fun d os => cell_regrown c0 d os
      have x1 := fun d os => cell_regrown c1 d os
      have z0 := fun d os => cell_regrown y0 d os
      have z1 := fun d os => cell_regrown y1 d os
      have hv1 : ∀ d os, Calls Tryd.prog 33 #[.agg #[.int .i64 p, .slice (some ⟨g1, 0, none⟩) k c1']] (grow (redrawn wr d) os) fun e w'' => e = .returned (.bool b) ∧ ∃ p : Regrown, w'' = grow (redrawn wr p.d) p.os := fun d os => Calls.regrown_of (vrec_to p _ A _ Hb ((HO.out.below (below_regrown wr d os)).chs hc1 HN.out.symm))
      have hv2 : ∀ d os, Calls Tryd.prog 33 #[.agg #[.int .i64 p, .slice (some ⟨g2, 0, none⟩) k c2']] (grow (redrawn wr d) os) fun e w'' => e = .returned (.bool b) ∧ ∃ p : Regrown, w'' = grow (redrawn wr p.d) p.os := fun d os => Calls.regrown_of (vrec_to p _ (part A k) _ Hb2 ((HP.out.below (below_regrown wr d os)).chs hc2 HPL.out))
      refine wp_region_quiet_below (by kernel_rfl) (by kernel_rfl) ?_
      repeat (first | go_big_quiet_step (first | with_reducible exact hv1 _ _ | with_reducible exact hv2 _ _) | quiet_step (first | with_reducible exact hv1 _ _ | with_reducible exact hv2 _ _))
      refine wpQuiet_nil ?_
      intro _ hw'
      obtain ⟨⟨dq, osq⟩, hw''⟩ := hw'
      subst hw''
      have HB8 := Lib.hid (bt HB.out (below_regrown wr dq osq))
      go_wp2_with fail
      go_ret
      exact ⟨rfl, HB8.out⟩
end Go.Proofs.YtgkdliocfnoffaaDoor
