/- WALKS: the reference: DecodeRecord. -/
import Derived.Test.YtgkdliocfnoffaaDoorH5
import Derived.Test.YtgkdliocfnoffaaDoorH2
import Derived.Test.YtgkdliocfnoffaaDoorQ4
import Derived.Test.YtgkdliocfnoffaaDoorH0
import Derived.Deep.AppendLies
set_option linter.unusedVariables false
set_option linter.unusedSimpArgs false
namespace Go.Proofs.YtgkdliocfnoffaaDoor
open Go.RowKit Go.Sort

theorem rdRec_none {L : List UInt8} {k : Nat} (h : getN 2 L k = none) : rdRec.run L k = .error false := by
  simp only [getN] at h
  simp only [rdRec, Rd.run]
  cases h1 : decInt (L.drop k) with
  | none => rfl
  | some p1 =>
    simp only [h1] at h ⊢
    cases h2 : decInt (L.drop (k + p1.2)) with
    | none => rfl
    | some p2 => simp [h2] at h
theorem rdRec_some {L : List UInt8} {k k' : Nat} {l : List Int} (h : getN 2 L k = some (l, k')) : ∃ p m, l = [p, m] ∧ rdRec.run L k = (rdRecT p m).run L k' := by
  simp only [getN] at h
  simp only [rdRec, Rd.run]
  cases h1 : decInt (L.drop k) with
  | none => simp [h1] at h
  | some p1 =>
    simp only [h1] at h ⊢
    cases h2 : decInt (L.drop (k + p1.2)) with
    | none => simp [h2] at h
    | some p2 =>
      simp only [h2, Option.map_some, Option.some.injEq, Prod.mk.injEq] at h
      exact ⟨_, _, h.1.symm, by rw [← h.2]; rfl⟩
theorem decRec_err {s : ByteArray} {b : Bool} (h : rdRec.run s.data.toList 0 = .error b) : decRec s = (recZ, if b then 30 else 10) := by unfold decRec; rw [h]
theorem decRec_more {s : ByteArray} {x : MRec} {k : Nat} (h : rdRec.run s.data.toList 0 = .ok (x, k)) (hk : k < s.size) : decRec s = (recZ, 10) := by unfold decRec; rw [h]; simp only; rw [if_neg (by omega)]
theorem decRec_inv {s : ByteArray} {x : MRec} (h : rdRec.run s.data.toList 0 = .ok (x, s.size)) (hv : ¬ VRec x.pos x.chs) : decRec s = (recZ, 30) := by unfold decRec; rw [h]; simp [hv]
theorem decRec_fine {s : ByteArray} {x : MRec} (h : rdRec.run s.data.toList 0 = .ok (x, s.size)) (hv : VRec x.pos x.chs) : decRec s = (x, 0) := by unfold decRec; rw [h]; simp [hv]
theorem results_row32 (w : World) (R : Nat) (cells : Array Value) (t : TypeId) (x : Value) (tmps : Array Value) (hR : w.heap[R]? = some (.cells cells t (0, 0))) (hs : cells.size = 2)
    (h2 : tmps.getD 2 undef = .pointer (some ⟨R, 0, none⟩)) (h3 : tmps.getD 3 undef = x) : (results Tryd.f32 tmps).run Tryd.prog w = .ok (.tuple #[.agg cells, x]) w := by
  have h2' : tmps[2]?.getD undef = .pointer (some ⟨R, 0, none⟩) := by simpa using h2
  have h3' : tmps[3]?.getD undef = x := by simpa using h3
  have hl := run_loadVar_row (P := Tryd.prog) w R t 37 cells (0, 0) _ hR Tryd.underlying37 rfl (by rw [hs]; kernel_rfl)
  simp [results, Tryd.results32, h2', h3', asAddr, hl]
theorem chs_of_own {w : World} {base j : Nat} {v : Value} {acc : List MCh} (h : w.ownsRow base 42 10 v j (cellsOf acc j)) (hl : acc.length = j) (h1 : 1 ≤ j) : ChS w v acc := by
  obtain ⟨g, cap, rfl, _, _⟩ := h.form (by omega)
  exact chs_owns h hl.symm
theorem refCh_no (s : ByteArray) (k : Nat) (w : World) (hs : s.size ≤ maxLen) (hk : k ≤ s.size) {b : Bool} (h : Hid (rdCh.run s.data.toList k = .error b)) : Calls Tryd.prog 53 #[.string s, .int .i64 k] w fun e w' => e = .returned (.tuple #[.agg #[.int .i64 0, .int .i64 0, .bool false, .int .i64 0, .int .i64 0, .int .i64 0, .bool false, .int .i64 0, .int .i64 0, .int .i64 0], .int .i64 0, .int .i64 (if b then 30 else 10)]) ∧ Below w.heap.size w w' :=
  (refChange_any s k w hs hk).mono fun e w' hw => by rw [h.out] at hw; exact hw
theorem refCh_ok (s : ByteArray) (k : Nat) (w : World) (hs : s.size ≤ maxLen) (hk : k ≤ s.size) {c : MCh} {k' : Nat} (h : Hid (rdCh.run s.data.toList k = .ok (c, k'))) : Calls Tryd.prog 53 #[.string s, .int .i64 k] w fun e w' => e = .returned (.tuple #[chV c, .int .i64 (k' : Int), .int .i64 0]) ∧ Below w.heap.size w w' :=
  (refChange_any s k w hs hk).mono fun e w' hw => by rw [h.out] at hw; exact hw
set_option maxRecDepth 100000 in
set_option maxHeartbeats 8000000 in
theorem refDec_0 (s : ByteArray) (w : World) (hs : s.size ≤ maxLen) (h : getN 2 s.data.toList 0 = none) : Calls Tryd.prog 32 #[.string s] w (DecROut s w) := by
  have HX := Lib.hid (decRec_err (rdRec_none h))
  have H := Lib.hid h
  clear h
  go_enter Tryd.func32, Tryd.ntmps32
  go_wp2_with fail
  (with_reducible refine (get_no s 0 2 0 2 _ (by decide) (by decide) hs (Nat.zero_le _) (by decide) H).mono ?_)
  rintro e w1 ⟨rfl, hb1⟩
  have hR : w1.heap[w.heap.size]? = some (.cells #[.int .i64 0, .slice none 0 0] 37 (0, 0)) := (hb1.block _ (by simp)).trans (heap_alloc_new w _)
  go_wp2_with (refine wpList_store_row rfl 37 _ _ rfl w.heap.size #[.int .i64 0, .slice none 0 0] rfl rfl 37 _ hR (by kernel_rfl) rfl (by simp [Value.oneCell']) ?_)
  refine bodyPost_ret (v := .tuple #[.agg #[.int .i64 0, .slice none 0 0], .int .i64 10]) ?_ rfl (DecROut.zero HX rfl (below_row (bt (ba w _) hb1) (Nat.le_refl _) _))
  exact results_row32 _ _ _ _ _ _ (setRow_heap _ _ _ _ _ _ hR) rfl rfl rfl
set_option maxRecDepth 100000 in
set_option maxHeartbeats 8000000 in
theorem refDec_bad (s : ByteArray) (w : World) (hs : s.size ≤ maxLen) (p m : Int) (k1 : Nat) (h : getN 2 s.data.toList 0 = some ([p, m], k1)) (hr : rdRec.run s.data.toList 0 = (rdRecT p m).run s.data.toList k1) (hm : m < 1 ∨ 8 < m) : Calls Tryd.prog 32 #[.string s] w (DecROut s w) := by
  have HX := Lib.hid (decRec_err (hr.trans (rdRecT_bad _ p m k1 hm)))
  have H := Lib.hid h
  have HM : Hid (¬ (1 ≤ m ∧ m ≤ 8)) := Lib.hid (by omega)
  clear h hm hr
  go_enter Tryd.func32, Tryd.ntmps32
  go_wp2_with fail
  (with_reducible refine (get_ok s 0 2 0 2 _ (by decide) (by decide) hs (Nat.zero_le _) (by decide) H (by decide)).mono ?_)
  rintro e w1 ⟨g, cc, rfl, hcl, hg, hgl, hb1⟩
  have hR : w1.heap[w.heap.size]? = some (.cells #[.int .i64 0, .slice none 0 0] 37 (0, 0)) := (hb1.block _ (by simp)).trans (heap_alloc_new w _)
  have c0 : w1.cell? ⟨g, 0, none⟩ = some (.int .i64 p) := hcl 0 (by decide)
  have c1 : w1.cell? ⟨g, 1, none⟩ = some (.int .i64 m) := hcl 1 (by decide)
  clear hcl
  go_wp2_with fail
  (with_reducible refine (within_f m _ _ _ HM.out).mono ?_)
  rintro e w2 ⟨rfl, hw2⟩
  rw [hw2]
  clear hw2 c0 c1
  go_wp2_with (refine wpList_store_row rfl 37 _ _ rfl w.heap.size #[.int .i64 0, .slice none 0 0] rfl rfl 37 _ hR (by kernel_rfl) rfl (by simp [Value.oneCell']) ?_)
  refine bodyPost_ret (v := .tuple #[.agg #[.int .i64 0, .slice none 0 0], .int .i64 30]) ?_ rfl (DecROut.zero HX rfl (below_row (bt (ba w _) hb1) (Nat.le_refl _) _))
  exact results_row32 _ _ _ _ _ _ (setRow_heap _ _ _ _ _ _ hR) rfl rfl rfl
theorem chs_setRow {w w5 : World} {base j R : Nat} {v : Value} {acc : List MCh} {cs : Array Value} (h : w.ownsRow base 42 10 v j (cellsOf acc j)) (hb : Below w.heap.size w w5) (hl : acc.length = j) (h1 : 1 ≤ j) (hR : R < base) : ChS (w5.setRow R cs) v acc := by
  obtain ⟨g, cap, rfl, hg, _⟩ := h.form (by omega)
  refine chs_owns (base := base) (m := j) ?_ hl.symm
  have h5 := ownsRow_below h hb
  obtain ⟨hl', h' | ⟨g', cap', cur, e, hb', hr, r⟩⟩ := h5
  · simp at h'
  · exact ⟨hl', .inr ⟨g', cap', cur, e, hb', (setRow_other _ _ _ _ (by omega)).trans hr, r⟩⟩
set_option maxRecDepth 100000 in
set_option maxHeartbeats 8000000 in
theorem refDec_go (s : ByteArray) (w : World) (hs : s.size ≤ maxLen) (p : Int) (n k1 : Nat) (hn1 : 1 ≤ n) (hn8 : n ≤ 8) (h : getN 2 s.data.toList 0 = some ([p, (n : Int)], k1)) (hr : rdRec.run s.data.toList 0 = (rdRecT p n).run s.data.toList k1) : Calls Tryd.prog 32 #[.string s] w (DecROut s w) := by
  have HE : Hid (rdRec.run s.data.toList 0 = ((rdGo n []).bind fun cs => Rd.ret ⟨p, cs⟩).run s.data.toList k1) := Lib.hid (by rw [hr, rdRecT_go p n hn1 hn8])
  have hk1 := getN_le (Nat.zero_le _) h
  have H := Lib.hid h
  have HMn : Hid ((1 : Int) ≤ (n : Int) ∧ (n : Int) ≤ 8) := Lib.hid (by omega)
  clear h hr
  go_enter Tryd.func32, Tryd.ntmps32
  go_wp2_with fail
  (with_reducible refine (get_ok s 0 2 0 2 _ (by decide) (by decide) hs (Nat.zero_le _) (by decide) H (by decide)).mono ?_)
  rintro e w1 ⟨g, cc, rfl, hcl, hg, hgl, hb1⟩
  have hR : w1.heap[w.heap.size]? = some (.cells #[.int .i64 0, .slice none 0 0] 37 (0, 0)) := (hb1.block _ (by simp)).trans (heap_alloc_new w _)
  have c0 : w1.cell? ⟨g, 0, none⟩ = some (.int .i64 p) := hcl 0 (by decide)
  have c1 : w1.cell? ⟨g, 1, none⟩ = some (.int .i64 n) := hcl 1 (by decide)
  clear hcl
  go_wp2_with fail
  (with_reducible refine (within_t n _ _ _ HMn.out).mono ?_)
  rintro e w2 ⟨rfl, hw2⟩
  rw [hw2]
  clear hw2
  go_wp2_with fail
  have hlR := (Array.getElem?_eq_some_iff.1 hR).1
  have hb3 := ba w1 (.cells #[.int .i64 p, .slice none 0 0] 37)
  have HR3 := Lib.hid ((hb3.block _ hlR).trans hR)
  have HQ3 := Lib.hid (heap_alloc_new w1 (.cells #[.int .i64 p, .slice none 0 0] 37))
  have HL3 : Hid ((w1.alloc (.cells #[.int .i64 p, .slice none 0 0] 37)).cell? ⟨g, 1, none⟩ = some (.int .i64 n)) := Lib.hid (by rw [(bcell hb3).1 _ _ hgl]; exact c1)
  have HB3 := Lib.hid (bt (bt (ba w (.cells #[.int .i64 0, .slice none 0 0] 37)) hb1) hb3)
  have Hz3 : Hid ((w1.alloc (.cells #[.int .i64 p, .slice none 0 0] 37)).heap.size = w1.heap.size + 1) := Lib.hid (by simp)
  have hwz : w.heap.size ≤ w1.heap.size := by omega
  generalize w1.alloc (.cells #[.int .i64 p, .slice none 0 0] 37) = w3 at HR3 HQ3 HL3 HB3 Hz3 ⊢
  obtain ⟨X, HXe⟩ : ∃ X, Hid (w1.heap.size = X) := ⟨_, Lib.hid rfl⟩
  rw [HXe.out] at HQ3 Hz3 hgl hlR hwz
  try rw [HXe.out]
  clear hb3 hR c0 c1 hb1 hg
  go_loopw [5, 8, 9, 10, 11] (fun at_ i _ _ _ wr => ∃ (j k' : Nat) (acc : List MCh) (v : Value), j ≤ n ∧ at_ = .int .i64 k' ∧ i = .int .i64 j ∧ k' ≤ s.size ∧ Hid (acc.length = j) ∧ Hid ((rdGo n []).run s.data.toList k1 = (rdGo (n - j) acc).run s.data.toList k') ∧ Hid (wr.heap[w.heap.size]? = some (.cells #[.int .i64 0, .slice none 0 0] 37 (0, 0))) ∧ Hid (wr.heap[X]? = some (.cells #[.int .i64 p, v] 37 (0, 0))) ∧ Hid (wr.cell? ⟨g, 1, none⟩ = some (.int .i64 n)) ∧ Hid (Below w.heap.size w wr) ∧ Hid (wr.ownsRow (X + 1) 42 10 v j (cellsOf acc j)) ∧ Hid (X + 1 ≤ wr.heap.size)) (fun _ i _ _ _ _ => n - (intOf i).toNat)
  case atStart => exact ⟨0, k1, [], .slice none 0 0, by omega, rfl, rfl, hk1, Lib.hid rfl, Lib.hid rfl, HR3, HQ3, HL3, HB3, Lib.hid (World.ownsRow_nil _ _ _ _), Lib.hid (by rw [Hz3.out]; exact Nat.le_refl _)⟩
  case round =>
    clear HR3 HQ3 HL3 HB3 Hz3
    obtain ⟨j, k', acc, v, hj, rfl, rfl, hk', HL, HRun, HR, HQ, HLc, HB, HO, HZ⟩ := hrel
    have cl := HLc.out
    by_cases hlt : j < n
    · have HStep : Hid ((rdGo (n - j) acc).run s.data.toList k' = (rdCh.bind fun c => rdGo (n - (j + 1)) (acc ++ [c])).run s.data.toList k') := Lib.hid (by rw [show n - j = (n - (j + 1)) + 1 from by omega]; rfl)
      cases hc : rdCh.run s.data.toList k' with
      | error b =>
        have HC := Lib.hid hc
        have HX : Hid (decRec s = (recZ, if b then 30 else 10)) := Lib.hid (decRec_err (HE.out.trans (run_bind_err (HRun.out.trans (HStep.out.trans (run_bind_err hc))))))
        clear hc
        cases b
        · go_wp2_with fail
          (with_reducible refine (refCh_no s k' _ hs hk' HC).mono ?_)
          rintro e w5 ⟨rfl, hb5⟩
          have hb6 := bt hb5 (ba w5 (.cells #[.int .i64 0, .int .i64 0, .bool false, .int .i64 0, .int .i64 0, .int .i64 0, .bool false, .int .i64 0, .int .i64 0, .int .i64 0] 42))
          have hR6 := (hb6.block _ (Array.getElem?_eq_some_iff.1 HR.out).1).trans HR.out
          go_wp2_with (refine wpList_store_row rfl 37 _ _ rfl w.heap.size #[.int .i64 0, .slice none 0 0] rfl rfl 37 _ hR6 (by kernel_rfl) rfl (by simp [Value.oneCell']) ?_)
          refine bodyPost_ret (v := .tuple #[.agg #[.int .i64 0, .slice none 0 0], .int .i64 10]) ?_ rfl (DecROut.zero HX rfl (below_row (bt HB.out hb6) (Nat.le_refl _) _))
          exact results_row32 _ _ _ _ _ _ (setRow_heap _ _ _ _ _ _ hR6) rfl rfl rfl
        · go_wp2_with fail
          (with_reducible refine (refCh_no s k' _ hs hk' HC).mono ?_)
          rintro e w5 ⟨rfl, hb5⟩
          have hb6 := bt hb5 (ba w5 (.cells #[.int .i64 0, .int .i64 0, .bool false, .int .i64 0, .int .i64 0, .int .i64 0, .bool false, .int .i64 0, .int .i64 0, .int .i64 0] 42))
          have hR6 := (hb6.block _ (Array.getElem?_eq_some_iff.1 HR.out).1).trans HR.out
          go_wp2_with (refine wpList_store_row rfl 37 _ _ rfl w.heap.size #[.int .i64 0, .slice none 0 0] rfl rfl 37 _ hR6 (by kernel_rfl) rfl (by simp [Value.oneCell']) ?_)
          refine bodyPost_ret (v := .tuple #[.agg #[.int .i64 0, .slice none 0 0], .int .i64 30]) ?_ rfl (DecROut.zero HX rfl (below_row (bt HB.out hb6) (Nat.le_refl _) _))
          exact results_row32 _ _ _ _ _ _ (setRow_heap _ _ _ _ _ _ hR6) rfl rfl rfl
      | ok q =>
        obtain ⟨⟨t, kk, had, ⟨oa, ob, oc⟩, has, ⟨na, nb, nc⟩⟩, k2⟩ := q
        have hk2 := run_le hk' hc
        have HC := Lib.hid hc
        have HRun2 : Hid ((rdGo n []).run s.data.toList k1 = (rdGo (n - (j + 1)) (acc ++ [(⟨t, kk, had, ⟨oa, ob, oc⟩, has, ⟨na, nb, nc⟩⟩ : MCh)])).run s.data.toList k2) := Lib.hid (HRun.out.trans (HStep.out.trans (run_bind_ok hc)))
        have HL2 : Hid ((acc ++ [(⟨t, kk, had, ⟨oa, ob, oc⟩, has, ⟨na, nb, nc⟩⟩ : MCh)]).length = j + 1) := Lib.hid (by rw [List.length_append, HL.out]; rfl)
        clear hc
        go_wp2_with fail
        (with_reducible refine (refCh_ok s k' _ hs hk' HC).mono ?_)
        rintro e w5 ⟨rfl, hb5⟩
        have hb6 := bt hb5 (ba w5 (.cells #[.int .i64 t, .int .i64 kk, .bool had, .int .i64 oa, .int .i64 ob, .int .i64 oc, .bool has, .int .i64 na, .int .i64 nb, .int .i64 nc] 42))
        have hz5 := hb5.size
        have HR6 := Lib.hid ((hb6.block _ (Array.getElem?_eq_some_iff.1 HR.out).1).trans HR.out)
        have HQ6 := Lib.hid ((hb6.block _ (Array.getElem?_eq_some_iff.1 HQ.out).1).trans HQ.out)
        have HL6 : Hid ((w5.alloc (.cells #[.int .i64 t, .int .i64 kk, .bool had, .int .i64 oa, .int .i64 ob, .int .i64 oc, .bool has, .int .i64 na, .int .i64 nb, .int .i64 nc] 42)).cell? ⟨g, 1, none⟩ = some (.int .i64 n)) := Lib.hid (by rw [(bcell hb6).1 _ _ (World.block_lt_of_cell? _ _ cl)]; exact cl)
        have HB6 := Lib.hid (bt HB.out hb6)
        have HO6 := Lib.hid (ownsRow_below HO.out hb6)
        have HZ6 : Hid (X + 1 ≤ (w5.alloc (.cells #[.int .i64 t, .int .i64 kk, .bool had, .int .i64 oa, .int .i64 ob, .int .i64 oc, .bool has, .int .i64 na, .int .i64 nb, .int .i64 nc] 42)).heap.size) := Lib.hid (Nat.le_trans HZ.out hb6.size)
        have HC6 : Hid (ChAt (w5.alloc (.cells #[.int .i64 t, .int .i64 kk, .bool had, .int .i64 oa, .int .i64 ob, .int .i64 oc, .bool has, .int .i64 na, .int .i64 nb, .int .i64 nc] 42)) w5.heap.size 0 ⟨t, kk, had, ⟨oa, ob, oc⟩, has, ⟨na, nb, nc⟩⟩) := Lib.hid (ChAt_new w5 ⟨t, kk, had, ⟨oa, ob, oc⟩, has, ⟨na, nb, nc⟩⟩)
        have hX6 : X < (w5.alloc (.cells #[.int .i64 t, .int .i64 kk, .bool had, .int .i64 oa, .int .i64 ob, .int .i64 oc, .bool has, .int .i64 na, .int .i64 nb, .int .i64 nc] 42)).heap.size := by have := HZ6.out; omega
        have hC6 : w5.heap.size < (w5.alloc (.cells #[.int .i64 t, .int .i64 kk, .bool had, .int .i64 oa, .int .i64 ob, .int .i64 oc, .bool has, .int .i64 na, .int .i64 nb, .int .i64 nc] 42)).heap.size := by simp
        clear hb5 hb6 cl HR HQ HLc HB HO HZ
        go_upto_region 13 with fail
        generalize w5.alloc (.cells #[.int .i64 t, .int .i64 kk, .bool had, .int .i64 oa, .int .i64 ob, .int .i64 oc, .bool has, .int .i64 na, .int .i64 nb, .int .i64 nc] 42) = w6 at HR6 HQ6 HL6 HB6 HO6 HZ6 HC6 hX6 hC6 ⊢
        have q0 : w6.cell? ⟨X, 0, none⟩ = some (.int .i64 p) := (cell_of_row w6 X 0 _ 37 (0, 0) HQ6.out).trans rfl
        have q1 : w6.cell? ⟨X, 1, none⟩ = some v := (cell_of_row w6 X 1 _ 37 (0, 0) HQ6.out).trans rfl
        obtain ⟨d0, d1, d2, d3, d4, d5, d6, d7, d8, d9⟩ := HC6.out.cells
        obtain ⟨i0, hi0, hz0, hzz1, hzz3⟩ := info_parts info42'
        have HN7 := Lib.hid (heap_alloc_new w6 (.cells #[.int .i64 t, .int .i64 kk, .bool had, .int .i64 oa, .int .i64 ob, .int .i64 oc, .bool has, .int .i64 na, .int .i64 nb, .int .i64 nc] 42))
        have hb7 := ba w6 (.cells #[.int .i64 t, .int .i64 kk, .bool had, .int .i64 oa, .int .i64 ob, .int .i64 oc, .bool has, .int .i64 na, .int .i64 nb, .int .i64 nc] 42)
        have HR7 := Lib.hid ((hb7.block _ (Array.getElem?_eq_some_iff.1 HR6.out).1).trans HR6.out)
        have HQ7 := Lib.hid ((hb7.block _ (Array.getElem?_eq_some_iff.1 HQ6.out).1).trans HQ6.out)
        have HL7 : Hid ((w6.alloc (.cells #[.int .i64 t, .int .i64 kk, .bool had, .int .i64 oa, .int .i64 ob, .int .i64 oc, .bool has, .int .i64 na, .int .i64 nb, .int .i64 nc] 42)).cell? ⟨g, 1, none⟩ = some (.int .i64 n)) := Lib.hid (by rw [(bcell hb7).1 _ _ (World.block_lt_of_cell? _ _ HL6.out)]; exact HL6.out)
        have HB7 := Lib.hid (bt HB6.out hb7)
        have HO7 := Lib.hid (ownsRow_below HO6.out hb7)
        have hZ7 : X + 1 ≤ (w6.alloc (.cells #[.int .i64 t, .int .i64 kk, .bool had, .int .i64 oa, .int .i64 ob, .int .i64 oc, .bool has, .int .i64 na, .int .i64 nb, .int .i64 nc] 42)).heap.size := Nat.le_trans HZ6.out hb7.size
        have hC7 : (w6.alloc (.cells #[.int .i64 t, .int .i64 kk, .bool had, .int .i64 oa, .int .i64 ob, .int .i64 oc, .bool has, .int .i64 na, .int .i64 nb, .int .i64 nc] 42)).heap.size = w6.heap.size + 1 := by simp
        clear hb7
        go_wp2_with (at_builtin; refine wpList_append_lies _ rfl _ _ 35 rfl (X + 1) 42 i0 (.agg (chCells chZ)) 10 80 Tryd.underlying35 hi0 hz0 hzz1 hzz3 rfl (by decide) v j (cellsOf acc j) rfl HO7.out ⟨w6.heap.size, 0, none⟩ 1 1 (chCells ⟨t, kk, had, ⟨oa, ob, oc⟩, has, ⟨na, nb, nc⟩⟩).toList rfl rfl (World.news_of_block HN7.out) (by simp [chCells, Value.oneCell']) (by decide) (by unfold maxLen; omega) (by omega) hZ7 (w6.heap.size + 1) hC7 ?_; intro g9 cp w9 hown9 hgrow hat hgl9; have heb : ∀ k, k < X + 1 → w9.heap[k]? = (w6.alloc (.cells #[.int .i64 t, .int .i64 kk, .bool had, .int .i64 oa, .int .i64 ob, .int .i64 oc, .bool has, .int .i64 na, .int .i64 nb, .int .i64 nc] 42)).heap[k]? := fun k hk => hgrow.block k (by omega) (fun e => by have := (HO7.out.lt k e.symm).1; omega); have HQ9 := Lib.hid ((heb X (by omega)).trans HQ7.out); have q9 : w9.cell? ⟨X, 1, none⟩ = some v := (cell_of_row w9 X 1 _ 37 (0, 0) HQ9.out).trans rfl; have zq9 : w9.frozen? ⟨X, 1, none⟩ = false := frozen_of_row w9 X 1 _ 37 HQ9.out)
        have hgX : ¬ g9 = X := by
          rcases hat with e | e
          · have := (HO7.out.lt g9 e).1; omega
          · omega
        have HR9 : Hid ((w9.setCell ⟨X, 1, none⟩ (.slice (some ⟨g9, 0, none⟩) (j + 1) cp)).heap[w.heap.size]? = some (.cells #[.int .i64 0, .slice none 0 0] 37 (0, 0))) := Lib.hid ((heap_setCell_far (by omega) _ _).trans ((heb _ (by omega)).trans HR7.out))
        have HQ10 : Hid ((w9.setCell ⟨X, 1, none⟩ (.slice (some ⟨g9, 0, none⟩) (j + 1) cp)).heap[X]? = some (.cells #[.int .i64 p, .slice (some ⟨g9, 0, none⟩) (j + 1) cp] 37 (0, 0))) := Lib.hid (heap_setCell_row HQ9.out _ _)
        have HL10 : Hid ((w9.setCell ⟨X, 1, none⟩ (.slice (some ⟨g9, 0, none⟩) (j + 1) cp)).cell? ⟨g, 1, none⟩ = some (.int .i64 n)) := Lib.hid (by
          rw [World.cell?_setCell_other _ _ _ _ (by first | (simp; done) | (simp; omega)), ← HL7.out]
          exact World.cell?_of_block (heb g (by omega)))
        have HB10 : Hid (Below w.heap.size w (w9.setCell ⟨X, 1, none⟩ (.slice (some ⟨g9, 0, none⟩) (j + 1) cp))) := Lib.hid (below_setCell (HB7.out.grown hgrow HB7.out.size (fun k e => by have := (HO7.out.lt k e).1; omega)) (by simp; omega) _)
        have HO10 : Hid ((w9.setCell ⟨X, 1, none⟩ (.slice (some ⟨g9, 0, none⟩) (j + 1) cp)).ownsRow (X + 1) 42 10 (.slice (some ⟨g9, 0, none⟩) (j + 1) cp) (j + 1) (cellsOf (acc ++ [(⟨t, kk, had, ⟨oa, ob, oc⟩, has, ⟨na, nb, nc⟩⟩ : MCh)]) (j + 1))) := Lib.hid (own_setCell (by rw [← cellsOf_snoc acc j ⟨t, kk, had, ⟨oa, ob, oc⟩, has, ⟨na, nb, nc⟩⟩ HL.out]; exact hown9) hgX _ _)
        have HZ10 : Hid (X + 1 ≤ (w9.setCell ⟨X, 1, none⟩ (.slice (some ⟨g9, 0, none⟩) (j + 1) cp)).heap.size) := Lib.hid (by simp only [World.setCell]; have := hgrow.size; simp; omega)
        exact ⟨⟨j + 1, k2, _, _, by omega, rfl, by go_num, hk2, HL2, HRun2, HR9, HQ10, HL10, HB10, HO10, HZ10⟩, by simp [intOf]; omega⟩
    · obtain rfl : j = n := by omega
      have HE2 : Hid (rdRec.run s.data.toList 0 = .ok (⟨p, acc⟩, k')) := Lib.hid (HE.out.trans (run_bind_ok (HRun.out.trans (by rw [Nat.sub_self]; rfl))))
      have HS : Hid (ChS wr v acc) := Lib.hid (chs_of_own HO.out HL.out hn1)
      have hRR := HR.out
      have hQQ := HQ.out
      by_cases hk3 : k' < s.size
      · have HX := Lib.hid (decRec_more HE2.out hk3)
        go_wp2_with (refine wpList_store_row rfl 37 _ _ rfl w.heap.size #[.int .i64 0, .slice none 0 0] rfl rfl 37 _ hRR (by kernel_rfl) rfl (by simp [Value.oneCell']) ?_)
        refine bodyPost_ret (v := .tuple #[.agg #[.int .i64 0, .slice none 0 0], .int .i64 10]) ?_ rfl (DecROut.zero HX rfl (below_row HB.out (Nat.le_refl _) _))
        exact results_row32 _ _ _ _ _ _ (setRow_heap _ _ _ _ _ _ hRR) rfl rfl rfl
      · obtain rfl : k' = s.size := by omega
        by_cases hv : VRec p acc
        · have HX : Hid (decRec s = ((⟨p, acc⟩ : MRec), 0)) := Lib.hid (decRec_fine HE2.out hv)
          have HV : Hid (vrec p acc = true) := Lib.hid (decide_eq_true hv)
          obtain ⟨a9, n9, c9, rfl⟩ : ∃ a n c, v = .slice a n c := by obtain ⟨a, n', c', e, _⟩ := HS.out; exact ⟨a, n', c', e⟩
          clear hv
          have q0 : wr.cell? ⟨X, 0, none⟩ = some (.int .i64 p) := (cell_of_row wr X 0 _ 37 (0, 0) hQQ).trans rfl
          have q1 : wr.cell? ⟨X, 1, none⟩ = some (.slice a9 n9 c9) := (cell_of_row wr X 1 _ 37 (0, 0) hQQ).trans rfl
          go_wp2_with fail
          (with_reducible refine (refValidRecord_any p _ acc _ HS.out).mono ?_)
          rintro e w5 ⟨rfl, hb5⟩
          rw [HV.out]
          have hR5 := (hb5.block _ (Array.getElem?_eq_some_iff.1 hRR).1).trans hRR
          have hQ5 := (hb5.block _ (Array.getElem?_eq_some_iff.1 hQQ).1).trans hQQ
          have HS5 := Lib.hid (HS.out.below hb5)
          have HB5 := Lib.hid (bt HB.out hb5)
          have HSr : Hid (ChS (w5.setRow w.heap.size #[.int .i64 p, (.slice a9 n9 c9)]) (.slice a9 n9 c9) acc) := Lib.hid (chs_setRow HO.out hb5 HL.out hn1 (by omega))
          clear q0 q1 hb5
          go_wp2_with (first | (refine wpList_load_row rfl 37 _ rfl X rfl 37 _ _ _ hQ5 Tryd.underlying37 rfl (by kernel_rfl) ?_) | (refine wpList_store_row rfl 37 _ _ rfl w.heap.size #[.int .i64 p, (.slice a9 n9 c9)] rfl rfl 37 _ hR5 (by kernel_rfl) rfl (by simp [Value.oneCell']) ?_))
          refine bodyPost_ret (v := .tuple #[.agg #[.int .i64 p, (.slice a9 n9 c9)], .int .i64 0]) ?_ rfl (DecROut.ok HX rfl HSr.out (below_row HB5.out (Nat.le_refl _) _))
          exact results_row32 _ _ _ _ _ _ (setRow_heap _ _ _ _ _ _ hR5) rfl rfl rfl
        · have HX : Hid (decRec s = (recZ, 30)) := Lib.hid (decRec_inv HE2.out hv)
          have HV : Hid (vrec p acc = false) := Lib.hid (decide_eq_false hv)
          clear hv
          have q0 : wr.cell? ⟨X, 0, none⟩ = some (.int .i64 p) := (cell_of_row wr X 0 _ 37 (0, 0) hQQ).trans rfl
          have q1 : wr.cell? ⟨X, 1, none⟩ = some v := (cell_of_row wr X 1 _ 37 (0, 0) hQQ).trans rfl
          go_wp2_with fail
          (with_reducible refine (refValidRecord_any p v acc _ HS.out).mono ?_)
          rintro e w5 ⟨rfl, hb5⟩
          rw [HV.out]
          have hR5 := (hb5.block _ (Array.getElem?_eq_some_iff.1 hRR).1).trans hRR
          have HB5 := Lib.hid (bt HB.out hb5)
          clear q0 q1 hb5
          go_wp2_with (refine wpList_store_row rfl 37 _ _ rfl w.heap.size #[.int .i64 0, .slice none 0 0] rfl rfl 37 _ hR5 (by kernel_rfl) rfl (by simp [Value.oneCell']) ?_)
          refine bodyPost_ret (v := .tuple #[.agg #[.int .i64 0, .slice none 0 0], .int .i64 30]) ?_ rfl (DecROut.zero HX rfl (below_row HB5.out (Nat.le_refl _) _))
          exact results_row32 _ _ _ _ _ _ (setRow_heap _ _ _ _ _ _ hR5) rfl rfl rfl
theorem refDecodeRecord_any (s : ByteArray) (w : World) (hs : s.size ≤ maxLen) : Calls Tryd.prog 32 #[.string s] w (DecROut s w) := by
  cases h : getN 2 s.data.toList 0 with
  | none => exact refDec_0 s w hs h
  | some q =>
    obtain ⟨l, k1⟩ := q
    obtain ⟨p, m, rfl, hr⟩ := rdRec_some h
    by_cases hm : m < 1 ∨ 8 < m
    · exact refDec_bad s w hs p m k1 h hr hm
    · obtain ⟨n, rfl⟩ : ∃ n : Nat, m = (n : Int) := ⟨m.toNat, by omega⟩
      exact refDec_go s w hs p n k1 (by omega) (by omega) h hr
end Go.Proofs.YtgkdliocfnoffaaDoor
