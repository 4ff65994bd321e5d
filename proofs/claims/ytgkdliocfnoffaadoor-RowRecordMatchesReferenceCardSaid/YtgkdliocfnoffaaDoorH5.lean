/- WALKS: the reference: change. -/
import Derived.Test.YtgkdliocfnoffaaDoorF3
import Derived.Test.YtgkdliocfnoffaaDoorH1
import Derived.Deep.Cut
import Derived.BigRegion
set_option linter.unusedVariables false
set_option linter.unusedSimpArgs false
namespace Go.Proofs.YtgkdliocfnoffaaDoor
open Go.RowKit Go.Sort

theorem rd3_none {L : List UInt8} {k : Nat} (h : getN 3 L k = none) : rd3.run L k = .error false := by
  simp only [getN] at h
  simp only [rd3, Rd.run]
  cases h1 : decInt (L.drop k) with
  | none => rfl
  | some p1 =>
    simp only [h1] at h ⊢
    cases h2 : decInt (L.drop (k + p1.2)) with
    | none => rfl
    | some p2 =>
      simp only [h2] at h ⊢
      cases h3 : decInt (L.drop (k + p1.2 + p2.2)) with
      | none => rfl
      | some p3 => simp [h3] at h
theorem rd3_some {L : List UInt8} {k k' : Nat} {l : List Int} (h : getN 3 L k = some (l, k')) : ∃ a b c, l = [a, b, c] ∧ rd3.run L k = .ok (⟨a, b, c⟩, k') := by
  simp only [getN] at h
  simp only [rd3, Rd.run]
  cases h1 : decInt (L.drop k) with
  | none => simp [h1] at h
  | some p1 =>
    simp only [h1] at h ⊢
    cases h2 : decInt (L.drop (k + p1.2)) with
    | none => simp [h2] at h
    | some p2 =>
      simp only [h2] at h ⊢
      cases h3 : decInt (L.drop (k + p1.2 + p2.2)) with
      | none => simp [h3] at h
      | some p3 =>
        simp only [h3, Option.map_some, Option.some.injEq, Prod.mk.injEq] at h
        exact ⟨_, _, _, h.1.symm, by rw [← h.2]⟩
def rfChT (t kk m : Int) : Rd MCh := if m < 1 ∨ 3 < m then Rd.bad else
  (rdIf (decide (m = 1 ∨ m = 3))).bind fun o => (rdIf (decide (m = 2 ∨ m = 3))).bind fun n => Rd.ret ⟨t, kk, decide (m = 1 ∨ m = 3), o, decide (m = 2 ∨ m = 3), n⟩
theorem rdCh_none {L : List UInt8} {k : Nat} (h : getN 3 L k = none) : rdCh.run L k = .error false := by
  simp only [getN] at h
  simp only [rdCh, Rd.run]
  cases h1 : decInt (L.drop k) with
  | none => rfl
  | some p1 =>
    simp only [h1] at h ⊢
    cases h2 : decInt (L.drop (k + p1.2)) with
    | none => rfl
    | some p2 =>
      simp only [h2] at h ⊢
      cases h3 : decInt (L.drop (k + p1.2 + p2.2)) with
      | none => rfl
      | some p3 => simp [h3] at h
theorem rdCh_some {L : List UInt8} {k k' : Nat} {l : List Int} (h : getN 3 L k = some (l, k')) : ∃ t kk m, l = [t, kk, m] ∧ rdCh.run L k = (rfChT t kk m).run L k' := by
  simp only [getN] at h
  simp only [rdCh, Rd.run]
  cases h1 : decInt (L.drop k) with
  | none => simp [h1] at h
  | some p1 =>
    simp only [h1] at h ⊢
    cases h2 : decInt (L.drop (k + p1.2)) with
    | none => simp [h2] at h
    | some p2 =>
      simp only [h2] at h ⊢
      cases h3 : decInt (L.drop (k + p1.2 + p2.2)) with
      | none => simp [h3] at h
      | some p3 =>
        simp only [h3, Option.map_some, Option.some.injEq, Prod.mk.injEq] at h
        exact ⟨_, _, _, h.1.symm, by rw [← h.2]; rfl⟩
theorem rfChT_bad {L : List UInt8} {k : Nat} {t kk m : Int} (h : m < 1 ∨ 3 < m) : (rfChT t kk m).run L k = .error true := by unfold rfChT; rw [if_pos h]; rfl
theorem rfChT_1 (t kk : Int) : rfChT t kk 1 = rd3.bind fun o => Rd.ret ⟨t, kk, true, o, false, V3.zero⟩ := by unfold rfChT; rw [if_neg (by decide)]; rfl
theorem rfChT_2 (t kk : Int) : rfChT t kk 2 = rd3.bind fun n => Rd.ret ⟨t, kk, false, V3.zero, true, n⟩ := by unfold rfChT; rw [if_neg (by decide)]; rfl
theorem rfChT_3 (t kk : Int) : rfChT t kk 3 = rd3.bind fun o => rd3.bind fun n => Rd.ret ⟨t, kk, true, o, true, n⟩ := by unfold rfChT; rw [if_neg (by decide)]; rfl

def chOutV (r : Except Bool (MCh × Nat)) : Value := match r with
  | .ok (c, k) => .tuple #[chV c, .int .i64 (k : Int), .int .i64 0]
  | .error b => .tuple #[chV chZ, .int .i64 0, .int .i64 (if b then 30 else 10)]
theorem chOut_ok {r : Except Bool (MCh × Nat)} {c : MCh} {k : Nat} (h : Hid (r = .ok (c, k))) : Ending.returned (.tuple #[chV c, .int .i64 (k : Int), .int .i64 0]) = .returned (chOutV r) := by rw [h.out]; rfl
theorem chOut_no {r : Except Bool (MCh × Nat)} (h : Hid (r = .error false)) : Ending.returned (.tuple #[chV chZ, .int .i64 0, .int .i64 10]) = .returned (chOutV r) := by rw [h.out]; rfl
theorem chOut_bad {r : Except Bool (MCh × Nat)} (h : Hid (r = .error true)) : Ending.returned (.tuple #[chV chZ, .int .i64 0, .int .i64 30]) = .returned (chOutV r) := by rw [h.out]; rfl
theorem results_row53 (w : World) (R : Nat) (cells : Array Value) (t : TypeId) (x y : Value) (tmps : Array Value) (hR : w.heap[R]? = some (.cells cells t (0, 0))) (hs : cells.size = 10)
    (h2 : tmps.getD 4 undef = .pointer (some ⟨R, 0, none⟩)) (h3 : tmps.getD 5 undef = x) (h4 : tmps.getD 6 undef = y) : (results Tryd.f53 tmps).run Tryd.prog w = .ok (.tuple #[.agg cells, x, y]) w := by
  have h2' : tmps[4]?.getD undef = .pointer (some ⟨R, 0, none⟩) := by simpa using h2
  have h3' : tmps[5]?.getD undef = x := by simpa using h3
  have h4' : tmps[6]?.getD undef = y := by simpa using h4
  have hl := run_loadVar_row (P := Tryd.prog) w R t 42 cells (0, 0) _ hR Tryd.underlying42 rfl (by rw [hs]; kernel_rfl)
  simp [results, Tryd.results53, h2', h3', h4', asAddr, hl]
abbrev zC : Array Value := #[.int .i64 0, .int .i64 0, .bool false, .int .i64 0, .int .i64 0, .int .i64 0, .bool false, .int .i64 0, .int .i64 0, .int .i64 0]
set_option maxRecDepth 100000 in
set_option maxHeartbeats 4000000 in
theorem refChange_0 (s : ByteArray) (k : Nat) (w : World) (hs : s.size ≤ maxLen) (hk : k ≤ s.size) (h : getN 3 s.data.toList k = none) : Calls Tryd.prog 53 #[.string s, .int .i64 k] w fun e w' => e = .returned (chOutV (rdCh.run s.data.toList k)) ∧ Below w.heap.size w w' := by
  have HX := Lib.hid (rdCh_none h)
  have H := Lib.hid h
  clear h
  go_enter Tryd.func53, Tryd.ntmps53
  go_wp2_with fail
  (with_reducible refine (get_no s (k : Int) 3 k 3 _ rfl (by decide) hs hk (by decide) H).mono ?_)
  rintro e w1 ⟨rfl, hb1⟩
  have hR : w1.heap[w.heap.size]? = some (.cells #[.int .i64 0, .int .i64 0, .bool false, .int .i64 0, .int .i64 0, .int .i64 0, .bool false, .int .i64 0, .int .i64 0, .int .i64 0] 42 (0, 0)) := (hb1.block _ (by simp)).trans (heap_alloc_new w _)
  go_wp2_with (refine wpList_store_row rfl 42 _ _ rfl w.heap.size #[.int .i64 0, .int .i64 0, .bool false, .int .i64 0, .int .i64 0, .int .i64 0, .bool false, .int .i64 0, .int .i64 0, .int .i64 0] rfl rfl 42 _ hR (by kernel_rfl) rfl (by simp [Value.oneCell']) ?_)
  refine bodyPost_ret (v := .tuple #[chV chZ, .int .i64 0, .int .i64 10]) ?_ rfl ⟨chOut_no HX, below_row (bt (ba w _) hb1) (Nat.le_refl _) _⟩
  exact results_row53 _ _ _ _ _ _ _ (setRow_heap _ _ _ _ _ _ hR) rfl rfl rfl rfl
set_option maxRecDepth 100000 in
set_option maxHeartbeats 4000000 in
theorem refChange_bad (s : ByteArray) (k : Nat) (w : World) (hs : s.size ≤ maxLen) (hk : k ≤ s.size) (t kk m : Int) (k1 : Nat) (h : getN 3 s.data.toList k = some ([t, kk, m], k1)) (hr : rdCh.run s.data.toList k = (rfChT t kk m).run s.data.toList k1) (hm : m < 1 ∨ 3 < m) : Calls Tryd.prog 53 #[.string s, .int .i64 k] w fun e w' => e = .returned (chOutV (rdCh.run s.data.toList k)) ∧ Below w.heap.size w w' := by
  have HX := Lib.hid (hr.trans (rfChT_bad hm))
  have H := Lib.hid h
  have HM : Hid (¬ (1 ≤ m ∧ m ≤ 3)) := Lib.hid (by omega)
  clear h hm hr
  go_enter Tryd.func53, Tryd.ntmps53
  go_wp2_with fail
  (with_reducible refine (get_ok s (k : Int) 3 k 3 _ rfl (by decide) hs hk (by decide) H (by decide)).mono ?_)
  rintro e w1 ⟨g, cc, rfl, hcl, hg, hgl, hb1⟩
  have hR : w1.heap[w.heap.size]? = some (.cells #[.int .i64 0, .int .i64 0, .bool false, .int .i64 0, .int .i64 0, .int .i64 0, .bool false, .int .i64 0, .int .i64 0, .int .i64 0] 42 (0, 0)) := (hb1.block _ (by simp)).trans (heap_alloc_new w _)
  have c0 : w1.cell? ⟨g, 0, none⟩ = some (.int .i64 t) := hcl 0 (by decide)
  have c1 : w1.cell? ⟨g, 1, none⟩ = some (.int .i64 kk) := hcl 1 (by decide)
  have c2 : w1.cell? ⟨g, 2, none⟩ = some (.int .i64 m) := hcl 2 (by decide)
  clear hcl
  go_wp2_with fail
  (with_reducible refine (within_f m _ _ _ HM.out).mono ?_)
  rintro e w2 ⟨rfl, hw2⟩
  rw [hw2]
  clear hw2 c0 c1 c2
  go_wp2_with (refine wpList_store_row rfl 42 _ _ rfl w.heap.size #[.int .i64 0, .int .i64 0, .bool false, .int .i64 0, .int .i64 0, .int .i64 0, .bool false, .int .i64 0, .int .i64 0, .int .i64 0] rfl rfl 42 _ hR (by kernel_rfl) rfl (by simp [Value.oneCell']) ?_)
  refine bodyPost_ret (v := .tuple #[chV chZ, .int .i64 0, .int .i64 30]) ?_ rfl ⟨chOut_bad HX, below_row (bt (ba w _) hb1) (Nat.le_refl _) _⟩
  exact results_row53 _ _ _ _ _ _ _ (setRow_heap _ _ _ _ _ _ hR) rfl rfl rfl rfl
set_option maxRecDepth 100000 in
set_option maxHeartbeats 4000000 in
theorem refChange_1n (s : ByteArray) (k : Nat) (w : World) (hs : s.size ≤ maxLen) (hk : k ≤ s.size) (t kk : Int) (k1 : Nat) (h : getN 3 s.data.toList k = some ([t, kk, 1], k1)) (hr : rdCh.run s.data.toList k = (rfChT t kk 1).run s.data.toList k1) (h1 : getN 3 s.data.toList k1 = none) : Calls Tryd.prog 53 #[.string s, .int .i64 k] w fun e w' => e = .returned (chOutV (rdCh.run s.data.toList k)) ∧ Below w.heap.size w w' := by
  have hk1 := getN_le hk h
  have HX : Hid (rdCh.run s.data.toList k = .error false) := Lib.hid (by rw [hr, rfChT_1]; exact run_bind_err (rd3_none h1))
  have H := Lib.hid h
  have H1 := Lib.hid h1
  clear h hr h1
  go_enter Tryd.func53, Tryd.ntmps53
  go_wp2_with fail
  (with_reducible refine (get_ok s (k : Int) 3 k 3 _ rfl (by decide) hs hk (by decide) H (by decide)).mono ?_)
  rintro e w1 ⟨g, cc, rfl, hcl, hg, hgl, hb1⟩
  have hR : w1.heap[w.heap.size]? = some (.cells #[.int .i64 0, .int .i64 0, .bool false, .int .i64 0, .int .i64 0, .int .i64 0, .bool false, .int .i64 0, .int .i64 0, .int .i64 0] 42 (0, 0)) := (hb1.block _ (by simp)).trans (heap_alloc_new w _)
  have c0 : w1.cell? ⟨g, 0, none⟩ = some (.int .i64 t) := hcl 0 (by decide)
  have c1 : w1.cell? ⟨g, 1, none⟩ = some (.int .i64 kk) := hcl 1 (by decide)
  have c2 : w1.cell? ⟨g, 2, none⟩ = some (.int .i64 1) := hcl 2 (by decide)
  clear hcl
  go_wp2_with fail
  (with_reducible refine (within_t 1 _ _ _ (by decide)).mono ?_)
  rintro e w2 ⟨rfl, hw2⟩
  rw [hw2]
  clear hw2
  go_upto_region 6 with fail
  go_region
  obtain ⟨X, HXe⟩ : ∃ X, Hid (w1.heap.size = X) := ⟨_, Lib.hid rfl⟩
  have hb3 : Below w1.heap.size w1 (w1.alloc (.cells #[.int .i64 t, .int .i64 kk, .bool true, .int .i64 0, .int .i64 0, .int .i64 0, .bool false, .int .i64 0, .int .i64 0, .int .i64 0] 42)).drew := (ba w1 _).drew
  have HC3 : Hid ((w1.alloc (.cells #[.int .i64 t, .int .i64 kk, .bool true, .int .i64 0, .int .i64 0, .int .i64 0, .bool false, .int .i64 0, .int .i64 0, .int .i64 0] 42)).drew.heap[X]? = some (.cells #[.int .i64 t, .int .i64 kk, .bool true, .int .i64 0, .int .i64 0, .int .i64 0, .bool false, .int .i64 0, .int .i64 0, .int .i64 0] 42 (0, 0))) := Lib.hid (by rw [← HXe.out]; exact heap_alloc_new w1 _)
  have HR3 : Hid ((w1.alloc (.cells #[.int .i64 t, .int .i64 kk, .bool true, .int .i64 0, .int .i64 0, .int .i64 0, .bool false, .int .i64 0, .int .i64 0, .int .i64 0] 42)).drew.heap[w.heap.size]? = some (.cells #[.int .i64 0, .int .i64 0, .bool false, .int .i64 0, .int .i64 0, .int .i64 0, .bool false, .int .i64 0, .int .i64 0, .int .i64 0] 42 (0, 0))) := Lib.hid ((hb3.block _ (Array.getElem?_eq_some_iff.1 hR).1).trans hR)
  have HB3 := Lib.hid (bt (bt (ba w (.cells #[.int .i64 0, .int .i64 0, .bool false, .int .i64 0, .int .i64 0, .int .i64 0, .bool false, .int .i64 0, .int .i64 0, .int .i64 0] 42)) hb1) hb3)
  have hRX : ¬ w.heap.size = X := by have := (Array.getElem?_eq_some_iff.1 hR).1; have := HXe.out; omega
  have hRX' : w.heap.size ≤ X := by have := (Array.getElem?_eq_some_iff.1 hR).1; have := HXe.out; omega
  generalize (w1.alloc (.cells #[.int .i64 t, .int .i64 kk, .bool true, .int .i64 0, .int .i64 0, .int .i64 0, .bool false, .int .i64 0, .int .i64 0, .int .i64 0] 42)).drew = w3 at HC3 HR3 HB3 ⊢
  try rw [HXe.out]
  clear hb3 hR c0 c1 c2 hg hgl hb1
  have q2 : w3.cell? ⟨X, 2, none⟩ = some (.bool true) := (cell_of_row w3 X 2 _ 42 (0, 0) HC3.out).trans rfl
  have q6 : w3.cell? ⟨X, 6, none⟩ = some (.bool false) := (cell_of_row w3 X 6 _ 42 (0, 0) HC3.out).trans rfl
  go_wp2_with fail
  (with_reducible refine (get_no s (k1 : Int) 3 k1 3 _ rfl (by decide) hs hk1 (by decide) H1).mono ?_)
  rintro e w4 ⟨rfl, hb4⟩
  have hR4 : w4.heap[w.heap.size]? = some (.cells #[.int .i64 0, .int .i64 0, .bool false, .int .i64 0, .int .i64 0, .int .i64 0, .bool false, .int .i64 0, .int .i64 0, .int .i64 0] 42 (0, 0)) := (hb4.block _ (Array.getElem?_eq_some_iff.1 HR3.out).1).trans HR3.out
  clear q2 q6
  go_wp2_with (refine wpList_store_row rfl 42 _ _ rfl w.heap.size #[.int .i64 0, .int .i64 0, .bool false, .int .i64 0, .int .i64 0, .int .i64 0, .bool false, .int .i64 0, .int .i64 0, .int .i64 0] rfl rfl 42 _ hR4 (by kernel_rfl) rfl (by simp [Value.oneCell']) ?_)
  refine bodyPost_ret (v := .tuple #[chV chZ, .int .i64 0, .int .i64 10]) ?_ rfl ⟨chOut_no HX, below_row (bt HB3.out hb4) (Nat.le_refl _) _⟩
  exact results_row53 _ _ _ _ _ _ _ (setRow_heap _ _ _ _ _ _ hR4) rfl rfl rfl rfl
set_option maxRecDepth 100000 in
set_option maxHeartbeats 4000000 in
theorem refChange_1s (s : ByteArray) (k : Nat) (w : World) (hs : s.size ≤ maxLen) (hk : k ≤ s.size) (t kk : Int) (k1 : Nat) (h : getN 3 s.data.toList k = some ([t, kk, 1], k1)) (hr : rdCh.run s.data.toList k = (rfChT t kk 1).run s.data.toList k1) (oa ob oc : Int) (k2 : Nat) (h1 : getN 3 s.data.toList k1 = some ([oa, ob, oc], k2)) : Calls Tryd.prog 53 #[.string s, .int .i64 k] w fun e w' => e = .returned (chOutV (rdCh.run s.data.toList k)) ∧ Below w.heap.size w w' := by
  have hk1 := getN_le hk h
  have hk2 := getN_le hk1 h1
  have HX : Hid (rdCh.run s.data.toList k = .ok (⟨t, kk, true, ⟨oa, ob, oc⟩, false, V3.zero⟩, k2)) := Lib.hid (by
    obtain ⟨_, _, _, e, hq⟩ := rd3_some h1
    simp only [List.cons.injEq, and_true] at e
    obtain ⟨rfl, rfl, rfl⟩ := e
    rw [hr, rfChT_1, run_bind_ok hq]; rfl)
  have H := Lib.hid h
  have H1 := Lib.hid h1
  clear h hr h1
  go_enter Tryd.func53, Tryd.ntmps53
  go_wp2_with fail
  (with_reducible refine (get_ok s (k : Int) 3 k 3 _ rfl (by decide) hs hk (by decide) H (by decide)).mono ?_)
  rintro e w1 ⟨g, cc, rfl, hcl, hg, hgl, hb1⟩
  have hR : w1.heap[w.heap.size]? = some (.cells #[.int .i64 0, .int .i64 0, .bool false, .int .i64 0, .int .i64 0, .int .i64 0, .bool false, .int .i64 0, .int .i64 0, .int .i64 0] 42 (0, 0)) := (hb1.block _ (by simp)).trans (heap_alloc_new w _)
  have c0 : w1.cell? ⟨g, 0, none⟩ = some (.int .i64 t) := hcl 0 (by decide)
  have c1 : w1.cell? ⟨g, 1, none⟩ = some (.int .i64 kk) := hcl 1 (by decide)
  have c2 : w1.cell? ⟨g, 2, none⟩ = some (.int .i64 1) := hcl 2 (by decide)
  clear hcl
  go_wp2_with fail
  (with_reducible refine (within_t 1 _ _ _ (by decide)).mono ?_)
  rintro e w2 ⟨rfl, hw2⟩
  rw [hw2]
  clear hw2
  go_upto_region 6 with fail
  go_region
  obtain ⟨X, HXe⟩ : ∃ X, Hid (w1.heap.size = X) := ⟨_, Lib.hid rfl⟩
  have hb3 : Below w1.heap.size w1 (w1.alloc (.cells #[.int .i64 t, .int .i64 kk, .bool true, .int .i64 0, .int .i64 0, .int .i64 0, .bool false, .int .i64 0, .int .i64 0, .int .i64 0] 42)).drew := (ba w1 _).drew
  have HC3 : Hid ((w1.alloc (.cells #[.int .i64 t, .int .i64 kk, .bool true, .int .i64 0, .int .i64 0, .int .i64 0, .bool false, .int .i64 0, .int .i64 0, .int .i64 0] 42)).drew.heap[X]? = some (.cells #[.int .i64 t, .int .i64 kk, .bool true, .int .i64 0, .int .i64 0, .int .i64 0, .bool false, .int .i64 0, .int .i64 0, .int .i64 0] 42 (0, 0))) := Lib.hid (by rw [← HXe.out]; exact heap_alloc_new w1 _)
  have HR3 : Hid ((w1.alloc (.cells #[.int .i64 t, .int .i64 kk, .bool true, .int .i64 0, .int .i64 0, .int .i64 0, .bool false, .int .i64 0, .int .i64 0, .int .i64 0] 42)).drew.heap[w.heap.size]? = some (.cells #[.int .i64 0, .int .i64 0, .bool false, .int .i64 0, .int .i64 0, .int .i64 0, .bool false, .int .i64 0, .int .i64 0, .int .i64 0] 42 (0, 0))) := Lib.hid ((hb3.block _ (Array.getElem?_eq_some_iff.1 hR).1).trans hR)
  have HB3 := Lib.hid (bt (bt (ba w (.cells #[.int .i64 0, .int .i64 0, .bool false, .int .i64 0, .int .i64 0, .int .i64 0, .bool false, .int .i64 0, .int .i64 0, .int .i64 0] 42)) hb1) hb3)
  have hRX : ¬ w.heap.size = X := by have := (Array.getElem?_eq_some_iff.1 hR).1; have := HXe.out; omega
  have hRX' : w.heap.size ≤ X := by have := (Array.getElem?_eq_some_iff.1 hR).1; have := HXe.out; omega
  generalize (w1.alloc (.cells #[.int .i64 t, .int .i64 kk, .bool true, .int .i64 0, .int .i64 0, .int .i64 0, .bool false, .int .i64 0, .int .i64 0, .int .i64 0] 42)).drew = w3 at HC3 HR3 HB3 ⊢
  try rw [HXe.out]
  clear hb3 hR c0 c1 c2 hg hgl hb1
  have q2 : w3.cell? ⟨X, 2, none⟩ = some (.bool true) := (cell_of_row w3 X 2 _ 42 (0, 0) HC3.out).trans rfl
  have q6 : w3.cell? ⟨X, 6, none⟩ = some (.bool false) := (cell_of_row w3 X 6 _ 42 (0, 0) HC3.out).trans rfl
  go_wp2_with fail
  (with_reducible refine (get_ok s (k1 : Int) 3 k1 3 _ rfl (by decide) hs hk1 (by decide) H1 (by decide)).mono ?_)
  rintro e w4 ⟨g4, cc4, rfl, hcl, hg4, hgl4, hb4⟩
  have HC4 := Lib.hid ((hb4.block _ (Array.getElem?_eq_some_iff.1 HC3.out).1).trans HC3.out)
  have HR4 := Lib.hid ((hb4.block _ (Array.getElem?_eq_some_iff.1 HR3.out).1).trans HR3.out)
  have HB4 := Lib.hid (bt HB3.out hb4)
  have hXg : ¬ X = g4 := by have := (Array.getElem?_eq_some_iff.1 HC3.out).1; omega
  have c0 : w4.cell? ⟨g4, 0, none⟩ = some (.int .i64 oa) := hcl 0 (by decide)
  have c1 : w4.cell? ⟨g4, 1, none⟩ = some (.int .i64 ob) := hcl 1 (by decide)
  have c2 : w4.cell? ⟨g4, 2, none⟩ = some (.int .i64 oc) := hcl 2 (by decide)
  clear q2 q6 hcl
  have r0 : w4.cell? ⟨X, 3, none⟩ = some (.int .i64 0) := (cell_of_row w4 X 3 _ 42 (0, 0) HC4.out).trans rfl
  have r1 : w4.cell? ⟨X, 4, none⟩ = some (.int .i64 0) := (cell_of_row w4 X 4 _ 42 (0, 0) HC4.out).trans rfl
  have r2 : w4.cell? ⟨X, 5, none⟩ = some (.int .i64 0) := (cell_of_row w4 X 5 _ 42 (0, 0) HC4.out).trans rfl
  have z0 : w4.frozen? ⟨X, 3, none⟩ = false := frozen_room HC4.out _
  have z1 : w4.frozen? ⟨X, 4, none⟩ = false := frozen_room HC4.out _
  have z2 : w4.frozen? ⟨X, 5, none⟩ = false := frozen_room HC4.out _
  go_upto_region 11 with fail
  go_region
  have HC5 : Hid ((((w4.setCell ⟨X, 3, none⟩ (.int .i64 oa)).setCell ⟨X, 4, none⟩ (.int .i64 ob)).setCell ⟨X, 5, none⟩ (.int .i64 oc)).drew.heap[X]? = some (.cells #[.int .i64 t, .int .i64 kk, .bool true, .int .i64 oa, .int .i64 ob, .int .i64 oc, .bool false, .int .i64 0, .int .i64 0, .int .i64 0] 42 (0, 0))) := Lib.hid (heap_setCell_row (heap_setCell_row (heap_setCell_row HC4.out _ _) _ _) _ _)
  have HR5 : Hid ((((w4.setCell ⟨X, 3, none⟩ (.int .i64 oa)).setCell ⟨X, 4, none⟩ (.int .i64 ob)).setCell ⟨X, 5, none⟩ (.int .i64 oc)).drew.heap[w.heap.size]? = some (.cells #[.int .i64 0, .int .i64 0, .bool false, .int .i64 0, .int .i64 0, .int .i64 0, .bool false, .int .i64 0, .int .i64 0, .int .i64 0] 42 (0, 0))) := Lib.hid ((heap_setCell_far hRX _ _).trans ((heap_setCell_far hRX _ _).trans ((heap_setCell_far hRX _ _).trans HR4.out)))
  have HB5 : Hid (Below w.heap.size w (((w4.setCell ⟨X, 3, none⟩ (.int .i64 oa)).setCell ⟨X, 4, none⟩ (.int .i64 ob)).setCell ⟨X, 5, none⟩ (.int .i64 oc)).drew) := Lib.hid (below_setCell (below_setCell (below_setCell HB4.out hRX' _) hRX' _) hRX' _).drew
  generalize (((w4.setCell ⟨X, 3, none⟩ (.int .i64 oa)).setCell ⟨X, 4, none⟩ (.int .i64 ob)).setCell ⟨X, 5, none⟩ (.int .i64 oc)).drew = w5 at HC5 HR5 HB5 ⊢
  clear c0 c1 c2 r0 r1 r2 z0 z1 z2 hXg
  have q6 : w5.cell? ⟨X, 6, none⟩ = some (.bool false) := (cell_of_row w5 X 6 _ 42 (0, 0) HC5.out).trans rfl
  have hCX := HC5.out
  have hRR := HR5.out
  go_wp2_with (first | (refine wpList_load_row rfl 42 _ rfl X rfl 42 _ _ _ hCX Tryd.underlying42 rfl (by kernel_rfl) ?_) | (refine wpList_store_row rfl 42 _ _ rfl w.heap.size #[.int .i64 t, .int .i64 kk, .bool true, .int .i64 oa, .int .i64 ob, .int .i64 oc, .bool false, .int .i64 0, .int .i64 0, .int .i64 0] rfl rfl 42 _ hRR (by kernel_rfl) rfl (by simp [Value.oneCell']) ?_))
  refine bodyPost_ret (v := .tuple #[chV ⟨t, kk, true, ⟨oa, ob, oc⟩, false, V3.zero⟩, .int .i64 (k2 : Int), .int .i64 0]) ?_ rfl ⟨chOut_ok HX, below_row HB5.out (Nat.le_refl _) _⟩
  exact results_row53 _ _ _ _ _ _ _ (setRow_heap _ _ _ _ _ _ hRR) rfl rfl rfl rfl
set_option maxRecDepth 100000 in
set_option maxHeartbeats 4000000 in
theorem refChange_2n (s : ByteArray) (k : Nat) (w : World) (hs : s.size ≤ maxLen) (hk : k ≤ s.size) (t kk : Int) (k1 : Nat) (h : getN 3 s.data.toList k = some ([t, kk, 2], k1)) (hr : rdCh.run s.data.toList k = (rfChT t kk 2).run s.data.toList k1) (h1 : getN 3 s.data.toList k1 = none) : Calls Tryd.prog 53 #[.string s, .int .i64 k] w fun e w' => e = .returned (chOutV (rdCh.run s.data.toList k)) ∧ Below w.heap.size w w' := by
  have hk1 := getN_le hk h
  have HX : Hid (rdCh.run s.data.toList k = .error false) := Lib.hid (by rw [hr, rfChT_2]; exact run_bind_err (rd3_none h1))
  have H := Lib.hid h
  have H1 := Lib.hid h1
  clear h hr h1
  go_enter Tryd.func53, Tryd.ntmps53
  go_wp2_with fail
  (with_reducible refine (get_ok s (k : Int) 3 k 3 _ rfl (by decide) hs hk (by decide) H (by decide)).mono ?_)
  rintro e w1 ⟨g, cc, rfl, hcl, hg, hgl, hb1⟩
  have hR : w1.heap[w.heap.size]? = some (.cells #[.int .i64 0, .int .i64 0, .bool false, .int .i64 0, .int .i64 0, .int .i64 0, .bool false, .int .i64 0, .int .i64 0, .int .i64 0] 42 (0, 0)) := (hb1.block _ (by simp)).trans (heap_alloc_new w _)
  have c0 : w1.cell? ⟨g, 0, none⟩ = some (.int .i64 t) := hcl 0 (by decide)
  have c1 : w1.cell? ⟨g, 1, none⟩ = some (.int .i64 kk) := hcl 1 (by decide)
  have c2 : w1.cell? ⟨g, 2, none⟩ = some (.int .i64 2) := hcl 2 (by decide)
  clear hcl
  go_wp2_with fail
  (with_reducible refine (within_t 2 _ _ _ (by decide)).mono ?_)
  rintro e w2 ⟨rfl, hw2⟩
  rw [hw2]
  clear hw2
  go_upto_region 6 with fail
  go_region
  obtain ⟨X, HXe⟩ : ∃ X, Hid (w1.heap.size = X) := ⟨_, Lib.hid rfl⟩
  have hb3 : Below w1.heap.size w1 (w1.alloc (.cells #[.int .i64 t, .int .i64 kk, .bool false, .int .i64 0, .int .i64 0, .int .i64 0, .bool true, .int .i64 0, .int .i64 0, .int .i64 0] 42)).drew := (ba w1 _).drew
  have HC3 : Hid ((w1.alloc (.cells #[.int .i64 t, .int .i64 kk, .bool false, .int .i64 0, .int .i64 0, .int .i64 0, .bool true, .int .i64 0, .int .i64 0, .int .i64 0] 42)).drew.heap[X]? = some (.cells #[.int .i64 t, .int .i64 kk, .bool false, .int .i64 0, .int .i64 0, .int .i64 0, .bool true, .int .i64 0, .int .i64 0, .int .i64 0] 42 (0, 0))) := Lib.hid (by rw [← HXe.out]; exact heap_alloc_new w1 _)
  have HR3 : Hid ((w1.alloc (.cells #[.int .i64 t, .int .i64 kk, .bool false, .int .i64 0, .int .i64 0, .int .i64 0, .bool true, .int .i64 0, .int .i64 0, .int .i64 0] 42)).drew.heap[w.heap.size]? = some (.cells #[.int .i64 0, .int .i64 0, .bool false, .int .i64 0, .int .i64 0, .int .i64 0, .bool false, .int .i64 0, .int .i64 0, .int .i64 0] 42 (0, 0))) := Lib.hid ((hb3.block _ (Array.getElem?_eq_some_iff.1 hR).1).trans hR)
  have HB3 := Lib.hid (bt (bt (ba w (.cells #[.int .i64 0, .int .i64 0, .bool false, .int .i64 0, .int .i64 0, .int .i64 0, .bool false, .int .i64 0, .int .i64 0, .int .i64 0] 42)) hb1) hb3)
  have hRX : ¬ w.heap.size = X := by have := (Array.getElem?_eq_some_iff.1 hR).1; have := HXe.out; omega
  have hRX' : w.heap.size ≤ X := by have := (Array.getElem?_eq_some_iff.1 hR).1; have := HXe.out; omega
  generalize (w1.alloc (.cells #[.int .i64 t, .int .i64 kk, .bool false, .int .i64 0, .int .i64 0, .int .i64 0, .bool true, .int .i64 0, .int .i64 0, .int .i64 0] 42)).drew = w3 at HC3 HR3 HB3 ⊢
  try rw [HXe.out]
  clear hb3 hR c0 c1 c2 hg hgl hb1
  have q2 : w3.cell? ⟨X, 2, none⟩ = some (.bool false) := (cell_of_row w3 X 2 _ 42 (0, 0) HC3.out).trans rfl
  have q6 : w3.cell? ⟨X, 6, none⟩ = some (.bool true) := (cell_of_row w3 X 6 _ 42 (0, 0) HC3.out).trans rfl
  go_wp2_with fail
  (with_reducible refine (get_no s (k1 : Int) 3 k1 3 _ rfl (by decide) hs hk1 (by decide) H1).mono ?_)
  rintro e w4 ⟨rfl, hb4⟩
  have hR4 : w4.heap[w.heap.size]? = some (.cells #[.int .i64 0, .int .i64 0, .bool false, .int .i64 0, .int .i64 0, .int .i64 0, .bool false, .int .i64 0, .int .i64 0, .int .i64 0] 42 (0, 0)) := (hb4.block _ (Array.getElem?_eq_some_iff.1 HR3.out).1).trans HR3.out
  clear q2 q6
  go_wp2_with (refine wpList_store_row rfl 42 _ _ rfl w.heap.size #[.int .i64 0, .int .i64 0, .bool false, .int .i64 0, .int .i64 0, .int .i64 0, .bool false, .int .i64 0, .int .i64 0, .int .i64 0] rfl rfl 42 _ hR4 (by kernel_rfl) rfl (by simp [Value.oneCell']) ?_)
  refine bodyPost_ret (v := .tuple #[chV chZ, .int .i64 0, .int .i64 10]) ?_ rfl ⟨chOut_no HX, below_row (bt HB3.out hb4) (Nat.le_refl _) _⟩
  exact results_row53 _ _ _ _ _ _ _ (setRow_heap _ _ _ _ _ _ hR4) rfl rfl rfl rfl
set_option maxRecDepth 100000 in
set_option maxHeartbeats 4000000 in
theorem refChange_2s (s : ByteArray) (k : Nat) (w : World) (hs : s.size ≤ maxLen) (hk : k ≤ s.size) (t kk : Int) (k1 : Nat) (h : getN 3 s.data.toList k = some ([t, kk, 2], k1)) (hr : rdCh.run s.data.toList k = (rfChT t kk 2).run s.data.toList k1) (na nb nc : Int) (k2 : Nat) (h1 : getN 3 s.data.toList k1 = some ([na, nb, nc], k2)) : Calls Tryd.prog 53 #[.string s, .int .i64 k] w fun e w' => e = .returned (chOutV (rdCh.run s.data.toList k)) ∧ Below w.heap.size w w' := by
  have hk1 := getN_le hk h
  have hk2 := getN_le hk1 h1
  have HX : Hid (rdCh.run s.data.toList k = .ok (⟨t, kk, false, V3.zero, true, ⟨na, nb, nc⟩⟩, k2)) := Lib.hid (by
    obtain ⟨_, _, _, e, hq⟩ := rd3_some h1
    simp only [List.cons.injEq, and_true] at e
    obtain ⟨rfl, rfl, rfl⟩ := e
    rw [hr, rfChT_2, run_bind_ok hq]; rfl)
  have H := Lib.hid h
  have H1 := Lib.hid h1
  clear h hr h1
  go_enter Tryd.func53, Tryd.ntmps53
  go_wp2_with fail
  (with_reducible refine (get_ok s (k : Int) 3 k 3 _ rfl (by decide) hs hk (by decide) H (by decide)).mono ?_)
  rintro e w1 ⟨g, cc, rfl, hcl, hg, hgl, hb1⟩
  have hR : w1.heap[w.heap.size]? = some (.cells #[.int .i64 0, .int .i64 0, .bool false, .int .i64 0, .int .i64 0, .int .i64 0, .bool false, .int .i64 0, .int .i64 0, .int .i64 0] 42 (0, 0)) := (hb1.block _ (by simp)).trans (heap_alloc_new w _)
  have c0 : w1.cell? ⟨g, 0, none⟩ = some (.int .i64 t) := hcl 0 (by decide)
  have c1 : w1.cell? ⟨g, 1, none⟩ = some (.int .i64 kk) := hcl 1 (by decide)
  have c2 : w1.cell? ⟨g, 2, none⟩ = some (.int .i64 2) := hcl 2 (by decide)
  clear hcl
  go_wp2_with fail
  (with_reducible refine (within_t 2 _ _ _ (by decide)).mono ?_)
  rintro e w2 ⟨rfl, hw2⟩
  rw [hw2]
  clear hw2
  go_upto_region 6 with fail
  go_region
  obtain ⟨X, HXe⟩ : ∃ X, Hid (w1.heap.size = X) := ⟨_, Lib.hid rfl⟩
  have hb3 : Below w1.heap.size w1 (w1.alloc (.cells #[.int .i64 t, .int .i64 kk, .bool false, .int .i64 0, .int .i64 0, .int .i64 0, .bool true, .int .i64 0, .int .i64 0, .int .i64 0] 42)).drew := (ba w1 _).drew
  have HC3 : Hid ((w1.alloc (.cells #[.int .i64 t, .int .i64 kk, .bool false, .int .i64 0, .int .i64 0, .int .i64 0, .bool true, .int .i64 0, .int .i64 0, .int .i64 0] 42)).drew.heap[X]? = some (.cells #[.int .i64 t, .int .i64 kk, .bool false, .int .i64 0, .int .i64 0, .int .i64 0, .bool true, .int .i64 0, .int .i64 0, .int .i64 0] 42 (0, 0))) := Lib.hid (by rw [← HXe.out]; exact heap_alloc_new w1 _)
  have HR3 : Hid ((w1.alloc (.cells #[.int .i64 t, .int .i64 kk, .bool false, .int .i64 0, .int .i64 0, .int .i64 0, .bool true, .int .i64 0, .int .i64 0, .int .i64 0] 42)).drew.heap[w.heap.size]? = some (.cells #[.int .i64 0, .int .i64 0, .bool false, .int .i64 0, .int .i64 0, .int .i64 0, .bool false, .int .i64 0, .int .i64 0, .int .i64 0] 42 (0, 0))) := Lib.hid ((hb3.block _ (Array.getElem?_eq_some_iff.1 hR).1).trans hR)
  have HB3 := Lib.hid (bt (bt (ba w (.cells #[.int .i64 0, .int .i64 0, .bool false, .int .i64 0, .int .i64 0, .int .i64 0, .bool false, .int .i64 0, .int .i64 0, .int .i64 0] 42)) hb1) hb3)
  have hRX : ¬ w.heap.size = X := by have := (Array.getElem?_eq_some_iff.1 hR).1; have := HXe.out; omega
  have hRX' : w.heap.size ≤ X := by have := (Array.getElem?_eq_some_iff.1 hR).1; have := HXe.out; omega
  generalize (w1.alloc (.cells #[.int .i64 t, .int .i64 kk, .bool false, .int .i64 0, .int .i64 0, .int .i64 0, .bool true, .int .i64 0, .int .i64 0, .int .i64 0] 42)).drew = w3 at HC3 HR3 HB3 ⊢
  try rw [HXe.out]
  clear hb3 hR c0 c1 c2 hg hgl hb1
  have q2 : w3.cell? ⟨X, 2, none⟩ = some (.bool false) := (cell_of_row w3 X 2 _ 42 (0, 0) HC3.out).trans rfl
  have q6 : w3.cell? ⟨X, 6, none⟩ = some (.bool true) := (cell_of_row w3 X 6 _ 42 (0, 0) HC3.out).trans rfl
  go_wp2_with fail
  (with_reducible refine (get_ok s (k1 : Int) 3 k1 3 _ rfl (by decide) hs hk1 (by decide) H1 (by decide)).mono ?_)
  rintro e w4 ⟨g4, cc4, rfl, hcl, hg4, hgl4, hb4⟩
  have HC4 := Lib.hid ((hb4.block _ (Array.getElem?_eq_some_iff.1 HC3.out).1).trans HC3.out)
  have HR4 := Lib.hid ((hb4.block _ (Array.getElem?_eq_some_iff.1 HR3.out).1).trans HR3.out)
  have HB4 := Lib.hid (bt HB3.out hb4)
  have hXg : ¬ X = g4 := by have := (Array.getElem?_eq_some_iff.1 HC3.out).1; omega
  have c0 : w4.cell? ⟨g4, 0, none⟩ = some (.int .i64 na) := hcl 0 (by decide)
  have c1 : w4.cell? ⟨g4, 1, none⟩ = some (.int .i64 nb) := hcl 1 (by decide)
  have c2 : w4.cell? ⟨g4, 2, none⟩ = some (.int .i64 nc) := hcl 2 (by decide)
  clear q2 q6 hcl
  have r0 : w4.cell? ⟨X, 7, none⟩ = some (.int .i64 0) := (cell_of_row w4 X 7 _ 42 (0, 0) HC4.out).trans rfl
  have r1 : w4.cell? ⟨X, 8, none⟩ = some (.int .i64 0) := (cell_of_row w4 X 8 _ 42 (0, 0) HC4.out).trans rfl
  have r2 : w4.cell? ⟨X, 9, none⟩ = some (.int .i64 0) := (cell_of_row w4 X 9 _ 42 (0, 0) HC4.out).trans rfl
  have z0 : w4.frozen? ⟨X, 7, none⟩ = false := frozen_room HC4.out _
  have z1 : w4.frozen? ⟨X, 8, none⟩ = false := frozen_room HC4.out _
  have z2 : w4.frozen? ⟨X, 9, none⟩ = false := frozen_room HC4.out _
  go_upto_region 17 with fail
  go_region
  have HC5 : Hid ((((w4.setCell ⟨X, 7, none⟩ (.int .i64 na)).setCell ⟨X, 8, none⟩ (.int .i64 nb)).setCell ⟨X, 9, none⟩ (.int .i64 nc)).drew.heap[X]? = some (.cells #[.int .i64 t, .int .i64 kk, .bool false, .int .i64 0, .int .i64 0, .int .i64 0, .bool true, .int .i64 na, .int .i64 nb, .int .i64 nc] 42 (0, 0))) := Lib.hid (heap_setCell_row (heap_setCell_row (heap_setCell_row HC4.out _ _) _ _) _ _)
  have HR5 : Hid ((((w4.setCell ⟨X, 7, none⟩ (.int .i64 na)).setCell ⟨X, 8, none⟩ (.int .i64 nb)).setCell ⟨X, 9, none⟩ (.int .i64 nc)).drew.heap[w.heap.size]? = some (.cells #[.int .i64 0, .int .i64 0, .bool false, .int .i64 0, .int .i64 0, .int .i64 0, .bool false, .int .i64 0, .int .i64 0, .int .i64 0] 42 (0, 0))) := Lib.hid ((heap_setCell_far hRX _ _).trans ((heap_setCell_far hRX _ _).trans ((heap_setCell_far hRX _ _).trans HR4.out)))
  have HB5 : Hid (Below w.heap.size w (((w4.setCell ⟨X, 7, none⟩ (.int .i64 na)).setCell ⟨X, 8, none⟩ (.int .i64 nb)).setCell ⟨X, 9, none⟩ (.int .i64 nc)).drew) := Lib.hid (below_setCell (below_setCell (below_setCell HB4.out hRX' _) hRX' _) hRX' _).drew
  generalize (((w4.setCell ⟨X, 7, none⟩ (.int .i64 na)).setCell ⟨X, 8, none⟩ (.int .i64 nb)).setCell ⟨X, 9, none⟩ (.int .i64 nc)).drew = w5 at HC5 HR5 HB5 ⊢
  clear c0 c1 c2 r0 r1 r2 z0 z1 z2 hXg
  have q6 : w5.cell? ⟨X, 6, none⟩ = some (.bool true) := (cell_of_row w5 X 6 _ 42 (0, 0) HC5.out).trans rfl
  have hCX := HC5.out
  have hRR := HR5.out
  go_wp2_with (first | (refine wpList_load_row rfl 42 _ rfl X rfl 42 _ _ _ hCX Tryd.underlying42 rfl (by kernel_rfl) ?_) | (refine wpList_store_row rfl 42 _ _ rfl w.heap.size #[.int .i64 t, .int .i64 kk, .bool false, .int .i64 0, .int .i64 0, .int .i64 0, .bool true, .int .i64 na, .int .i64 nb, .int .i64 nc] rfl rfl 42 _ hRR (by kernel_rfl) rfl (by simp [Value.oneCell']) ?_))
  refine bodyPost_ret (v := .tuple #[chV ⟨t, kk, false, V3.zero, true, ⟨na, nb, nc⟩⟩, .int .i64 (k2 : Int), .int .i64 0]) ?_ rfl ⟨chOut_ok HX, below_row HB5.out (Nat.le_refl _) _⟩
  exact results_row53 _ _ _ _ _ _ _ (setRow_heap _ _ _ _ _ _ hRR) rfl rfl rfl rfl
set_option maxRecDepth 100000 in
set_option maxHeartbeats 4000000 in
theorem refChange_3n (s : ByteArray) (k : Nat) (w : World) (hs : s.size ≤ maxLen) (hk : k ≤ s.size) (t kk : Int) (k1 : Nat) (h : getN 3 s.data.toList k = some ([t, kk, 3], k1)) (hr : rdCh.run s.data.toList k = (rfChT t kk 3).run s.data.toList k1) (h1 : getN 3 s.data.toList k1 = none) : Calls Tryd.prog 53 #[.string s, .int .i64 k] w fun e w' => e = .returned (chOutV (rdCh.run s.data.toList k)) ∧ Below w.heap.size w w' := by
  have hk1 := getN_le hk h
  have HX : Hid (rdCh.run s.data.toList k = .error false) := Lib.hid (by rw [hr, rfChT_3]; exact run_bind_err (rd3_none h1))
  have H := Lib.hid h
  have H1 := Lib.hid h1
  clear h hr h1
  go_enter Tryd.func53, Tryd.ntmps53
  go_wp2_with fail
  (with_reducible refine (get_ok s (k : Int) 3 k 3 _ rfl (by decide) hs hk (by decide) H (by decide)).mono ?_)
  rintro e w1 ⟨g, cc, rfl, hcl, hg, hgl, hb1⟩
  have hR : w1.heap[w.heap.size]? = some (.cells #[.int .i64 0, .int .i64 0, .bool false, .int .i64 0, .int .i64 0, .int .i64 0, .bool false, .int .i64 0, .int .i64 0, .int .i64 0] 42 (0, 0)) := (hb1.block _ (by simp)).trans (heap_alloc_new w _)
  have c0 : w1.cell? ⟨g, 0, none⟩ = some (.int .i64 t) := hcl 0 (by decide)
  have c1 : w1.cell? ⟨g, 1, none⟩ = some (.int .i64 kk) := hcl 1 (by decide)
  have c2 : w1.cell? ⟨g, 2, none⟩ = some (.int .i64 3) := hcl 2 (by decide)
  clear hcl
  go_wp2_with fail
  (with_reducible refine (within_t 3 _ _ _ (by decide)).mono ?_)
  rintro e w2 ⟨rfl, hw2⟩
  rw [hw2]
  clear hw2
  go_upto_region 6 with fail
  go_region
  obtain ⟨X, HXe⟩ : ∃ X, Hid (w1.heap.size = X) := ⟨_, Lib.hid rfl⟩
  have hb3 : Below w1.heap.size w1 (w1.alloc (.cells #[.int .i64 t, .int .i64 kk, .bool true, .int .i64 0, .int .i64 0, .int .i64 0, .bool true, .int .i64 0, .int .i64 0, .int .i64 0] 42)).drew := (ba w1 _).drew
  have HC3 : Hid ((w1.alloc (.cells #[.int .i64 t, .int .i64 kk, .bool true, .int .i64 0, .int .i64 0, .int .i64 0, .bool true, .int .i64 0, .int .i64 0, .int .i64 0] 42)).drew.heap[X]? = some (.cells #[.int .i64 t, .int .i64 kk, .bool true, .int .i64 0, .int .i64 0, .int .i64 0, .bool true, .int .i64 0, .int .i64 0, .int .i64 0] 42 (0, 0))) := Lib.hid (by rw [← HXe.out]; exact heap_alloc_new w1 _)
  have HR3 : Hid ((w1.alloc (.cells #[.int .i64 t, .int .i64 kk, .bool true, .int .i64 0, .int .i64 0, .int .i64 0, .bool true, .int .i64 0, .int .i64 0, .int .i64 0] 42)).drew.heap[w.heap.size]? = some (.cells #[.int .i64 0, .int .i64 0, .bool false, .int .i64 0, .int .i64 0, .int .i64 0, .bool false, .int .i64 0, .int .i64 0, .int .i64 0] 42 (0, 0))) := Lib.hid ((hb3.block _ (Array.getElem?_eq_some_iff.1 hR).1).trans hR)
  have HB3 := Lib.hid (bt (bt (ba w (.cells #[.int .i64 0, .int .i64 0, .bool false, .int .i64 0, .int .i64 0, .int .i64 0, .bool false, .int .i64 0, .int .i64 0, .int .i64 0] 42)) hb1) hb3)
  have hRX : ¬ w.heap.size = X := by have := (Array.getElem?_eq_some_iff.1 hR).1; have := HXe.out; omega
  have hRX' : w.heap.size ≤ X := by have := (Array.getElem?_eq_some_iff.1 hR).1; have := HXe.out; omega
  generalize (w1.alloc (.cells #[.int .i64 t, .int .i64 kk, .bool true, .int .i64 0, .int .i64 0, .int .i64 0, .bool true, .int .i64 0, .int .i64 0, .int .i64 0] 42)).drew = w3 at HC3 HR3 HB3 ⊢
  try rw [HXe.out]
  clear hb3 hR c0 c1 c2 hg hgl hb1
  have q2 : w3.cell? ⟨X, 2, none⟩ = some (.bool true) := (cell_of_row w3 X 2 _ 42 (0, 0) HC3.out).trans rfl
  have q6 : w3.cell? ⟨X, 6, none⟩ = some (.bool true) := (cell_of_row w3 X 6 _ 42 (0, 0) HC3.out).trans rfl
  go_wp2_with fail
  (with_reducible refine (get_no s (k1 : Int) 3 k1 3 _ rfl (by decide) hs hk1 (by decide) H1).mono ?_)
  rintro e w4 ⟨rfl, hb4⟩
  have hR4 : w4.heap[w.heap.size]? = some (.cells #[.int .i64 0, .int .i64 0, .bool false, .int .i64 0, .int .i64 0, .int .i64 0, .bool false, .int .i64 0, .int .i64 0, .int .i64 0] 42 (0, 0)) := (hb4.block _ (Array.getElem?_eq_some_iff.1 HR3.out).1).trans HR3.out
  clear q2 q6
  go_wp2_with (refine wpList_store_row rfl 42 _ _ rfl w.heap.size #[.int .i64 0, .int .i64 0, .bool false, .int .i64 0, .int .i64 0, .int .i64 0, .bool false, .int .i64 0, .int .i64 0, .int .i64 0] rfl rfl 42 _ hR4 (by kernel_rfl) rfl (by simp [Value.oneCell']) ?_)
  refine bodyPost_ret (v := .tuple #[chV chZ, .int .i64 0, .int .i64 10]) ?_ rfl ⟨chOut_no HX, below_row (bt HB3.out hb4) (Nat.le_refl _) _⟩
  exact results_row53 _ _ _ _ _ _ _ (setRow_heap _ _ _ _ _ _ hR4) rfl rfl rfl rfl
set_option maxRecDepth 100000 in
set_option maxHeartbeats 4000000 in
theorem refChange_3sn (s : ByteArray) (k : Nat) (w : World) (hs : s.size ≤ maxLen) (hk : k ≤ s.size) (t kk : Int) (k1 : Nat) (h : getN 3 s.data.toList k = some ([t, kk, 3], k1)) (hr : rdCh.run s.data.toList k = (rfChT t kk 3).run s.data.toList k1) (oa ob oc : Int) (k2 : Nat) (h1 : getN 3 s.data.toList k1 = some ([oa, ob, oc], k2)) (h2 : getN 3 s.data.toList k2 = none) : Calls Tryd.prog 53 #[.string s, .int .i64 k] w fun e w' => e = .returned (chOutV (rdCh.run s.data.toList k)) ∧ Below w.heap.size w w' := by
  have hk1 := getN_le hk h
  have hk2 := getN_le hk1 h1
  have HX : Hid (rdCh.run s.data.toList k = .error false) := Lib.hid (by
    obtain ⟨_, _, _, _, hq⟩ := rd3_some h1
    rw [hr, rfChT_3, run_bind_ok hq]; exact run_bind_err (rd3_none h2))
  have H := Lib.hid h
  have H1 := Lib.hid h1
  have H2 := Lib.hid h2
  clear h hr h1 h2
  go_enter Tryd.func53, Tryd.ntmps53
  go_wp2_with fail
  (with_reducible refine (get_ok s (k : Int) 3 k 3 _ rfl (by decide) hs hk (by decide) H (by decide)).mono ?_)
  rintro e w1 ⟨g, cc, rfl, hcl, hg, hgl, hb1⟩
  have hR : w1.heap[w.heap.size]? = some (.cells #[.int .i64 0, .int .i64 0, .bool false, .int .i64 0, .int .i64 0, .int .i64 0, .bool false, .int .i64 0, .int .i64 0, .int .i64 0] 42 (0, 0)) := (hb1.block _ (by simp)).trans (heap_alloc_new w _)
  have c0 : w1.cell? ⟨g, 0, none⟩ = some (.int .i64 t) := hcl 0 (by decide)
  have c1 : w1.cell? ⟨g, 1, none⟩ = some (.int .i64 kk) := hcl 1 (by decide)
  have c2 : w1.cell? ⟨g, 2, none⟩ = some (.int .i64 3) := hcl 2 (by decide)
  clear hcl
  go_wp2_with fail
  (with_reducible refine (within_t 3 _ _ _ (by decide)).mono ?_)
  rintro e w2 ⟨rfl, hw2⟩
  rw [hw2]
  clear hw2
  go_upto_region 6 with fail
  go_region
  obtain ⟨X, HXe⟩ : ∃ X, Hid (w1.heap.size = X) := ⟨_, Lib.hid rfl⟩
  have hb3 : Below w1.heap.size w1 (w1.alloc (.cells #[.int .i64 t, .int .i64 kk, .bool true, .int .i64 0, .int .i64 0, .int .i64 0, .bool true, .int .i64 0, .int .i64 0, .int .i64 0] 42)).drew := (ba w1 _).drew
  have HC3 : Hid ((w1.alloc (.cells #[.int .i64 t, .int .i64 kk, .bool true, .int .i64 0, .int .i64 0, .int .i64 0, .bool true, .int .i64 0, .int .i64 0, .int .i64 0] 42)).drew.heap[X]? = some (.cells #[.int .i64 t, .int .i64 kk, .bool true, .int .i64 0, .int .i64 0, .int .i64 0, .bool true, .int .i64 0, .int .i64 0, .int .i64 0] 42 (0, 0))) := Lib.hid (by rw [← HXe.out]; exact heap_alloc_new w1 _)
  have HR3 : Hid ((w1.alloc (.cells #[.int .i64 t, .int .i64 kk, .bool true, .int .i64 0, .int .i64 0, .int .i64 0, .bool true, .int .i64 0, .int .i64 0, .int .i64 0] 42)).drew.heap[w.heap.size]? = some (.cells #[.int .i64 0, .int .i64 0, .bool false, .int .i64 0, .int .i64 0, .int .i64 0, .bool false, .int .i64 0, .int .i64 0, .int .i64 0] 42 (0, 0))) := Lib.hid ((hb3.block _ (Array.getElem?_eq_some_iff.1 hR).1).trans hR)
  have HB3 := Lib.hid (bt (bt (ba w (.cells #[.int .i64 0, .int .i64 0, .bool false, .int .i64 0, .int .i64 0, .int .i64 0, .bool false, .int .i64 0, .int .i64 0, .int .i64 0] 42)) hb1) hb3)
  have hRX : ¬ w.heap.size = X := by have := (Array.getElem?_eq_some_iff.1 hR).1; have := HXe.out; omega
  have hRX' : w.heap.size ≤ X := by have := (Array.getElem?_eq_some_iff.1 hR).1; have := HXe.out; omega
  generalize (w1.alloc (.cells #[.int .i64 t, .int .i64 kk, .bool true, .int .i64 0, .int .i64 0, .int .i64 0, .bool true, .int .i64 0, .int .i64 0, .int .i64 0] 42)).drew = w3 at HC3 HR3 HB3 ⊢
  try rw [HXe.out]
  clear hb3 hR c0 c1 c2 hg hgl hb1
  have q2 : w3.cell? ⟨X, 2, none⟩ = some (.bool true) := (cell_of_row w3 X 2 _ 42 (0, 0) HC3.out).trans rfl
  have q6 : w3.cell? ⟨X, 6, none⟩ = some (.bool true) := (cell_of_row w3 X 6 _ 42 (0, 0) HC3.out).trans rfl
  go_wp2_with fail
  (with_reducible refine (get_ok s (k1 : Int) 3 k1 3 _ rfl (by decide) hs hk1 (by decide) H1 (by decide)).mono ?_)
  rintro e w4 ⟨g4, cc4, rfl, hcl, hg4, hgl4, hb4⟩
  have HC4 := Lib.hid ((hb4.block _ (Array.getElem?_eq_some_iff.1 HC3.out).1).trans HC3.out)
  have HR4 := Lib.hid ((hb4.block _ (Array.getElem?_eq_some_iff.1 HR3.out).1).trans HR3.out)
  have HB4 := Lib.hid (bt HB3.out hb4)
  have hXg : ¬ X = g4 := by have := (Array.getElem?_eq_some_iff.1 HC3.out).1; omega
  have c0 : w4.cell? ⟨g4, 0, none⟩ = some (.int .i64 oa) := hcl 0 (by decide)
  have c1 : w4.cell? ⟨g4, 1, none⟩ = some (.int .i64 ob) := hcl 1 (by decide)
  have c2 : w4.cell? ⟨g4, 2, none⟩ = some (.int .i64 oc) := hcl 2 (by decide)
  clear q2 q6 hcl
  have r0 : w4.cell? ⟨X, 3, none⟩ = some (.int .i64 0) := (cell_of_row w4 X 3 _ 42 (0, 0) HC4.out).trans rfl
  have r1 : w4.cell? ⟨X, 4, none⟩ = some (.int .i64 0) := (cell_of_row w4 X 4 _ 42 (0, 0) HC4.out).trans rfl
  have r2 : w4.cell? ⟨X, 5, none⟩ = some (.int .i64 0) := (cell_of_row w4 X 5 _ 42 (0, 0) HC4.out).trans rfl
  have z0 : w4.frozen? ⟨X, 3, none⟩ = false := frozen_room HC4.out _
  have z1 : w4.frozen? ⟨X, 4, none⟩ = false := frozen_room HC4.out _
  have z2 : w4.frozen? ⟨X, 5, none⟩ = false := frozen_room HC4.out _
  go_upto_region 11 with fail
  go_region
  have HC5 : Hid ((((w4.setCell ⟨X, 3, none⟩ (.int .i64 oa)).setCell ⟨X, 4, none⟩ (.int .i64 ob)).setCell ⟨X, 5, none⟩ (.int .i64 oc)).drew.heap[X]? = some (.cells #[.int .i64 t, .int .i64 kk, .bool true, .int .i64 oa, .int .i64 ob, .int .i64 oc, .bool true, .int .i64 0, .int .i64 0, .int .i64 0] 42 (0, 0))) := Lib.hid (heap_setCell_row (heap_setCell_row (heap_setCell_row HC4.out _ _) _ _) _ _)
  have HR5 : Hid ((((w4.setCell ⟨X, 3, none⟩ (.int .i64 oa)).setCell ⟨X, 4, none⟩ (.int .i64 ob)).setCell ⟨X, 5, none⟩ (.int .i64 oc)).drew.heap[w.heap.size]? = some (.cells #[.int .i64 0, .int .i64 0, .bool false, .int .i64 0, .int .i64 0, .int .i64 0, .bool false, .int .i64 0, .int .i64 0, .int .i64 0] 42 (0, 0))) := Lib.hid ((heap_setCell_far hRX _ _).trans ((heap_setCell_far hRX _ _).trans ((heap_setCell_far hRX _ _).trans HR4.out)))
  have HB5 : Hid (Below w.heap.size w (((w4.setCell ⟨X, 3, none⟩ (.int .i64 oa)).setCell ⟨X, 4, none⟩ (.int .i64 ob)).setCell ⟨X, 5, none⟩ (.int .i64 oc)).drew) := Lib.hid (below_setCell (below_setCell (below_setCell HB4.out hRX' _) hRX' _) hRX' _).drew
  generalize (((w4.setCell ⟨X, 3, none⟩ (.int .i64 oa)).setCell ⟨X, 4, none⟩ (.int .i64 ob)).setCell ⟨X, 5, none⟩ (.int .i64 oc)).drew = w5 at HC5 HR5 HB5 ⊢
  clear c0 c1 c2 r0 r1 r2 z0 z1 z2 hXg
  have q2 : w5.cell? ⟨X, 2, none⟩ = some (.bool true) := (cell_of_row w5 X 2 _ 42 (0, 0) HC5.out).trans rfl
  have q6 : w5.cell? ⟨X, 6, none⟩ = some (.bool true) := (cell_of_row w5 X 6 _ 42 (0, 0) HC5.out).trans rfl
  go_wp2_with fail
  (with_reducible refine (get_no s (k2 : Int) 3 k2 3 _ rfl (by decide) hs hk2 (by decide) H2).mono ?_)
  rintro e w6 ⟨rfl, hb6⟩
  have hR6 : w6.heap[w.heap.size]? = some (.cells #[.int .i64 0, .int .i64 0, .bool false, .int .i64 0, .int .i64 0, .int .i64 0, .bool false, .int .i64 0, .int .i64 0, .int .i64 0] 42 (0, 0)) := (hb6.block _ (Array.getElem?_eq_some_iff.1 HR5.out).1).trans HR5.out
  clear q2 q6
  go_wp2_with (refine wpList_store_row rfl 42 _ _ rfl w.heap.size #[.int .i64 0, .int .i64 0, .bool false, .int .i64 0, .int .i64 0, .int .i64 0, .bool false, .int .i64 0, .int .i64 0, .int .i64 0] rfl rfl 42 _ hR6 (by kernel_rfl) rfl (by simp [Value.oneCell']) ?_)
  refine bodyPost_ret (v := .tuple #[chV chZ, .int .i64 0, .int .i64 10]) ?_ rfl ⟨chOut_no HX, below_row (bt HB5.out hb6) (Nat.le_refl _) _⟩
  exact results_row53 _ _ _ _ _ _ _ (setRow_heap _ _ _ _ _ _ hR6) rfl rfl rfl rfl
set_option maxRecDepth 100000 in
set_option maxHeartbeats 4000000 in
theorem refChange_3ss (s : ByteArray) (k : Nat) (w : World) (hs : s.size ≤ maxLen) (hk : k ≤ s.size) (t kk : Int) (k1 : Nat) (h : getN 3 s.data.toList k = some ([t, kk, 3], k1)) (hr : rdCh.run s.data.toList k = (rfChT t kk 3).run s.data.toList k1) (oa ob oc : Int) (k2 : Nat) (h1 : getN 3 s.data.toList k1 = some ([oa, ob, oc], k2)) (na nb nc : Int) (k3 : Nat) (h2 : getN 3 s.data.toList k2 = some ([na, nb, nc], k3)) : Calls Tryd.prog 53 #[.string s, .int .i64 k] w fun e w' => e = .returned (chOutV (rdCh.run s.data.toList k)) ∧ Below w.heap.size w w' := by
  have hk1 := getN_le hk h
  have hk2 := getN_le hk1 h1
  have hk3 := getN_le hk2 h2
  have HX : Hid (rdCh.run s.data.toList k = .ok (⟨t, kk, true, ⟨oa, ob, oc⟩, true, ⟨na, nb, nc⟩⟩, k3)) := Lib.hid (by
    obtain ⟨_, _, _, e, hq⟩ := rd3_some h1
    simp only [List.cons.injEq, and_true] at e
    obtain ⟨rfl, rfl, rfl⟩ := e
    obtain ⟨_, _, _, e, hq2⟩ := rd3_some h2
    simp only [List.cons.injEq, and_true] at e
    obtain ⟨rfl, rfl, rfl⟩ := e
    rw [hr, rfChT_3, run_bind_ok hq, run_bind_ok hq2]; rfl)
  have H := Lib.hid h
  have H1 := Lib.hid h1
  have H2 := Lib.hid h2
  clear h hr h1 h2
  go_enter Tryd.func53, Tryd.ntmps53
  go_wp2_with fail
  (with_reducible refine (get_ok s (k : Int) 3 k 3 _ rfl (by decide) hs hk (by decide) H (by decide)).mono ?_)
  rintro e w1 ⟨g, cc, rfl, hcl, hg, hgl, hb1⟩
  have hR : w1.heap[w.heap.size]? = some (.cells #[.int .i64 0, .int .i64 0, .bool false, .int .i64 0, .int .i64 0, .int .i64 0, .bool false, .int .i64 0, .int .i64 0, .int .i64 0] 42 (0, 0)) := (hb1.block _ (by simp)).trans (heap_alloc_new w _)
  have c0 : w1.cell? ⟨g, 0, none⟩ = some (.int .i64 t) := hcl 0 (by decide)
  have c1 : w1.cell? ⟨g, 1, none⟩ = some (.int .i64 kk) := hcl 1 (by decide)
  have c2 : w1.cell? ⟨g, 2, none⟩ = some (.int .i64 3) := hcl 2 (by decide)
  clear hcl
  go_wp2_with fail
  (with_reducible refine (within_t 3 _ _ _ (by decide)).mono ?_)
  rintro e w2 ⟨rfl, hw2⟩
  rw [hw2]
  clear hw2
  go_upto_region 6 with fail
  go_region
  obtain ⟨X, HXe⟩ : ∃ X, Hid (w1.heap.size = X) := ⟨_, Lib.hid rfl⟩
  have hb3 : Below w1.heap.size w1 (w1.alloc (.cells #[.int .i64 t, .int .i64 kk, .bool true, .int .i64 0, .int .i64 0, .int .i64 0, .bool true, .int .i64 0, .int .i64 0, .int .i64 0] 42)).drew := (ba w1 _).drew
  have HC3 : Hid ((w1.alloc (.cells #[.int .i64 t, .int .i64 kk, .bool true, .int .i64 0, .int .i64 0, .int .i64 0, .bool true, .int .i64 0, .int .i64 0, .int .i64 0] 42)).drew.heap[X]? = some (.cells #[.int .i64 t, .int .i64 kk, .bool true, .int .i64 0, .int .i64 0, .int .i64 0, .bool true, .int .i64 0, .int .i64 0, .int .i64 0] 42 (0, 0))) := Lib.hid (by rw [← HXe.out]; exact heap_alloc_new w1 _)
  have HR3 : Hid ((w1.alloc (.cells #[.int .i64 t, .int .i64 kk, .bool true, .int .i64 0, .int .i64 0, .int .i64 0, .bool true, .int .i64 0, .int .i64 0, .int .i64 0] 42)).drew.heap[w.heap.size]? = some (.cells #[.int .i64 0, .int .i64 0, .bool false, .int .i64 0, .int .i64 0, .int .i64 0, .bool false, .int .i64 0, .int .i64 0, .int .i64 0] 42 (0, 0))) := Lib.hid ((hb3.block _ (Array.getElem?_eq_some_iff.1 hR).1).trans hR)
  have HB3 := Lib.hid (bt (bt (ba w (.cells #[.int .i64 0, .int .i64 0, .bool false, .int .i64 0, .int .i64 0, .int .i64 0, .bool false, .int .i64 0, .int .i64 0, .int .i64 0] 42)) hb1) hb3)
  have hRX : ¬ w.heap.size = X := by have := (Array.getElem?_eq_some_iff.1 hR).1; have := HXe.out; omega
  have hRX' : w.heap.size ≤ X := by have := (Array.getElem?_eq_some_iff.1 hR).1; have := HXe.out; omega
  generalize (w1.alloc (.cells #[.int .i64 t, .int .i64 kk, .bool true, .int .i64 0, .int .i64 0, .int .i64 0, .bool true, .int .i64 0, .int .i64 0, .int .i64 0] 42)).drew = w3 at HC3 HR3 HB3 ⊢
  try rw [HXe.out]
  clear hb3 hR c0 c1 c2 hg hgl hb1
  have q2 : w3.cell? ⟨X, 2, none⟩ = some (.bool true) := (cell_of_row w3 X 2 _ 42 (0, 0) HC3.out).trans rfl
  have q6 : w3.cell? ⟨X, 6, none⟩ = some (.bool true) := (cell_of_row w3 X 6 _ 42 (0, 0) HC3.out).trans rfl
  go_wp2_with fail
  (with_reducible refine (get_ok s (k1 : Int) 3 k1 3 _ rfl (by decide) hs hk1 (by decide) H1 (by decide)).mono ?_)
  rintro e w4 ⟨g4, cc4, rfl, hcl, hg4, hgl4, hb4⟩
  have HC4 := Lib.hid ((hb4.block _ (Array.getElem?_eq_some_iff.1 HC3.out).1).trans HC3.out)
  have HR4 := Lib.hid ((hb4.block _ (Array.getElem?_eq_some_iff.1 HR3.out).1).trans HR3.out)
  have HB4 := Lib.hid (bt HB3.out hb4)
  have hXg : ¬ X = g4 := by have := (Array.getElem?_eq_some_iff.1 HC3.out).1; omega
  have c0 : w4.cell? ⟨g4, 0, none⟩ = some (.int .i64 oa) := hcl 0 (by decide)
  have c1 : w4.cell? ⟨g4, 1, none⟩ = some (.int .i64 ob) := hcl 1 (by decide)
  have c2 : w4.cell? ⟨g4, 2, none⟩ = some (.int .i64 oc) := hcl 2 (by decide)
  clear q2 q6 hcl
  have r0 : w4.cell? ⟨X, 3, none⟩ = some (.int .i64 0) := (cell_of_row w4 X 3 _ 42 (0, 0) HC4.out).trans rfl
  have r1 : w4.cell? ⟨X, 4, none⟩ = some (.int .i64 0) := (cell_of_row w4 X 4 _ 42 (0, 0) HC4.out).trans rfl
  have r2 : w4.cell? ⟨X, 5, none⟩ = some (.int .i64 0) := (cell_of_row w4 X 5 _ 42 (0, 0) HC4.out).trans rfl
  have z0 : w4.frozen? ⟨X, 3, none⟩ = false := frozen_room HC4.out _
  have z1 : w4.frozen? ⟨X, 4, none⟩ = false := frozen_room HC4.out _
  have z2 : w4.frozen? ⟨X, 5, none⟩ = false := frozen_room HC4.out _
  go_upto_region 11 with fail
  go_region
  have HC5 : Hid ((((w4.setCell ⟨X, 3, none⟩ (.int .i64 oa)).setCell ⟨X, 4, none⟩ (.int .i64 ob)).setCell ⟨X, 5, none⟩ (.int .i64 oc)).drew.heap[X]? = some (.cells #[.int .i64 t, .int .i64 kk, .bool true, .int .i64 oa, .int .i64 ob, .int .i64 oc, .bool true, .int .i64 0, .int .i64 0, .int .i64 0] 42 (0, 0))) := Lib.hid (heap_setCell_row (heap_setCell_row (heap_setCell_row HC4.out _ _) _ _) _ _)
  have HR5 : Hid ((((w4.setCell ⟨X, 3, none⟩ (.int .i64 oa)).setCell ⟨X, 4, none⟩ (.int .i64 ob)).setCell ⟨X, 5, none⟩ (.int .i64 oc)).drew.heap[w.heap.size]? = some (.cells #[.int .i64 0, .int .i64 0, .bool false, .int .i64 0, .int .i64 0, .int .i64 0, .bool false, .int .i64 0, .int .i64 0, .int .i64 0] 42 (0, 0))) := Lib.hid ((heap_setCell_far hRX _ _).trans ((heap_setCell_far hRX _ _).trans ((heap_setCell_far hRX _ _).trans HR4.out)))
  have HB5 : Hid (Below w.heap.size w (((w4.setCell ⟨X, 3, none⟩ (.int .i64 oa)).setCell ⟨X, 4, none⟩ (.int .i64 ob)).setCell ⟨X, 5, none⟩ (.int .i64 oc)).drew) := Lib.hid (below_setCell (below_setCell (below_setCell HB4.out hRX' _) hRX' _) hRX' _).drew
  generalize (((w4.setCell ⟨X, 3, none⟩ (.int .i64 oa)).setCell ⟨X, 4, none⟩ (.int .i64 ob)).setCell ⟨X, 5, none⟩ (.int .i64 oc)).drew = w5 at HC5 HR5 HB5 ⊢
  clear c0 c1 c2 r0 r1 r2 z0 z1 z2 hXg
  have q2 : w5.cell? ⟨X, 2, none⟩ = some (.bool true) := (cell_of_row w5 X 2 _ 42 (0, 0) HC5.out).trans rfl
  have q6 : w5.cell? ⟨X, 6, none⟩ = some (.bool true) := (cell_of_row w5 X 6 _ 42 (0, 0) HC5.out).trans rfl
  go_wp2_with fail
  (with_reducible refine (get_ok s (k2 : Int) 3 k2 3 _ rfl (by decide) hs hk2 (by decide) H2 (by decide)).mono ?_)
  rintro e w6 ⟨g6, cc6, rfl, hcl, hg6, hgl6, hb6⟩
  have HC6 := Lib.hid ((hb6.block _ (Array.getElem?_eq_some_iff.1 HC5.out).1).trans HC5.out)
  have HR6 := Lib.hid ((hb6.block _ (Array.getElem?_eq_some_iff.1 HR5.out).1).trans HR5.out)
  have HB6 := Lib.hid (bt HB5.out hb6)
  have hXg : ¬ X = g6 := by have := (Array.getElem?_eq_some_iff.1 HC5.out).1; omega
  have c0 : w6.cell? ⟨g6, 0, none⟩ = some (.int .i64 na) := hcl 0 (by decide)
  have c1 : w6.cell? ⟨g6, 1, none⟩ = some (.int .i64 nb) := hcl 1 (by decide)
  have c2 : w6.cell? ⟨g6, 2, none⟩ = some (.int .i64 nc) := hcl 2 (by decide)
  clear q2 q6 hcl
  have r0 : w6.cell? ⟨X, 7, none⟩ = some (.int .i64 0) := (cell_of_row w6 X 7 _ 42 (0, 0) HC6.out).trans rfl
  have r1 : w6.cell? ⟨X, 8, none⟩ = some (.int .i64 0) := (cell_of_row w6 X 8 _ 42 (0, 0) HC6.out).trans rfl
  have r2 : w6.cell? ⟨X, 9, none⟩ = some (.int .i64 0) := (cell_of_row w6 X 9 _ 42 (0, 0) HC6.out).trans rfl
  have z0 : w6.frozen? ⟨X, 7, none⟩ = false := frozen_room HC6.out _
  have z1 : w6.frozen? ⟨X, 8, none⟩ = false := frozen_room HC6.out _
  have z2 : w6.frozen? ⟨X, 9, none⟩ = false := frozen_room HC6.out _
  go_upto_region 17 with fail
  go_region
  have HC7 : Hid ((((w6.setCell ⟨X, 7, none⟩ (.int .i64 na)).setCell ⟨X, 8, none⟩ (.int .i64 nb)).setCell ⟨X, 9, none⟩ (.int .i64 nc)).drew.heap[X]? = some (.cells #[.int .i64 t, .int .i64 kk, .bool true, .int .i64 oa, .int .i64 ob, .int .i64 oc, .bool true, .int .i64 na, .int .i64 nb, .int .i64 nc] 42 (0, 0))) := Lib.hid (heap_setCell_row (heap_setCell_row (heap_setCell_row HC6.out _ _) _ _) _ _)
  have HR7 : Hid ((((w6.setCell ⟨X, 7, none⟩ (.int .i64 na)).setCell ⟨X, 8, none⟩ (.int .i64 nb)).setCell ⟨X, 9, none⟩ (.int .i64 nc)).drew.heap[w.heap.size]? = some (.cells #[.int .i64 0, .int .i64 0, .bool false, .int .i64 0, .int .i64 0, .int .i64 0, .bool false, .int .i64 0, .int .i64 0, .int .i64 0] 42 (0, 0))) := Lib.hid ((heap_setCell_far hRX _ _).trans ((heap_setCell_far hRX _ _).trans ((heap_setCell_far hRX _ _).trans HR6.out)))
  have HB7 : Hid (Below w.heap.size w (((w6.setCell ⟨X, 7, none⟩ (.int .i64 na)).setCell ⟨X, 8, none⟩ (.int .i64 nb)).setCell ⟨X, 9, none⟩ (.int .i64 nc)).drew) := Lib.hid (below_setCell (below_setCell (below_setCell HB6.out hRX' _) hRX' _) hRX' _).drew
  generalize (((w6.setCell ⟨X, 7, none⟩ (.int .i64 na)).setCell ⟨X, 8, none⟩ (.int .i64 nb)).setCell ⟨X, 9, none⟩ (.int .i64 nc)).drew = w7 at HC7 HR7 HB7 ⊢
  clear c0 c1 c2 r0 r1 r2 z0 z1 z2 hXg
  have q6 : w7.cell? ⟨X, 6, none⟩ = some (.bool true) := (cell_of_row w7 X 6 _ 42 (0, 0) HC7.out).trans rfl
  have hCX := HC7.out
  have hRR := HR7.out
  go_wp2_with (first | (refine wpList_load_row rfl 42 _ rfl X rfl 42 _ _ _ hCX Tryd.underlying42 rfl (by kernel_rfl) ?_) | (refine wpList_store_row rfl 42 _ _ rfl w.heap.size #[.int .i64 t, .int .i64 kk, .bool true, .int .i64 oa, .int .i64 ob, .int .i64 oc, .bool true, .int .i64 na, .int .i64 nb, .int .i64 nc] rfl rfl 42 _ hRR (by kernel_rfl) rfl (by simp [Value.oneCell']) ?_))
  refine bodyPost_ret (v := .tuple #[chV ⟨t, kk, true, ⟨oa, ob, oc⟩, true, ⟨na, nb, nc⟩⟩, .int .i64 (k3 : Int), .int .i64 0]) ?_ rfl ⟨chOut_ok HX, below_row HB7.out (Nat.le_refl _) _⟩
  exact results_row53 _ _ _ _ _ _ _ (setRow_heap _ _ _ _ _ _ hRR) rfl rfl rfl rfl
theorem refChange_any (s : ByteArray) (k : Nat) (w : World) (hs : s.size ≤ maxLen) (hk : k ≤ s.size) : Calls Tryd.prog 53 #[.string s, .int .i64 k] w fun e w' => e = .returned (chOutV (rdCh.run s.data.toList k)) ∧ Below w.heap.size w w' := by
  cases h : getN 3 s.data.toList k with
  | none => exact refChange_0 s k w hs hk h
  | some q =>
    obtain ⟨l, k1⟩ := q
    obtain ⟨t, kk, m, rfl, hr⟩ := rdCh_some h
    by_cases hm : m < 1 ∨ 3 < m
    · exact refChange_bad s k w hs hk t kk m k1 h hr hm
    · have h3 : m = 1 ∨ m = 2 ∨ m = 3 := by omega
      cases h1 : getN 3 s.data.toList k1 with
      | none =>
        rcases h3 with rfl | rfl | rfl
        · exact refChange_1n s k w hs hk t kk k1 h hr h1
        · exact refChange_2n s k w hs hk t kk k1 h hr h1
        · exact refChange_3n s k w hs hk t kk k1 h hr h1
      | some q1 =>
        obtain ⟨l1, k2⟩ := q1
        obtain ⟨a, b, c, rfl, _⟩ := rd3_some h1
        rcases h3 with rfl | rfl | rfl
        · exact refChange_1s s k w hs hk t kk k1 h hr a b c k2 h1
        · exact refChange_2s s k w hs hk t kk k1 h hr a b c k2 h1
        · cases h2 : getN 3 s.data.toList k2 with
          | none => exact refChange_3sn s k w hs hk t kk k1 h hr a b c k2 h1 h2
          | some q2 =>
            obtain ⟨l2, k3⟩ := q2
            obtain ⟨x, y, z, rfl, _⟩ := rd3_some h2
            exact refChange_3ss s k w hs hk t kk k1 h hr a b c k2 h1 x y z k3 h2
end Go.Proofs.YtgkdliocfnoffaaDoor
