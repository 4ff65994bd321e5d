/- WALKS: end, Decode. -/
import Derived.Test.YtgkdliocfnoffaaDoorQ2
import Derived.Test.YtgkdliocfnoffaaDoorR2
import Derived.Test.YtgkdliocfnoffaaDoorG1
set_option linter.unusedVariables false
namespace Go.Proofs.YtgkdliocfnoffaaDoor
open Go.RowKit Go.Sort

theorem below_row {B g : Nat} {w0 w : World} (h : Below B w0 w) (hg : B ≤ g) (cs : Array Value) : Below B w0 (w.setRow g cs) :=
  ⟨h.os, h.tape, h.output, by simpa using h.size, fun k hk => (setRow_other w g k cs (by omega)).trans (h.block k hk)⟩

set_option maxRecDepth 100000 in
set_option maxHeartbeats 1000000 in
theorem end_ok (s : ByteArray) (rb : Nat) (w : World) (hr : RdAt w rb s s.size) :
    Calls Tryd.prog 43 #[.pointer (some ⟨rb, 0, none⟩)] w fun e w' => e = .returned (.tuple #[]) ∧ Below w.heap.size w w' := by
  obtain ⟨c0, c1, f1⟩ := hr
  have hd : ((s.size : Int) != (s.size : Int)) = false := by simp
  go_enter Tryd.func43, Tryd.ntmps43
  go_wp2_with fail
  go_quiet (fail)
  go_wp2
  first | go_end0 | refine bodyPost_ret (results_none rfl _ _ _) rfl ?_
  exact ⟨rfl, below_drewN (Below.refl _ _) _⟩
set_option maxRecDepth 100000 in
set_option maxHeartbeats 1000000 in
theorem end_no (s : ByteArray) (rb k : Nat) (a0 : Addr) (w : World) (hr : RdAt w rb s k) (hk : ¬ k = s.size) (hg : w.cell? ⟨0, 0, none⟩ = some (errV a0)) :
    Calls Tryd.prog 43 #[.pointer (some ⟨rb, 0, none⟩)] w fun e w' => e = pan a0 ∧ Below w.heap.size w w' := by
  obtain ⟨c0, c1, f1⟩ := hr
  have hd : ((k : Int) != (s.size : Int)) = true := by simp; omega
  unfold errV at hg
  go_enter Tryd.func43, Tryd.ntmps43
  go_wp2_with fail
  go_quiet (fail)
  go_wp2
  exact ⟨rfl, rfl, below_drewN (Below.refl _ _) _⟩

/-- What Decode hands back. -/
def decRow (s : ByteArray) : MRow × Int :=
  match rdRow.run s.data.toList 0 with
  | .error b => (⟨0, 0, V3.zero⟩, if b then 30 else 10)
  | .ok (r, k) => if k = s.size then (if VRow r then (r, 0) else (⟨0, 0, V3.zero⟩, 30)) else (⟨0, 0, V3.zero⟩, 10)
def decRowV (s : ByteArray) : Value := .tuple #[rowV (decRow s).1, .int .i64 (decRow s).2]

theorem results_row (w : World) (R E : Nat) (cells : Array Value) (t : TypeId) (x : Int) (tmps : Array Value) (hR : w.heap[R]? = some (.cells cells t (0, 0))) (hs : cells.size = 5) (hE : w.cell? ⟨E, 0, none⟩ = some (.int .i64 x))
    (h2 : tmps.getD 2 undef = .pointer (some ⟨R, 0, none⟩)) (h3 : tmps.getD 3 undef = .pointer (some ⟨E, 0, none⟩)) : (results Tryd.f15 tmps).run Tryd.prog w = .ok (.tuple #[.agg cells, .int .i64 x]) w := by
  have h2' : tmps[2]?.getD undef = .pointer (some ⟨R, 0, none⟩) := by simpa using h2
  have h3' : tmps[3]?.getD undef = .pointer (some ⟨E, 0, none⟩) := by simpa using h3
  have hl := run_loadVar_row (P := Tryd.prog) w R t 24 cells (0, 0) _ hR Tryd.underlying24 rfl (by rw [hs]; kernel_rfl)
  have hl2 : (loadVar 26 ⟨E, 0, none⟩).run Tryd.prog w = .ok (.int .i64 x) w := by simp [go_sem, Tryd.isAgg26, hE]
  simp [results, Tryd.results15, h2', h3', asAddr, hl, hl2]

set_option maxRecDepth 100000 in
set_option maxHeartbeats 8000000 in
theorem decode_any (s : ByteArray) (a0 a1 : Addr) (w : World) (hs : s.size ≤ maxLen) (hg : ErrW w a0 a1) (hb : 1 < w.heap.size ∧ a0.block < w.heap.size ∧ a1.block < w.heap.size) :
    Calls Tryd.prog 15 #[.string s] w fun e w' => e = .returned (decRowV s) ∧ Below w.heap.size w w' := by
  have hmf : ∀ (fn : Fn) (first cap : Array Value) (w : World), (Instr.makeFunc fn first cap).run Tryd.prog w = .ok (.func fn first cap) w := fun _ _ _ _ => rfl
  have HG : Hid (∀ w', Below w.heap.size w w' → ErrW w' a0 a1) := Lib.hid (fun w' h => hg.below (by omega) hb.1 hb.2.1 hb.2.2 h)
  clear hg hb
  cases h : rdRow.run s.data.toList 0 with
  | error b =>
    have H := Lib.hid h
    cases b with
    | false =>
      have HD : Hid (decRowV s = .tuple #[.agg #[.int .i64 0, .int .i64 0, .int .i64 0, .int .i64 0, .int .i64 0], .int .i64 10]) := Lib.hid (by simp [decRowV, decRow, h, rowV, V3.zero])
      clear h
      have HW3 : Hid (Below w.heap.size w (((w.alloc (.cells #[.int .i64 0, .int .i64 0, .int .i64 0, .int .i64 0, .int .i64 0] 24)).alloc (.cells #[.int .i64 0] 26)).alloc (.cells #[.string s, .int .i64 0] 63))) := Lib.hid (bt (bt (ba _ _) (ba _ _)) (ba _ _))
      have HRd : Hid (RdAt (((w.alloc (.cells #[.int .i64 0, .int .i64 0, .int .i64 0, .int .i64 0, .int .i64 0] 24)).alloc (.cells #[.int .i64 0] 26)).alloc (.cells #[.string s, .int .i64 0] 63)) (w.heap.size + 1 + 1) s 0) := Lib.hid ⟨by simp [go_sem], by simp [go_sem], by simp [go_sem]⟩
      have HR3 : Hid ((((w.alloc (.cells #[.int .i64 0, .int .i64 0, .int .i64 0, .int .i64 0, .int .i64 0] 24)).alloc (.cells #[.int .i64 0] 26)).alloc (.cells #[.string s, .int .i64 0] 63)).heap[w.heap.size]? = some (.cells #[.int .i64 0, .int .i64 0, .int .i64 0, .int .i64 0, .int .i64 0] 24 (0, 0))) := Lib.hid ((heap_alloc_old _ _ _ (by simp; omega)).trans ((heap_alloc_old _ _ _ (by simp)).trans (heap_alloc_new w _)))
      have HE3 : Hid ((((w.alloc (.cells #[.int .i64 0, .int .i64 0, .int .i64 0, .int .i64 0, .int .i64 0] 24)).alloc (.cells #[.int .i64 0] 26)).alloc (.cells #[.string s, .int .i64 0] 63)).heap[w.heap.size + 1]? = some (.cells #[.int .i64 0] 26 (0, 0))) := Lib.hid ((heap_alloc_old _ _ _ (by simp)).trans (by have := heap_alloc_new (w.alloc (.cells #[.int .i64 0, .int .i64 0, .int .i64 0, .int .i64 0, .int .i64 0] 24)) (.cells #[.int .i64 0] 26); rwa [World.size_alloc] at this))
      have HZ3 : Hid ((((w.alloc (.cells #[.int .i64 0, .int .i64 0, .int .i64 0, .int .i64 0, .int .i64 0] 24)).alloc (.cells #[.int .i64 0] 26)).alloc (.cells #[.string s, .int .i64 0] 63)).heap.size = w.heap.size + 3) := Lib.hid (by simp)
      have hrb : 0 < w.heap.size + 1 + 1 := by omega
      go_enter_defers Tryd.func15, Tryd.ntmps15
      go_wp2_with fail
      (with_reducible refine (Calls.rno (readRow_any s (w.heap.size + 1 + 1) 0 a0 a1 _ hs (Nat.zero_le _) HRd.out (HG.out _ HW3.out).g0 hrb) H.out).mono ?_)
      rintro e w4 ⟨rfl, hx4⟩
      have hr4 := (hx4.block w.heap.size (by rw [HZ3.out]; omega) (by omega)).trans HR3.out
      have he4 := (hx4.block (w.heap.size + 1) (by rw [HZ3.out]; omega) (by omega)).trans HE3.out
      have HB4 := Lib.hid (HW3.out.trans (hx4.below (n := w.heap.size) (by omega) (by rw [HZ3.out]; omega)))
      have HHr := Lib.hid hr4
      have HHe := Lib.hid he4
      clear hx4 hr4 he4
      go_wp2_with fail
      refine leaves_cons (f := 39) (args := #[.pointer (some ⟨w.heap.size, 0, none⟩), .pointer (some ⟨w.heap.size + 1, 0, none⟩)]) (by simp) (by simp [go_sem]) ?_
      refine (rescue_wire w.heap.size (w.heap.size + 1) a0 _ (.int .i64 0) [] _ HHr.out rfl (by simp [World.cell?, HHe.out]) (by simp [World.frozen?, HHe.out]) (by omega) ((HG.out _ HB4.out).g0)).mono ?_
      rintro e u' w'' ⟨rfl, rfl, rfl⟩
      refine ⟨_, results_row _ w.heap.size (w.heap.size + 1) #[.int .i64 0, .int .i64 0, .int .i64 0, .int .i64 0, .int .i64 0] 24 10 _ ((heap_setCell_far (by omega) _ _).trans (setRow_heap _ _ _ _ _ _ HHr.out)) rfl (World.cell?_setCell_same _ _ _ (u := .int .i64 0) ((cell_setRow_other _ _ _ _ (by simp)).trans (by simp [World.cell?, HHe.out]))) rfl rfl, ?_, ?_⟩
      · rw [HD.out]
      · exact below_setCell (below_row (HB4.out) (Nat.le_refl _) _) (by simp) _
    | true =>
      have HD : Hid (decRowV s = .tuple #[.agg #[.int .i64 0, .int .i64 0, .int .i64 0, .int .i64 0, .int .i64 0], .int .i64 30]) := Lib.hid (by simp [decRowV, decRow, h, rowV, V3.zero])
      clear h
      have HW3 : Hid (Below w.heap.size w (((w.alloc (.cells #[.int .i64 0, .int .i64 0, .int .i64 0, .int .i64 0, .int .i64 0] 24)).alloc (.cells #[.int .i64 0] 26)).alloc (.cells #[.string s, .int .i64 0] 63))) := Lib.hid (bt (bt (ba _ _) (ba _ _)) (ba _ _))
      have HRd : Hid (RdAt (((w.alloc (.cells #[.int .i64 0, .int .i64 0, .int .i64 0, .int .i64 0, .int .i64 0] 24)).alloc (.cells #[.int .i64 0] 26)).alloc (.cells #[.string s, .int .i64 0] 63)) (w.heap.size + 1 + 1) s 0) := Lib.hid ⟨by simp [go_sem], by simp [go_sem], by simp [go_sem]⟩
      have HR3 : Hid ((((w.alloc (.cells #[.int .i64 0, .int .i64 0, .int .i64 0, .int .i64 0, .int .i64 0] 24)).alloc (.cells #[.int .i64 0] 26)).alloc (.cells #[.string s, .int .i64 0] 63)).heap[w.heap.size]? = some (.cells #[.int .i64 0, .int .i64 0, .int .i64 0, .int .i64 0, .int .i64 0] 24 (0, 0))) := Lib.hid ((heap_alloc_old _ _ _ (by simp; omega)).trans ((heap_alloc_old _ _ _ (by simp)).trans (heap_alloc_new w _)))
      have HE3 : Hid ((((w.alloc (.cells #[.int .i64 0, .int .i64 0, .int .i64 0, .int .i64 0, .int .i64 0] 24)).alloc (.cells #[.int .i64 0] 26)).alloc (.cells #[.string s, .int .i64 0] 63)).heap[w.heap.size + 1]? = some (.cells #[.int .i64 0] 26 (0, 0))) := Lib.hid ((heap_alloc_old _ _ _ (by simp)).trans (by have := heap_alloc_new (w.alloc (.cells #[.int .i64 0, .int .i64 0, .int .i64 0, .int .i64 0, .int .i64 0] 24)) (.cells #[.int .i64 0] 26); rwa [World.size_alloc] at this))
      have HZ3 : Hid ((((w.alloc (.cells #[.int .i64 0, .int .i64 0, .int .i64 0, .int .i64 0, .int .i64 0] 24)).alloc (.cells #[.int .i64 0] 26)).alloc (.cells #[.string s, .int .i64 0] 63)).heap.size = w.heap.size + 3) := Lib.hid (by simp)
      have hrb : 0 < w.heap.size + 1 + 1 := by omega
      go_enter_defers Tryd.func15, Tryd.ntmps15
      go_wp2_with fail
      (with_reducible refine (Calls.rbad (readRow_any s (w.heap.size + 1 + 1) 0 a0 a1 _ hs (Nat.zero_le _) HRd.out (HG.out _ HW3.out).g0 hrb) H.out).mono ?_)
      rintro e w4 ⟨rfl, hx4⟩
      have hr4 := (hx4.block w.heap.size (by rw [HZ3.out]; omega) (by omega)).trans HR3.out
      have he4 := (hx4.block (w.heap.size + 1) (by rw [HZ3.out]; omega) (by omega)).trans HE3.out
      have HB4 := Lib.hid (HW3.out.trans (hx4.below (n := w.heap.size) (by omega) (by rw [HZ3.out]; omega)))
      have HHr := Lib.hid hr4
      have HHe := Lib.hid he4
      clear hx4 hr4 he4
      go_wp2_with fail
      refine leaves_cons (f := 39) (args := #[.pointer (some ⟨w.heap.size, 0, none⟩), .pointer (some ⟨w.heap.size + 1, 0, none⟩)]) (by simp) (by simp [go_sem]) ?_
      refine (rescue_range w.heap.size (w.heap.size + 1) a0 a1 _ (.int .i64 0) [] _ HHr.out rfl (by simp [World.cell?, HHe.out]) (by simp [World.frozen?, HHe.out]) (by omega) ((HG.out _ HB4.out))).mono ?_
      rintro e u' w'' ⟨rfl, rfl, rfl⟩
      refine ⟨_, results_row _ w.heap.size (w.heap.size + 1) #[.int .i64 0, .int .i64 0, .int .i64 0, .int .i64 0, .int .i64 0] 24 30 _ ((heap_setCell_far (by omega) _ _).trans (setRow_heap _ _ _ _ _ _ HHr.out)) rfl (World.cell?_setCell_same _ _ _ (u := .int .i64 0) ((cell_setRow_other _ _ _ _ (by simp)).trans (by simp [World.cell?, HHe.out]))) rfl rfl, ?_, ?_⟩
      · rw [HD.out]
      · exact below_setCell (below_row (HB4.out) (Nat.le_refl _) _) (by simp) _
  | ok q0 =>
    obtain ⟨⟨t, q, ⟨a, b, c⟩⟩, k⟩ := q0
    have H := Lib.hid h
    by_cases hk : k = s.size
    · subst hk
      by_cases hv : VRow ⟨t, q, ⟨a, b, c⟩⟩
      · have HD : Hid (decRowV s = .tuple #[.agg #[.int .i64 t, .int .i64 q, .int .i64 a, .int .i64 b, .int .i64 c], .int .i64 0]) := Lib.hid (by simp [decRowV, decRow, h, rowV, hv])
        have HV := Lib.hid hv
        clear h hv
        have HW3 : Hid (Below w.heap.size w (((w.alloc (.cells #[.int .i64 0, .int .i64 0, .int .i64 0, .int .i64 0, .int .i64 0] 24)).alloc (.cells #[.int .i64 0] 26)).alloc (.cells #[.string s, .int .i64 0] 63))) := Lib.hid (bt (bt (ba _ _) (ba _ _)) (ba _ _))
        have HRd : Hid (RdAt (((w.alloc (.cells #[.int .i64 0, .int .i64 0, .int .i64 0, .int .i64 0, .int .i64 0] 24)).alloc (.cells #[.int .i64 0] 26)).alloc (.cells #[.string s, .int .i64 0] 63)) (w.heap.size + 1 + 1) s 0) := Lib.hid ⟨by simp [go_sem], by simp [go_sem], by simp [go_sem]⟩
        have HR3 : Hid ((((w.alloc (.cells #[.int .i64 0, .int .i64 0, .int .i64 0, .int .i64 0, .int .i64 0] 24)).alloc (.cells #[.int .i64 0] 26)).alloc (.cells #[.string s, .int .i64 0] 63)).heap[w.heap.size]? = some (.cells #[.int .i64 0, .int .i64 0, .int .i64 0, .int .i64 0, .int .i64 0] 24 (0, 0))) := Lib.hid ((heap_alloc_old _ _ _ (by simp; omega)).trans ((heap_alloc_old _ _ _ (by simp)).trans (heap_alloc_new w _)))
        have HE3 : Hid ((((w.alloc (.cells #[.int .i64 0, .int .i64 0, .int .i64 0, .int .i64 0, .int .i64 0] 24)).alloc (.cells #[.int .i64 0] 26)).alloc (.cells #[.string s, .int .i64 0] 63)).heap[w.heap.size + 1]? = some (.cells #[.int .i64 0] 26 (0, 0))) := Lib.hid ((heap_alloc_old _ _ _ (by simp)).trans (by have := heap_alloc_new (w.alloc (.cells #[.int .i64 0, .int .i64 0, .int .i64 0, .int .i64 0, .int .i64 0] 24)) (.cells #[.int .i64 0] 26); rwa [World.size_alloc] at this))
        have HZ3 : Hid ((((w.alloc (.cells #[.int .i64 0, .int .i64 0, .int .i64 0, .int .i64 0, .int .i64 0] 24)).alloc (.cells #[.int .i64 0] 26)).alloc (.cells #[.string s, .int .i64 0] 63)).heap.size = w.heap.size + 3) := Lib.hid (by simp)
        have hrb : 0 < w.heap.size + 1 + 1 := by omega
        go_enter_defers Tryd.func15, Tryd.ntmps15
        go_wp2_with fail
        (with_reducible refine (Calls.rok (readRow_any s (w.heap.size + 1 + 1) 0 a0 a1 _ hs (Nat.zero_le _) HRd.out (HG.out _ HW3.out).g0 hrb) H.out).mono ?_)
        rintro e w4 ⟨rfl, hrd, hx4⟩
        have hr4 := (hx4.block w.heap.size (by rw [HZ3.out]; omega) (by omega)).trans HR3.out
        have he4 := (hx4.block (w.heap.size + 1) (by rw [HZ3.out]; omega) (by omega)).trans HE3.out
        have hz4 : w.heap.size + 3 ≤ w4.heap.size := by have := hx4.size; rw [HZ3.out] at this; exact this
        have HB4 := Lib.hid (below_row (HW3.out.trans (hx4.below (n := w.heap.size) (by omega) (by rw [HZ3.out]; omega))) (Nat.le_refl _) #[.int .i64 t, .int .i64 q, .int .i64 a, .int .i64 b, .int .i64 c])
        have HHr := Lib.hid hr4
        have HRk : Hid (RdAt (w4.setRow w.heap.size #[.int .i64 t, .int .i64 q, .int .i64 a, .int .i64 b, .int .i64 c]) (w.heap.size + 1 + 1) s s.size) := Lib.hid (hrd.setRow (by omega) _)
        have HHr5 : Hid ((w4.setRow w.heap.size #[.int .i64 t, .int .i64 q, .int .i64 a, .int .i64 b, .int .i64 c]).heap[w.heap.size]? = some (.cells #[.int .i64 t, .int .i64 q, .int .i64 a, .int .i64 b, .int .i64 c] 24 (0, 0))) := Lib.hid (setRow_heap _ _ _ _ _ _ hr4)
        have HHe5 : Hid ((w4.setRow w.heap.size #[.int .i64 t, .int .i64 q, .int .i64 a, .int .i64 b, .int .i64 c]).heap[w.heap.size + 1]? = some (.cells #[.int .i64 0] 26 (0, 0))) := Lib.hid ((setRow_other _ _ _ _ (by omega)).trans he4)
        clear hx4 hr4 he4 hrd
        go_wp2_with (first | (refine wpList_store_row rfl 24 _ _ rfl w.heap.size _ rfl rfl 24 _ HHr.out (by kernel_rfl) rfl (by simp [Value.oneCell']) ?_))
        (with_reducible refine (end_ok s _ _ HRk.out).mono ?_)
        rintro e w5 ⟨rfl, hb5⟩
        have HB5 := Lib.hid (bt HB4.out hb5)
        have HHr6 := Lib.hid ((hb5.block w.heap.size (by simp; omega)).trans HHr5.out)
        have HHe6 := Lib.hid ((hb5.block (w.heap.size + 1) (by simp; omega)).trans HHe5.out)
        have hz5 : w.heap.size + 3 ≤ w5.heap.size := by have := hb5.size; simp at this; omega
        clear hb5
        go_wp2_with (first | (refine wpList_load_row rfl 24 _ rfl w.heap.size rfl 24 _ _ _ HHr6.out Tryd.underlying24 rfl (by kernel_rfl) ?_))
        (with_reducible refine (valid_t ⟨t, q, ⟨a, b, c⟩⟩ _ HV.out).mono ?_)
        rintro e w6 ⟨rfl, hb6⟩
        have HB6 := Lib.hid (bt HB5.out hb6)
        have HHr7 := Lib.hid ((hb6.block w.heap.size (by omega)).trans HHr6.out)
        have HHe7 := Lib.hid ((hb6.block (w.heap.size + 1) (by omega)).trans HHe6.out)
        have he0 : (w6.setRow w.heap.size #[.int .i64 t, .int .i64 q, .int .i64 a, .int .i64 b, .int .i64 c]).cell? ⟨w.heap.size + 1, 0, none⟩ = some (.int .i64 0) := (cell_setRow_other _ _ _ _ (by simp)).trans (by simp [World.cell?, HHe7.out])
        have hf0 : (w6.setRow w.heap.size #[.int .i64 t, .int .i64 q, .int .i64 a, .int .i64 b, .int .i64 c]).frozen? ⟨w.heap.size + 1, 0, none⟩ = false := by simp [World.frozen?, setRow_other w6 w.heap.size (w.heap.size + 1) #[.int .i64 t, .int .i64 q, .int .i64 a, .int .i64 b, .int .i64 c] (by omega), HHe7.out]
        clear hb6
        go_wp2_with (first | (refine wpList_load_row rfl 24 _ rfl w.heap.size rfl 24 _ _ _ HHr7.out Tryd.underlying24 rfl (by kernel_rfl) ?_) | (refine wpList_store_row rfl 24 _ _ rfl w.heap.size _ rfl rfl 24 _ HHr7.out (by kernel_rfl) rfl (by simp [Value.oneCell']) ?_))
        refine leaves_cons (f := 39) (args := #[.pointer (some ⟨w.heap.size, 0, none⟩), .pointer (some ⟨w.heap.size + 1, 0, none⟩)]) (by simp) (by simp [go_sem]) ?_
        refine (rescue_idle w.heap.size (w.heap.size + 1) _).mono ?_
        rintro e u' w'' ⟨rfl, rfl, rfl⟩
        refine ⟨_, results_row _ w.heap.size (w.heap.size + 1) #[.int .i64 t, .int .i64 q, .int .i64 a, .int .i64 b, .int .i64 c] 24 0 _ ((heap_setCell_far (by omega) _ _).trans (setRow_heap _ _ _ _ _ _ HHr7.out)) rfl (World.cell?_setCell_same _ _ _ (u := .int .i64 0) he0) rfl rfl, ?_, ?_⟩
        · rw [HD.out]
        · exact below_setCell (below_row HB6.out (Nat.le_refl _) _) (by simp) _
      · have HD : Hid (decRowV s = .tuple #[.agg #[.int .i64 0, .int .i64 0, .int .i64 0, .int .i64 0, .int .i64 0], .int .i64 30]) := Lib.hid (by simp [decRowV, decRow, h, rowV, V3.zero, hv])
        have HV := Lib.hid hv
        clear h hv
        have HW3 : Hid (Below w.heap.size w (((w.alloc (.cells #[.int .i64 0, .int .i64 0, .int .i64 0, .int .i64 0, .int .i64 0] 24)).alloc (.cells #[.int .i64 0] 26)).alloc (.cells #[.string s, .int .i64 0] 63))) := Lib.hid (bt (bt (ba _ _) (ba _ _)) (ba _ _))
        have HRd : Hid (RdAt (((w.alloc (.cells #[.int .i64 0, .int .i64 0, .int .i64 0, .int .i64 0, .int .i64 0] 24)).alloc (.cells #[.int .i64 0] 26)).alloc (.cells #[.string s, .int .i64 0] 63)) (w.heap.size + 1 + 1) s 0) := Lib.hid ⟨by simp [go_sem], by simp [go_sem], by simp [go_sem]⟩
        have HR3 : Hid ((((w.alloc (.cells #[.int .i64 0, .int .i64 0, .int .i64 0, .int .i64 0, .int .i64 0] 24)).alloc (.cells #[.int .i64 0] 26)).alloc (.cells #[.string s, .int .i64 0] 63)).heap[w.heap.size]? = some (.cells #[.int .i64 0, .int .i64 0, .int .i64 0, .int .i64 0, .int .i64 0] 24 (0, 0))) := Lib.hid ((heap_alloc_old _ _ _ (by simp; omega)).trans ((heap_alloc_old _ _ _ (by simp)).trans (heap_alloc_new w _)))
        have HE3 : Hid ((((w.alloc (.cells #[.int .i64 0, .int .i64 0, .int .i64 0, .int .i64 0, .int .i64 0] 24)).alloc (.cells #[.int .i64 0] 26)).alloc (.cells #[.string s, .int .i64 0] 63)).heap[w.heap.size + 1]? = some (.cells #[.int .i64 0] 26 (0, 0))) := Lib.hid ((heap_alloc_old _ _ _ (by simp)).trans (by have := heap_alloc_new (w.alloc (.cells #[.int .i64 0, .int .i64 0, .int .i64 0, .int .i64 0, .int .i64 0] 24)) (.cells #[.int .i64 0] 26); rwa [World.size_alloc] at this))
        have HZ3 : Hid ((((w.alloc (.cells #[.int .i64 0, .int .i64 0, .int .i64 0, .int .i64 0, .int .i64 0] 24)).alloc (.cells #[.int .i64 0] 26)).alloc (.cells #[.string s, .int .i64 0] 63)).heap.size = w.heap.size + 3) := Lib.hid (by simp)
        have hrb : 0 < w.heap.size + 1 + 1 := by omega
        go_enter_defers Tryd.func15, Tryd.ntmps15
        go_wp2_with fail
        (with_reducible refine (Calls.rok (readRow_any s (w.heap.size + 1 + 1) 0 a0 a1 _ hs (Nat.zero_le _) HRd.out (HG.out _ HW3.out).g0 hrb) H.out).mono ?_)
        rintro e w4 ⟨rfl, hrd, hx4⟩
        have hr4 := (hx4.block w.heap.size (by rw [HZ3.out]; omega) (by omega)).trans HR3.out
        have he4 := (hx4.block (w.heap.size + 1) (by rw [HZ3.out]; omega) (by omega)).trans HE3.out
        have hz4 : w.heap.size + 3 ≤ w4.heap.size := by have := hx4.size; rw [HZ3.out] at this; exact this
        have HB4 := Lib.hid (below_row (HW3.out.trans (hx4.below (n := w.heap.size) (by omega) (by rw [HZ3.out]; omega))) (Nat.le_refl _) #[.int .i64 t, .int .i64 q, .int .i64 a, .int .i64 b, .int .i64 c])
        have HHr := Lib.hid hr4
        have HRk : Hid (RdAt (w4.setRow w.heap.size #[.int .i64 t, .int .i64 q, .int .i64 a, .int .i64 b, .int .i64 c]) (w.heap.size + 1 + 1) s s.size) := Lib.hid (hrd.setRow (by omega) _)
        have HHr5 : Hid ((w4.setRow w.heap.size #[.int .i64 t, .int .i64 q, .int .i64 a, .int .i64 b, .int .i64 c]).heap[w.heap.size]? = some (.cells #[.int .i64 t, .int .i64 q, .int .i64 a, .int .i64 b, .int .i64 c] 24 (0, 0))) := Lib.hid (setRow_heap _ _ _ _ _ _ hr4)
        have HHe5 : Hid ((w4.setRow w.heap.size #[.int .i64 t, .int .i64 q, .int .i64 a, .int .i64 b, .int .i64 c]).heap[w.heap.size + 1]? = some (.cells #[.int .i64 0] 26 (0, 0))) := Lib.hid ((setRow_other _ _ _ _ (by omega)).trans he4)
        clear hx4 hr4 he4 hrd
        go_wp2_with (first | (refine wpList_store_row rfl 24 _ _ rfl w.heap.size _ rfl rfl 24 _ HHr.out (by kernel_rfl) rfl (by simp [Value.oneCell']) ?_))
        (with_reducible refine (end_ok s _ _ HRk.out).mono ?_)
        rintro e w5 ⟨rfl, hb5⟩
        have HB5 := Lib.hid (bt HB4.out hb5)
        have HHr6 := Lib.hid ((hb5.block w.heap.size (by simp; omega)).trans HHr5.out)
        have HHe6 := Lib.hid ((hb5.block (w.heap.size + 1) (by simp; omega)).trans HHe5.out)
        have hz5 : w.heap.size + 3 ≤ w5.heap.size := by have := hb5.size; simp at this; omega
        clear hb5
        go_wp2_with (first | (refine wpList_load_row rfl 24 _ rfl w.heap.size rfl 24 _ _ _ HHr6.out Tryd.underlying24 rfl (by kernel_rfl) ?_))
        (with_reducible refine (valid_f ⟨t, q, ⟨a, b, c⟩⟩ _ HV.out).mono ?_)
        rintro e w6 ⟨rfl, hb6⟩
        have HB6 := Lib.hid (bt HB5.out hb6)
        have HHr7 := Lib.hid ((hb6.block w.heap.size (by omega)).trans HHr6.out)
        have HHe7 := Lib.hid ((hb6.block (w.heap.size + 1) (by omega)).trans HHe6.out)
        have he0 : (w6.setRow w.heap.size #[.int .i64 0, .int .i64 0, .int .i64 0, .int .i64 0, .int .i64 0]).cell? ⟨w.heap.size + 1, 0, none⟩ = some (.int .i64 0) := (cell_setRow_other _ _ _ _ (by simp)).trans (by simp [World.cell?, HHe7.out])
        have hf0 : (w6.setRow w.heap.size #[.int .i64 0, .int .i64 0, .int .i64 0, .int .i64 0, .int .i64 0]).frozen? ⟨w.heap.size + 1, 0, none⟩ = false := by simp [World.frozen?, setRow_other w6 w.heap.size (w.heap.size + 1) #[.int .i64 0, .int .i64 0, .int .i64 0, .int .i64 0, .int .i64 0] (by omega), HHe7.out]
        clear hb6
        go_wp2_with (first | (refine wpList_load_row rfl 24 _ rfl w.heap.size rfl 24 _ _ _ HHr7.out Tryd.underlying24 rfl (by kernel_rfl) ?_) | (refine wpList_store_row rfl 24 _ _ rfl w.heap.size _ rfl rfl 24 _ HHr7.out (by kernel_rfl) rfl (by simp [Value.oneCell']) ?_))
        refine leaves_cons (f := 39) (args := #[.pointer (some ⟨w.heap.size, 0, none⟩), .pointer (some ⟨w.heap.size + 1, 0, none⟩)]) (by simp) (by simp [go_sem]) ?_
        refine (rescue_idle w.heap.size (w.heap.size + 1) _).mono ?_
        rintro e u' w'' ⟨rfl, rfl, rfl⟩
        refine ⟨_, results_row _ w.heap.size (w.heap.size + 1) #[.int .i64 0, .int .i64 0, .int .i64 0, .int .i64 0, .int .i64 0] 24 30 _ ((heap_setCell_far (by omega) _ _).trans (setRow_heap _ _ _ _ _ _ HHr7.out)) rfl (World.cell?_setCell_same _ _ _ (u := .int .i64 0) he0) rfl rfl, ?_, ?_⟩
        · rw [HD.out]
        · exact below_setCell (below_row HB6.out (Nat.le_refl _) _) (by simp) _
    · have HD : Hid (decRowV s = .tuple #[.agg #[.int .i64 0, .int .i64 0, .int .i64 0, .int .i64 0, .int .i64 0], .int .i64 10]) := Lib.hid (by simp [decRowV, decRow, h, rowV, V3.zero, hk])
      have HK := Lib.hid hk
      clear h hk
      have HW3 : Hid (Below w.heap.size w (((w.alloc (.cells #[.int .i64 0, .int .i64 0, .int .i64 0, .int .i64 0, .int .i64 0] 24)).alloc (.cells #[.int .i64 0] 26)).alloc (.cells #[.string s, .int .i64 0] 63))) := Lib.hid (bt (bt (ba _ _) (ba _ _)) (ba _ _))
      have HRd : Hid (RdAt (((w.alloc (.cells #[.int .i64 0, .int .i64 0, .int .i64 0, .int .i64 0, .int .i64 0] 24)).alloc (.cells #[.int .i64 0] 26)).alloc (.cells #[.string s, .int .i64 0] 63)) (w.heap.size + 1 + 1) s 0) := Lib.hid ⟨by simp [go_sem], by simp [go_sem], by simp [go_sem]⟩
      have HR3 : Hid ((((w.alloc (.cells #[.int .i64 0, .int .i64 0, .int .i64 0, .int .i64 0, .int .i64 0] 24)).alloc (.cells #[.int .i64 0] 26)).alloc (.cells #[.string s, .int .i64 0] 63)).heap[w.heap.size]? = some (.cells #[.int .i64 0, .int .i64 0, .int .i64 0, .int .i64 0, .int .i64 0] 24 (0, 0))) := Lib.hid ((heap_alloc_old _ _ _ (by simp; omega)).trans ((heap_alloc_old _ _ _ (by simp)).trans (heap_alloc_new w _)))
      have HE3 : Hid ((((w.alloc (.cells #[.int .i64 0, .int .i64 0, .int .i64 0, .int .i64 0, .int .i64 0] 24)).alloc (.cells #[.int .i64 0] 26)).alloc (.cells #[.string s, .int .i64 0] 63)).heap[w.heap.size + 1]? = some (.cells #[.int .i64 0] 26 (0, 0))) := Lib.hid ((heap_alloc_old _ _ _ (by simp)).trans (by have := heap_alloc_new (w.alloc (.cells #[.int .i64 0, .int .i64 0, .int .i64 0, .int .i64 0, .int .i64 0] 24)) (.cells #[.int .i64 0] 26); rwa [World.size_alloc] at this))
      have HZ3 : Hid ((((w.alloc (.cells #[.int .i64 0, .int .i64 0, .int .i64 0, .int .i64 0, .int .i64 0] 24)).alloc (.cells #[.int .i64 0] 26)).alloc (.cells #[.string s, .int .i64 0] 63)).heap.size = w.heap.size + 3) := Lib.hid (by simp)
      have hrb : 0 < w.heap.size + 1 + 1 := by omega
      go_enter_defers Tryd.func15, Tryd.ntmps15
      go_wp2_with fail
      (with_reducible refine (Calls.rok (readRow_any s (w.heap.size + 1 + 1) 0 a0 a1 _ hs (Nat.zero_le _) HRd.out (HG.out _ HW3.out).g0 hrb) H.out).mono ?_)
      rintro e w4 ⟨rfl, hrd, hx4⟩
      have hr4 := (hx4.block w.heap.size (by rw [HZ3.out]; omega) (by omega)).trans HR3.out
      have he4 := (hx4.block (w.heap.size + 1) (by rw [HZ3.out]; omega) (by omega)).trans HE3.out
      have hz4 : w.heap.size + 3 ≤ w4.heap.size := by have := hx4.size; rw [HZ3.out] at this; exact this
      have HB4 := Lib.hid (below_row (HW3.out.trans (hx4.below (n := w.heap.size) (by omega) (by rw [HZ3.out]; omega))) (Nat.le_refl _) #[.int .i64 t, .int .i64 q, .int .i64 a, .int .i64 b, .int .i64 c])
      have HHr := Lib.hid hr4
      have HRk : Hid (RdAt (w4.setRow w.heap.size #[.int .i64 t, .int .i64 q, .int .i64 a, .int .i64 b, .int .i64 c]) (w.heap.size + 1 + 1) s k) := Lib.hid (hrd.setRow (by omega) _)
      have HHr5 : Hid ((w4.setRow w.heap.size #[.int .i64 t, .int .i64 q, .int .i64 a, .int .i64 b, .int .i64 c]).heap[w.heap.size]? = some (.cells #[.int .i64 t, .int .i64 q, .int .i64 a, .int .i64 b, .int .i64 c] 24 (0, 0))) := Lib.hid (setRow_heap _ _ _ _ _ _ hr4)
      have HHe5 : Hid ((w4.setRow w.heap.size #[.int .i64 t, .int .i64 q, .int .i64 a, .int .i64 b, .int .i64 c]).heap[w.heap.size + 1]? = some (.cells #[.int .i64 0] 26 (0, 0))) := Lib.hid ((setRow_other _ _ _ _ (by omega)).trans he4)
      clear hx4 hr4 he4 hrd
      go_wp2_with (first | (refine wpList_store_row rfl 24 _ _ rfl w.heap.size _ rfl rfl 24 _ HHr.out (by kernel_rfl) rfl (by simp [Value.oneCell']) ?_))
      (with_reducible refine (end_no s _ k a0 _ HRk.out HK.out (HG.out _ HB4.out).g0).mono ?_)
      rintro e w5 ⟨rfl, hb5⟩
      have HB5 := Lib.hid (bt HB4.out hb5)
      have HHr6 := Lib.hid ((hb5.block w.heap.size (by simp; omega)).trans HHr5.out)
      have HHe6 := Lib.hid ((hb5.block (w.heap.size + 1) (by simp; omega)).trans HHe5.out)
      clear hb5
      go_wp2_with fail
      refine leaves_cons (f := 39) (args := #[.pointer (some ⟨w.heap.size, 0, none⟩), .pointer (some ⟨w.heap.size + 1, 0, none⟩)]) (by simp) (by simp [go_sem]) ?_
      refine (rescue_wire w.heap.size (w.heap.size + 1) a0 _ (.int .i64 0) [] _ HHr6.out rfl (by simp [World.cell?, HHe6.out]) (by simp [World.frozen?, HHe6.out]) (by omega) ((HG.out _ HB5.out).g0)).mono ?_
      rintro e u' w'' ⟨rfl, rfl, rfl⟩
      refine ⟨_, results_row _ w.heap.size (w.heap.size + 1) #[.int .i64 0, .int .i64 0, .int .i64 0, .int .i64 0, .int .i64 0] 24 10 _ ((heap_setCell_far (by omega) _ _).trans (setRow_heap _ _ _ _ _ _ HHr6.out)) rfl (World.cell?_setCell_same _ _ _ (u := .int .i64 0) ((cell_setRow_other _ _ _ _ (by simp)).trans (by simp [World.cell?, HHe6.out]))) rfl rfl, ?_, ?_⟩
      · rw [HD.out]
      · exact below_setCell (below_row (HB5.out) (Nat.le_refl _) _) (by simp) _
end Go.Proofs.YtgkdliocfnoffaaDoor
